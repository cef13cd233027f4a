import Derived.Test.YthkbeaffkcfgiabGreatDoorV11
set_option linter.unusedSimpArgs false
set_option linter.unusedVariables false
namespace Go.Proofs.YthkbeaffkcfgiabGreatDoor
open Go.RowKit

/-- Entities, in their cells. -/
def eCells (l : List (Int × Int)) : List Value := l.flatMap fun z => hNews z.1 z.2

theorem eCells_append (a b : List (Int × Int)) : eCells (a ++ b) = eCells a ++ eCells b := by simp [eCells]
theorem eCells_length (l : List (Int × Int)) : (eCells l).length = l.length * 2 := by
  induction l with
  | nil => rfl
  | cons a r ih => rw [show eCells (a :: r) = hNews a.1 a.2 ++ eCells r from rfl, List.length_append, ih]; simp [hNews]; omega
theorem eCells_get (l : List (Int × Int)) : ∀ j (h : j < l.length), (eCells l)[j * 2]? = some (.int .i64 l[j].1) ∧ (eCells l)[j * 2 + 1]? = some (.int .i64 l[j].2) := by
  induction l with
  | nil => intro j h; simp at h
  | cons a r ih =>
    intro j h
    cases j with
    | zero => exact ⟨rfl, rfl⟩
    | succ j =>
      obtain ⟨h1, h2⟩ := ih j (by simpa using h)
      rw [show eCells (a :: r) = .int .i64 a.1 :: .int .i64 a.2 :: eCells r from rfl, show (j + 1) * 2 = j * 2 + 2 by omega]
      exact ⟨h1, h2⟩
theorem eCells_one (l : List (Int × Int)) : ∀ u ∈ eCells l, u.oneCell' = true := by
  intro u hu
  simp only [eCells, List.mem_flatMap] at hu
  obtain ⟨z, _, hz⟩ := hu
  exact hNews_one _ _ u hz
theorem eCells_take (l : List (Int × Int)) (j : Nat) (h : j ≤ l.length) : (eCells l).take (j * 2) = eCells (l.take j) := by
  have e : eCells l = eCells (l.take j) ++ eCells (l.drop j) := by rw [← eCells_append, List.take_append_drop]
  rw [e]
  have : (eCells (l.take j)).length = j * 2 := by rw [eCells_length, List.length_take]; omega
  rw [← this]; exact List.take_left
theorem eCells_drop (l : List (Int × Int)) (j : Nat) (h : j ≤ l.length) : (eCells l).drop (j * 2) = eCells (l.drop j) := by
  have e : eCells l = eCells (l.take j) ++ eCells (l.drop j) := by rw [← eCells_append, List.take_append_drop]
  rw [e]
  have : (eCells (l.take j)).length = j * 2 := by rw [eCells_length, List.length_take]; omega
  rw [← this]; exact List.drop_left
theorem eCells_setIn (l : List (Int × Int)) (j : Nat) (h : j ≤ l.length) (p x : Int) : setIn (eCells l) (j * 2) (hNews p x) = eCells (setIn l j [(p, x)]) := by
  unfold setIn
  rw [eCells_take _ _ h, eCells_drop _ _ h, eCells_append, eCells_append]
  simp [eCells]
theorem eCells_cutOut (l : List (Int × Int)) (j : Nat) (h : j < l.length) : cutOut (eCells l) (j * 2) 2 = eCells (cutOut l j 1) := by
  unfold cutOut
  rw [eCells_take _ _ (by omega), show j * 2 + 2 = (j + 1) * 2 by omega, eCells_drop _ _ (by omega), eCells_append]

theorem own_ents {w : World} {base : Nat} {v : Value} {ents : List (Int × Int)} (h : w.ownsRow base 46 2 v ents.length (eCells ents)) : EntsAt w v ents := by
  rcases h.2 with ⟨rfl, hn⟩ | ⟨g, cap, cur, rfl, hbg, hg, hnc, hcm, hcs, htake⟩
  · exact Or.inl ⟨rfl, List.length_eq_zero_iff.1 hn⟩
  · refine Or.inr ⟨g, cap, rfl, hnc, hcm, (Array.getElem?_eq_some_iff.1 hg).1, fun j hj => ?_⟩
    obtain ⟨e1, e2⟩ := eCells_get ents j hj
    rw [← htake, List.getElem?_take] at e1 e2
    rw [cell_row hg, cell_row hg]
    constructor
    · split at e1
      · simpa using e1
      · cases e1
    · split at e2
      · simpa using e2
      · cases e2

theorem EntsAt.below {w w' : World} {v : Value} {ents : List (Int × Int)} (h : EntsAt w v ents) (hb : Below w.heap.size w w') : EntsAt w' v ents := by
  rcases h with h | ⟨g, cap, h1, h2, h3, h4, h5⟩
  · exact Or.inl h
  · exact Or.inr ⟨g, cap, h1, h2, h3, Nat.lt_of_lt_of_le h4 hb.size, fun j hj => ⟨(hb.cell (p := ⟨g, _, none⟩) h4).trans (h5 j hj).1, (hb.cell (p := ⟨g, _, none⟩) h4).trans (h5 j hj).2⟩⟩

set_option maxHeartbeats 1600000 in
theorem row_any (tb : Nat) (s : Value) (ents : List (Int × Int)) (p l : Int) (w : World) (hc : w.cell? ⟨tb, 0, none⟩ = some s) (hs : EntsAt w s ents) (hl : ents.length ≤ 100) (hsort : ents.Pairwise fun a b => a.1 < b.1) :
    Calls Tryz.prog 130 #[.pointer (some ⟨tb, 0, none⟩), .agg #[.int .i64 p, .int .i64 l]] w fun e w' => e = .returned (.int .i64 (ahead ents p)) ∧ Below w.heap.size w w' := by
  have htb : tb < w.heap.size := World.block_lt_of_cell? w ⟨tb, 0, none⟩ hc
  have hB : Hid (Below w.heap.size w (w.alloc (.cells #[.int .i64 p, .int .i64 l] 46))) := (Below.refl _ _).alloc (Nat.le_refl _) _
  have HS : Hid (EntsAt (w.alloc (.cells #[.int .i64 p, .int .i64 l] 46)) s ents) := hs.below hB.out
  have HO : Hid (ents.Pairwise fun a b => a.1 < b.1) := hsort
  have KS : Hid (∀ w' : World, Below (w.heap.size + 1) (w.alloc (.cells #[.int .i64 p, .int .i64 l] 46)) w' → w'.cell? ⟨tb, 0, none⟩ = some s ∧ w'.cell? ⟨w.heap.size, 0, none⟩ = some (.int .i64 p) ∧ w'.cell? ⟨w.heap.size, 1, none⟩ = some (.int .i64 l)) := fun w' hb =>
    ⟨(hb.cell (p := ⟨tb, 0, none⟩) (by simp; omega)).trans ((hB.out.cell (p := ⟨tb, 0, none⟩) htb).trans hc), (hb.cell (p := ⟨w.heap.size, 0, none⟩) (by simp)).trans (by simp), (hb.cell (p := ⟨w.heap.size, 1, none⟩) (by simp)).trans (by simp)⟩
  clear hs hsort
  go_enter Tryz.func130, Tryz.ntmps130
  go_wp2_with fail
  go_region_held3 (fun w' => w'.cell? ⟨tb, 0, none⟩ = some s ∧ w'.cell? ⟨w.heap.size, 0, none⟩ = some (.int .i64 p) ∧ w'.cell? ⟨w.heap.size, 1, none⟩ = some (.int .i64 l)) ((refine KS.out _ ?_; first | exact (Below.refl _ _).drew | exact HB1.out)) ((go_at_call 199; refine (search_any s ents p l _ (HS.out.below (Below.refl _ _).drew) hl HO.out).mono ?_; rintro e w1 ⟨⟨bb, rfl⟩, hb1⟩; have HB1 : Hid (Below (w.heap.size + 1) (w.alloc (.cells #[.int .i64 p, .int .i64 l] 46)) w1) := ⟨hb1.os, hb1.tape, hb1.output, hb1.size, fun k hk => hb1.block k (by simpa using hk)⟩; clear hb1))
  all_goals go_wp2_with fail
  all_goals go_ret
  all_goals exact ⟨rfl, hB.out.trans (HB1.out.mono (by omega))⟩

theorem index147 (cs : Array Value) (k : Nat) (hk : k < 6) (v : Value) (hv : cs[k]? = some v) (w : World) : (Instr.index 202 (.agg cs) (.int .i64 k)).run Tryz.prog w = .ok v w := by
  simp [Instr.index, asIntOf, run_underlying Tryz.underlying202, part, hv]
  intro h; omega

theorem index147_none (k : Nat) (hk : k < 6) (w : World) : (Instr.index 202 (.agg #[.slice none 0 0, .slice none 0 0, .slice none 0 0, .slice none 0 0, .slice none 0 0, .slice none 0 0]) (.int .i64 k)).run Tryz.prog w = .ok (.slice none 0 0) w := by
  refine index147 _ k hk _ ?_ w
  have h : k = 0 ∨ k = 1 ∨ k = 2 ∨ k = 3 ∨ k = 4 ∨ k = 5 := by omega
  rcases h with rfl | rfl | rfl | rfl | rfl | rfl <;> rfl

set_option maxHeartbeats 4000000 in
set_option maxRecDepth 100000 in
theorem each_none (tb : Nat) (f : Value) (w : World) (hc : ∀ k, k < 6 → w.cell? ⟨tb, 1 + k, none⟩ = some (.slice none 0 0)) :
    Calls Tryz.prog 124 #[.pointer (some ⟨tb, 0, none⟩), f] w fun e w' => e = .returned (.tuple #[]) ∧ Below w.heap.size w w' := by
  have c1 := hc 0 (by omega); have c2 := hc 1 (by omega); have c3 := hc 2 (by omega); have c4 := hc 3 (by omega); have c5 := hc 4 (by omega); have c6 := hc 5 (by omega)
  clear hc
  go_enter Tryz.func124, Tryz.ntmps124
  go_wp2
  go_loopw [12] (fun t wr => ∃ k : Nat, k ≤ 6 ∧ t = .int .i64 k ∧ wr = w) (fun t _ => 6 - (intOf t).toNat)
  case atStart => exact ⟨0, by omega, rfl, rfl⟩
  case round =>
    obtain ⟨k, hk, rfl, rfl⟩ := hrel
    by_cases hlt : k < 6
    · have hid := index147_none k hlt
      go_wp2
      refine wp_loop_rounds 1 ?_
      rw [rounds_succ]
      go_wp2
      go_roundw
      case rel => exact ⟨k + 1, by omega, by go_num, trivial⟩
      case measure => simp [intOf]; omega
    · go_wp2
      go_end0
      exact ⟨rfl, Below.refl _ _⟩

end Go.Proofs.YthkbeaffkcfgiabGreatDoor

namespace Go.Proofs.YthkbeaffkcfgiabGreatDoor
open Go.RowKit

theorem own_turn {W W' : World} {base : Nat} {e : TypeId} {size : Nat} {v : Value} {n : Nat} {xs : List Value} (h : W.ownsRow base e size v n xs) (hb : ∀ k, v.ownBlock = some k → k < W.heap.size → W'.heap[k]? = W.heap[k]?) : W'.ownsRow base e size v n xs := by
  have hlt := h.lt
  obtain ⟨h1, h2⟩ := h
  refine ⟨h1, ?_⟩
  rcases h2 with h2 | ⟨g, cap, cur, hv, hg, hh, r⟩
  · exact Or.inl h2
  · exact Or.inr ⟨g, cap, cur, hv, hg, by rw [hb g (by rw [hv]; rfl) (hlt g (by rw [hv]; rfl)).2]; exact hh, r⟩

/-- Only blocks of F, and new ones, have turned. -/
structure Turns (w w' : World) (F : Nat → Prop) : Prop where
  os : w'.os = w.os
  tape : w'.tape = w.tape
  output : w'.output = w.output
  size : w.heap.size ≤ w'.heap.size
  block : ∀ k, k < w.heap.size → ¬ F k → w'.heap[k]? = w.heap[k]?

/-- Blocks of F, and those that have come since. -/
def grow (F : Nat → Prop) (W W' : World) : Nat → Prop := fun k => F k ∨ (W.heap.size ≤ k ∧ k < W'.heap.size)

theorem Turns.ofBelow {w w' : World} (F : Nat → Prop) (h : Below w.heap.size w w') : Turns w w' F := ⟨h.os, h.tape, h.output, h.size, fun k hk _ => h.block k hk⟩
theorem Turns.ofGrown {w w' : World} {F : Nat → Prop} {row : Option Nat} (h : w.grownBy w' row) (hr : ∀ k, row = some k → k < w.heap.size → F k) : Turns w w' F :=
  ⟨h.os, h.tape, h.output, h.size, fun k hk hn => h.block k hk (fun e => hn (hr k e.symm hk))⟩
theorem Turns.trans {w w1 w2 : World} {F : Nat → Prop} (h : Turns w w1 F) (k : Turns w1 w2 (grow F w w1)) : Turns w w2 F :=
  ⟨k.os.trans h.os, k.tape.trans h.tape, k.output.trans h.output, Nat.le_trans h.size k.size, fun i hi hn => (k.block i (Nat.lt_of_lt_of_le hi h.size) (fun hg => by
    rcases hg with hg | hg
    · exact hn hg
    · omega)).trans (h.block i hi hn)⟩
theorem Turns.trans' {w w1 w2 : World} {F : Nat → Prop} (h : Turns w w1 F) (k : Turns w1 w2 F) : Turns w w2 F :=
  ⟨k.os.trans h.os, k.tape.trans h.tape, k.output.trans h.output, Nat.le_trans h.size k.size, fun i hi hn => (k.block i (Nat.lt_of_lt_of_le hi h.size) hn).trans (h.block i hi hn)⟩
theorem Turns.drew {w w' : World} {F : Nat → Prop} (h : Turns w w' F) : Turns w w'.drew F := ⟨h.os, h.tape, h.output, h.size, h.block⟩
theorem Turns.alloc {w w' : World} {F : Nat → Prop} (h : Turns w w' F) (o : Obj) : Turns w (w'.alloc o) F :=
  ⟨h.os, h.tape, h.output, by simp; have := h.size; omega, fun k hk hn => (Below.heap_alloc w' o k (Nat.lt_of_lt_of_le hk h.size)).trans (h.block k hk hn)⟩
theorem Turns.set {w w' : World} {F : Nat → Prop} (h : Turns w w' F) (b o : Nat) (u : Value) (hb : b < w.heap.size → F b) : Turns w (w'.setCell ⟨b, o, none⟩ u) F :=
  ⟨h.os, h.tape, h.output, by simpa [World.setCell] using h.size, fun k hk hn => (Below.heap_setCell _ _ _ _ (fun e => hn (by have e' : k = b := e; subst e'; exact hb hk))).trans (h.block k hk hn)⟩

/-- The table at block tb, without columns: who stands in it. -/
structure TabAt (W : World) (F : Nat → Prop) (tb : Nat) (ents : List (Int × Int)) : Prop where
  imm : F tb
  blk : ∃ v, W.heap[tb]? = some (.cells #[v, .slice none 0 0, .slice none 0 0, .slice none 0 0, .slice none 0 0, .slice none 0 0, .slice none 0 0] 204 (0, 0)) ∧ W.ownsRow 0 46 2 v ents.length (eCells ents) ∧ ∀ k, v.ownBlock = some k → F k ∧ k ≠ tb

theorem TabAt.lt {W : World} {F : Nat → Prop} {tb : Nat} {ents : List (Int × Int)} (h : TabAt W F tb ents) : tb < W.heap.size := by
  obtain ⟨_, v, hb, _⟩ := h
  exact (Array.getElem?_eq_some_iff.1 hb).1

theorem TabAt.turn {W W' : World} {F F' : Nat → Prop} {tb : Nat} {ents : List (Int × Int)} (h : TabAt W F tb ents) (hb : ∀ k, F k → k < W.heap.size → W'.heap[k]? = W.heap[k]? ∧ F' k) : TabAt W' F' tb ents := by
  have hl := h.lt
  obtain ⟨h1, v, h2, h3, h4⟩ := h
  exact ⟨(hb tb h1 hl).2, v, (hb tb h1 hl).1.trans h2, own_turn h3 fun k hk hkl => (hb k (h4 k hk).1 hkl).1, fun k hk => ⟨(hb k (h4 k hk).1 (h3.lt k hk).2).2, (h4 k hk).2⟩⟩

theorem TabAt.below {W W' : World} {F : Nat → Prop} {tb : Nat} {ents : List (Int × Int)} (h : TabAt W F tb ents) (hb : Below W.heap.size W W') : TabAt W' F tb ents :=
  h.turn fun k hk hl => ⟨hb.block k hl, hk⟩

theorem own_form {w : World} {base : Nat} {e : TypeId} {size : Nat} {v : Value} {n : Nat} {xs : List Value} (h : w.ownsRow base e size v n xs) : ∃ a c, v = .slice a n c := by
  rcases h.2 with ⟨h1, h2⟩ | ⟨g, cap, cur, h1, _⟩
  · exact ⟨none, 0, by rw [h1, h2]⟩
  · exact ⟨_, _, h1⟩

theorem heap_alloc_at {w : World} {k : Nat} (h : k = w.heap.size) (o : Obj) : (w.alloc o).heap[k]? = some o := by rw [h]; exact _root_.Go.heap_alloc_new w o

set_option maxHeartbeats 4000000 in
theorem enter_tab {F : Nat → Prop} (tb : Nat) (ents : List (Int × Int)) (p l : Int) (w : World) (hT : TabAt w F tb ents) (hl : ents.length ≤ 100) (hsort : ents.Pairwise fun a b => a.1 < b.1) :
    Calls Tryz.prog 190 #[.pointer (some ⟨tb, 0, none⟩), .agg #[.int .i64 p, .int .i64 l]] w fun e w' => e = .returned (.tuple #[]) ∧ Turns w w' F ∧ TabAt w' (grow F w w') tb (setIn ents (ahead ents p) [(p, l)]) := by
  have HT : Hid (TabAt w F tb ents) := hT
  have HO : Hid (ents.Pairwise fun a b => a.1 < b.1) := hsort
  have hlt := hT.lt
  obtain ⟨_, v, hb0, hown, hvb⟩ := hT
  have HO0 : Hid (w.ownsRow 0 46 2 v ents.length (eCells ents)) := hown
  have HV : Hid (∀ k, v.ownBlock = some k → F k ∧ k ≠ tb) := hvb
  have HB0 : Hid (w.heap[tb]? = some (.cells #[v, .slice none 0 0, .slice none 0 0, .slice none 0 0, .slice none 0 0, .slice none 0 0, .slice none 0 0] 204 (0, 0))) := hb0
  obtain ⟨r, hr⟩ : ∃ r, r = ahead ents p := ⟨_, rfl⟩
  have hrl : r ≤ ents.length := by rw [hr]; exact ahead_le ents p
  have HR : Hid (ahead ents p = r) := hr.symm
  obtain ⟨n, hn⟩ : ∃ n, n = ents.length := ⟨_, rfl⟩
  have HN : Hid (n = ents.length) := hn
  clear hsort hown hvb hb0 hr hn
  go_enter Tryz.func190, Tryz.ntmps190
  go_wp2_with fail
  have hA : Below w.heap.size w (w.alloc (.cells #[.int .i64 p, .int .i64 l] 46)) := (Below.refl _ _).alloc (Nat.le_refl _) _
  refine (row_any tb v ents p l _ (by rw [cell_row ((hA.block tb hlt).trans HB0.out)]; rfl) ((own_ents HO0.out).below hA) hl HO.out).mono ?_
  rw [HR.out]
  rintro e w1 ⟨rfl, hb1⟩
  have HA1 : Hid (Below w.heap.size w w1) := hA.trans (hb1.mono (by simp))
  have ch0 : w1.cell? ⟨w.heap.size, 0, none⟩ = some (.int .i64 p) := (hb1.cell (p := ⟨w.heap.size, 0, none⟩) (by simp)).trans (by simp)
  have ch1 : w1.cell? ⟨w.heap.size, 1, none⟩ = some (.int .i64 l) := (hb1.cell (p := ⟨w.heap.size, 1, none⟩) (by simp)).trans (by simp)
  have hs1 : w.heap.size < w1.heap.size := by have := hb1.size; simp at this; omega
  clear hb1 hA
  have ct : w1.cell? ⟨tb, 0, none⟩ = some v := by rw [cell_row ((HA1.out.block tb hlt).trans HB0.out)]; rfl
  have cf : w1.frozen? ⟨tb, 0, none⟩ = false := frozen_row ((HA1.out.block tb hlt).trans HB0.out) 0
  have hlt1 : tb < w1.heap.size := by omega
  have hne1 : tb ≠ w1.heap.size := by omega
  have hne2 : tb ≠ w1.heap.size + 1 := by omega
  obtain ⟨W2, hW2⟩ : ∃ W2, W2 = ((w1.alloc (.cells #[.int .i64 r] 3)).alloc (.cells #[.int .i64 p, .int .i64 l] 46)).drew := ⟨_, rfl⟩
  have hs2 : W2.heap.size = w1.heap.size + 2 := by rw [hW2]; simp
  have hB2 : Below w1.heap.size w1 W2 := by rw [hW2]; exact (((Below.refl _ _).alloc (Nat.le_refl _) _).alloc (by simp) _).drew
  have h2 : W2.heap[w1.heap.size + 1]? = some (.cells (hNews p l).toArray 46 (0, 0)) := by rw [hW2]; exact heap_alloc_at (by simp) _
  have h2r : W2.cell? ⟨w1.heap.size, 0, none⟩ = some (.int .i64 r) := by rw [hW2]; simp
  have h2p : W2.cell? ⟨w.heap.size, 0, none⟩ = some (.int .i64 p) := (hB2.cell (p := ⟨w.heap.size, 0, none⟩) hs1).trans ch0
  have h2l : W2.cell? ⟨w.heap.size, 1, none⟩ = some (.int .i64 l) := (hB2.cell (p := ⟨w.heap.size, 1, none⟩) hs1).trans ch1
  have HI : Hid (Calls Tryz.prog 243 #[v, .int .i64 r, .slice (some ⟨w1.heap.size + 1, 0, none⟩) 1 1] W2 fun e w' => ∃ a' c', e = .returned (.slice a' (n + 1) c') ∧ w'.cell? ⟨tb, 0, none⟩ = some v ∧ w'.frozen? ⟨tb, 0, none⟩ = false ∧ w'.cell? ⟨w1.heap.size, 0, none⟩ = some (.int .i64 r) ∧ w'.cell? ⟨w.heap.size, 0, none⟩ = some (.int .i64 p) ∧ w'.cell? ⟨w.heap.size, 1, none⟩ = some (.int .i64 l) ∧
      Hid (w'.ownsRow 0 46 2 (.slice a' (n + 1) c') (n + 1) (setIn (eCells ents) (r * 2) (hNews p l)) ∧ W2.grownBy w' v.ownBlock ∧ ((Value.slice a' (n + 1) c').ownBlock = v.ownBlock ∨ ∃ g, (Value.slice a' (n + 1) c').ownBlock = some g ∧ W2.heap.size ≤ g))) := by
    have ho := own_turn HO0.out fun k _ hk => (hB2.block k (Nat.lt_trans hk hs1)).trans (HA1.out.block k hk)
    rw [← HN.out] at ho
    refine (insert_own 0 v n r (eCells ents) (w1.heap.size + 1) p l W2 ho (by rw [HN.out]; exact hrl) (by rw [HN.out]; omega) (Nat.zero_le _) (eCells_one ents) (fun e => by have := (HO0.out.lt _ e).2; omega) h2).mono ?_
    rintro e w' ⟨v', rfl, g1, g2, g3⟩
    obtain ⟨a', c', rfl⟩ := own_form g1
    have hblk : w'.heap[tb]? = w1.heap[tb]? := (g2.block tb (by omega) (fun e => (HV.out tb e.symm).2 rfl)).trans (hB2.block tb hlt1)
    refine ⟨a', c', rfl, (World.cell?_of_block (a := ⟨tb, 0, none⟩) hblk).trans ct, (World.frozen?_of_block (a := ⟨tb, 0, none⟩) hblk).trans cf, g2.cell h2r (fun e => by have := (HO0.out.lt _ e.symm).2; simp at this; omega), g2.cell h2p (fun e => by have := (HO0.out.lt _ e.symm).2; simp at this), g2.cell h2l (fun e => by have := (HO0.out.lt _ e.symm).2; simp at this), g1, g2, g3⟩
  rw [hW2] at HI
  clear h2 h2r h2p h2l
  go_wp2_with fail
  have HEnd : Hid (∀ (w2 w3 : World) (a' : Option Addr) (c' : Nat), w2.cell? ⟨tb, 0, none⟩ = some v → Hid (w2.ownsRow 0 46 2 (.slice a' (n + 1) c') (n + 1) (setIn (eCells ents) (r * 2) (hNews p l)) ∧ (((w1.alloc (.cells #[.int .i64 r] 3)).alloc (.cells #[.int .i64 p, .int .i64 l] 46)).drew).grownBy w2 v.ownBlock ∧ ((Value.slice a' (n + 1) c').ownBlock = v.ownBlock ∨ ∃ g, (Value.slice a' (n + 1) c').ownBlock = some g ∧ (((w1.alloc (.cells #[.int .i64 r] 3)).alloc (.cells #[.int .i64 p, .int .i64 l] 46)).drew).heap.size ≤ g)) →
      (∀ k, k < 6 → (w2.setCell ⟨tb, 0, none⟩ (.slice a' (n + 1) c')).cell? ⟨tb, 1 + k, none⟩ = some (.slice none 0 0)) ∧ (Below (w2.setCell ⟨tb, 0, none⟩ (.slice a' (n + 1) c')).heap.size (w2.setCell ⟨tb, 0, none⟩ (.slice a' (n + 1) c')) w3 → Turns w w3 F ∧ TabAt w3 (grow F w w3) tb (setIn ents (ahead ents p) [(p, l)]))) := by
    intro w2 w3 a' c' c2 hF
    obtain ⟨g1, g2, g3⟩ := hF.out
    rw [← hW2] at g2 g3
    have hblk : w2.heap[tb]? = w.heap[tb]? := ((g2.block tb (by omega) (fun e => (HV.out tb e.symm).2 rfl)).trans (hB2.block tb hlt1)).trans (HA1.out.block tb hlt)
    have hset : (w2.setCell ⟨tb, 0, none⟩ (.slice a' (n + 1) c')).heap[tb]? = some (.cells #[.slice a' (n + 1) c', .slice none 0 0, .slice none 0 0, .slice none 0 0, .slice none 0 0, .slice none 0 0, .slice none 0 0] 204 (0, 0)) := setCell_block _ (hblk.trans HB0.out)
    have hnt : ∀ k, (Value.slice a' (n + 1) c').ownBlock = some k → k ≠ tb ∧ (F k ∨ w.heap.size ≤ k) := fun k hk => by
      rcases g3 with h | ⟨g, h, hg⟩
      · rw [h] at hk; exact ⟨(HV.out k hk).2, Or.inl (HV.out k hk).1⟩
      · rw [h] at hk; simp at hk; subst hk; exact ⟨by omega, Or.inr (by omega)⟩
    have hT : Turns w (w2.setCell ⟨tb, 0, none⟩ (.slice a' (n + 1) c')) F := by
      refine Turns.set ?_ tb 0 _ (fun _ => HT.out.imm)
      have t1 : Turns w W2 F := Turns.ofBelow F (HA1.out.trans (hB2.mono (Nat.le_of_lt hs1)))
      exact t1.trans' (Turns.ofGrown g2 fun k hk _ => (HV.out k hk).1)
    refine ⟨fun k hk => ?_, fun hb => ?_⟩
    · rw [cell_row hset]
      have : k = 0 ∨ k = 1 ∨ k = 2 ∨ k = 3 ∨ k = 4 ∨ k = 5 := by omega
      rcases this with rfl | rfl | rfl | rfl | rfl | rfl <;> rfl
    · have hT3 : Turns w w3 F := hT.trans' (Turns.ofBelow F hb)
      refine ⟨hT3, Or.inl HT.out.imm, _, (hb.block tb (by simp [World.setCell]; have := g2.size; omega)).trans hset, ?_, fun k hk => ⟨?_, (hnt k hk).1⟩⟩
      · have hl : (setIn ents (ahead ents p) [(p, l)]).length = n + 1 := by rw [HR.out, HN.out]; simp [setIn]; omega
        rw [hl, HR.out, ← eCells_setIn _ _ hrl]
        have g4 : (w2.setCell ⟨tb, 0, none⟩ (.slice a' (n + 1) c')).ownsRow 0 46 2 (.slice a' (n + 1) c') (n + 1) (setIn (eCells ents) (r * 2) (hNews p l)) := own_turn g1 fun k hk _ => Below.heap_setCell _ _ _ _ (hnt k hk).1
        exact own_turn g4 fun k _ hkl => hb.block k hkl
      · rcases (hnt k hk).2 with h | h
        · exact Or.inl h
        · refine Or.inr ⟨h, ?_⟩
          have h5 := (g1.lt k hk).2
          have h6 := hb.size
          simp [World.setCell] at h6
          omega
  go_region_with (go_at_call 243; refine HI.out.mono ?_; rintro e w2 ⟨a', c', rfl, ct2, cf2, cr2, cp2, cl2, HF⟩)
  all_goals (have HE := fun w3 => HEnd.out w2 w3 a' c' ct2 HF)
  all_goals (have HE2 : Hid _ := HE; clear HE)
  all_goals (have hmf : ∀ (fn : Fn) (first cap : Array Value) (w : World), (Instr.makeFunc fn first cap).run Tryz.prog w = .ok (.func fn first cap) w := fun _ _ _ _ => rfl)
  all_goals go_wp2_with (go_at_call 124; refine (each_none tb _ _ (HE2.out default).1).mono ?_; rintro e w3 ⟨rfl, hb3⟩)
  all_goals go_end0
  all_goals exact ⟨rfl, (HE2.out _).2 hb3⟩

end Go.Proofs.YthkbeaffkcfgiabGreatDoor
