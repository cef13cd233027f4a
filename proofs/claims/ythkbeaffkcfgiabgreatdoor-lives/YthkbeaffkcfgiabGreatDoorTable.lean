import Derived.Test.YthkbeaffkcfgiabGreatDoorDelete
namespace Go.Proofs.YthkbeaffkcfgiabGreatDoor
open Go.RowKit

/-- Entities, in their cells. -/
def eCells (l : List (Int × Int)) : List Value := l.flatMap fun z => hNews z.1 z.2

theorem eCells_append (a b : List (Int × Int)) : eCells (a ++ b) = eCells a ++ eCells b := by simp [eCells]
theorem eCells_length (l : List (Int × Int)) : (eCells l).length = l.length * 2 := by
  induction l with
  | nil => rfl
  | cons a r ih => rw [show eCells (a :: r) = hNews a.1 a.2 ++ eCells r from rfl, List.length_append, ih]; simp [hNews]; omega
theorem eCells_get (l : List (Int × Int)) : ∀ j (h : j < l.length), (eCells l)[j * 2]? = some (.int .i64 l[j].1) ∧ (eCells l)[j * 2 + 1]? = some (.int .i64 l[j].2) := by
  induction l with
  | nil => intro j h; simp at h
  | cons a r ih =>
    intro j h
    cases j with
    | zero => exact ⟨rfl, rfl⟩
    | succ j =>
      obtain ⟨h1, h2⟩ := ih j (by simpa using h)
      rw [show eCells (a :: r) = .int .i64 a.1 :: .int .i64 a.2 :: eCells r from rfl, show (j + 1) * 2 = j * 2 + 2 by omega]
      exact ⟨h1, h2⟩
theorem eCells_one (l : List (Int × Int)) : ∀ u ∈ eCells l, u.oneCell' = true := by
  intro u hu
  simp only [eCells, List.mem_flatMap] at hu
  obtain ⟨z, _, hz⟩ := hu
  exact hNews_one _ _ u hz
theorem eCells_take (l : List (Int × Int)) (j : Nat) (h : j ≤ l.length) : (eCells l).take (j * 2) = eCells (l.take j) := by
  have e : eCells l = eCells (l.take j) ++ eCells (l.drop j) := by rw [← eCells_append, List.take_append_drop]
  rw [e]
  have : (eCells (l.take j)).length = j * 2 := by rw [eCells_length, List.length_take]; omega
  rw [← this]; exact List.take_left
theorem eCells_drop (l : List (Int × Int)) (j : Nat) (h : j ≤ l.length) : (eCells l).drop (j * 2) = eCells (l.drop j) := by
  have e : eCells l = eCells (l.take j) ++ eCells (l.drop j) := by rw [← eCells_append, List.take_append_drop]
  rw [e]
  have : (eCells (l.take j)).length = j * 2 := by rw [eCells_length, List.length_take]; omega
  rw [← this]; exact List.drop_left
theorem eCells_setIn (l : List (Int × Int)) (j : Nat) (h : j ≤ l.length) (p x : Int) : setIn (eCells l) (j * 2) (hNews p x) = eCells (setIn l j [(p, x)]) := by
  unfold setIn
  rw [eCells_take _ _ h, eCells_drop _ _ h, eCells_append, eCells_append]
  simp [eCells]
theorem eCells_cutOut (l : List (Int × Int)) (j : Nat) (h : j < l.length) : cutOut (eCells l) (j * 2) 2 = eCells (cutOut l j 1) := by
  unfold cutOut
  rw [eCells_take _ _ (by omega), show j * 2 + 2 = (j + 1) * 2 by omega, eCells_drop _ _ (by omega), eCells_append]

theorem own_ents {w : World} {base : Nat} {v : Value} {ents : List (Int × Int)} (h : w.ownsRow base 46 2 v ents.length (eCells ents)) : EntsAt w v ents := by
  rcases h.2 with ⟨rfl, hn⟩ | ⟨g, cap, cur, rfl, hbg, hg, hnc, hcm, hcs, htake⟩
  · exact Or.inl ⟨rfl, List.length_eq_zero_iff.1 hn⟩
  · refine Or.inr ⟨g, cap, rfl, hnc, hcm, (Array.getElem?_eq_some_iff.1 hg).1, fun j hj => ?_⟩
    obtain ⟨e1, e2⟩ := eCells_get ents j hj
    rw [← htake, List.getElem?_take] at e1 e2
    rw [cell_row hg, cell_row hg]
    constructor
    · split at e1
      · simpa using e1
      · cases e1
    · split at e2
      · simpa using e2
      · cases e2

theorem EntsAt.below {w w' : World} {v : Value} {ents : List (Int × Int)} (h : EntsAt w v ents) (hb : Below w.heap.size w w') : EntsAt w' v ents := by
  rcases h with h | ⟨g, cap, h1, h2, h3, h4, h5⟩
  · exact Or.inl h
  · exact Or.inr ⟨g, cap, h1, h2, h3, Nat.lt_of_lt_of_le h4 hb.size, fun j hj => ⟨(hb.cell (p := ⟨g, _, none⟩) h4).trans (h5 j hj).1, (hb.cell (p := ⟨g, _, none⟩) h4).trans (h5 j hj).2⟩⟩

set_option maxHeartbeats 1600000 in
theorem row_any (tb : Nat) (s : Value) (ents : List (Int × Int)) (p l : Int) (w : World) (hc : w.cell? ⟨tb, 0, none⟩ = some s) (hs : EntsAt w s ents) (hl : ents.length ≤ 100) (hsort : ents.Pairwise fun a b => a.1 < b.1) :
    Calls Tryz.prog 130 #[.pointer (some ⟨tb, 0, none⟩), .agg #[.int .i64 p, .int .i64 l]] w fun e w' => e = .returned (.int .i64 (ahead ents p)) ∧ Below w.heap.size w w' := by
  have htb : tb < w.heap.size := World.block_lt_of_cell? w ⟨tb, 0, none⟩ hc
  have hB : Hid (Below w.heap.size w (w.alloc (.cells #[.int .i64 p, .int .i64 l] 46))) := (Below.refl _ _).alloc (Nat.le_refl _) _
  have HS : Hid (EntsAt (w.alloc (.cells #[.int .i64 p, .int .i64 l] 46)) s ents) := hs.below hB.out
  have HO : Hid (ents.Pairwise fun a b => a.1 < b.1) := hsort
  have KS : Hid (∀ w' : World, Below (w.heap.size + 1) (w.alloc (.cells #[.int .i64 p, .int .i64 l] 46)) w' → w'.cell? ⟨tb, 0, none⟩ = some s ∧ w'.cell? ⟨w.heap.size, 0, none⟩ = some (.int .i64 p) ∧ w'.cell? ⟨w.heap.size, 1, none⟩ = some (.int .i64 l)) := fun w' hb =>
    ⟨(hb.cell (p := ⟨tb, 0, none⟩) (by simp; omega)).trans ((hB.out.cell (p := ⟨tb, 0, none⟩) htb).trans hc), (hb.cell (p := ⟨w.heap.size, 0, none⟩) (by simp)).trans (by simp), (hb.cell (p := ⟨w.heap.size, 1, none⟩) (by simp)).trans (by simp)⟩
  clear hs hsort
  go_enter Tryz.func130, Tryz.ntmps130
  go_wp2_with fail
  go_region_held3 (fun w' => w'.cell? ⟨tb, 0, none⟩ = some s ∧ w'.cell? ⟨w.heap.size, 0, none⟩ = some (.int .i64 p) ∧ w'.cell? ⟨w.heap.size, 1, none⟩ = some (.int .i64 l)) ((refine KS.out _ ?_; first | exact (Below.refl _ _).drew | exact HB1.out)) ((go_at_call 199; refine (search_any s ents p l _ (HS.out.below (Below.refl _ _).drew) hl HO.out).mono ?_; rintro e w1 ⟨⟨bb, rfl⟩, hb1⟩; have HB1 : Hid (Below (w.heap.size + 1) (w.alloc (.cells #[.int .i64 p, .int .i64 l] 46)) w1) := ⟨hb1.os, hb1.tape, hb1.output, hb1.size, fun k hk => hb1.block k (by simpa using hk)⟩; clear hb1))
  all_goals go_wp2_with fail
  all_goals go_ret
  all_goals exact ⟨rfl, hB.out.trans (HB1.out.mono (by omega))⟩

theorem sliceAgg146 : ∀ w, (isAgg 201).run Tryz.prog w = .ok false w := fun w => by
  simp [isAgg, run_underlying Tryz.underlying201]
theorem sizeOf146 : ∀ w, (Go.sizeOf 201).run Tryz.prog w = .ok 1 w := fun w => by
  obtain ⟨i0, hi0, h1⟩ : ∃ i0, Tryz.prog.info? 201 = some i0 ∧ i0.size = 1 := by
    have h : (Tryz.prog.info? 201).map (·.size) = some 1 := by kernel_rfl
    cases hq : Tryz.prog.info? 201 with
    | none => simp [hq] at h
    | some i => exact ⟨i, rfl, by simpa [hq] using h⟩
  simp [Go.sizeOf, typeInfo, hi0, h1]

theorem index147 (cs : Array Value) (k : Nat) (hk : k < 6) (v : Value) (hv : cs[k]? = some v) (w : World) : (Instr.index 202 (.agg cs) (.int .i64 k)).run Tryz.prog w = .ok v w := by
  simp [Instr.index, asIntOf, run_underlying Tryz.underlying202, part, hv]
  intro h; omega

theorem index147_none (k : Nat) (hk : k < 6) (w : World) : (Instr.index 202 (.agg #[.slice none 0 0, .slice none 0 0, .slice none 0 0, .slice none 0 0, .slice none 0 0, .slice none 0 0]) (.int .i64 k)).run Tryz.prog w = .ok (.slice none 0 0) w := by
  refine index147 _ k hk _ ?_ w
  have h : k = 0 ∨ k = 1 ∨ k = 2 ∨ k = 3 ∨ k = 4 ∨ k = 5 := by omega
  rcases h with rfl | rfl | rfl | rfl | rfl | rfl <;> rfl

set_option maxHeartbeats 4000000 in
set_option maxRecDepth 100000 in
theorem each_none (tb : Nat) (f : Value) (w : World) (hc : ∀ k, k < 6 → w.cell? ⟨tb, 1 + k, none⟩ = some (.slice none 0 0)) :
    Calls Tryz.prog 124 #[.pointer (some ⟨tb, 0, none⟩), f] w fun e w' => e = .returned (.tuple #[]) ∧ Below w.heap.size w w' := by
  have c1 := hc 0 (by omega); have c2 := hc 1 (by omega); have c3 := hc 2 (by omega); have c4 := hc 3 (by omega); have c5 := hc 4 (by omega); have c6 := hc 5 (by omega)
  clear hc
  go_enter Tryz.func124, Tryz.ntmps124
  go_wp2
  go_loopw [12] (fun t wr => ∃ k : Nat, k ≤ 6 ∧ t = .int .i64 k ∧ wr = w) (fun t _ => 6 - (intOf t).toNat)
  case atStart => exact ⟨0, by omega, rfl, rfl⟩
  case round =>
    obtain ⟨k, hk, rfl, rfl⟩ := hrel
    by_cases hlt : k < 6
    · have hid := index147_none k hlt
      go_wp2
      refine wp_loop_rounds 1 ?_
      rw [rounds_succ]
      go_wp2
      go_roundw
      case rel => exact ⟨k + 1, by omega, by go_num, trivial⟩
      case measure => simp [intOf]; omega
    · go_wp2
      go_end0
      exact ⟨rfl, Below.refl _ _⟩

end Go.Proofs.YthkbeaffkcfgiabGreatDoor
