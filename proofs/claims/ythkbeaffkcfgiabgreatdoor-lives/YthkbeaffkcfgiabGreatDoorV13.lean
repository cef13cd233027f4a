import Derived.Maps.OwnSet
import Derived.Maps.RangeWalk
import Derived.Test.YthkbeaffkcfgiabGreatDoorV12
set_option linter.unusedSimpArgs false
set_option linter.unusedVariables false
namespace Go.Proofs.YthkbeaffkcfgiabGreatDoor
open Go.RowKit

set_option maxHeartbeats 4000000 in
theorem leave_tab {F : Nat → Prop} (tb : Nat) (ents : List (Int × Int)) (p l : Int) (w : World) (hT : TabAt w F tb ents) (hl : ents.length ≤ 100) (hsort : ents.Pairwise fun a b => a.1 < b.1) (hin : ahead ents p < ents.length) :
    Calls Tryz.prog 122 #[.pointer (some ⟨tb, 0, none⟩), .agg #[.int .i64 p, .int .i64 l]] w fun e w' => e = .returned (.tuple #[]) ∧ Turns w w' F ∧ TabAt w' (grow F w w') tb (cutOut ents (ahead ents p) 1) := by
  have HT : Hid (TabAt w F tb ents) := hT
  have HO : Hid (ents.Pairwise fun a b => a.1 < b.1) := hsort
  have hlt := hT.lt
  obtain ⟨_, v, hb0, hown, hvb⟩ := hT
  have HO0 : Hid (w.ownsRow 0 46 2 v ents.length (eCells ents)) := hown
  have HV : Hid (∀ k, v.ownBlock = some k → F k ∧ k ≠ tb) := hvb
  have HB0 : Hid (w.heap[tb]? = some (.cells #[v, .slice none 0 0, .slice none 0 0, .slice none 0 0, .slice none 0 0, .slice none 0 0, .slice none 0 0] 204 (0, 0))) := hb0
  obtain ⟨r, hr⟩ : ∃ r, r = ahead ents p := ⟨_, rfl⟩
  have hrl : r < ents.length := by rw [hr]; exact hin
  have HR : Hid (ahead ents p = r) := hr.symm
  obtain ⟨n, hn⟩ : ∃ n, n = ents.length := ⟨_, rfl⟩
  have HN : Hid (n = ents.length) := hn
  have hr1000 : r < 100 := by omega
  clear hsort hown hvb hb0 hr hn hin
  go_enter Tryz.func122, Tryz.ntmps122
  go_wp2_with fail
  have hA : Below w.heap.size w (w.alloc (.cells #[.int .i64 p, .int .i64 l] 46)) := (Below.refl _ _).alloc (Nat.le_refl _) _
  refine (row_any tb v ents p l _ (by rw [cell_row ((hA.block tb hlt).trans HB0.out)]; rfl) ((own_ents HO0.out).below hA) hl HO.out).mono ?_
  rw [HR.out]
  rintro e w1 ⟨rfl, hb1⟩
  have HA1 : Hid (Below w.heap.size w w1) := hA.trans (hb1.mono (by simp))
  have hs1 : w.heap.size < w1.heap.size := by have := hb1.size; simp at this; omega
  clear hb1 hA
  have ct : w1.cell? ⟨tb, 0, none⟩ = some v := by rw [cell_row ((HA1.out.block tb hlt).trans HB0.out)]; rfl
  have cf : w1.frozen? ⟨tb, 0, none⟩ = false := frozen_row ((HA1.out.block tb hlt).trans HB0.out) 0
  have hlt1 : tb < w1.heap.size := by omega
  have hne1 : tb ≠ w1.heap.size := by omega
  obtain ⟨W2, hW2⟩ : ∃ W2, W2 = (w1.alloc (.cells #[.int .i64 r] 3)).drew := ⟨_, rfl⟩
  have hs2 : W2.heap.size = w1.heap.size + 1 := by rw [hW2]; simp
  have hB2 : Below w1.heap.size w1 W2 := by rw [hW2]; exact ((Below.refl _ _).alloc (Nat.le_refl _) _).drew
  have HI : Hid (Calls Tryz.prog 191 #[v, .int .i64 r, .int .i64 ((r : Int) + 1)] W2 fun e w' => ∃ a' c', e = .returned (.slice a' (n - 1) c') ∧ w'.cell? ⟨tb, 0, none⟩ = some v ∧ w'.frozen? ⟨tb, 0, none⟩ = false ∧
      Hid (w'.ownsRow 0 46 2 (.slice a' (n - 1) c') (n - 1) (cutOut (eCells ents) (r * 2) 2) ∧ W2.grownBy w' v.ownBlock ∧ (Value.slice a' (n - 1) c').ownBlock = v.ownBlock)) := by
    have ho := own_turn HO0.out fun k _ hk => (hB2.block k (Nat.lt_trans hk hs1)).trans (HA1.out.block k hk)
    rw [← HN.out] at ho
    refine (delete_own 0 v n r (eCells ents) W2 ho (by rw [HN.out]; exact hrl) (eCells_one ents)).mono ?_
    rintro e w' ⟨v', rfl, g1, g2, g3⟩
    obtain ⟨a', c', rfl⟩ := own_form g1
    have hblk : w'.heap[tb]? = w1.heap[tb]? := (g2.block tb (by omega) (fun e => (HV.out tb e.symm).2 rfl)).trans (hB2.block tb hlt1)
    exact ⟨a', c', rfl, (World.cell?_of_block (a := ⟨tb, 0, none⟩) hblk).trans ct, (World.frozen?_of_block (a := ⟨tb, 0, none⟩) hblk).trans cf, g1, g2, g3⟩
  rw [hW2] at HI
  have HEnd : Hid (∀ (w2 w3 : World) (a' : Option Addr) (c' : Nat), Hid (w2.ownsRow 0 46 2 (.slice a' (n - 1) c') (n - 1) (cutOut (eCells ents) (r * 2) 2) ∧ ((w1.alloc (.cells #[.int .i64 r] 3)).drew).grownBy w2 v.ownBlock ∧ (Value.slice a' (n - 1) c').ownBlock = v.ownBlock) →
      (∀ k, k < 6 → (w2.setCell ⟨tb, 0, none⟩ (.slice a' (n - 1) c')).cell? ⟨tb, 1 + k, none⟩ = some (.slice none 0 0)) ∧ (Below (w2.setCell ⟨tb, 0, none⟩ (.slice a' (n - 1) c')).heap.size (w2.setCell ⟨tb, 0, none⟩ (.slice a' (n - 1) c')) w3 → Turns w w3 F ∧ TabAt w3 (grow F w w3) tb (cutOut ents (ahead ents p) 1))) := by
    intro w2 w3 a' c' hF
    obtain ⟨g1, g2, g3⟩ := hF.out
    rw [← hW2] at g2
    have hblk : w2.heap[tb]? = w.heap[tb]? := ((g2.block tb (by omega) (fun e => (HV.out tb e.symm).2 rfl)).trans (hB2.block tb hlt1)).trans (HA1.out.block tb hlt)
    have hset : (w2.setCell ⟨tb, 0, none⟩ (.slice a' (n - 1) c')).heap[tb]? = some (.cells #[.slice a' (n - 1) c', .slice none 0 0, .slice none 0 0, .slice none 0 0, .slice none 0 0, .slice none 0 0, .slice none 0 0] 204 (0, 0)) := setCell_block _ (hblk.trans HB0.out)
    have hnt : ∀ k, (Value.slice a' (n - 1) c').ownBlock = some k → F k ∧ k ≠ tb := fun k hk => by
      rw [g3] at hk; exact HV.out k hk
    have hT : Turns w (w2.setCell ⟨tb, 0, none⟩ (.slice a' (n - 1) c')) F := by
      refine Turns.set ?_ tb 0 _ (fun _ => HT.out.imm)
      have t1 : Turns w W2 F := Turns.ofBelow F (HA1.out.trans (hB2.mono (Nat.le_of_lt hs1)))
      exact t1.trans' (Turns.ofGrown g2 fun k hk _ => (HV.out k hk).1)
    refine ⟨fun k hk => ?_, fun hb => ?_⟩
    · rw [cell_row hset]
      have : k = 0 ∨ k = 1 ∨ k = 2 ∨ k = 3 ∨ k = 4 ∨ k = 5 := by omega
      rcases this with rfl | rfl | rfl | rfl | rfl | rfl <;> rfl
    · have hT3 : Turns w w3 F := hT.trans' (Turns.ofBelow F hb)
      refine ⟨hT3, Or.inl HT.out.imm, _, (hb.block tb (by simp [World.setCell]; have := g2.size; omega)).trans hset, ?_, fun k hk => ⟨Or.inl (hnt k hk).1, (hnt k hk).2⟩⟩
      have hl : (cutOut ents (ahead ents p) 1).length = n - 1 := by rw [HR.out, HN.out]; simp [cutOut]; omega
      rw [hl, HR.out, ← eCells_cutOut _ _ hrl]
      have g4 : (w2.setCell ⟨tb, 0, none⟩ (.slice a' (n - 1) c')).ownsRow 0 46 2 (.slice a' (n - 1) c') (n - 1) (cutOut (eCells ents) (r * 2) 2) := own_turn g1 fun k hk _ => Below.heap_setCell _ _ _ _ (hnt k hk).2
      exact own_turn g4 fun k _ hkl => hb.block k hkl
  have hwr : IntKind.i64.wrap ((r : Int) + 1) = (r : Int) + 1 := by rw [IntKind.wrap_i64]; omega
  go_wp2_with fail
  go_region_with (go_at_call 191; refine HI.out.mono ?_; rintro e w2 ⟨a', c', rfl, ct2, cf2, HF⟩)
  all_goals (have HE := fun w3 => HEnd.out w2 w3 a' c' HF)
  all_goals (have HE2 : Hid _ := HE; clear HE)
  all_goals (have hmf : ∀ (fn : Fn) (first cap : Array Value) (w : World), (Instr.makeFunc fn first cap).run Tryz.prog w = .ok (.func fn first cap) w := fun _ _ _ _ => rfl)
  all_goals go_wp2_with (go_at_call 124; refine (each_none tb _ _ (HE2.out default).1).mono ?_; rintro e w3 ⟨rfl, hb3⟩)
  all_goals go_end0
  all_goals exact ⟨rfl, (HE2.out _).2 hb3⟩

set_option maxHeartbeats 800000 in
theorem empty_tab (tb : Nat) (a : Option Addr) (n c : Nat) (w : World) (hc : w.cell? ⟨tb, 0, none⟩ = some (.slice a n c)) :
    Calls Tryz.prog 123 #[.pointer (some ⟨tb, 0, none⟩)] w fun e w' => e = .returned (.bool ((n : Int) == 0)) ∧ w' = w := by
  go_enter Tryz.func123, Tryz.ntmps123
  go_wp2
  go_ret
  exact ⟨rfl, rfl⟩

set_option maxHeartbeats 800000 in
theorem forget_none (tb : Nat) (p l : Int) (w : World) (hb : tb < w.heap.size) (hc : ∀ k, k < 6 → w.cell? ⟨tb, 1 + k, none⟩ = some (.slice none 0 0)) :
    Calls Tryz.prog 62 #[.pointer (some ⟨tb, 0, none⟩), .agg #[.int .i64 p, .int .i64 l]] w fun e w' => e = .returned (.tuple #[]) ∧ Below w.heap.size w w' := by
  have hA : Hid (Below w.heap.size w (w.alloc (.cells #[.int .i64 p, .int .i64 l] 46))) := (Below.refl _ _).alloc (Nat.le_refl _) _
  have HC : Hid (∀ k, k < 6 → (w.alloc (.cells #[.int .i64 p, .int .i64 l] 46)).cell? ⟨tb, 1 + k, none⟩ = some (.slice none 0 0)) := fun k hk => (hA.out.cell (p := ⟨tb, _, none⟩) hb).trans (hc k hk)
  clear hc
  have hmf : ∀ (fn : Fn) (first cap : Array Value) (w : World), (Instr.makeFunc fn first cap).run Tryz.prog w = .ok (.func fn first cap) w := fun _ _ _ _ => rfl
  go_enter Tryz.func62, Tryz.ntmps62
  go_wp2_with (go_at_call 124; refine (each_none tb _ _ HC.out).mono ?_; rintro e w3 ⟨rfl, hb3⟩)
  go_end0
  exact ⟨rfl, hA.out.trans (hb3.mono (by simp))⟩

set_option maxHeartbeats 800000 in
theorem has_zero (k : Nat) (w : World) (hk : k < 6) : Calls Tryz.prog 66 #[.int .u64 0, .int .i64 k] w fun e w' => e = .returned (.bool false) ∧ w' = w := by
  have : k = 0 ∨ k = 1 ∨ k = 2 ∨ k = 3 ∨ k = 4 ∨ k = 5 := by omega
  rcases this with rfl | rfl | rfl | rfl | rfl | rfl
  all_goals (go_enter Tryz.func66, Tryz.ntmps66)
  all_goals go_wp2
  all_goals go_ret
  all_goals exact ⟨rfl, rfl⟩

end Go.Proofs.YthkbeaffkcfgiabGreatDoor

namespace Go.Proofs.YthkbeaffkcfgiabGreatDoor
open Go.RowKit

/-- A layout of n components, in its cells, at block g. -/
def LayAt (W : World) (g n : Nat) : Prop := g < W.heap.size ∧ n ≤ 6 ∧ ∀ j, j < n → ∃ nm sa sn sc, W.cell? ⟨g, j * 2, none⟩ = some (.string nm) ∧ W.cell? ⟨g, j * 2 + 1, none⟩ = some (.slice sa sn sc)

theorem LayAt.turn {W W' : World} {g n : Nat} (h : LayAt W g n) (hs : W.heap.size ≤ W'.heap.size) (hb : W'.heap[g]? = W.heap[g]?) : LayAt W' g n :=
  ⟨Nat.lt_of_lt_of_le h.1 hs, h.2.1, fun j hj => by
    obtain ⟨nm, sa, sn, sc, h1, h2⟩ := h.2.2 j hj
    exact ⟨nm, sa, sn, sc, (World.cell?_of_block (a := ⟨g, _, none⟩) hb).trans h1, (World.cell?_of_block (a := ⟨g, _, none⟩) hb).trans h2⟩⟩

set_option maxHeartbeats 1600000 in
theorem new_tab (g n c : Nat) (w : World) (hL : LayAt w g n) (_hc : n ≤ c) :
    Calls Tryz.prog 189 #[.slice (some ⟨g, 0, none⟩) n c, .int .u64 0] w fun e w' => e = .returned (.pointer (some ⟨w.heap.size, 0, none⟩)) ∧ Below w.heap.size w w' ∧
      w'.heap[w.heap.size]? = some (.cells #[.slice none 0 0, .slice none 0 0, .slice none 0 0, .slice none 0 0, .slice none 0 0, .slice none 0 0, .slice none 0 0] 204 (0, 0)) := by
  have HL : Hid (∀ j, j < n → ∃ nm sa sn sc, w.cell? ⟨g, j * 2, none⟩ = some (.string nm) ∧ w.cell? ⟨g, j * 2 + 1, none⟩ = some (.slice sa sn sc)) := hL.2.2
  have hn := hL.2.1
  have hg := hL.1
  clear hL
  go_enter Tryz.func189, Tryz.ntmps189
  go_wp2
  go_loopw [12] (fun t wr => ∃ k : Nat, k ≤ n ∧ t = .int .i64 k ∧ Below (w.heap.size + 1) (w.alloc (.cells #[.slice none 0 0, .slice none 0 0, .slice none 0 0, .slice none 0 0, .slice none 0 0, .slice none 0 0, .slice none 0 0] 204)) wr) (fun t _ => n - (intOf t).toNat)
  case atStart => exact ⟨0, by omega, rfl, Below.refl _ _⟩
  case round =>
    obtain ⟨k, hk, rfl, hb⟩ := hrel
    have HB : Hid (Below (w.heap.size + 1) (w.alloc (.cells #[.slice none 0 0, .slice none 0 0, .slice none 0 0, .slice none 0 0, .slice none 0 0, .slice none 0 0, .slice none 0 0] 204)) wr) := hb
    clear hb
    by_cases hlt : k < n
    · obtain ⟨nm, sa, sn, sc, d0, d1⟩ := HL.out k hlt
      have hA : Below w.heap.size w (w.alloc (.cells #[.slice none 0 0, .slice none 0 0, .slice none 0 0, .slice none 0 0, .slice none 0 0, .slice none 0 0, .slice none 0 0] 204)) := (Below.refl _ _).alloc (Nat.le_refl _) _
      have c0 : wr.cell? ⟨g, k * 2, none⟩ = some (.string nm) := (HB.out.cell (p := ⟨g, _, none⟩) (by simp; omega)).trans ((hA.cell (p := ⟨g, _, none⟩) hg).trans d0)
      have c1 : wr.cell? ⟨g, k * 2 + 1, none⟩ = some (.slice sa sn sc) := (HB.out.cell (p := ⟨g, _, none⟩) (by simp; omega)).trans ((hA.cell (p := ⟨g, _, none⟩) hg).trans d1)
      clear d0 d1 hA
      go_wp2_with (go_at_call 66; refine (has_zero k _ (by omega)).mono ?_; rintro e w' ⟨rfl, rfl⟩)
      go_roundw
      case rel => exact ⟨k + 1, by omega, by go_num, by first | exact HB.out.alloc (by have := HB.out.size; simpa using this) _ | exact (HB.out.alloc (by have := HB.out.size; simpa using this) _).setCell (by have := HB.out.size; simpa using this) _ | exact ((HB.out.alloc (by have := HB.out.size; simpa using this) _).setCell (by have := HB.out.size; simpa using this) _).setCell (by have := HB.out.size; simpa using this) _⟩
      case measure => simp [intOf]; omega
    · go_wp2
      go_ret
      exact ⟨rfl, ((Below.refl _ _).alloc (Nat.le_refl _) _).trans (HB.out.mono (by omega)), (HB.out.block _ (by omega)).trans (_root_.Go.heap_alloc_new w _)⟩

end Go.Proofs.YthkbeaffkcfgiabGreatDoor

namespace Go.Proofs.YthkbeaffkcfgiabGreatDoor
open Go.RowKit Go.Maps

/-- How a pointer to a table reads, as an element of the map. -/
def ptrElem : Value → Option (DataW Unit × List MemPlace)
  | .pointer none => some (.nil, [])
  | .pointer (some ⟨n, 0, none⟩) => some (.lit (.int .u64 n), [])
  | _ => none

theorem ptrElem_inv {v : Value} {n : Nat} {ps : List MemPlace} (h : ptrElem v = some (.lit (.int .u64 n), ps)) : v = .pointer (some ⟨n, 0, none⟩) := by
  unfold ptrElem at h
  split at h
  · simp at h
  · simp at h
    have e := Int.ofNat.inj h.1
    rw [e]
  · cases h
theorem ptrElem_nil {v : Value} {ps : List MemPlace} (h : ptrElem v = some (.nil, ps)) : v = .pointer none := by
  unfold ptrElem at h
  split at h
  · rfl
  · simp at h
  · cases h

/-- What the map of tables holds where no entity has a component: the table of none, or nothing. -/
def mapD : Option Nat → DataW Unit
  | none => .map []
  | some tb => .map [(.int .u64 0, .lit (.int .u64 tb))]

/-- The map of tables at block bm. -/
def MapAt (W : World) (bm : Nat) (t : Option Nat) : Prop := W.ownsMap Tryz.prog 105 ptrElem bm 1 (mapD t)

theorem key79 : Keyed Tryz.prog 105 := int_keyed Tryz.underlying105
theorem zero96 (w : World) : (zeroValue 125).run Tryz.prog w = .ok (.pointer none) w := by kernel_rfl
theorem key0 : keyOf Tryz.prog 105 (.int .u64 0) = some (.int .u64 0) := keyOf_int_mk Tryz.underlying105 (by decide)

theorem fewer {W : World} {b n : Nat} {D : DataW Unit} (h : W.ownsMap Tryz.prog 105 ptrElem b n D) : W.ownsMap Tryz.prog 105 ptrElem b (Maps.size D) D := by
  obtain ⟨es, clock, hb, F, hs, rfl⟩ := h
  exact ⟨es, clock, hb, F, by simp [Maps.size, length_sorted], rfl⟩

theorem MapAt.look {W : World} {bm : Nat} {t : Option Nat} (h : MapAt W bm t) : (Instr.lookup 109 (.map (some bm)) (.int .u64 0) false).run Tryz.prog W = .ok (.pointer (t.map fun tb => ⟨tb, 0, none⟩)) W := by
  obtain ⟨v, ps, h1, h2⟩ := h.lookup key79 Tryz.underlying109 (zero96 W) (zd := .nil) (zp := []) rfl key0
  rw [h1]
  cases t with
  | none => rw [ptrElem_nil (ps := ps) h2]; rfl
  | some tb => rw [ptrElem_inv (n := tb) (ps := ps) h2]; rfl

theorem MapAt.put {W : World} {bm : Nat} {t : Option Nat} (h : MapAt W bm t) (tb : Nat) : ∃ W', (Instr.mapUpdate 109 (.map (some bm)) (.int .u64 0) (.pointer (some ⟨tb, 0, none⟩))).run Tryz.prog W = .ok () W' ∧ MapAt W' bm (some tb) ∧ W.mapTurned W' bm := by
  obtain ⟨W', h1, h2, h3⟩ := h.store key79 Tryz.underlying109 (by unfold maxLen; omega) (val := .pointer (some ⟨tb, 0, none⟩)) (d := .lit (.int .u64 tb)) (ps := []) key0 rfl
  have hD : (mapD t).put (.int .u64 0) (.lit (.int .u64 tb)) = mapD (some tb) := by cases t <;> rfl
  rw [hD] at h2
  exact ⟨W', h1, fewer h2, h3⟩

theorem MapAt.drop {W : World} {bm : Nat} {t : Option Nat} (h : MapAt W bm t) (ty : TypeId) : ∃ W', (Builtin.delete_ #[109, 105] ty #[.map (some bm), .int .u64 0]).run Tryz.prog W = .ok (.tuple #[]) W' ∧ MapAt W' bm none ∧ W.mapTurned W' bm := by
  obtain ⟨W', h1, h2, h3⟩ := World.ownsMap.drop h key79 Tryz.underlying109 key0 ty
  have hD : (mapD t).del (.int .u64 0) = mapD none := by cases t <;> rfl
  rw [hD] at h2
  exact ⟨W', h1, (fewer h2).mono (by simp [Maps.size, mapD]), h3⟩

theorem MapAt.lt {W : World} {bm : Nat} {t : Option Nat} (h : MapAt W bm t) : bm < W.heap.size := World.ownsMap.lt h
theorem MapAt.turn {W W' : World} {bm : Nat} {t : Option Nat} (h : MapAt W bm t) (hb : W'.heap[bm]? = W.heap[bm]?) : MapAt W' bm t := by
  obtain ⟨es, clock, h1, r⟩ := h
  exact ⟨es, clock, hb.trans h1, r⟩

end Go.Proofs.YthkbeaffkcfgiabGreatDoor

namespace Go.Proofs.YthkbeaffkcfgiabGreatDoor

/-- Who lives, by places, rising. -/
def entsOf (bg : Nat → Nat) (tk : Nat → Bool) : List (Int × Int) := ((List.range 20).filter tk).map fun i : Nat => ((i : Int) + 1, (bg i : Int))

theorem range_split : ∀ i : Fin 20, List.range 20 = List.range i.val ++ i.val :: List.range' (i.val + 1) (19 - i.val) := by decide

theorem upd_same {α : Type} (f : Nat → α) (i : Nat) (v : α) : upd f i v i = v := by simp [upd]
theorem upd_ne {α : Type} (f : Nat → α) (i : Nat) (v : α) {j : Nat} (h : j ≠ i) : upd f i v j = f j := by simp [upd, h]

/-- Those ahead of place i, and those behind it. -/
def entsA (bg : Nat → Nat) (tk : Nat → Bool) (i : Nat) : List (Int × Int) := ((List.range i).filter tk).map fun i : Nat => ((i : Int) + 1, (bg i : Int))
def entsB (bg : Nat → Nat) (tk : Nat → Bool) (i : Nat) : List (Int × Int) := ((List.range' (i + 1) (19 - i)).filter tk).map fun i : Nat => ((i : Int) + 1, (bg i : Int))

theorem ents_split (bg : Nat → Nat) (tk : Nat → Bool) (i : Nat) (hi : i < 20) : entsOf bg tk = entsA bg tk i ++ (if tk i then [((i : Int) + 1, (bg i : Int))] else []) ++ entsB bg tk i := by
  unfold entsOf entsA entsB
  rw [range_split ⟨i, hi⟩, List.filter_append, List.filter_cons]
  cases h : tk i <;> simp

theorem entsA_upd (bg bg' : Nat → Nat) (tk tk' : Nat → Bool) (i : Nat) (h1 : ∀ j, j ≠ i → bg' j = bg j) (h2 : ∀ j, j ≠ i → tk' j = tk j) : entsA bg' tk' i = entsA bg tk i := by
  unfold entsA
  have e : (List.range i).filter tk' = (List.range i).filter tk := List.filter_congr fun x hx => h2 x (by have := List.mem_range.1 hx; omega)
  rw [e]
  refine List.map_congr_left fun x hx => ?_
  rw [h1 x (by have := List.mem_range.1 (List.mem_filter.1 hx).1; omega)]
theorem entsB_upd (bg bg' : Nat → Nat) (tk tk' : Nat → Bool) (i : Nat) (h1 : ∀ j, j ≠ i → bg' j = bg j) (h2 : ∀ j, j ≠ i → tk' j = tk j) : entsB bg' tk' i = entsB bg tk i := by
  unfold entsB
  have e : (List.range' (i + 1) (19 - i)).filter tk' = (List.range' (i + 1) (19 - i)).filter tk := List.filter_congr fun x hx => h2 x (by have := List.mem_range'_1.1 hx; omega)
  rw [e]
  refine List.map_congr_left fun x hx => ?_
  rw [h1 x (by have := List.mem_range'_1.1 (List.mem_filter.1 hx).1; omega)]

theorem entsA_lt (bg : Nat → Nat) (tk : Nat → Bool) (i : Nat) : ∀ z ∈ entsA bg tk i, z.1 < (i : Int) + 1 := by
  intro z hz
  obtain ⟨x, hx, rfl⟩ := List.mem_map.1 hz
  have := List.mem_range.1 (List.mem_filter.1 hx).1
  show (x : Int) + 1 < _; omega
theorem entsB_gt (bg : Nat → Nat) (tk : Nat → Bool) (i : Nat) : ∀ z ∈ entsB bg tk i, (i : Int) + 1 < z.1 := by
  intro z hz
  obtain ⟨x, hx, rfl⟩ := List.mem_map.1 hz
  have := List.mem_range'_1.1 (List.mem_filter.1 hx).1
  show _ < (x : Int) + 1; omega

theorem takeWhile_split {α : Type} (P : α → Bool) (a b : List α) (ha : ∀ z ∈ a, P z = true) (hb : ∀ z, b.head? = some z → P z = false) : (a ++ b).takeWhile P = a := by
  rw [List.takeWhile_append_of_pos ha]
  cases b with
  | nil => simp
  | cons x r => rw [List.takeWhile_cons_of_neg (by simp [hb x rfl])]; simp

theorem ahead_ents (bg : Nat → Nat) (tk : Nat → Bool) (i : Nat) (hi : i < 20) : ahead (entsOf bg tk) ((i : Int) + 1) = (entsA bg tk i).length := by
  unfold ahead
  rw [ents_split bg tk i hi, List.append_assoc, takeWhile_split]
  · intro z hz; simpa using entsA_lt bg tk i z hz
  · intro z hz
    have hm : z ∈ (if tk i then [((i : Int) + 1, (bg i : Int))] else []) ++ entsB bg tk i := List.mem_of_mem_head? hz
    rcases List.mem_append.1 hm with h | h
    · split at h
      · simp at h; rw [h]; simp
      · cases h
    · have := entsB_gt bg tk i z h
      simp; omega

theorem ents_len (bg : Nat → Nat) (tk : Nat → Bool) : (entsOf bg tk).length ≤ 20 := by
  unfold entsOf
  rw [List.length_map]
  exact Nat.le_trans (List.length_filter_le _ _) (by rw [List.length_range]; exact Nat.le_refl _)

theorem ents_sort (bg : Nat → Nat) (tk : Nat → Bool) : (entsOf bg tk).Pairwise fun a b => a.1 < b.1 := by
  unfold entsOf
  rw [List.pairwise_map]
  refine List.Pairwise.filter _ ?_
  refine List.pairwise_lt_range.imp fun {a b} h => ?_
  show (a : Int) + 1 < (b : Int) + 1; omega

theorem ents_spawn (bg : Nat → Nat) (tk : Nat → Bool) (i : Nat) (hi : i < 20) (ht : tk i = false) :
    entsOf (upd bg i (bg i + 1)) (upd tk i true) = setIn (entsOf bg tk) (ahead (entsOf bg tk) ((i : Int) + 1)) [((i : Int) + 1, (bg i : Int) + 1)] := by
  rw [ahead_ents bg tk i hi, ents_split (upd bg i (bg i + 1)) (upd tk i true) i hi, ents_split bg tk i hi, entsA_upd bg _ tk _ i (fun j h => upd_ne _ _ _ h) (fun j h => upd_ne _ _ _ h), entsB_upd bg _ tk _ i (fun j h => upd_ne _ _ _ h) (fun j h => upd_ne _ _ _ h), upd_same, upd_same, ht]
  simp [setIn]

theorem ents_despawn (bg : Nat → Nat) (tk : Nat → Bool) (i : Nat) (hi : i < 20) (ht : tk i = true) :
    ahead (entsOf bg tk) ((i : Int) + 1) < (entsOf bg tk).length ∧ entsOf bg (upd tk i false) = cutOut (entsOf bg tk) (ahead (entsOf bg tk) ((i : Int) + 1)) 1 := by
  rw [ahead_ents bg tk i hi, ents_split bg (upd tk i false) i hi, ents_split bg tk i hi, entsA_upd bg bg tk _ i (fun _ _ => rfl) (fun j h => upd_ne _ _ _ h), entsB_upd bg bg tk _ i (fun _ _ => rfl) (fun j h => upd_ne _ _ _ h), upd_same, ht]
  constructor
  · simp
  · simp [cutOut]

end Go.Proofs.YthkbeaffkcfgiabGreatDoor

namespace Go.Proofs.YthkbeaffkcfgiabGreatDoor
open Go.RowKit

/-- The tables of the program's world at block b: a map, or none yet; in it the table of those without components, while there are some. F: blocks that are this world's. -/
def TablesAt (W : World) (F : Nat → Prop) (b : Nat) (ents : List (Int × Int)) : Prop :=
  (W.cell? ⟨b, 61, none⟩ = some (.map none) ∧ ents = []) ∨
  ∃ bm, W.cell? ⟨b, 61, none⟩ = some (.map (some bm)) ∧ F bm ∧ ((MapAt W bm none ∧ ents = []) ∨ ∃ tb, MapAt W bm (some tb) ∧ TabAt W F tb ents)

/-- The program's world at block b, without components: its layout of n components at a block of G, which stays as it is. -/
structure ProgAt (W : World) (F G : Nat → Prop) (b n : Nat) (bg : Nat → Nat) (tk : Nat → Bool) : Prop where
  imm : F b
  blk : ∃ arr, W.heap[b]? = some (.cells arr 111 (0, 0)) ∧ arr.size = 62
  places : ∃ cp, PlacesAt W b bg tk cp ∧ ∀ i, i < 20 → tk i = true → cp i = 0
  lay : ∃ g c, W.cell? ⟨b, 0, none⟩ = some (.slice (some ⟨g, 0, none⟩) n c) ∧ n ≤ c ∧ LayAt W g n ∧ G g
  tabs : TablesAt W F b (entsOf bg tk)

theorem TablesAt.turn {W W' : World} {F F' : Nat → Prop} {b : Nat} {ents : List (Int × Int)} (h : TablesAt W F b ents) (hc : W'.cell? ⟨b, 61, none⟩ = W.cell? ⟨b, 61, none⟩) (hb : ∀ k, F k → k < W.heap.size → k ≠ b → W'.heap[k]? = W.heap[k]? ∧ F' k)
    (hbb : ∃ arr, W.heap[b]? = some (.cells arr 111 (0, 0))) : TablesAt W' F' b ents := by
  obtain ⟨arr, hbb⟩ := hbb
  rcases h with ⟨h1, h2⟩ | ⟨bm, h1, h2, h3⟩
  · exact Or.inl ⟨hc.trans h1, h2⟩
  · have hm : bm < W.heap.size ∧ bm ≠ b := by
      rcases h3 with ⟨h3, _⟩ | ⟨tb, h3, _⟩ <;>
      · refine ⟨h3.lt, fun e => ?_⟩
        subst e
        obtain ⟨es, clock, hh, _⟩ := h3
        rw [hbb] at hh; cases hh
    refine Or.inr ⟨bm, hc.trans h1, (hb bm h2 hm.1 hm.2).2, ?_⟩
    rcases h3 with ⟨h3, h4⟩ | ⟨tb, h3, h4⟩
    · exact Or.inl ⟨h3.turn (hb bm h2 hm.1 hm.2).1, h4⟩
    · refine Or.inr ⟨tb, h3.turn (hb bm h2 hm.1 hm.2).1, ?_⟩
      have hne : ∀ k t (cs : Array Value) fz, W.heap[k]? = some (.cells cs t fz) → t ≠ 111 → k ≠ b := fun k t cs fz hk ht e => by subst e; rw [hbb] at hk; simp at hk; exact ht hk.2.1.symm
      have htl := h4.lt
      obtain ⟨i1, v, i2, i3, i4⟩ := h4
      have e1 := hb tb i1 htl (hne tb 204 _ _ i2 (by decide))
      have e2 : ∀ k, v.ownBlock = some k → W'.heap[k]? = W.heap[k]? ∧ F' k := fun k hk => by
        refine hb k (i4 k hk).1 (i3.lt k hk).2 ?_
        rcases i3.2 with ⟨j1, _⟩ | ⟨g, cap, cur, j1, _, j2, _⟩
        · rw [j1] at hk; cases hk
        · rw [j1] at hk; simp [Value.ownBlock] at hk; subst hk; exact hne g 46 _ _ j2 (by decide)
      exact ⟨e1.2, v, e1.1.trans i2, own_turn i3 fun k hk _ => (e2 k hk).1, fun k hk => ⟨(e2 k hk).2, (i4 k hk).2⟩⟩

theorem ProgAt.lt {W : World} {F G : Nat → Prop} {b n : Nat} {bg : Nat → Nat} {tk : Nat → Bool} (h : ProgAt W F G b n bg tk) : b < W.heap.size := by
  obtain ⟨arr, hb, _⟩ := h.blk
  exact (Array.getElem?_eq_some_iff.1 hb).1

theorem ProgAt.turn {W W' : World} {F F' G G' : Nat → Prop} {b n : Nat} {bg : Nat → Nat} {tk : Nat → Bool} (h : ProgAt W F G b n bg tk) (hs : W.heap.size ≤ W'.heap.size) (hb : ∀ k, F k → k < W.heap.size → W'.heap[k]? = W.heap[k]? ∧ F' k)
    (hg : ∀ k, G k → k < W.heap.size → W'.heap[k]? = W.heap[k]? ∧ G' k) : ProgAt W' F' G' b n bg tk := by
  have e := hb b h.imm h.lt
  obtain ⟨arr, h1, h2⟩ := h.blk
  obtain ⟨cp, h3, h4⟩ := h.places
  obtain ⟨g, c, h5, h6, h7, h8⟩ := h.lay
  have e2 := hg g h8 h7.1
  exact ⟨e.2, ⟨arr, e.1.trans h1, h2⟩, ⟨cp, h3.kept hs e.1, h4⟩, ⟨g, c, (World.cell?_of_block (a := ⟨b, _, none⟩) e.1).trans h5, h6, h7.turn hs e2.1, e2.2⟩,
    h.tabs.turn (World.cell?_of_block (a := ⟨b, 61, none⟩) e.1) (fun k hk hl _ => hb k hk hl) ⟨arr, h1⟩⟩

theorem ProgAt.below {W W' : World} {F G : Nat → Prop} {b n : Nat} {bg : Nat → Nat} {tk : Nat → Bool} (h : ProgAt W F G b n bg tk) (hb : Below W.heap.size W W') : ProgAt W' F G b n bg tk :=
  h.turn hb.size (fun k hk hl => ⟨hb.block k hl, hk⟩) (fun k hk hl => ⟨hb.block k hl, hk⟩)

theorem eql86_some (bm : Nat) (w : World) : (binOp .eql 109 (.map (some bm)) (.map none)).run Tryz.prog w = .ok (.bool false) w := by kernel_rfl
theorem eql86_none (w : World) : (binOp .eql 109 (.map none) (.map none)).run Tryz.prog w = .ok (.bool true) w := by kernel_rfl

/-- How an entity comes into the table of those without components. -/
def EnterEnds (w : World) (F : Nat → Prop) (b : Nat) (ents : List (Int × Int)) (p l : Int) (e : Ending) (w' : World) : Prop :=
  e = .returned (.tuple #[]) ∧ Turns w w' F ∧ (∀ o, o ≠ 61 → w'.cell? ⟨b, o, none⟩ = w.cell? ⟨b, o, none⟩) ∧ (∃ arr, w'.heap[b]? = some (.cells arr 111 (0, 0)) ∧ arr.size = 62) ∧ TablesAt w' (grow F w w') b (setIn ents (ahead ents p) [(p, l)])

theorem tab_apart {W : World} {F : Nat → Prop} {tb b : Nat} {ents : List (Int × Int)} {arr : Array Value} (h : TabAt W F tb ents) (hb : W.heap[b]? = some (.cells arr 111 (0, 0))) : TabAt W (fun k => F k ∧ k ≠ b ∧ ∃ cs t fz, W.heap[k]? = some (.cells cs t fz)) tb ents := by
  have hne : ∀ k t (cs : Array Value) fz, W.heap[k]? = some (.cells cs t fz) → t ≠ 111 → k ≠ b := fun k t cs fz hk ht e => by subst e; rw [hb] at hk; simp at hk; exact ht hk.2.1.symm
  obtain ⟨i1, v, i2, i3, i4⟩ := h
  refine ⟨⟨i1, hne tb 204 _ _ i2 (by decide), _, _, _, i2⟩, v, i2, i3, fun k hk => ⟨⟨(i4 k hk).1, ?_⟩, (i4 k hk).2⟩⟩
  rcases i3.2 with ⟨j1, _⟩ | ⟨g, cap, cur, j1, _, j2, _⟩
  · rw [j1] at hk; cases hk
  · rw [j1] at hk; simp [Value.ownBlock] at hk; subst hk; exact ⟨hne g 46 _ _ j2 (by decide), _, _, _, j2⟩

/-- The table is there: what its Enter leaves is what enter leaves. -/
theorem enter_ends {F : Nat → Prop} {b bm tb : Nat} {ents : List (Int × Int)} {p l : Int} {w W1 w' : World} {arr : Array Value} (_hF : F b) (hb1 : W1.heap[b]? = some (.cells arr 111 (0, 0))) (hbs : arr.size = 62) (ht1 : Turns w W1 F) (hc : ∀ o, o ≠ 61 → W1.cell? ⟨b, o, none⟩ = w.cell? ⟨b, o, none⟩) (h61 : W1.cell? ⟨b, 61, none⟩ = some (.map (some bm))) (hbm : grow F w W1 bm) (hM : MapAt W1 bm (some tb))
    (hl : b < w.heap.size)
    (ht : Turns W1 w' (fun k => grow F w W1 k ∧ k ≠ b ∧ ∃ cs t fz, W1.heap[k]? = some (.cells cs t fz))) (hT : TabAt w' (grow (fun k => grow F w W1 k ∧ k ≠ b ∧ ∃ cs t fz, W1.heap[k]? = some (.cells cs t fz)) W1 w') tb (setIn ents (ahead ents p) [(p, l)])) :
    EnterEnds w F b ents p l (.returned (.tuple #[])) w' := by
  have hbl : b < W1.heap.size := Nat.lt_of_lt_of_le hl ht1.size
  have eb : w'.heap[b]? = W1.heap[b]? := ht.block b hbl (fun h => h.2.1 rfl)
  have em : w'.heap[bm]? = W1.heap[bm]? := ht.block bm hM.lt (fun h => by
    obtain ⟨_, _, cs, t, fz, hh⟩ := h
    obtain ⟨es, clock, h2, _⟩ := hM
    rw [h2] at hh; cases hh)
  have hg : ∀ k, grow F w W1 k → grow F w w' k := fun k hk => by
    rcases hk with h | h
    · exact Or.inl h
    · exact Or.inr ⟨h.1, Nat.lt_of_lt_of_le h.2 ht.size⟩
  refine ⟨rfl, ?_, fun o ho => (World.cell?_of_block (a := ⟨b, o, none⟩) eb).trans (hc o ho), ⟨arr, eb.trans hb1, hbs⟩, Or.inr ⟨bm, (World.cell?_of_block (a := ⟨b, 61, none⟩) eb).trans h61, hg bm hbm, Or.inr ⟨tb, hM.turn em, hT.turn fun k hk hkl => ⟨rfl, ?_⟩⟩⟩⟩
  · refine ht1.trans ⟨ht.os, ht.tape, ht.output, ht.size, fun k hk hn => ht.block k hk (fun h => hn h.1)⟩
  · rcases hk with h | h
    · exact hg k h.1
    · exact Or.inr ⟨Nat.le_trans ht1.size h.1, h.2⟩

set_option maxHeartbeats 4000000 in
set_option maxRecDepth 100000 in
theorem enter_C {F : Nat → Prop} (b bm tb : Nat) (ents : List (Int × Int)) (p l : Int) (w : World) (arr : Array Value) (hF : F b) (hb0 : w.heap[b]? = some (.cells arr 111 (0, 0))) (hbs : arr.size = 62) (h61 : w.cell? ⟨b, 61, none⟩ = some (.map (some bm))) (hbm : F bm) (hM : MapAt w bm (some tb)) (hT : TabAt w F tb ents)
    (hl : ents.length ≤ 100) (hsort : ents.Pairwise fun a b => a.1 < b.1) :
    Calls Tryz.prog 121 #[.pointer (some ⟨b, 0, none⟩), .agg #[.int .i64 p, .int .i64 l], .int .u64 0] w (EnterEnds w F b ents p l) := by
  have hlt : b < w.heap.size := (Array.getElem?_eq_some_iff.1 hb0).1
  have hA : Below w.heap.size w (w.alloc (.cells #[.int .i64 p, .int .i64 l] 46)) := (Below.refl _ _).alloc (Nat.le_refl _) _
  have hM1 : MapAt (w.alloc (.cells #[.int .i64 p, .int .i64 l] 46)) bm (some tb) := hM.turn (hA.block bm hM.lt)
  have hT1 := (tab_apart hT hb0).below hA
  have hlook0 : (Instr.lookup 109 (.map (some bm)) (.int .u64 0) false).run Tryz.prog (w.alloc (.cells #[.int .i64 p, .int .i64 l] 46)) = .ok (.pointer (some ⟨tb, 0, none⟩)) (w.alloc (.cells #[.int .i64 p, .int .i64 l] 46)) := hM1.look
  have hlook1 : (Instr.lookup 109 (.map (some bm)) (.int .u64 0) false).run Tryz.prog (w.alloc (.cells #[.int .i64 p, .int .i64 l] 46)).drew = .ok (.pointer (some ⟨tb, 0, none⟩)) (w.alloc (.cells #[.int .i64 p, .int .i64 l] 46)).drew := (MapAt.turn (W' := (w.alloc (.cells #[.int .i64 p, .int .i64 l] 46)).drew) hM1 rfl).look
  have HE : Hid (∀ w', Turns (w.alloc (.cells #[.int .i64 p, .int .i64 l] 46)) w' (fun k => F k ∧ k ≠ b ∧ ∃ cs t fz, w.heap[k]? = some (.cells cs t fz)) ∧ TabAt w' (grow (fun k => F k ∧ k ≠ b ∧ ∃ cs t fz, w.heap[k]? = some (.cells cs t fz)) (w.alloc (.cells #[.int .i64 p, .int .i64 l] 46)) w') tb (setIn ents (ahead ents p) [(p, l)]) → EnterEnds w F b ents p l (.returned (.tuple #[])) w') := by
    intro w' ⟨t1, t2⟩
    have hsub : ∀ k, (F k ∧ k ≠ b ∧ ∃ cs t fz, w.heap[k]? = some (.cells cs t fz)) → (grow F w (w.alloc (.cells #[.int .i64 p, .int .i64 l] 46)) k ∧ k ≠ b ∧ ∃ cs t fz, (w.alloc (.cells #[.int .i64 p, .int .i64 l] 46)).heap[k]? = some (.cells cs t fz)) := fun k ⟨a1, a2, cs, t, fz, a3⟩ => ⟨Or.inl a1, a2, cs, t, fz, (hA.block k (Array.getElem?_eq_some_iff.1 a3).1).trans a3⟩
    refine enter_ends (W1 := w.alloc (.cells #[.int .i64 p, .int .i64 l] 46)) (bm := bm) (tb := tb) (arr := arr) hF ((hA.block b hlt).trans hb0) hbs (Turns.ofBelow F hA) (fun o _ => hA.cell (p := ⟨b, o, none⟩) hlt) ((hA.cell (p := ⟨b, 61, none⟩) hlt).trans h61) (Or.inl hbm) hM1 hlt
      ⟨t1.os, t1.tape, t1.output, t1.size, fun k hk hn => t1.block k hk (fun h => hn (hsub k h))⟩ (t2.turn fun k hk _ => ⟨rfl, hk.imp (hsub k) id⟩)
  have HT1 : Hid (TabAt (w.alloc (.cells #[.int .i64 p, .int .i64 l] 46)) (fun k => F k ∧ k ≠ b ∧ ∃ cs t fz, w.heap[k]? = some (.cells cs t fz)) tb ents) := hT1
  have HO : Hid (ents.Pairwise fun a b => a.1 < b.1) := hsort
  have HA : Hid _ := hA
  have HB0 : Hid (w.heap[b]? = some (.cells arr 111 (0, 0))) := hb0
  clear hM1 hT1 hM hT hsort hA hb0
  go_enter Tryz.func121, Tryz.ntmps121
  have hq := eql86_some bm
  go_wp2_with fail
  go_region_with (go_at_call 190; refine (enter_tab tb ents p l _ (HT1.out.below (Below.refl _ _).drew) hl HO.out).mono ?_; rintro e w2 ⟨rfl, ht2, hT2⟩)
  all_goals go_end0
  all_goals exact HE.out _ ⟨⟨ht2.os, ht2.tape, ht2.output, ht2.size, ht2.block⟩, hT2⟩

end Go.Proofs.YthkbeaffkcfgiabGreatDoor
