import Derived.Test.YthkbeaffkcfgiabGreatDoorTabNew
import Derived.Maps.OwnSet
import Derived.Maps.RangeWalk
namespace Go.Proofs.YthkbeaffkcfgiabGreatDoor
open Go.RowKit Go.Maps

/-- How a pointer to a table reads, as an element of the map. -/
def ptrElem : Value → Option (DataW Unit × List MemPlace)
  | .pointer none => some (.nil, [])
  | .pointer (some ⟨n, 0, none⟩) => some (.lit (.int .u64 n), [])
  | _ => none

theorem ptrElem_inv {v : Value} {n : Nat} {ps : List MemPlace} (h : ptrElem v = some (.lit (.int .u64 n), ps)) : v = .pointer (some ⟨n, 0, none⟩) := by
  unfold ptrElem at h
  split at h
  · simp at h
  · simp at h
    have e := Int.ofNat.inj h.1
    rw [e]
  · cases h
theorem ptrElem_nil {v : Value} {ps : List MemPlace} (h : ptrElem v = some (.nil, ps)) : v = .pointer none := by
  unfold ptrElem at h
  split at h
  · rfl
  · simp at h
  · cases h

/-- What the map of tables holds where no entity has a component: the table of none, or nothing. -/
def mapD : Option Nat → DataW Unit
  | none => .map []
  | some tb => .map [(.int .u64 0, .lit (.int .u64 tb))]

/-- The map of tables at block bm. -/
def MapAt (W : World) (bm : Nat) (t : Option Nat) : Prop := W.ownsMap Tryz.prog 105 ptrElem bm 1 (mapD t)

theorem key79 : Keyed Tryz.prog 105 := int_keyed Tryz.underlying105
theorem zero96 (w : World) : (zeroValue 125).run Tryz.prog w = .ok (.pointer none) w := by kernel_rfl
theorem key0 : keyOf Tryz.prog 105 (.int .u64 0) = some (.int .u64 0) := keyOf_int_mk Tryz.underlying105 (by decide)

theorem fewer {W : World} {b n : Nat} {D : DataW Unit} (h : W.ownsMap Tryz.prog 105 ptrElem b n D) : W.ownsMap Tryz.prog 105 ptrElem b (Maps.size D) D := by
  obtain ⟨es, clock, hb, F, hs, rfl⟩ := h
  exact ⟨es, clock, hb, F, by simp [Maps.size, length_sorted], rfl⟩

theorem MapAt.look {W : World} {bm : Nat} {t : Option Nat} (h : MapAt W bm t) : (Instr.lookup 109 (.map (some bm)) (.int .u64 0) false).run Tryz.prog W = .ok (.pointer (t.map fun tb => ⟨tb, 0, none⟩)) W := by
  obtain ⟨v, ps, h1, h2⟩ := h.lookup key79 Tryz.underlying109 (zero96 W) (zd := .nil) (zp := []) rfl key0
  rw [h1]
  cases t with
  | none => rw [ptrElem_nil (ps := ps) h2]; rfl
  | some tb => rw [ptrElem_inv (n := tb) (ps := ps) h2]; rfl

theorem MapAt.put {W : World} {bm : Nat} {t : Option Nat} (h : MapAt W bm t) (tb : Nat) : ∃ W', (Instr.mapUpdate 109 (.map (some bm)) (.int .u64 0) (.pointer (some ⟨tb, 0, none⟩))).run Tryz.prog W = .ok () W' ∧ MapAt W' bm (some tb) ∧ W.mapTurned W' bm := by
  obtain ⟨W', h1, h2, h3⟩ := h.store key79 Tryz.underlying109 (by unfold maxLen; omega) (val := .pointer (some ⟨tb, 0, none⟩)) (d := .lit (.int .u64 tb)) (ps := []) key0 rfl
  have hD : (mapD t).put (.int .u64 0) (.lit (.int .u64 tb)) = mapD (some tb) := by cases t <;> rfl
  rw [hD] at h2
  exact ⟨W', h1, fewer h2, h3⟩

theorem MapAt.drop {W : World} {bm : Nat} {t : Option Nat} (h : MapAt W bm t) (ty : TypeId) : ∃ W', (Builtin.delete_ #[109, 105] ty #[.map (some bm), .int .u64 0]).run Tryz.prog W = .ok (.tuple #[]) W' ∧ MapAt W' bm none ∧ W.mapTurned W' bm := by
  obtain ⟨W', h1, h2, h3⟩ := World.ownsMap.drop h key79 Tryz.underlying109 key0 ty
  have hD : (mapD t).del (.int .u64 0) = mapD none := by cases t <;> rfl
  rw [hD] at h2
  exact ⟨W', h1, (fewer h2).mono (by simp [Maps.size, mapD]), h3⟩

theorem MapAt.lt {W : World} {bm : Nat} {t : Option Nat} (h : MapAt W bm t) : bm < W.heap.size := World.ownsMap.lt h
theorem MapAt.turn {W W' : World} {bm : Nat} {t : Option Nat} (h : MapAt W bm t) (hb : W'.heap[bm]? = W.heap[bm]?) : MapAt W' bm t := by
  obtain ⟨es, clock, h1, r⟩ := h
  exact ⟨es, clock, hb.trans h1, r⟩

end Go.Proofs.YthkbeaffkcfgiabGreatDoor
