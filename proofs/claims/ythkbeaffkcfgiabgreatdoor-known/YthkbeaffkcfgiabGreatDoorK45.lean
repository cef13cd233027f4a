import Derived.Test.YthkbeaffkcfgiabGreatDoorK44
set_option linter.unusedSimpArgs false
set_option linter.unusedVariables false
namespace Go.Proofs.YthkbeaffkcfgiabGreatDoor
open Go.RowKit

set_option maxHeartbeats 800000 in
/-- pick, of 110. -/
theorem pick_any (k : Int) (w : World) (h0 : -9223372036854775808 ≤ k) (h1 : k ≤ 9223372036854775807) :
    Calls Tryz.prog 33 #[.int .i64 k, .int .i64 110] w fun e w' => ∃ j : Nat, j < 110 ∧ e = .returned (.int .i64 (j : Int)) ∧ w' = w := by
  by_cases hn : k < 0
  · obtain ⟨y, rfl⟩ : ∃ y : Nat, k = -(y : Int) - 1 := ⟨(-(k + 1)).toNat, by omega⟩
    have w1 : IntKind.i64.wrap (-(y : Int) - 1 + 1) = -(y : Int) := by rw [IntKind.wrap_i64]; omega
    have w2 : IntKind.i64.wrap (y : Int) = (y : Int) := by rw [IntKind.wrap_i64]; omega
    have hd : decide (-(y : Int) - 1 < 0) = true := decide_eq_true hn
    have ht : (y : Int).tmod 110 = ((y % 110 : Nat) : Int) := rfl
    go_enter Tryz.func33, Tryz.ntmps33
    go_wp2_with fail
    go_ret
    refine ⟨y % 110, by omega, ?_, rfl⟩
    first | rfl | simp | (simp; omega)
  · obtain ⟨y, rfl⟩ : ∃ y : Nat, k = (y : Int) := ⟨k.toNat, by omega⟩
    have ht : (y : Int).tmod 110 = ((y % 110 : Nat) : Int) := rfl
    go_enter Tryz.func33, Tryz.ntmps33
    go_wp2_with fail
    go_ret
    refine ⟨y % 110, by omega, ?_, rfl⟩
    first | rfl | simp | (simp; omega)
def cardCells (l : List (List UInt8 × Bool)) : List Value := l.flatMap fun x => [.string (mk x.1), .bool x.2]
set_option maxHeartbeats 1600000 in
set_option maxRecDepth 20000 in
/-- packs. -/
theorem packs_any (w : World) : Calls Tryz.prog 32 #[] w fun e w' => ∃ b, e = .returned (.slice (some ⟨b, 0, none⟩) 30 30) ∧ w'.heap[b]? = some (.cells (cardCells pckK).toArray 70 (0, 0)) ∧ Below w.heap.size w w' := by
  go_enter Tryz.func32, Tryz.ntmps32
  go_wp2_with fail
  go_ret
  exact ⟨_, rfl, heap_alloc_at rfl _, (Below.refl _ _).alloc (Nat.le_refl _) _⟩
end Go.Proofs.YthkbeaffkcfgiabGreatDoor
