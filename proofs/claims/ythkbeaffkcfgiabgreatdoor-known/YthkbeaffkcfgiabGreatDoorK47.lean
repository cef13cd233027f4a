import Derived.Test.YthkbeaffkcfgiabGreatDoorK45
set_option linter.unusedSimpArgs false
set_option linter.unusedVariables false
namespace Go.Proofs.YthkbeaffkcfgiabGreatDoor
open Go.RowKit

def longL (q : Nat) : List UInt8 := 97 :: (List.range q).map fun _ => 32
theorem longL_succ (q : Nat) : longL (q + 1) = longL q ++ [32] := by unfold longL; rw [List.range_succ, List.map_append]; simp
theorem longL_len (q : Nat) : (longL q).length = 1 + q := by simp [longL]; omega
def schCells : List Value := schK.map fun x => .string (mk x.1)
def schOks : List Value := schK.map fun x => .bool x.2
set_option maxHeartbeats 1600000 in
set_option maxRecDepth 20000 in
/-- schemas. -/
theorem schemas_any (w : World) : Calls Tryz.prog 30 #[] w fun e w' => ∃ b c, e = .returned (.tuple #[.slice (some ⟨b, 0, none⟩) 31 31, .slice (some ⟨c, 0, none⟩) 31 31]) ∧ w'.heap[b]? = some (.cells schCells.toArray 9 (0, 0)) ∧ w'.heap[c]? = some (.cells schOks.toArray 4 (0, 0)) ∧ Below w.heap.size w w' := by
  go_enter Tryz.func30, Tryz.ntmps30
  go_wp2_with fail
  go_loopw [2] (fun x wr => ∃ (q : Nat) (s : ByteArray), q ≤ 398 ∧ x = .string s ∧ s.size = 1 + q ∧ Hid (s = mk (longL q)) ∧ wr = w) (fun x _ => 399 - (match x with | .string s => s.size | _ => 0))
  case atStart => exact ⟨0, ⟨#[97]⟩, by omega, rfl, rfl, rfl, rfl⟩
  case round =>
    obtain ⟨q, s, hq, rfl, hsz, HS, rfl⟩ := hrel
    by_cases hlt : q < 398
    · have HE : Hid (s ++ ⟨#[32]⟩ = mk (longL (q + 1))) := by show _ = _; rw [longL_succ, ← mk_append, ← HS.out]; rfl
      have hsz2 : (s ++ (⟨#[32]⟩ : ByteArray)).size = 1 + (q + 1) := by rw [HE.out, size_mk, longL_len]
      go_wp2_with fail
      exact ⟨⟨q + 1, _, by omega, rfl, hsz2, HE, by first | rfl | trivial⟩, by simp only [hsz2, hsz]; omega⟩
    · obtain rfl : q = 398 := by omega
      have HE1 : Hid (s ++ ⟨#[10]⟩ = mk (longL 398 ++ [10])) := by show _ = _; rw [← mk_append, ← HS.out]; rfl
      go_wp2_with fail
      go_ret2
      rw [HE1.out]
      refine ⟨wr.heap.size, wr.heap.size + 1, rfl, ?_, ?_, ((Below.refl _ _).alloc (Nat.le_refl _) _).alloc (by simp) _⟩
      · rw [Below.heap_alloc _ _ _ (by simp)]
        exact heap_alloc_at rfl _
      · exact heap_alloc_at (by simp) _
end Go.Proofs.YthkbeaffkcfgiabGreatDoor
