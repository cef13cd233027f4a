import Derived.Test.YthkbeaffkcfgiabGreatDoorK45
set_option linter.unusedSimpArgs false
set_option linter.unusedVariables false
namespace Go.Proofs.YthkbeaffkcfgiabGreatDoor
open Go.RowKit

def e20L (q : Nat) : List UInt8 := [115, 99, 101, 110, 101, 10] ++ (List.range q).flatMap fun _ => [101, 10]
theorem e20L_succ (q : Nat) : e20L (q + 1) = e20L q ++ [101, 10] := by unfold e20L; rw [List.range_succ, List.flatMap_append]; simp
theorem e20L_len (q : Nat) : (e20L q).length = 6 + 2 * q := by
  induction q with
  | zero => rfl
  | succ q ih => rw [e20L_succ, List.length_append, ih]; simp; omega
set_option maxHeartbeats 1600000 in
set_option maxRecDepth 20000 in
/-- scenes. -/
theorem scenes_any (w : World) : Calls Tryz.prog 31 #[] w fun e w' => ∃ b, e = .returned (.slice (some ⟨b, 0, none⟩) 49 49) ∧ w'.heap[b]? = some (.cells (cardCells scnK).toArray 70 (0, 0)) ∧ Below w.heap.size w w' := by
  go_enter Tryz.func31, Tryz.ntmps31
  go_wp2_with fail
  go_loopw [1, 2] (fun x t wr => ∃ (q : Nat) (s : ByteArray), q ≤ 20 ∧ x = .string s ∧ t = .int .i64 q ∧ s.size = 6 + 2 * q ∧ Hid (s = mk (e20L q)) ∧ wr = w) (fun _ t _ => 20 - (intOf t).toNat)
  case atStart => exact ⟨0, ⟨#[115, 99, 101, 110, 101, 10]⟩, by omega, rfl, rfl, rfl, rfl, rfl⟩
  case round =>
    obtain ⟨q, s, hq, rfl, rfl, hsz, HS, rfl⟩ := hrel
    by_cases hlt : q < 20
    · have HE : Hid (s ++ ⟨#[101, 10]⟩ = mk (e20L (q + 1))) := by show _ = _; rw [e20L_succ, ← mk_append, ← HS.out]; rfl
      have hsz2 : (s ++ (⟨#[101, 10]⟩ : ByteArray)).size = 6 + 2 * (q + 1) := by rw [HE.out, size_mk, e20L_len]
      go_wp2_with fail
      exact ⟨⟨q + 1, _, by omega, rfl, by go_num, hsz2, HE, by first | rfl | trivial⟩, by simp [intOf]; omega⟩
    · obtain rfl : q = 20 := by omega
      have HE1 : Hid (s ++ ⟨#[101, 110, 100, 10]⟩ = mk (e20L 20 ++ [101, 110, 100, 10])) := by show _ = _; rw [← mk_append, ← HS.out]; rfl
      have HE2 : Hid (s ++ ⟨#[101, 10, 101, 110, 100, 10]⟩ = mk (e20L 20 ++ [101, 10, 101, 110, 100, 10])) := by show _ = _; rw [← mk_append, ← HS.out]; rfl
      go_wp2_with fail
      go_ret
      rw [HE1.out, HE2.out]
      exact ⟨_, rfl, heap_alloc_at rfl _, (Below.refl _ _).alloc (Nat.le_refl _) _⟩
end Go.Proofs.YthkbeaffkcfgiabGreatDoor
