import Derived.Test.YthkbeaffkcfgiaaGreatDoorUpTo
import Derived.Test.YthkbeaffkcfgiaaGreatDoorOpen
namespace Go.Proofs.YthkbeaffkcfgiaaGreatDoor
open Go.RowKit

theorem Script.below {w wr : World} {ad : Addr} {ops : List OpV} (h : Script w ad ops) (hb : Below w.heap.size w wr) : Script wr ad ops :=
  ⟨fun hp => Nat.lt_of_lt_of_le (h.lt hp) hb.size, fun j hj => h.keep hb j hj⟩

set_option maxHeartbeats 800000 in
theorem small_nil (w : World) : Calls Tryz.prog 15 #[.slice none 0 0] w fun e w' => e = .returned (.bool true) ∧ w = w' := by
  go_enter Tryz.func15, Tryz.ntmps15
  go_wp2_with fail
  go_loopw [3, 10] (fun v t wr => t = .int .i64 0 ∧ v = .int .i64 0 ∧ w = wr) (fun _ _ _ => 0)
  case atStart => exact ⟨rfl, rfl, rfl⟩
  case round =>
    obtain ⟨rfl, rfl, rfl⟩ := hrel
    go_wp2_with fail
    go_ret
    exact ⟨rfl, rfl⟩

set_option maxHeartbeats 1600000 in
theorem upTo_nil (only : Int) (w : World) : Calls Tryz.prog 16 #[.slice none 0 0, .int .i64 only] w fun e w' => e = .returned (.int .i64 (-1)) ∧ Below w.heap.size w w' := by
  go_enter Tryz.func16, Tryz.ntmps16
  go_wp2_with fail
  go_loopw [12] (fun t wr => t = .int .i64 0 ∧ Hid (Below w.heap.size w wr)) (fun _ _ => 0)
  case atStart => exact ⟨rfl, (Below.refl _ _).alloc (Nat.le_refl _) _⟩
  case round =>
    obtain ⟨rfl, HB⟩ := hrel
    go_wp2_with fail
    go_ret
    exact ⟨rfl, HB.out⟩

end Go.Proofs.YthkbeaffkcfgiaaGreatDoor
