import Derived.Test.YthkbeaffkcfgiabGreatDoorAlive
import Derived.Deep.RegionHeld3
namespace Go.Proofs.YthkbeaffkcfgiabGreatDoor
open Go.RowKit

set_option maxHeartbeats 800000 in
theorem alive_at (b : Nat) (i : Nat) (l : Int) (bg : Nat → Nat) (tk : Nat → Bool) (cp : Nat → Nat) (w : World) (hi : i < 20) (hp : PlacesAt w b bg tk cp) :
    Calls Tryz.prog 28 #[.pointer (some ⟨b, 0, none⟩), .agg #[.int .i64 ((i : Int) + 1), .int .i64 l]] w fun e w' => e = .returned (.bool (tk i && ((bg i : Int) == l))) ∧ Below w.heap.size w w' := by
  have HP : Hid (PlacesAt w b bg tk cp) := hp
  clear hp
  have hB0 : Hid (Below w.heap.size w (w.alloc (.cells #[.int .i64 ((i : Int) + 1), .int .i64 l] 46))) := (Below.refl _ _).alloc (Nat.le_refl _) _
  have KS : Hid (∀ w' : World, Below (w.heap.size + 1) (w.alloc (.cells #[.int .i64 ((i : Int) + 1), .int .i64 l] 46)) w' → w'.cell? ⟨w.heap.size, 0, none⟩ = some (.int .i64 ((i : Int) + 1)) ∧ w'.cell? ⟨w.heap.size, 1, none⟩ = some (.int .i64 l)) := fun w' hb =>
    ⟨(hb.cell (p := ⟨w.heap.size, 0, none⟩) (by simp)).trans (by simp), (hb.cell (p := ⟨w.heap.size, 1, none⟩) (by simp)).trans (by simp)⟩
  go_enter Tryz.func28, Tryz.ntmps28
  go_wp2
  go_region_held3 (fun w' => w'.cell? ⟨w.heap.size, 0, none⟩ = some (.int .i64 ((i : Int) + 1)) ∧ w'.cell? ⟨w.heap.size, 1, none⟩ = some (.int .i64 l)) ((refine KS.out _ ?_; first | exact (Below.refl _ _).drew | exact HB1.out)) (first
    | (go_at_call 59; refine (placeOf_any b i _ _ hi).mono ?_; rintro e w1 ⟨rfl, hb1⟩; have HB1 : Hid (Below (w.heap.size + 1) (w.alloc (.cells #[.int .i64 ((i : Int) + 1), .int .i64 l] 46)) w1) := ⟨hb1.os, hb1.tape, hb1.output, hb1.size, fun k hk => hb1.block k (by simpa using hk)⟩; clear hb1)
    | (go_at_call 63; refine (hosts_any b i l bg tk cp _ hi (HP.out.below (hB0.out.trans (HB1.out.mono (by omega))))).mono ?_; rintro e w2 ⟨rfl, rfl⟩))
  go_wp2_with fail
  go_ret
  exact ⟨rfl, hB0.out.trans (HB1.out.mono (by omega))⟩

end Go.Proofs.YthkbeaffkcfgiabGreatDoor
