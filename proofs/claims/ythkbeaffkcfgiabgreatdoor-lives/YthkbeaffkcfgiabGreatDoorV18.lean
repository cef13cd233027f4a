import Derived.Test.YthkbeaffkcfgiabGreatDoorV16
set_option linter.unusedSimpArgs false
set_option linter.unusedVariables false
namespace Go.Proofs.YthkbeaffkcfgiabGreatDoor
open Go.RowKit

/-- The keep's schema, in its bytes. -/
def schemaB : List UInt8 := [112, 111, 115, 32, 120, 58, 105, 110, 116, 32, 121, 58, 105, 110, 116, 10, 110, 97, 109, 101, 32, 115, 58, 116, 101, 120, 116, 10, 108, 105, 110, 107, 32, 116, 111, 58, 114, 101, 102, 32, 110, 101, 120, 116, 58, 114, 101, 102, 10, 102, 108, 97, 103, 32, 111, 110, 58, 98, 111, 111, 108, 10, 98, 97, 103, 32, 108, 58, 108, 105, 115, 116, 10, 109, 97, 114, 107, 10]

theorem schemaB_ok : (schemaL schemaB).isSome = true := by decide +kernel
theorem schemaB_size : schemaB.length ≤ 1000000000 := by decide +kernel

set_option maxHeartbeats 1600000 in
theorem begin_ok (m : Int) (w : World) (hm : w.cell? ⟨3, 0, none⟩ = some (.int .i64 m)) :
    Calls Tryz.prog 20 #[] w fun e w' => ∃ c b n, e = .returned (.tuple #[.pointer (some ⟨c, 0, none⟩), .bool true]) ∧ Below w.heap.size w w' ∧ w.heap.size ≤ b ∧ b < c ∧ c < w'.heap.size ∧ w'.cell? ⟨c, 0, none⟩ = some (.pointer (some ⟨b, 0, none⟩)) ∧
      ProgAt w' (fun k => k = b) (fun k => w.heap.size ≤ k ∧ k < c ∧ k ≠ b) b n (fun _ => 0) (fun _ => false) := by
  have HN : Hid (Calls Tryz.prog 34 #[.string ⟨#[112, 111, 115, 32, 120, 58, 105, 110, 116, 32, 121, 58, 105, 110, 116, 10, 110, 97, 109, 101, 32, 115, 58, 116, 101, 120, 116, 10, 108, 105, 110, 107, 32, 116, 111, 58, 114, 101, 102, 32, 110, 101, 120, 116, 58, 114, 101, 102, 10, 102, 108, 97, 103, 32, 111, 110, 58, 98, 111, 111, 108, 10, 98, 97, 103, 32, 108, 58, 108, 105, 115, 116, 10, 109, 97, 114, 107, 10]⟩] w fun e w' => NewDone w schemaB e w' ∧ Below w.heap.size w w') := new_any schemaB m w schemaB_size hm
  clear hm
  go_enter Tryz.func20, Tryz.ntmps20
  go_wp2_with fail
  refine Calls.mono HN.out ?_
  rintro e w1 ⟨hd, hb⟩
  rcases hd with ⟨cs, _, b, n, rfl, hwb, hbs, hp⟩ | ⟨h0, _⟩
  · have HB : Hid (Below w.heap.size w w1) := hb
    have HP : Hid (ProgAt w1 (fun k => k = b) (fun k => w.heap.size ≤ k ∧ k < w1.heap.size ∧ k ≠ b) b n (fun _ => 0) (fun _ => false)) := hp
    clear hb hp
    go_wp2
    go_ret2
    refine ⟨w1.heap.size, b, n, rfl, HB.out.alloc HB.out.size _, hwb, hbs, by simp, by simp, HP.out.below ((Below.refl _ _).alloc (Nat.le_refl _) _)⟩
  · have := schemaB_ok
    rw [h0] at this
    cases this

end Go.Proofs.YthkbeaffkcfgiabGreatDoor
