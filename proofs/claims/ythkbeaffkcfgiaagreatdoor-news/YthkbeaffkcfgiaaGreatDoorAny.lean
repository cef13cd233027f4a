import Derived.Test.YthkbeaffkcfgiaaGreatDoorDespawn
namespace Go.Proofs.YthkbeaffkcfgiaaGreatDoor
open Go.RowKit

/-- An entity lives. -/
def Lv (bg : Nat → Nat) (tk : Nat → Bool) (hp hl : Int) : Prop := ∃ i, i < 20 ∧ tk i = true ∧ hp = (i : Int) + 1 ∧ hl = (bg i : Int)

/-- How Alive ends. -/
def AliveEnds (bg : Nat → Nat) (tk : Nat → Bool) (hp hl : Int) (e : Ending) : Prop := ∃ r : Bool, e = .returned (.bool r) ∧ (r = true ↔ Lv bg tk hp hl)

set_option maxHeartbeats 800000 in
theorem alive_any (b : Nat) (bg : Nat → Nat) (tk : Nat → Bool) (cp : Nat → Nat) (hp hl : Int) (w : World) (hP : PlacesAt w b bg tk cp) :
    Calls Tryz.prog 28 #[.pointer (some ⟨b, 0, none⟩), .agg #[.int .i64 hp, .int .i64 hl]] w fun e w' => AliveEnds bg tk hp hl e ∧ Below w.heap.size w w' := by
  have HP : Hid (PlacesAt w b bg tk cp) := hP
  have hb := hP.1
  clear hP
  by_cases h1 : hp < 1
  · have HN : Hid (¬ Lv bg tk hp hl) := by
      rintro ⟨i, _, _, h, _⟩; omega
    go_enter Tryz.func28, Tryz.ntmps28
    go_wp2
    go_ret
    exact ⟨⟨false, rfl, by simp [HN.out]⟩, (Below.refl _ _).alloc (Nat.le_refl _) _⟩
  · by_cases h2 : 20 < hp
    · have HN : Hid (¬ Lv bg tk hp hl) := by
        rintro ⟨i, _, _, h, _⟩; omega
      go_enter Tryz.func28, Tryz.ntmps28
      go_wp2
      go_ret
      exact ⟨⟨false, rfl, by simp [HN.out]⟩, (Below.refl _ _).alloc (Nat.le_refl _) _⟩
    · obtain ⟨i, hi, rfl⟩ : ∃ i : Nat, i < 20 ∧ hp = (i : Int) + 1 := ⟨(hp - 1).toNat, by omega, by omega⟩
      refine (alive_at b i hl bg tk cp w hi HP.out).mono ?_
      rintro e w' ⟨rfl, hbl⟩
      refine ⟨⟨_, rfl, ?_⟩, hbl⟩
      rw [Bool.and_eq_true, beq_iff_eq]
      constructor
      · rintro ⟨h, h'⟩; exact ⟨i, hi, h, rfl, h'.symm⟩
      · rintro ⟨j, _, h, h', h''⟩
        obtain rfl : j = i := by omega
        exact ⟨h, h''.symm⟩

set_option maxHeartbeats 800000 in
theorem despawn_no (b : Nat) (bg : Nat → Nat) (tk : Nat → Bool) (cp : Nat → Nat) (hp hl : Int) (w : World) (hP : PlacesAt w b bg tk cp) (hN : ¬ Lv bg tk hp hl) :
    Calls Tryz.prog 26 #[.pointer (some ⟨b, 0, none⟩), .agg #[.int .i64 hp, .int .i64 hl]] w fun e w' => e = .returned (.int .i64 3) ∧ Below w.heap.size w w' := by
  have HP : Hid (PlacesAt w b bg tk cp) := hP
  have HN : Hid (¬ Lv bg tk hp hl) := hN
  clear hP hN
  go_enter Tryz.func26, Tryz.ntmps26
  go_wp2_with fail
  refine (alive_any b bg tk cp hp hl _ (HP.out.below ((Below.refl _ _).alloc (Nat.le_refl _) _))).mono ?_
  rintro e w1 ⟨⟨r, rfl, hr⟩, hb1⟩
  have HB : Hid (Below w.heap.size w w1) := ((Below.refl _ _).alloc (Nat.le_refl _) _).trans (hb1.mono (by simp))
  cases r with
  | true => exact absurd (hr.1 rfl) HN.out
  | false =>
    clear hb1 hr
    go_wp2_with fail
    go_ret
    exact ⟨rfl, HB.out⟩

end Go.Proofs.YthkbeaffkcfgiaaGreatDoor
