import Derived.Test.YtknfcmfnnjgkdaaGreatDoorSpawn
namespace Go.Proofs.YtknfcmfnnjgkdaaGreatDoor
open Go.RowKit

/-- An entity lives. -/
def Lv (bg : Nat → Nat) (tk : Nat → Bool) (hp hl : Int) : Prop := ∃ i, i < 20 ∧ tk i = true ∧ hp = (i : Int) + 1 ∧ hl = (bg i : Int)

set_option maxHeartbeats 400000 in
theorem hosts_any (b o : Nat) (n l : Int) (t : Bool) (w : World) (h0 : w.cell? ⟨b, o, none⟩ = some (.int .i64 n)) (h1 : w.cell? ⟨b, o + 1, none⟩ = some (.bool t)) :
    Calls Tryz.prog 47 #[.pointer (some ⟨b, o, none⟩), .int .i64 l] w fun e w' => e = .returned (.bool (t && (n == l))) ∧ w' = w := by
  cases t with
  | false =>
    go_enter Tryz.func47, Tryz.ntmps47
    go_wp2
    go_ret
    exact ⟨rfl, rfl⟩
  | true =>
    go_enter Tryz.func47, Tryz.ntmps47
    go_wp2
    go_ret
    exact ⟨rfl, rfl⟩

/-- How Alive ends. -/
def AliveEnds (bg : Nat → Nat) (tk : Nat → Bool) (hp hl : Int) (e : Ending) : Prop := ∃ r : Bool, e = .returned (.bool r) ∧ (r = true ↔ Lv bg tk hp hl)

set_option maxHeartbeats 800000 in
theorem alive_any (b : Nat) (bg : Nat → Nat) (tk : Nat → Bool) (hp hl : Int) (w : World) (hP : PlacesAt w b bg tk) :
    Calls Tryz.prog 28 #[.pointer (some ⟨b, 0, none⟩), .agg #[.int .i64 hp, .int .i64 hl]] w fun e w' => AliveEnds bg tk hp hl e ∧ Below w.heap.size w w' := by
  have HP : Hid (PlacesAt w b bg tk) := hP
  have hb := hP.1
  clear hP
  by_cases h1 : hp < 1
  · have HN : Hid (¬ Lv bg tk hp hl) := by
      rintro ⟨i, _, _, h, _⟩; omega
    go_enter Tryz.func28, Tryz.ntmps28
    go_wp2
    go_ret
    exact ⟨⟨false, rfl, by simp [HN.out]⟩, (Below.refl _ _).alloc (Nat.le_refl _) _⟩
  · by_cases h2 : 20 < hp
    · have HN : Hid (¬ Lv bg tk hp hl) := by
        rintro ⟨i, _, _, h, _⟩; omega
      go_enter Tryz.func28, Tryz.ntmps28
      go_wp2
      go_ret
      exact ⟨⟨false, rfl, by simp [HN.out]⟩, (Below.refl _ _).alloc (Nat.le_refl _) _⟩
    · obtain ⟨i, hi, rfl⟩ : ∃ i : Nat, i < 20 ∧ hp = (i : Int) + 1 := ⟨(hp - 1).toNat, by omega, by omega⟩
      obtain ⟨c0, c1, _, _⟩ := HP.out.2 i hi
      have C0 : Hid (∀ (o : Obj) (x : Nat), ((w.alloc o).drewN x).cell? ⟨b, 1 + i * 2, none⟩ = some (.int .i64 (bg i))) := fun o x => by
        rw [World.cell?_drewN, World.cell?_of_block (a := ⟨b, _, none⟩) (Below.heap_alloc w o b hb)]; exact c0
      have C1 : Hid (∀ (o : Obj) (x : Nat), ((w.alloc o).drewN x).cell? ⟨b, 1 + i * 2 + 1, none⟩ = some (.bool (tk i))) := fun o x => by
        rw [World.cell?_drewN, World.cell?_of_block (a := ⟨b, _, none⟩) (Below.heap_alloc w o b hb)]; exact c1
      have HL : Hid ((tk i && ((bg i : Int) == hl)) = true ↔ Lv bg tk ((i : Int) + 1) hl) := by
        show _ ↔ _
        rw [Bool.and_eq_true, beq_iff_eq]
        constructor
        · rintro ⟨h, h'⟩; exact ⟨i, hi, h, rfl, h'.symm⟩
        · rintro ⟨j, _, h, h', h''⟩
          obtain rfl : j = i := by omega
          exact ⟨h, h''.symm⟩
      clear c0 c1 h1 h2
      go_enter Tryz.func28, Tryz.ntmps28
      go_wp2
      go_quiet ((go_at_call 47; exact Calls.quiet_of_same (hosts_any _ _ _ _ _ _ (C0.out _ _) (C1.out _ _))))
      go_wp2
      go_ret
      exact ⟨⟨_, rfl, HL.out⟩, below_drewN ((Below.refl _ _).alloc (Nat.le_refl _) _) _⟩

set_option maxHeartbeats 800000 in
theorem despawn_no (b : Nat) (bg : Nat → Nat) (tk : Nat → Bool) (hp hl : Int) (w : World) (hP : PlacesAt w b bg tk) (hN : ¬ Lv bg tk hp hl) :
    Calls Tryz.prog 26 #[.pointer (some ⟨b, 0, none⟩), .agg #[.int .i64 hp, .int .i64 hl]] w fun e w' => e = .returned (.int .i64 3) ∧ Below w.heap.size w w' := by
  have HP : Hid (PlacesAt w b bg tk) := hP
  have HN : Hid (¬ Lv bg tk hp hl) := hN
  clear hP hN
  go_enter Tryz.func26, Tryz.ntmps26
  go_wp2_with fail
  refine (alive_any b bg tk hp hl _ (HP.out.below ((Below.refl _ _).alloc (Nat.le_refl _) _))).mono ?_
  rintro e w1 ⟨⟨r, rfl, hr⟩, hb1⟩
  have HB : Hid (Below w.heap.size w w1) := ((Below.refl _ _).alloc (Nat.le_refl _) _).trans (hb1.mono (by simp))
  cases r with
  | true => exact absurd (hr.1 rfl) HN.out
  | false =>
    clear hb1 hr
    go_wp2_with fail
    go_ret
    exact ⟨rfl, HB.out⟩

end Go.Proofs.YtknfcmfnnjgkdaaGreatDoor
