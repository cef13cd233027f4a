import Derived.Test.YtknfcmfnnjgkdaaGreatDoorAlive
namespace Go.Proofs.YtknfcmfnnjgkdaaGreatDoor
open Go.RowKit

/-- May no life begin at place j? -/
def shutAt (bg : Nat → Nat) (tk : Nat → Bool) (j : Nat) : Prop := tk j = true ∨ 3 ≤ bg j

theorem free_shut (b o : Nat) (n : Nat) (t : Bool) (w : World) (h0 : w.cell? ⟨b, o, none⟩ = some (.int .i64 n)) (h1 : w.cell? ⟨b, o + 1, none⟩ = some (.bool t)) (hs : t = true ∨ 3 ≤ n) :
    Calls Tryz.prog 44 #[.pointer (some ⟨b, o, none⟩)] w fun e w' => e = .returned (.bool false) ∧ w' = w := by
  cases t with
  | true => exact free_taken b o w h1
  | false =>
    have := free_empty b o n w h0 h1
    have hd : decide ((n : Int) < 3) = false := by
      rcases hs with hs | hs
      · cases hs
      · simp; omega
    rw [hd] at this
    exact this

theorem free_open (b o : Nat) (n : Nat) (w : World) (h0 : w.cell? ⟨b, o, none⟩ = some (.int .i64 n)) (h1 : w.cell? ⟨b, o + 1, none⟩ = some (.bool false)) (hs : n < 3) :
    Calls Tryz.prog 44 #[.pointer (some ⟨b, o, none⟩)] w fun e w' => e = .returned (.bool true) ∧ w' = w := by
  have := free_empty b o n w h0 h1
  have hd : decide ((n : Int) < 3) = true := by simp; omega
  rw [hd] at this
  exact this

set_option maxHeartbeats 800000 in
theorem spawn_full (b : Nat) (bg : Nat → Nat) (tk : Nat → Bool) (w : World) (hp : PlacesAt w b bg tk) (hf : ∀ j, j < 20 → shutAt bg tk j) :
    Calls Tryz.prog 24 #[.pointer (some ⟨b, 0, none⟩)] w fun e w' => e = .returned (.tuple #[.agg #[.int .i64 0, .int .i64 0], .int .i64 2]) ∧ Below w.heap.size w w' := by
  have HP : Hid (∀ o : Obj, PlacesAt (w.alloc o) b bg tk) := fun o => hp.below ((Below.refl _ _).alloc (Nat.le_refl _) _)
  have HF : Hid (∀ j, j < 20 → shutAt bg tk j) := hf
  have hb := hp.1
  clear hp hf
  go_enter Tryz.func24, Tryz.ntmps24
  go_wp2
  go_loop [9] (fun t => ∃ k : Nat, k ≤ 20 ∧ t = .int .i64 k) (fun t => 20 - (intOf t).toNat)
  case atStart => exact ⟨0, by omega, rfl⟩
  case round =>
    obtain ⟨k, hk, rfl⟩ := hrel
    by_cases hlt : k < 20
    · go_wp2_with (go_at_call 44; refine (free_shut b (1 + k * 2) (bg k) (tk k) _ ((HP.out _).2 k hlt).1 ((HP.out _).2 k hlt).2.1 (HF.out k hlt)).mono ?_; rintro e w' ⟨rfl, rfl⟩)
      go_round
      case rel => exact ⟨k + 1, by omega, by go_num⟩
      case measure => simp [intOf]; omega
    · go_wp2
      exact bodyPost_ret (v := .tuple #[.agg #[.int .i64 0, .int .i64 0], .int .i64 2]) (by simp [results, Tryz.results24, go_sem]) rfl ⟨rfl, (Below.refl _ _).alloc (Nat.le_refl _) _⟩

set_option maxHeartbeats 800000 in
theorem spawn_at (b : Nat) (i : Nat) (bg : Nat → Nat) (tk : Nat → Bool) (w : World) (hi : i < 20) (hp : PlacesAt w b bg tk) (hf : ∀ j, j < i → shutAt bg tk j) (ht : tk i = false) (hg : bg i < 3) :
    Calls Tryz.prog 24 #[.pointer (some ⟨b, 0, none⟩)] w fun e w' => e = .returned (.tuple #[.agg #[.int .i64 ((i : Int) + 1), .int .i64 ((bg i : Int) + 1)], .int .i64 0]) ∧ w.grownBy w' (some b) ∧ PlacesAt w' b (upd bg i (bg i + 1)) (upd tk i true) := by
  have HP : Hid (∀ o : Obj, PlacesAt (w.alloc o) b bg tk) := fun o => hp.below ((Below.refl _ _).alloc (Nat.le_refl _) _)
  have HP0 : Hid (PlacesAt w b bg tk) := hp
  have HF : Hid (∀ j, j < i → shutAt bg tk j) := hf
  have HT : Hid (tk i = false) := ht
  have hb := hp.1
  clear hp hf ht
  go_enter Tryz.func24, Tryz.ntmps24
  go_wp2
  go_loop [9] (fun t => ∃ k : Nat, k ≤ i ∧ t = .int .i64 k) (fun t => 20 - (intOf t).toNat)
  case atStart => exact ⟨0, by omega, rfl⟩
  case round =>
    obtain ⟨k, hk, rfl⟩ := hrel
    by_cases hlt : k < i
    · have hk20 : k < 20 := by omega
      go_wp2_with (go_at_call 44; refine (free_shut b (1 + k * 2) (bg k) (tk k) _ ((HP.out _).2 k hk20).1 ((HP.out _).2 k hk20).2.1 (HF.out k hlt)).mono ?_; rintro e w' ⟨rfl, rfl⟩)
      go_round
      case rel => exact ⟨k + 1, by omega, by go_num⟩
      case measure => simp [intOf]; omega
    · obtain rfl : k = i := by omega
      go_wp2_with (first | (go_at_call 44; refine (free_open b (1 + k * 2) (bg k) _ ((HP.out _).2 k hi).1 (by have hh := ((HP.out (.cells #[.int .i64 0, .int .i64 0] 48)).2 k hi).2.1; rw [HT.out] at hh; exact hh) hg).mono ?_; rintro e w' ⟨rfl, rfl⟩) | (go_at_call 45; refine (begin_any b (1 + k * 2) (bg k) false _ (by omega) ((HP.out _).2 k hi).1 (by have hh := ((HP.out (.cells #[.int .i64 0, .int .i64 0] 48)).2 k hi).2.1; rw [HT.out] at hh; exact hh) ((HP.out _).2 k hi).2.2.1 ((HP.out _).2 k hi).2.2.2).mono ?_; rintro e w' ⟨rfl, rfl⟩))
      refine bodyPost_ret (v := .tuple #[.agg #[.int .i64 ((k : Int) + 1), .int .i64 ((bg k : Int) + 1)], .int .i64 0]) (by simp [results, Tryz.results24, go_sem]) rfl ⟨rfl, ?_, ?_⟩
      · exact grownBy_tr (grownBy_tr (grownBy_set _ _ _ _) (grownBy_set _ _ _ _)) (World.grownBy_alloc _ _ _)
      · exact (HP0.out.begun k hi).below ((Below.refl _ _).alloc (Nat.le_refl _) _)

end Go.Proofs.YtknfcmfnnjgkdaaGreatDoor
