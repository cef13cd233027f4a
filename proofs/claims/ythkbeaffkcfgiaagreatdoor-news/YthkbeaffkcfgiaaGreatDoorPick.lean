import Derived.Test.YthkbeaffkcfgiaaGreatDoorSmall
namespace Go.Proofs.YthkbeaffkcfgiaaGreatDoor
open Go.RowKit

/-- How pick ends. -/
def PickEnds (n : Nat) (e : Ending) : Prop := ∃ j : Nat, j < n ∧ e = .returned (.int .i64 (j : Int))

set_option maxHeartbeats 800000 in
theorem pick_any (c : Int) (n : Nat) (w : World) (h0 : 0 < n) (hn : n ≤ 1048577) (h1 : -9223372036854775808 ≤ c) (h2 : c ≤ 9223372036854775807) :
    Calls Tryz.prog 22 #[.int .i64 c, .int .i64 (n : Int)] w fun e w' => PickEnds n e ∧ w = w' := by
  have hn0 : ¬ (n : Int) = 0 := by omega
  by_cases hc : c < 0
  · obtain ⟨d, hd⟩ : ∃ d : Nat, (d : Int) = -(c + 1) := ⟨(-(c + 1)).toNat, by omega⟩
    have hw1 : wrap64 (c + 1) = c + 1 := by simp only [wrap64]; omega
    have hw2 : wrap64 (-(c + 1)) = (d : Int) := by simp only [wrap64]; omega
    have hm : d % n < n := Nat.mod_lt _ h0
    have HD : Hid ((d : Int) = -(c + 1)) := hd
    clear hd
    go_enter Tryz.func22, Tryz.ntmps22
    go_wp2_with fail
    go_ret
    have hv : -((c + 1).tmod (n : Int)) = ((d % n : Nat) : Int) := by
      rw [← Int.neg_tmod, ← HD.out, Int.tmod_eq_emod_of_nonneg (by omega)]; simp
    exact ⟨⟨d % n, hm, congrArg (fun z => Ending.returned (.int .i64 z)) hv⟩, rfl⟩
  · obtain ⟨d, rfl⟩ : ∃ d : Nat, c = (d : Int) := ⟨c.toNat, by omega⟩
    have hm : d % n < n := Nat.mod_lt _ h0
    go_enter Tryz.func22, Tryz.ntmps22
    go_wp2_with fail
    go_ret
    exact ⟨⟨d % n, hm, congrArg (fun z => Ending.returned (.int .i64 z)) (by simp)⟩, rfl⟩

set_option maxHeartbeats 800000 in
theorem stage_one (k : Int) (w : World) (h : k ≤ 4 ∨ k = 15) : Calls Tryz.prog 17 #[.int .i64 k] w fun e w' => e = .returned (.int .i64 1) ∧ w = w' := by
  by_cases h4 : k ≤ 4
  · go_enter Tryz.func17, Tryz.ntmps17
    go_wp2_with fail
    go_ret
    exact ⟨rfl, rfl⟩
  · obtain rfl : k = 15 := by omega
    go_enter Tryz.func17, Tryz.ntmps17
    go_wp2_with fail
    go_ret
    exact ⟨rfl, rfl⟩

/-- How stage ends where a later stage builds the call. -/
def LaterEnds (e : Ending) : Prop := ∃ s : Int, 1 < s ∧ e = .returned (.int .i64 s)

set_option maxHeartbeats 800000 in
theorem stage_more (k : Int) (w : World) (h : ¬ (k ≤ 4 ∨ k = 15)) : Calls Tryz.prog 17 #[.int .i64 k] w fun e w' => LaterEnds e ∧ w = w' := by
  have h4 : ¬ k ≤ 4 := fun e => h (Or.inl e)
  have h15 : (k == 15) = false := by rw [beq_eq_false_iff_ne]; exact fun e => h (Or.inr e)
  clear h
  by_cases h9 : k ≤ 9
  · go_enter Tryz.func17, Tryz.ntmps17
    go_wp2_with fail
    go_ret
    exact ⟨⟨2, by decide, rfl⟩, rfl⟩
  · by_cases h11 : k ≤ 11
    · go_enter Tryz.func17, Tryz.ntmps17
      go_wp2_with fail
      go_ret
      exact ⟨⟨3, by decide, rfl⟩, rfl⟩
    · go_enter Tryz.func17, Tryz.ntmps17
      go_wp2_with fail
      go_ret
      exact ⟨⟨4, by decide, rfl⟩, rfl⟩

set_option maxHeartbeats 800000 in
theorem more_zero (o : OpV) (b0 x m : Nat) (w : World) (h : o.kind ≤ 0) :
    Calls Tryz.prog 41 #[.pointer (some ⟨b0, 0, none⟩), .agg #[.pointer (some ⟨x, 0, none⟩), .pointer (some ⟨m, 0, none⟩)], .agg (opVals o)] w fun e w' => e = .returned (.bool true) ∧ Below w.heap.size w w' := by
  have k9 : (o.kind == 9) = false := by rw [beq_eq_false_iff_ne]; omega
  have k10 : (o.kind == 10) = false := by rw [beq_eq_false_iff_ne]; omega
  have k11 : (o.kind == 11) = false := by rw [beq_eq_false_iff_ne]; omega
  have k12 : (o.kind == 12) = false := by rw [beq_eq_false_iff_ne]; omega
  have k13 : (o.kind == 13) = false := by rw [beq_eq_false_iff_ne]; omega
  have k14 : (o.kind == 14) = false := by rw [beq_eq_false_iff_ne]; omega
  unfold opVals
  go_enter Tryz.func41, Tryz.ntmps41
  go_wp2_with fail
  go_ret
  exact ⟨rfl, ((Below.refl _ _).alloc (Nat.le_refl _) _).alloc (by simp) _⟩

end Go.Proofs.YthkbeaffkcfgiaaGreatDoor
