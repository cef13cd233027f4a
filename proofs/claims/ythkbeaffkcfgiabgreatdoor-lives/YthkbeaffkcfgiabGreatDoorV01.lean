import Derived.WalkKit
import Derived.WalkSpells
import Derived.WalkLawsBesides
import Derived.Deep.QuietTactic
import Derived.BigQuiet
import Derived.Test.YthkbeaffkcfgiabGreatDoorProg
set_option linter.unusedSimpArgs false
set_option linter.unusedVariables false
namespace Go.Proofs.YthkbeaffkcfgiabGreatDoor
open Go.RowKit

set_option maxHeartbeats 400000 in
theorem free_taken (b o : Nat) (w : World) (h1 : w.cell? ⟨b, o + 1, none⟩ = some (.bool true)) :
    Calls Tryz.prog 119 #[.pointer (some ⟨b, o, none⟩)] w fun e w' => e = .returned (.bool false) ∧ w' = w := by
  go_enter Tryz.func119, Tryz.ntmps119
  go_wp2
  go_ret
  exact ⟨rfl, rfl⟩

set_option maxHeartbeats 400000 in
theorem free_empty (b o : Nat) (n : Int) (w : World) (h0 : w.cell? ⟨b, o, none⟩ = some (.int .i64 n)) (h1 : w.cell? ⟨b, o + 1, none⟩ = some (.bool false)) :
    Calls Tryz.prog 119 #[.pointer (some ⟨b, o, none⟩)] w fun e w' => e = .returned (.bool (decide (n < 3))) ∧ w' = w := by
  go_enter Tryz.func119, Tryz.ntmps119
  go_wp2
  go_ret
  exact ⟨rfl, rfl⟩

set_option maxHeartbeats 400000 in
theorem begin_any (b o : Nat) (n : Int) (t : Bool) (c : Value) (s : Nat) (w : World) (hn : 0 ≤ n ∧ n < 3) (h0 : w.cell? ⟨b, o, none⟩ = some (.int .i64 n)) (h1 : w.cell? ⟨b, o + 1, none⟩ = some (.bool t)) (h2 : w.cell? ⟨b, o + 2, none⟩ = some c)
    (f0 : w.frozen? ⟨b, o, none⟩ = false) (f1 : w.frozen? ⟨b, o + 1, none⟩ = false) (f2 : w.frozen? ⟨b, o + 2, none⟩ = false) :
    Calls Tryz.prog 120 #[.pointer (some ⟨b, o, none⟩), .int .u64 s] w fun e w' => e = .returned (.int .i64 (n + 1)) ∧ w' = ((w.setCell ⟨b, o, none⟩ (.int .i64 (n + 1))).setCell ⟨b, o + 1, none⟩ (.bool true)).setCell ⟨b, o + 2, none⟩ (.int .u64 s) := by
  obtain ⟨ha, hb⟩ := hn
  go_enter Tryz.func120, Tryz.ntmps120
  go_wp2
  go_ret
  exact ⟨rfl, rfl⟩

set_option maxHeartbeats 400000 in
theorem end_any (b o : Nat) (t : Bool) (w : World) (h1 : w.cell? ⟨b, o + 1, none⟩ = some (.bool t)) (f1 : w.frozen? ⟨b, o + 1, none⟩ = false) :
    Calls Tryz.prog 61 #[.pointer (some ⟨b, o, none⟩)] w fun e w' => e = .returned (.tuple #[]) ∧ w' = w.setCell ⟨b, o + 1, none⟩ (.bool false) := by
  go_enter Tryz.func61, Tryz.ntmps61
  go_wp2
  go_end0
  exact ⟨rfl, rfl⟩

set_option maxHeartbeats 400000 in
theorem hosts_no (b o : Nat) (k : Int) (w : World) (h1 : w.cell? ⟨b, o + 1, none⟩ = some (.bool false)) :
    Calls Tryz.prog 63 #[.pointer (some ⟨b, o, none⟩), .int .i64 k] w fun e w' => e = .returned (.bool false) ∧ w' = w := by
  go_enter Tryz.func63, Tryz.ntmps63
  go_wp2
  go_ret
  exact ⟨rfl, rfl⟩

set_option maxHeartbeats 400000 in
theorem hosts_taken (b o : Nat) (n k : Int) (w : World) (h0 : w.cell? ⟨b, o, none⟩ = some (.int .i64 n)) (h1 : w.cell? ⟨b, o + 1, none⟩ = some (.bool true)) :
    Calls Tryz.prog 63 #[.pointer (some ⟨b, o, none⟩), .int .i64 k] w fun e w' => e = .returned (.bool (n == k)) ∧ w' = w := by
  go_enter Tryz.func63, Tryz.ntmps63
  go_wp2
  go_ret
  exact ⟨rfl, rfl⟩

set_option maxHeartbeats 400000 in
theorem placeOf_any (b i : Nat) (l : Value) (w : World) (hi : i < 20) :
    Calls Tryz.prog 59 #[.pointer (some ⟨b, 0, none⟩), .agg #[.int .i64 ((i : Int) + 1), l]] w fun e w' => e = .returned (.pointer (some ⟨b, 1 + i * 3, none⟩)) ∧ Below w.heap.size w w' := by
  have hI1 : (0 : Int) ≤ (i : Int) := by omega
  have hI2 : (i : Int) < 20 := by omega
  have hwr : IntKind.i64.wrap (i : Int) = (i : Int) := by rw [IntKind.wrap_i64]; omega
  go_enter Tryz.func59, Tryz.ntmps59
  go_wp2
  go_region
  go_wp2
  go_ret
  exact ⟨rfl, ((Below.refl _ _).alloc (Nat.le_refl _) _).drew⟩

end Go.Proofs.YthkbeaffkcfgiabGreatDoor
