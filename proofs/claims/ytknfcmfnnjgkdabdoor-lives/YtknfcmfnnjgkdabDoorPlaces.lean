import Derived.Test.YtknfcmfnnjgkdabDoorRows
import Derived.WalkKit
import Derived.WalkSpells
import Derived.WalkLawsBesides
import Derived.Deep.QuietTactic
import Derived.BigQuiet
namespace Go.Proofs.YtknfcmfnnjgkdabDoor
open Go.RowKit

set_option maxHeartbeats 400000 in
theorem free_taken (b o : Nat) (w : World) (h1 : w.cell? ⟨b, o + 1, none⟩ = some (.bool true)) :
    Calls Tryd.prog 8 #[.pointer (some ⟨b, o, none⟩)] w fun e w' => e = .returned (.bool false) ∧ w' = w := by
  go_enter Tryd.func8, Tryd.ntmps8
  go_wp2
  go_ret
  exact ⟨rfl, rfl⟩

set_option maxHeartbeats 400000 in
theorem free_empty (b o : Nat) (n : Int) (w : World) (h0 : w.cell? ⟨b, o, none⟩ = some (.int .i64 n)) (h1 : w.cell? ⟨b, o + 1, none⟩ = some (.bool false)) :
    Calls Tryd.prog 8 #[.pointer (some ⟨b, o, none⟩)] w fun e w' => e = .returned (.bool (decide (n < 3))) ∧ w' = w := by
  go_enter Tryd.func8, Tryd.ntmps8
  go_wp2
  go_ret
  exact ⟨rfl, rfl⟩

set_option maxHeartbeats 400000 in
theorem begin_any (b o : Nat) (n : Int) (t : Bool) (w : World) (hn : 0 ≤ n ∧ n < 3) (h0 : w.cell? ⟨b, o, none⟩ = some (.int .i64 n)) (h1 : w.cell? ⟨b, o + 1, none⟩ = some (.bool t))
    (f0 : w.frozen? ⟨b, o, none⟩ = false) (f1 : w.frozen? ⟨b, o + 1, none⟩ = false) :
    Calls Tryd.prog 9 #[.pointer (some ⟨b, o, none⟩)] w fun e w' => e = .returned (.int .i64 (n + 1)) ∧ w' = (w.setCell ⟨b, o, none⟩ (.int .i64 (n + 1))).setCell ⟨b, o + 1, none⟩ (.bool true) := by
  obtain ⟨ha, hb⟩ := hn
  go_enter Tryd.func9, Tryd.ntmps9
  go_wp2
  go_ret
  exact ⟨rfl, rfl⟩

set_option maxHeartbeats 400000 in
theorem end_any (b o : Nat) (t : Bool) (w : World) (h1 : w.cell? ⟨b, o + 1, none⟩ = some (.bool t)) (f1 : w.frozen? ⟨b, o + 1, none⟩ = false) :
    Calls Tryd.prog 11 #[.pointer (some ⟨b, o, none⟩)] w fun e w' => e = .returned (.tuple #[]) ∧ w' = w.setCell ⟨b, o + 1, none⟩ (.bool false) := by
  go_enter Tryd.func11, Tryd.ntmps11
  go_wp2
  go_end0
  exact ⟨rfl, rfl⟩

set_option maxHeartbeats 400000 in
theorem hosts_yes (b o : Nat) (n : Int) (w : World) (h0 : w.cell? ⟨b, o, none⟩ = some (.int .i64 n)) (h1 : w.cell? ⟨b, o + 1, none⟩ = some (.bool true)) :
    Calls Tryd.prog 13 #[.pointer (some ⟨b, o, none⟩), .int .i64 n] w fun e w' => e = .returned (.bool true) ∧ w' = w := by
  have hnn : (n == n) = true := by simp
  go_enter Tryd.func13, Tryd.ntmps13
  go_wp2
  go_ret
  exact ⟨rfl, rfl⟩

end Go.Proofs.YtknfcmfnnjgkdabDoor
