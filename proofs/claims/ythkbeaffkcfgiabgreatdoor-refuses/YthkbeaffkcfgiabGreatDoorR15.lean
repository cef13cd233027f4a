import Derived.Test.YthkbeaffkcfgiabGreatDoorR05
set_option linter.unusedSimpArgs false
set_option linter.unusedVariables false
namespace Go.Proofs.YthkbeaffkcfgiabGreatDoor
open Go.RowKit
set_option maxHeartbeats 800000 in
theorem empty_tab (tb:Nat) (a:Option Addr) (n c:Nat) (w:World) (hc:w.cell? ⟨tb,0,none⟩ = some (.slice a n c)) :
 Calls Tryz.prog 123 #[.pointer (some ⟨tb,0,none⟩)] w fun e w' => e = .returned (.bool ((n:Int) == 0)) ∧ w' = w:=by
 go_enter Tryz.func123,Tryz.ntmps123
 go_wp2
 go_ret
 exact ⟨rfl,rfl⟩
end Go.Proofs.YthkbeaffkcfgiabGreatDoor
