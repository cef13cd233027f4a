import Derived.Test.YthkbeaffkcfgiabGreatDoorR16
set_option linter.unusedSimpArgs false
set_option linter.unusedVariables false
namespace Go.Proofs.YthkbeaffkcfgiabGreatDoor
open Go.RowKit
theorem eql86_some (bm:Nat) (w:World):(binOp .eql 109 (.map (some bm)) (.map none)).run Tryz.prog w = .ok (.bool false) w:=by kernel_rfl
theorem eql86_none (w:World):(binOp .eql 109 (.map none) (.map none)).run Tryz.prog w = .ok (.bool true) w:=by kernel_rfl
end Go.Proofs.YthkbeaffkcfgiabGreatDoor
