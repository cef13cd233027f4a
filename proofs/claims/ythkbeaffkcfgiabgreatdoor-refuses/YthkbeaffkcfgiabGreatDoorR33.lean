import Derived.Test.YthkbeaffkcfgiabGreatDoorR30
import Derived.Test.YthkbeaffkcfgiabGreatDoorR13
import Derived.Test.YthkbeaffkcfgiabGreatDoorR28
import Derived.Test.YthkbeaffkcfgiabGreatDoorR29
import Derived.Test.YthkbeaffkcfgiabGreatDoorR25
set_option linter.unusedSimpArgs false
set_option linter.unusedVariables false
namespace Go.Proofs.YthkbeaffkcfgiabGreatDoor
open Go.RowKit
theorem orEmpty_some (b:Nat) (w:World):Calls Tryz.prog 47 #[.pointer (some ⟨b,0,none⟩)] w fun e w' => e = .returned (.pointer (some ⟨b,0,none⟩)) ∧ w' = w:=by
 go_enter Tryz.func47,Tryz.ntmps47
 go_wp2
 go_ret
 exact ⟨rfl,rfl⟩
end Go.Proofs.YthkbeaffkcfgiabGreatDoor
