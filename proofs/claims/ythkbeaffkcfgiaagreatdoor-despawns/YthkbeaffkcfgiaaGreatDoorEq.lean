import Derived.Test.YthkbeaffkcfgiaaGreatDoorLine
import Derived.Test.YthkbeaffkcfgiaaGreatDoorSch
import Derived.Laws.StructEq
namespace Go.Proofs.YthkbeaffkcfgiaaGreatDoor
open Go.RowKit

@[go_sem] theorem eqGuard48 : Tryz.prog.eqGuardType Tryz.prog.depth 48 = false := by kernel_rfl
theorem struct48 : Tryz.prog.underlying 48 = some (.struct (Tryz.prog.fieldsOf 48)) := by kernel_rfl
theorem stood48 : Tryz.prog.stoodInHeld 48 = false := by kernel_rfl

/-- When two handles are one. -/
theorem eq48 (a b c d : Int) (w : World) : (Op.equalIn 10000 48 (.agg #[.int .i64 a, .int .i64 b]) (.agg #[.int .i64 c, .int .i64 d])).run Tryz.prog w = .ok (a == c && b == d) w := by
  have u3 := Tryz.underlying3
  have a3 := Tryz.isAgg3
  have z3 := Tryz.sizeOf3
  rw [show (10000 : Nat) = 9999 + 1 from rfl, run_equalIn_agg w 9999 48 _ _ struct48 stood48]
  simp only [Program.fieldsOf, Tryz.underlying48]
  go_simp
  by_cases h1 : a = c <;> by_cases h2 : b = d <;> simp [h1, h2]

theorem eql48 (a b c d : Int) (w : World) : (binOp .eql 48 (.agg #[.int .i64 a, .int .i64 b]) (.agg #[.int .i64 c, .int .i64 d])).run Tryz.prog w = .ok (.bool (a == c && b == d)) w := by
  rw [run_eql_struct, eq48]; rfl

end Go.Proofs.YthkbeaffkcfgiaaGreatDoor
