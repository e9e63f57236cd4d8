import Derived.Laws.StructEq
import Derived.Test.YtkhicohhahaahaaStm
namespace Go.Proofs.Ytkhicohhahaahaa
open Go.ChangeShapes Go.WideShapes Go.ChangeAt Go.RowKit
set_option linter.unusedVariables false
set_option linter.unusedSimpArgs false

set_option maxRecDepth 100000 in
theorem dotF : Try.prog.fieldsOf 50 = match Try.prog.underlying 50 with | some (.struct fs) => fs | _ => #[] := rfl
theorem dotStood : Try.prog.stoodInHeld 50 = false := by kernel_rfl
theorem dotGuard : Try.prog.eqGuardType Try.prog.depth 50 = false := by kernel_rfl
set_option maxRecDepth 100000 in
theorem eqlDot (r q r' q' : Int) (w : World) : (binOp .eql 50 (.agg #[.int .i64 r, .int .i64 q]) (.agg #[.int .i64 r', .int .i64 q'])).run Try.prog w = .ok (.bool (r == r' && q == q')) w := by
  rw [run_eql_struct, show (10000 : Nat) = 9999 + 1 from rfl, run_equalIn_agg _ _ _ _ _ (by kernel_rfl) dotStood, dotF, Try.underlying50]
  cases h1 : (r == r') <;> simp [Op.eqFields, go_sem, Try.underlying3, h1]
  by_cases h2 : q = q' <;> simp [h2]
end Go.Proofs.Ytkhicohhahaahaa
