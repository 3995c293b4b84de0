/- Accesses, and lists of them, as arguments. -/
import Derived.Test.YthdjldbieajebaaDoorLvR
import Derived.Test.YthdjldbieajebaaDoorCellM
import Derived.Lib.SmallJoins
namespace Go.Proofs.YthdjldbieajebaaDoor
open Go.ChangeShapes Go.WideShapes Go.ChangeAt Go.RowKit
set_option linter.unusedVariables false
namespace Ce
variable {H : Type} {enc' : TypeId × Value → H} {W : World} {base : Nat} {sp : Nat → Bool}
theorem i64_bd {a : Int} (w0 : (Lit.int .i64 a).wf = true) : -9223372036854775808 ≤ a ∧ a ≤ 9223372036854775807 := by
  have hm : IntKind.i64.min = -9223372036854775808 := by decide
  have hx : IntKind.i64.max = 9223372036854775807 := by decide
  simp only [Lit.wf, Bool.and_eq_true, decide_eq_true_eq, hm, hx] at w0
  exact w0
instance : Inhabited Acc := ⟨⟨0, 0, 0, 0⟩⟩
end Ce
end Go.Proofs.YthdjldbieajebaaDoor
