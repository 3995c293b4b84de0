/- The contracts of package fix, over this seat's translation: each call returns what the plain function says, and the world stands. -/
import Derived.Test.YtnbejkhcifeeiaaRows
import Derived.WalkKit
import Derived.ProofKit
import Derived.OpenShut
namespace Go.Proofs.Ytnbejkhcifeeiaa
open Go.ChangeShapes Go.WideShapes Go.ChangeAt Go.RowKit
set_option linter.unusedVariables false
namespace Fx
def wv (n lo hi : Int) : Int := if n < lo then lo else if hi < n then hi else n
def wb (n lo hi : Int) : Bool := decide (n < lo ∨ hi < n)
def cl (n : Int) : Int := wv n (-288230376151711744) 288230376151711744
def co (n : Int) : Bool := wb n (-288230376151711744) 288230376151711744
theorem cl_bd (n : Int) : -288230376151711744 ≤ cl n ∧ cl n ≤ 288230376151711744 := by unfold cl wv; split <;> (try split) <;> omega
theorem wv_bd (n lo hi : Int) (h : lo ≤ hi) : lo ≤ wv n lo hi ∧ wv n lo hi ≤ hi := by unfold wv; split <;> (try split) <;> omega
/-- An int's bounds, as the argument brings them. -/
theorem bd {a : Int} (w0 : (Lit.int .i64 a).wf = true) : -9223372036854775808 ≤ a ∧ a ≤ 9223372036854775807 := by
  have hm : IntKind.i64.min = -9223372036854775808 := by decide
  have hx : IntKind.i64.max = 9223372036854775807 := by decide
  simp only [Lit.wf, Bool.and_eq_true, decide_eq_true_eq, hm, hx] at w0
  exact w0
theorem ret_ib {a b : Int} {p q : Bool} (h : a = b) (g : p = q) : Ending.returned (.tuple #[.int .i64 a, .bool p]) = .returned (.tuple #[.int .i64 b, .bool q]) := by rw [h, g]
theorem ret_i {a b : Int} (h : a = b) : Ending.returned (.int .i64 a) = .returned (.int .i64 b) := by rw [h]

theorem cl_neg (a : Int) : cl (-cl a) = -cl a := by unfold cl wv; repeat' split
                                                    all_goals omega
theorem co_neg (a : Int) : co (-cl a) = false := by have := cl_bd a; unfold co wb; simp; omega
def av (a b : Int) : Int := cl (cl a + cl b)
def ao (a b : Int) : Bool := co a || co b || co (cl a + cl b)
def sv (a b : Int) : Int := cl (cl a - cl b)
def so (a b : Int) : Bool := co a || co b || co (cl a - cl b)
theorem av_bd (a b : Int) : -288230376151711744 ≤ av a b ∧ av a b ≤ 288230376151711744 := cl_bd _
theorem sv_bd (a b : Int) : -288230376151711744 ≤ sv a b ∧ sv a b ≤ 288230376151711744 := cl_bd _
def ab (a : Int) : Int := max (cl a) (-cl a)
def ov (a : Int) : Int := wv a (-67108864) 67108864 * 4294967296
def ob (a : Int) : Bool := wb a (-67108864) 67108864
def fl (a : Int) : Int := cl a / 4294967296
def nr (a : Int) : Int := (cl a + 2147483648) / 4294967296
def rs (a : Int) : Int := cl a - fl a * 4294967296
theorem fl_bd (a : Int) : -67108864 ≤ fl a ∧ fl a ≤ 67108864 ∧ 0 ≤ rs a ∧ rs a < 4294967296 := by
  have := cl_bd a
  unfold rs fl; omega
end Fx
end Go.Proofs.Ytnbejkhcifeeiaa
