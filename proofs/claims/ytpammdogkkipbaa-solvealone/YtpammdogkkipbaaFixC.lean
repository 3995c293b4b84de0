/- The contracts of package fix, over this seat's translation: each call returns what the plain function says, and the world stands. -/
import Derived.Test.YtpammdogkkipbaaRows
import Derived.WalkKit
import Derived.ProofKit
import Derived.OpenShut
namespace Go.Proofs.Ytpammdogkkipbaa
open Go.ChangeShapes Go.WideShapes Go.ChangeAt Go.RowKit
set_option linter.unusedVariables false
namespace Fx
def wv (n lo hi : Int) : Int := if n < lo then lo else if hi < n then hi else n
def wb (n lo hi : Int) : Bool := decide (n < lo ∨ hi < n)
def cl (n : Int) : Int := wv n (-288230376151711744) 288230376151711744
def co (n : Int) : Bool := wb n (-288230376151711744) 288230376151711744
theorem cl_bd (n : Int) : -288230376151711744 ≤ cl n ∧ cl n ≤ 288230376151711744 := by unfold cl wv; split <;> (try split) <;> omega
theorem wv_bd (n lo hi : Int) (h : lo ≤ hi) : lo ≤ wv n lo hi ∧ wv n lo hi ≤ hi := by unfold wv; split <;> (try split) <;> omega
/-- An int's bounds, as the argument brings them. -/
theorem bd {a : Int} (w0 : (Lit.int .i64 a).wf = true) : -9223372036854775808 ≤ a ∧ a ≤ 9223372036854775807 := by
  have hm : IntKind.i64.min = -9223372036854775808 := by decide
  have hx : IntKind.i64.max = 9223372036854775807 := by decide
  simp only [Lit.wf, Bool.and_eq_true, decide_eq_true_eq, hm, hx] at w0
  exact w0
theorem ret_ib {a b : Int} {p q : Bool} (h : a = b) (g : p = q) : Ending.returned (.tuple #[.int .i64 a, .bool p]) = .returned (.tuple #[.int .i64 b, .bool q]) := by rw [h, g]
theorem ret_i {a b : Int} (h : a = b) : Ending.returned (.int .i64 a) = .returned (.int .i64 b) := by rw [h]

set_option maxHeartbeats 400000 in
theorem within_c (n lo hi : Int) (w : World) :
    Calls Try.prog 64 #[.int .i64 n, .int .i64 lo, .int .i64 hi] w fun e w' => e = .returned (.tuple #[.int .i64 (wv n lo hi), .bool (wb n lo hi)]) ∧ w' = w := by
  go_enter Try.func64, Try.ntmps64
  go_wp2
  all_goals
    go_ret2
    refine ⟨ret_ib ?_ ?_, rfl⟩
    · unfold wv; repeat' split
      all_goals omega
    · unfold wb; simp; omega

set_option maxHeartbeats 400000 in
theorem clamp_c (n : Int) (w : World) :
    Calls Try.prog 43 #[.int .i64 n] w fun e w' => e = .returned (.tuple #[.int .i64 (cl n), .bool (co n)]) ∧ w' = w := by
  go_enter Try.func43, Try.ntmps43
  go_wp2_with (go_at_call 64; refine (within_c _ _ _ _).mono ?_; rintro e w' ⟨rfl, rfl⟩)
  go_ret2
  exact ⟨rfl, rfl⟩

theorem cl_neg (a : Int) : cl (-cl a) = -cl a := by unfold cl wv; repeat' split
                                                    all_goals omega
theorem co_neg (a : Int) : co (-cl a) = false := by have := cl_bd a; unfold co wb; simp; omega
def av (a b : Int) : Int := cl (cl a + cl b)
def ao (a b : Int) : Bool := co a || co b || co (cl a + cl b)
def sv (a b : Int) : Int := cl (cl a - cl b)
def so (a b : Int) : Bool := co a || co b || co (cl a - cl b)
theorem av_bd (a b : Int) : -288230376151711744 ≤ av a b ∧ av a b ≤ 288230376151711744 := cl_bd _
theorem sv_bd (a b : Int) : -288230376151711744 ≤ sv a b ∧ sv a b ≤ 288230376151711744 := cl_bd _
def ab (a : Int) : Int := max (cl a) (-cl a)
def ov (a : Int) : Int := wv a (-67108864) 67108864 * 4294967296
def ob (a : Int) : Bool := wb a (-67108864) 67108864
def fl (a : Int) : Int := cl a / 4294967296
def nr (a : Int) : Int := (cl a + 2147483648) / 4294967296
def rs (a : Int) : Int := cl a - fl a * 4294967296
theorem fl_bd (a : Int) : -67108864 ≤ fl a ∧ fl a ≤ 67108864 ∧ 0 ≤ rs a ∧ rs a < 4294967296 := by
  have := cl_bd a
  unfold rs fl; omega
set_option maxHeartbeats 400000 in
theorem add_c (a b : Int) (w : World) :
    Calls Try.prog 45 #[.int .i64 a, .int .i64 b] w fun e w' => e = .returned (.tuple #[.int .i64 (av a b), .bool (ao a b)]) ∧ w' = w := by
  have ha := cl_bd a
  have hb := cl_bd b
  go_enter Try.func45, Try.ntmps45
  go_wp2_with (go_at_call 43; refine (clamp_c _ _).mono ?_; rintro e w' ⟨rfl, rfl⟩)
  all_goals
    go_ret2
    refine ⟨ret_ib rfl ?_, rfl⟩
    simp_all [ao]
set_option maxHeartbeats 400000 in
theorem sub_c (a b : Int) (w : World) :
    Calls Try.prog 66 #[.int .i64 a, .int .i64 b] w fun e w' => e = .returned (.tuple #[.int .i64 (sv a b), .bool (so a b)]) ∧ w' = w := by
  have hb := cl_bd b
  go_enter Try.func66, Try.ntmps66
  go_wp2_with (first | (go_at_call 43; refine (clamp_c _ _).mono ?_; rintro e w' ⟨rfl, rfl⟩) | (go_at_call 45; refine (add_c _ _ _).mono ?_; rintro e w' ⟨rfl, rfl⟩))
  all_goals
    go_ret2
    refine ⟨ret_ib ?_ ?_, rfl⟩
    · unfold av sv; rw [cl_neg, Int.sub_eq_add_neg]
    · simp_all [so, ao, co_neg, cl_neg, Int.sub_eq_add_neg]
set_option maxHeartbeats 400000 in
theorem value_c (a : Int) (w : World) :
    Calls Try.prog 62 #[.int .i64 a] w fun e w' => e = .returned (.int .i64 (cl a)) ∧ w' = w := by
  go_enter Try.func62, Try.ntmps62
  go_wp2_with (go_at_call 43; refine (clamp_c _ _).mono ?_; rintro e w' ⟨rfl, rfl⟩)
  go_ret
  exact ⟨rfl, rfl⟩
set_option maxHeartbeats 400000 in
theorem neg_c (a : Int) (w : World) :
    Calls Try.prog 35 #[.int .i64 a] w fun e w' => e = .returned (.int .i64 (-cl a)) ∧ w' = w := by
  have ha := cl_bd a
  go_enter Try.func35, Try.ntmps35
  go_wp2_with (go_at_call 62; refine (value_c _ _).mono ?_; rintro e w' ⟨rfl, rfl⟩)
  go_ret
  exact ⟨rfl, rfl⟩
set_option maxHeartbeats 400000 in
theorem abs_c (a : Int) (w : World) :
    Calls Try.prog 34 #[.int .i64 a] w fun e w' => e = .returned (.int .i64 (ab a)) ∧ w' = w := by
  have ha := cl_bd a
  go_enter Try.func34, Try.ntmps34
  go_wp2_with (go_at_call 62; refine (value_c _ _).mono ?_; rintro e w' ⟨rfl, rfl⟩)
  all_goals
    go_ret
    exact ⟨ret_i (by unfold ab; omega), rfl⟩
set_option maxHeartbeats 400000 in
theorem of_c (a : Int) (w : World) :
    Calls Try.prog 60 #[.int .i64 a] w fun e w' => e = .returned (.tuple #[.int .i64 (ov a), .bool (ob a)]) ∧ w' = w := by
  have ha := wv_bd a (-67108864) 67108864 (by omega)
  go_enter Try.func60, Try.ntmps60
  go_wp2_with (go_at_call 64; refine (within_c _ _ _ _).mono ?_; rintro e w' ⟨rfl, rfl⟩)
  go_ret2
  exact ⟨rfl, rfl⟩
end Fx
end Go.Proofs.Ytpammdogkkipbaa
