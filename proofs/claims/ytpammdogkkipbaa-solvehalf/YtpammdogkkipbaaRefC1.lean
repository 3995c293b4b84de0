/- The contracts of the document's own answers of layer 1: each returns the same plain function as package fix. -/
import Derived.Test.YtpammdogkkipbaaFixC
namespace Go.Proofs.Ytpammdogkkipbaa
open Go.ChangeShapes Go.WideShapes Go.ChangeAt Go.RowKit
set_option linter.unusedVariables false
namespace Fx
set_option maxHeartbeats 400000 in
theorem rclamp_c (n : Int) (w : World) :
    Calls Try.prog 71 #[.int .i64 n] w fun e w' => e = .returned (.tuple #[.int .i64 (cl n), .bool (co n)]) ∧ w' = w := by
  go_enter Try.func71, Try.ntmps71
  go_wp2
  all_goals
    go_ret2
    refine ⟨ret_ib ?_ ?_, rfl⟩
    · unfold cl wv; repeat' split
      all_goals omega
    · unfold co wb; simp; omega
set_option maxHeartbeats 400000 in
theorem ras_c (a : Int) (w : World) :
    Calls Try.prog 68 #[.int .i64 a] w fun e w' => e = .returned (.int .i64 (cl a)) ∧ w' = w := by
  go_enter Try.func68, Try.ntmps68
  go_wp2_with (go_at_call 71; refine (rclamp_c _ _).mono ?_; rintro e w' ⟨rfl, rfl⟩)
  go_ret
  exact ⟨rfl, rfl⟩
set_option maxHeartbeats 400000 in
theorem rsub_c (a b : Int) (w : World) :
    Calls Try.prog 57 #[.int .i64 a, .int .i64 b] w fun e w' => e = .returned (.tuple #[.int .i64 (sv a b), .bool (so a b)]) ∧ w' = w := by
  have ha := cl_bd a
  have hb := cl_bd b
  go_enter Try.func57, Try.ntmps57
  go_wp2_with (go_at_call 71; refine (rclamp_c _ _).mono ?_; rintro e w' ⟨rfl, rfl⟩)
  all_goals
    go_ret2
    refine ⟨ret_ib rfl ?_, rfl⟩
    simp_all [so]
set_option maxHeartbeats 400000 in
theorem rabs_c (a : Int) (w : World) :
    Calls Try.prog 70 #[.int .i64 a] w fun e w' => e = .returned (.int .i64 (ab a)) ∧ w' = w := by
  have ha := cl_bd a
  go_enter Try.func70, Try.ntmps70
  go_wp2_with (go_at_call 68; refine (ras_c _ _).mono ?_; rintro e w' ⟨rfl, rfl⟩)
  all_goals
    go_ret
    exact ⟨ret_i (by unfold ab; omega), rfl⟩
end Fx
end Go.Proofs.Ytpammdogkkipbaa
