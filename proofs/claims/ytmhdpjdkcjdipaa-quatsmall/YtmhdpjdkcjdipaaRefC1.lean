/- The contracts of the document's own answers of layer 1: each returns the same plain function as package fix. -/
import Derived.Test.YtmhdpjdkcjdipaaFixC
namespace Go.Proofs.Ytmhdpjdkcjdipaa
open Go.ChangeShapes Go.WideShapes Go.ChangeAt Go.RowKit
set_option linter.unusedVariables false
namespace Fx
set_option maxHeartbeats 400000 in
theorem rclamp_c (n : Int) (w : World) :
    Calls Try.prog 50 #[.int .i64 n] w fun e w' => e = .returned (.tuple #[.int .i64 (cl n), .bool (co n)]) ∧ w' = w := by
  go_enter Try.func50, Try.ntmps50
  go_wp2
  all_goals
    go_ret2
    refine ⟨ret_ib ?_ ?_, rfl⟩
    · unfold cl wv; repeat' split
      all_goals omega
    · unfold co wb; simp; omega
set_option maxHeartbeats 400000 in
theorem ras_c (a : Int) (w : World) :
    Calls Try.prog 43 #[.int .i64 a] w fun e w' => e = .returned (.int .i64 (cl a)) ∧ w' = w := by
  go_enter Try.func43, Try.ntmps43
  go_wp2_with (go_at_call 50; refine (rclamp_c _ _).mono ?_; rintro e w' ⟨rfl, rfl⟩)
  go_ret
  exact ⟨rfl, rfl⟩
set_option maxHeartbeats 400000 in
theorem rneg_c (a : Int) (w : World) :
    Calls Try.prog 49 #[.int .i64 a] w fun e w' => e = .returned (.int .i64 (-cl a)) ∧ w' = w := by
  have ha := cl_bd a
  go_enter Try.func49, Try.ntmps49
  go_wp2_with (go_at_call 43; refine (ras_c _ _).mono ?_; rintro e w' ⟨rfl, rfl⟩)
  go_ret
  exact ⟨rfl, rfl⟩
set_option maxHeartbeats 400000 in
theorem rabs_c (a : Int) (w : World) :
    Calls Try.prog 61 #[.int .i64 a] w fun e w' => e = .returned (.int .i64 (ab a)) ∧ w' = w := by
  have ha := cl_bd a
  go_enter Try.func61, Try.ntmps61
  go_wp2_with (go_at_call 43; refine (ras_c _ _).mono ?_; rintro e w' ⟨rfl, rfl⟩)
  all_goals
    go_ret
    exact ⟨ret_i (by unfold ab; omega), rfl⟩
end Fx
end Go.Proofs.Ytmhdpjdkcjdipaa
