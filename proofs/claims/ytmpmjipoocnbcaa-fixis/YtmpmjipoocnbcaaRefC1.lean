/- The contracts of the document's own answers of layer 1: each returns the same plain function as package fix. -/
import Derived.Test.YtmpmjipoocnbcaaFixC
namespace Go.Proofs.Ytmpmjipoocnbcaa
open Go.ChangeShapes Go.WideShapes Go.ChangeAt Go.RowKit
set_option linter.unusedVariables false
namespace Fx
set_option maxHeartbeats 400000 in
theorem rclamp_c (n : Int) (w : World) :
    Calls Try.prog 10 #[.int .i64 n] w fun e w' => e = .returned (.tuple #[.int .i64 (cl n), .bool (co n)]) ∧ w' = w := by
  go_enter Try.func10, Try.ntmps10
  go_wp2
  all_goals
    go_ret2
    refine ⟨ret_ib ?_ ?_, rfl⟩
    · unfold cl wv; repeat' split
      all_goals omega
    · unfold co wb; simp; omega
set_option maxHeartbeats 400000 in
theorem ras_c (a : Int) (w : World) :
    Calls Try.prog 29 #[.int .i64 a] w fun e w' => e = .returned (.int .i64 (cl a)) ∧ w' = w := by
  go_enter Try.func29, Try.ntmps29
  go_wp2_with (go_at_call 10; refine (rclamp_c _ _).mono ?_; rintro e w' ⟨rfl, rfl⟩)
  go_ret
  exact ⟨rfl, rfl⟩
set_option maxHeartbeats 400000 in
theorem radd_c (a b : Int) (w : World) :
    Calls Try.prog 12 #[.int .i64 a, .int .i64 b] w fun e w' => e = .returned (.tuple #[.int .i64 (av a b), .bool (ao a b)]) ∧ w' = w := by
  have ha := cl_bd a
  have hb := cl_bd b
  go_enter Try.func12, Try.ntmps12
  go_wp2_with (go_at_call 10; refine (rclamp_c _ _).mono ?_; rintro e w' ⟨rfl, rfl⟩)
  all_goals
    go_ret2
    refine ⟨ret_ib rfl ?_, rfl⟩
    simp_all [ao]
set_option maxHeartbeats 400000 in
theorem rsub_c (a b : Int) (w : World) :
    Calls Try.prog 14 #[.int .i64 a, .int .i64 b] w fun e w' => e = .returned (.tuple #[.int .i64 (sv a b), .bool (so a b)]) ∧ w' = w := by
  have ha := cl_bd a
  have hb := cl_bd b
  go_enter Try.func14, Try.ntmps14
  go_wp2_with (go_at_call 10; refine (rclamp_c _ _).mono ?_; rintro e w' ⟨rfl, rfl⟩)
  all_goals
    go_ret2
    refine ⟨ret_ib rfl ?_, rfl⟩
    simp_all [so]
set_option maxHeartbeats 400000 in
theorem rneg_c (a : Int) (w : World) :
    Calls Try.prog 18 #[.int .i64 a] w fun e w' => e = .returned (.int .i64 (-cl a)) ∧ w' = w := by
  have ha := cl_bd a
  go_enter Try.func18, Try.ntmps18
  go_wp2_with (go_at_call 29; refine (ras_c _ _).mono ?_; rintro e w' ⟨rfl, rfl⟩)
  go_ret
  exact ⟨rfl, rfl⟩
set_option maxHeartbeats 400000 in
theorem rabs_c (a : Int) (w : World) :
    Calls Try.prog 20 #[.int .i64 a] w fun e w' => e = .returned (.int .i64 (ab a)) ∧ w' = w := by
  have ha := cl_bd a
  go_enter Try.func20, Try.ntmps20
  go_wp2_with (go_at_call 29; refine (ras_c _ _).mono ?_; rintro e w' ⟨rfl, rfl⟩)
  all_goals
    go_ret
    exact ⟨ret_i (by unfold ab; omega), rfl⟩
set_option maxHeartbeats 400000 in
theorem rof_c (a : Int) (w : World) :
    Calls Try.prog 16 #[.int .i64 a] w fun e w' => e = .returned (.tuple #[.int .i64 (ov a), .bool (ob a)]) ∧ w' = w := by
  go_enter Try.func16, Try.ntmps16
  go_wp2
  all_goals
    go_ret2
    refine ⟨ret_ib ?_ ?_, rfl⟩
    · unfold ov wv; repeat' split
      all_goals omega
    · unfold ob wb; simp; omega
theorem tdv (x : Int) : (0 ≤ x ∧ x.tdiv 4294967296 = x / 4294967296) ∨ (x < 0 ∧ x.tdiv 4294967296 = -((-x) / 4294967296)) := by
  by_cases h : 0 ≤ x
  · exact .inl ⟨h, Int.tdiv_eq_ediv_of_nonneg h⟩
  · refine .inr ⟨by omega, ?_⟩
    have e : x = -(-x) := by omega
    rw [e, Int.neg_tdiv, Int.tdiv_eq_ediv_of_nonneg (by omega)]
    simp
theorem tdv_bd (x : Int) (h : -576460752303423488 ≤ x ∧ x ≤ 576460752303423488) : -134217728 ≤ x.tdiv 4294967296 ∧ x.tdiv 4294967296 ≤ 134217728 := by
  rcases tdv x with h | h <;> omega
set_option maxHeartbeats 400000 in
theorem rfloor_c (a : Int) (w : World) :
    Calls Try.prog 22 #[.int .i64 a] w fun e w' => e = .returned (.int .i64 (fl a)) ∧ w' = w := by
  have ha := cl_bd a
  have ht := tdv_bd (cl a) (by omega)
  go_enter Try.func22, Try.ntmps22
  go_wp2_with (go_at_call 29; refine (ras_c _ _).mono ?_; rintro e w' ⟨rfl, rfl⟩)
  all_goals
    go_ret
    exact ⟨ret_i (by unfold fl; have := tdv (cl a); omega), rfl⟩
set_option maxHeartbeats 400000 in
theorem rnear_c (a : Int) (w : World) :
    Calls Try.prog 24 #[.int .i64 a] w fun e w' => e = .returned (.int .i64 (nr a)) ∧ w' = w := by
  have ha := cl_bd a
  have ht := tdv_bd (cl a + 2147483648) (by omega)
  go_enter Try.func24, Try.ntmps24
  go_wp2_with (go_at_call 29; refine (ras_c _ _).mono ?_; rintro e w' ⟨rfl, rfl⟩)
  all_goals
    go_ret
    exact ⟨ret_i (by unfold nr; have := tdv (cl a + 2147483648); omega), rfl⟩
set_option maxHeartbeats 400000 in
theorem rrest_c (a : Int) (w : World) :
    Calls Try.prog 26 #[.int .i64 a] w fun e w' => e = .returned (.int .i64 (rs a)) ∧ w' = w := by
  have ha := cl_bd a
  have hf := fl_bd a
  go_enter Try.func26, Try.ntmps26
  go_wp2_with (first | (go_at_call 29; refine (ras_c _ _).mono ?_; rintro e w' ⟨rfl, rfl⟩) | (go_at_call 22; refine (rfloor_c _ _).mono ?_; rintro e w' ⟨rfl, rfl⟩))
  go_ret
  exact ⟨rfl, rfl⟩
end Fx
end Go.Proofs.Ytmpmjipoocnbcaa
