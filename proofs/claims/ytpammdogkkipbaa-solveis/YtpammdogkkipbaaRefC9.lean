/- The contracts of the document's own answers of layer 4. -/
import Derived.Test.YtpammdogkkipbaaRootM
import Derived.Test.YtpammdogkkipbaaRootM
import Derived.Test.YtpammdogkkipbaaRefC2
namespace Go.Proofs.Ytpammdogkkipbaa
open Go.ChangeShapes Go.WideShapes Go.ChangeAt Go.RowKit
open Go.Proofs.Ytpammdogkkipbaa.Fx Go.Proofs.Ytpammdogkkipbaa.Wd
set_option linter.unusedVariables false
attribute [local go_sem] Ext.cell Ext.froz Ext.lt Ext.lt1 Ext.lt2 Ext.lt3 Ext.all Ext.set_u drew_heap setCell_size Ext.set_size
namespace Rt
attribute [local go_sem ↓] eq_wide eqw_self
attribute [local go_sem] and62 and1 sgn64 not64 wrap_and
theorem fit_iff (n z : Int) : decide (cm (ml n n) z ≤ 0) = decide (ml n n ≤ z) := by
  have := cm_cases (ml n n) z
  rw [decide_eq_decide]; omega
/-- Bit by bit. -/
def Bt (z n B : Int) (j : Nat) : Prop := 0 ≤ n ∧ n ≤ 288230376151711744 ∧ j ≤ 59 ∧ B = 2 ^ j / 2 ∧ (n = 0 ∨ n * n ≤ z) ∧ (288230376151711744 < n + 2 ^ j ∨ z < (n + 2 ^ j) * (n + 2 ^ j))
theorem bit_bd {z n B : Int} {j : Nat} (h : Bt z n B j) : 0 ≤ n ∧ n ≤ 288230376151711744 ∧ 0 ≤ B ∧ B ≤ 288230376151711744 := by
  obtain ⟨h0, h1, h2, rfl, h3, h4⟩ := h
  have e : (2 : Int) ^ j ≤ 2 ^ 59 := by
    have h : (2 : Nat) ^ j ≤ 2 ^ 59 := Nat.pow_le_pow_right (by decide) h2
    have h2 : ((2 ^ j : Nat) : Int) ≤ ((2 ^ 59 : Nat) : Int) := Int.ofNat_le.2 h
    simpa using h2
  have p : (0 : Int) < 2 ^ j := Int.pow_pos (by decide)
  refine ⟨h0, h1, by omega, by omega⟩
theorem bit_end {z n B : Int} {j : Nat} (h : Bt z n B j) (hB : ¬ 0 < B) : sr z = n := by
  obtain ⟨h0, h1, h2, rfl, h3, h4⟩ := h
  cases j with
  | zero =>
    refine sr_of ⟨h0, h1, h3, ?_⟩
    rcases h4 with h4 | h4
    · exact .inl (by simp at h4; omega)
    · exact .inr (by simpa using h4)
  | succ j =>
    have p : (0 : Int) < 2 ^ j := Int.pow_pos (by decide)
    rw [Int.pow_succ] at hB; omega
theorem bit_step {z n B : Int} {j : Nat} (h : Bt z n B j) (hB : 0 < B) : ∃ B' : Int, B.tdiv 2 = B' ∧ 0 ≤ B' ∧ B' < B ∧ Hid (n + B ≤ 288230376151711744 → (n + B) * (n + B) ≤ z → Bt z (n + B) B' (j - 1)) ∧ Hid ((288230376151711744 < n + B ∨ z < (n + B) * (n + B)) → Bt z n B' (j - 1)) := by
  obtain ⟨h0, h1, h2, rfl, h3, h4⟩ := h
  cases j with
  | zero => simp at hB
  | succ j =>
    have p : (0 : Int) < 2 ^ j := Int.pow_pos (by decide)
    have e : (2 : Int) ^ (j + 1) / 2 = 2 ^ j := by rw [Int.pow_succ]; omega
    have e2 : n + (2 : Int) ^ (j + 1) = n + 2 ^ j + 2 ^ j := by rw [Int.pow_succ]; omega
    rw [e2] at h4
    rw [e] at hB ⊢
    refine ⟨2 ^ j / 2, by rw [Int.tdiv_eq_ediv_of_nonneg (by omega)], by omega, by omega, fun g1 g2 => ⟨by omega, g1, by omega, by rw [Nat.add_sub_cancel], .inr g2, by rw [Nat.add_sub_cancel]; exact h4⟩, fun g => ⟨h0, h1, by omega, by rw [Nat.add_sub_cancel], h3, by rw [Nat.add_sub_cancel]; exact g⟩⟩
theorem bit_start (z : Int) : Bt z 0 288230376151711744 59 := ⟨by omega, by omega, by omega, by decide, .inl rfl, .inl (by decide)⟩
theorem top_num : ml 288230376151711744 288230376151711744 = 83076749736557242056487941267521536 ∧ vw (hi 83076749736557242056487941267521536) (lo 83076749736557242056487941267521536) = 83076749736557242056487941267521536 ∧ vw (hi 576460752303423489) (lo 576460752303423489) = 576460752303423489 ∧ inr 83076749736557242632948693570945025 = true ∧ cut 83076749736557242632948693570945025 = 83076749736557242632948693570945025 ∧ vw (hi 83076749736557242632948693570945025) (lo 83076749736557242632948693570945025) = 83076749736557242632948693570945025 := by decide
theorem low_flag {z : Int} (h : 0 ≤ z) (g : sr z < 288230376151711744) : ro z = false := by
  cases e : ro z
  · rfl
  · have := ro_lim e h; omega
theorem top_flag {p q : Int} (h : 0 ≤ vw p q) (g : ¬ sr (vw p q) < 288230376151711744) : decide (cm 83076749736557242632948693570945025 (vw p q) ≤ 0) = (ro (vw p q) || !sn p q) := by
  have hs : sn p q = true := by
    cases e : sn p q
    · exfalso
      apply g
      rw [vw_nsn e, in_hit (z := 0) (m := 0) (by omega) (by omega) rfl]
      omega
    · rfl
  rw [hs, ro]
  have := cm_cases 83076749736557242632948693570945025 (vw p q)
  simp only [Bool.not_true, Bool.or_false, decide_eq_decide]
  omega
theorem hi_neg {z : Int} : hi z < 0 ↔ z < 0 := by unfold hi; omega
theorem cl_cl (a : Int) : cl (cl a) = cl a := (cl_in (cl_bd a).1 (cl_bd a).2).1
theorem ml_cl (a b : Int) : ml (cl a) b = ml a b := by unfold ml; rw [cl_cl]
theorem ml_clcl (a b : Int) : ml (cl a) (cl b) = ml a b := by unfold ml; rw [cl_cl, cl_cl]
end Rt
end Go.Proofs.Ytpammdogkkipbaa
