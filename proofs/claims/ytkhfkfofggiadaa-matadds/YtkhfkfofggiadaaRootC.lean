/- The contracts of package root. -/
import Derived.Test.YtkhfkfofggiadaaRootM
import Derived.Test.YtkhfkfofggiadaaWideC3
import Derived.WalkMore
import Derived.ScopeJumps
namespace Go.Proofs.Ytkhfkfofggiadaa
open Go.ChangeShapes Go.WideShapes Go.ChangeAt Go.RowKit
open Go.Proofs.Ytkhfkfofggiadaa.Fx Go.Proofs.Ytkhfkfofggiadaa.Wd
set_option linter.unusedVariables false
attribute [local go_sem] Ext.cell Ext.froz Ext.lt Ext.lt1 Ext.lt2 Ext.lt3 Ext.all Ext.set_u drew_heap setCell_size Ext.set_size
namespace Rt
attribute [local go_sem ↓] eq_wide eqw_self
attribute [local go_sem] and62 and1 sgn64 not64 wrap_and
theorem in_bd {z L H : Int} (h : In z L H) : 0 ≤ L ∧ L < H ∧ H ≤ 288230376151711745 := ⟨h.1, h.2.1, h.2.2.1⟩
theorem mid_ex {z L H : Int} (h : In z L H) : ∃ M : Int, (L + H).tdiv 2 = M ∧ 0 ≤ M ∧ L ≤ M ∧ M < H := by
  obtain ⟨h0, h1, h2⟩ := in_bd h
  exact ⟨(L + H) / 2, by rw [Int.tdiv_eq_ediv_of_nonneg (by omega)], by omega, by omega, by omega⟩
theorem mid_end {z L H M : Int} (h : In z L H) (e : (L + H).tdiv 2 = M) (g : M = L) : L = sr z := by
  obtain ⟨h0, h1, h2⟩ := in_bd h
  rw [Int.tdiv_eq_ediv_of_nonneg (by omega)] at e
  exact (in_end h (by omega)).symm
theorem in_low {z L H M : Int} (h : In z L H) (h0 : L < M) (h1 : M < H) (g : M * M < z) : In z M H :=
  ⟨by have := h.1; omega, h1, h.2.2.1, .inr (by omega), h.2.2.2.2⟩
theorem in_high {z L H M : Int} (h : In z L H) (h0 : L < M) (h1 : M < H) (g : z < M * M) : In z L M :=
  ⟨h.1, h0, by have := h.2.2.1; omega, h.2.2.2.1, .inr g⟩
theorem next_math {n : Int} (h0 : 0 ≤ n) (h1 : n ≤ 288230376151711744) : vw (hi (ml n n)) (lo (ml n n)) = n * n ∧ vw (hi (2 * n + 1)) (lo (2 * n + 1)) = 2 * n + 1 ∧ cut (n * n + (2 * n + 1)) = (n + 1) * (n + 1) ∧ inr ((n + 1) * (n + 1)) = true := by
  have e : n * n + (2 * n + 1) = (n + 1) * (n + 1) := by grind
  have b1 := sq_le h0 h1
  have i1 : inr (n * n + (2 * n + 1)) = true := by rw [inr_iff]; have := sq_nn n; have := lim0; omega
  refine ⟨by rw [vw_hl (ml_inr n n), ml_self (by omega) h1], vw_hl1 (by omega), ?_, ?_⟩
  · rw [cut_of i1, e]
  · rw [← e]; exact i1
theorem vw_zero : vw (hi 0) (lo 0) = 0 := by decide
theorem wd_false {z : Int} {s : Bool} (h : ¬ z < 0) (g : z < (sr z + 1) * (sr z + 1)) : (ro z || !s) = !s := by
  rw [← next_iff (by omega), decide_eq_false (by omega)]; rfl
theorem wd_true {z : Int} {s : Bool} (h : ¬ z < 0) (g : (sr z + 1) * (sr z + 1) ≤ z) : (ro z || !s) = true := by
  rw [← next_iff (by omega), decide_eq_true g]; rfl
theorem vw_ml (a b : Int) : vw (hi (ml a b)) (lo (ml a b)) = ml a b := vw_hl (ml_inr a b)
theorem sn_ml (a b : Int) : sn (hi (ml a b)) (lo (ml a b)) = true := sn_hl (ml_inr a b)
theorem sq2_inr (a b : Int) : inr (ml a a + ml b b) = true := by
  have ha := cl_bd a
  have hb := cl_bd b
  have h1 : ml a a ≤ 83076749736557242056487941267521536 := by
    have := sq_le (a := ab a) (b := 288230376151711744) (ab_bd a).1 (ab_bd a).2
    have e : ml a a = ab a * ab a := by
      unfold ml
      by_cases h : a < 0
      · rw [ab_neg h, Int.neg_mul_neg]
      · rw [ab_pos h]
    have := lim0
    omega
  have h2 : ml b b ≤ 83076749736557242056487941267521536 := by
    have := sq_le (a := ab b) (b := 288230376151711744) (ab_bd b).1 (ab_bd b).2
    have e : ml b b = ab b * ab b := by
      unfold ml
      by_cases h : b < 0
      · rw [ab_neg h, Int.neg_mul_neg]
      · rw [ab_pos h]
    have := lim0
    omega
  have h3 : 0 ≤ ml a a := sq_nn _
  have h4 : 0 ≤ ml b b := sq_nn _
  rw [inr_iff]; omega
end Rt
end Go.Proofs.Ytkhfkfofggiadaa
