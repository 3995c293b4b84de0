/- The contracts of package wide, second part. -/
import Derived.Test.YtaeabdjmpedpgaaWideC
namespace Go.Proofs.Ytaeabdjmpedpgaa
open Go.ChangeShapes Go.WideShapes Go.ChangeAt Go.RowKit
open Go.Proofs.Ytaeabdjmpedpgaa.Fx
set_option linter.unusedVariables false
attribute [local go_sem] Ext.cell Ext.froz Ext.lt Ext.lt1 Ext.lt2 Ext.lt3 Ext.all Ext.set_u drew_heap setCell_size Ext.set_size
namespace Wd
attribute [local go_sem ↓] eq_wide eqw_self
attribute [local go_sem] and62 and1 sgn64 not64 wrap_and

theorem vw_hl1 {n : Int} (h : -10633823966279326983230456482242756608 ≤ n ∧ n < 10633823966279326983230456482242756608) : vw (hi n) (lo n) = n := vw_hl (by rw [inr_iff]; exact h)
theorem cl_in {a : Int} (h0 : -288230376151711744 ≤ a) (h1 : a ≤ 288230376151711744) : cl a = a ∧ co a = false := by
  simp only [cl, co, wv, wb]; rw [if_neg (by omega), if_neg (by omega)]; refine ⟨rfl, ?_⟩; simp; omega
theorem cl_hi {a : Int} (h1 : 288230376151711744 < a) : cl a = 288230376151711744 ∧ co a = true := by
  simp only [cl, co, wv, wb]; rw [if_neg (by omega), if_pos h1]; refine ⟨rfl, ?_⟩; simp; omega
theorem cl_lo {a : Int} (h1 : a < -288230376151711744) : cl a = -288230376151711744 ∧ co a = true := by
  simp only [cl, co, wv, wb]; rw [if_pos h1]; refine ⟨rfl, ?_⟩; simp; omega
theorem int_math (a : Int) (h0 : -288230376151711744 ≤ a) (h1 : a ≤ 288230376151711744) : -1 ≤ hi a ∧ hi a ≤ 0 := by unfold hi; omega
theorem dn_low (a k : Int) (j : Nat) (hj : (min (max k 0) 200).toNat = j) : dn a k = a / 2 ^ j := by unfold dn; rw [hj]
end Wd
end Go.Proofs.Ytaeabdjmpedpgaa
