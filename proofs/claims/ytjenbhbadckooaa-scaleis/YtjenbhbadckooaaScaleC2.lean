/- How the laws of scale begin. -/
import Derived.Test.YtjenbhbadckooaaScaleC
namespace Go.Proofs.Ytjenbhbadckooaa
open Go.ChangeShapes Go.WideShapes Go.ChangeAt Go.RowKit
open Go.Proofs.Ytjenbhbadckooaa.Fx Go.Proofs.Ytjenbhbadckooaa.Wd Go.Proofs.Ytjenbhbadckooaa.Dv
set_option linter.unusedVariables false
attribute [local go_sem] Ext.cell Ext.froz Ext.lt Ext.lt1 Ext.lt2 Ext.lt3 Ext.all Ext.set_u drew_heap setCell_size Ext.set_size
namespace Sc
attribute [local go_sem ↓] eq_wide eqw_self
attribute [local go_sem] and62 and1 sgn64 not64 wrap_and
set_option maxHeartbeats 2000000 in
theorem awake3_c (w : World) :
    Calls Try.prog 9 #[] w fun e w' => e = .returned (.bool true) ∧ ∃ x : Ext w, w' = x.u := by
  have f1 : tv 2147483648 2147483648 = 1073741824 := by decide
  have f2 : qv 4294967296 12884901888 = 1431655765 := by decide
  have f3 : qv (-4294967296) 12884901888 = -1431655765 := by decide
  have f4 : qv 1 0 = 288230376151711744 := by decide
  have f5 : qb 1 0 = true := by decide
  have f6 : mv 0 4 2147483648 = 2 := by decide
  have f7 : rv 0 2147483648 = 1 := by decide
  go_enter Try.func9, Try.ntmps9
  go_wp2_with (first | (go_at_call 12; refine (times_c _ _ _).mono ?_; rintro e w' ⟨rfl, x, rfl⟩) | (go_at_call 14; refine (over_c _ _ _).mono ?_; rintro e w' ⟨rfl, x, rfl⟩) | (go_at_call 16; refine (mix_c _ _ _ _).mono ?_; rintro e w' ⟨rfl, x, rfl⟩) | (go_at_call 10; refine (round_c _ _ _).mono ?_; rintro e w' ⟨rfl, x, rfl⟩))
  go_ret
  exact ⟨rfl, Mr.mk' (by repeat (first | (with_reducible exact Mr.refl _) | (with_reducible apply Mr.drew) | (with_reducible apply Mr.alloc) | (with_reducible apply Mr.ext) | (with_reducible refine Mr.setCell ?_ (by first | (simp; done) | (simp; omega) | omega | (refine leOf0 ?_; (repeat (first | (with_reducible exact Mr.refl _) | (with_reducible apply Mr.drew) | (with_reducible apply Mr.alloc) | (with_reducible apply Mr.ext) | (with_reducible refine Mr.setCell ?_ (by first | (simp; done) | (simp; omega) | omega) _))); done) | (refine leOf ?_; (repeat (first | (with_reducible exact Mr.refl _) | (with_reducible apply Mr.drew) | (with_reducible apply Mr.alloc) | (with_reducible apply Mr.ext) | (with_reducible refine Mr.setCell ?_ (by first | (simp; done) | (simp; omega) | omega) _))); done)) _)))⟩
end Sc
end Go.Proofs.Ytjenbhbadckooaa
