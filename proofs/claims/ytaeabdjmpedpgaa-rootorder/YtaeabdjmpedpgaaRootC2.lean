/- The statements' own examples of layer 4. -/
import Derived.Test.YtaeabdjmpedpgaaRootC
namespace Go.Proofs.Ytaeabdjmpedpgaa
open Go.ChangeShapes Go.WideShapes Go.ChangeAt Go.RowKit
open Go.Proofs.Ytaeabdjmpedpgaa.Fx Go.Proofs.Ytaeabdjmpedpgaa.Wd
set_option linter.unusedVariables false
attribute [local go_sem] Ext.cell Ext.froz Ext.lt Ext.lt1 Ext.lt2 Ext.lt3 Ext.all Ext.set_u drew_heap setCell_size Ext.set_size
namespace Rt
attribute [local go_sem ↓] eq_wide eqw_self
attribute [local go_sem] and62 and1 sgn64 not64 wrap_and
theorem aw_num : sr (ml 17179869184 4294967296) = 8589934592 ∧ ro (ml 17179869184 4294967296) = false ∧ sr (ml 12884901888 12884901888 + ml 17179869184 17179869184) = 21474836480 ∧ ro (ml 12884901888 12884901888 + ml 17179869184 17179869184) = false ∧ vw (hi 15) (lo 15) = 15 ∧ sn (hi 15) (lo 15) = true ∧ sr 15 = 3 ∧ ro 15 = false ∧ ro (ml (-1) 4294967296) = true ∧ co 17179869184 = false ∧ co 12884901888 = false ∧ co (-1) = false :=
  ⟨sr_of ⟨by decide, by decide, .inr (by decide), .inr (by decide)⟩, by decide, sr_of ⟨by decide, by decide, .inr (by decide), .inr (by decide)⟩, by decide, by decide, by decide, sr_of ⟨by decide, by decide, .inr (by decide), .inr (by decide)⟩, by decide, by decide, by decide, by decide, by decide⟩
set_option maxHeartbeats 1000000 in
theorem awake4_c (w : World) : Calls Try.prog 9 #[] w fun e w' => e = .returned (.bool true) ∧ ∃ x : Ext w, w' = x.u := by
  obtain ⟨n1, n2, n3, n4, n5, n6, n7, n8, n9, n10, n11, n12⟩ := aw_num
  go_enter Try.func9, Try.ntmps9
  go_wp2_with (first | (go_at_call 12; refine (sqrt_c _ _).mono ?_; rintro e w' ⟨rfl, x, rfl⟩) | (go_at_call 14; refine (hyp_c _ _ _).mono ?_; rintro e w' ⟨rfl, x, rfl⟩) | (go_at_call 21; refine (wof_c _ _ ?_).mono ?_; (first | omega | exact ⟨by omega, by omega⟩); rintro e w' ⟨rfl, x, rfl⟩) | (go_at_call 10; refine (wide_c _ _ _).mono ?_; rintro e w' ⟨rfl, x, rfl⟩))
  go_ret
  exact ⟨rfl, Mr.mk' (by repeat (first | (with_reducible exact Mr.refl _) | (with_reducible apply Mr.drew) | (with_reducible apply Mr.alloc) | (with_reducible apply Mr.ext) | (with_reducible refine Mr.setCell ?_ (by first | (simp; done) | (simp; omega) | omega | (refine leOf0 ?_; (repeat (first | (with_reducible exact Mr.refl _) | (with_reducible apply Mr.drew) | (with_reducible apply Mr.alloc) | (with_reducible apply Mr.ext) | (with_reducible refine Mr.setCell ?_ (by first | (simp; done) | (simp; omega) | omega) _))); done) | (refine leOf ?_; (repeat (first | (with_reducible exact Mr.refl _) | (with_reducible apply Mr.drew) | (with_reducible apply Mr.alloc) | (with_reducible apply Mr.ext) | (with_reducible refine Mr.setCell ?_ (by first | (simp; done) | (simp; omega) | omega) _))); done)) _)))⟩
end Rt
end Go.Proofs.Ytaeabdjmpedpgaa
