/- The statements' own examples of layer 9. -/
import Derived.Test.YtmhdpjdkcjdipaaQuatC
import Derived.Test.YtmhdpjdkcjdipaaWideC
namespace Go.Proofs.Ytmhdpjdkcjdipaa
open Go.ChangeShapes Go.WideShapes Go.ChangeAt Go.RowKit
open Go.Proofs.Ytmhdpjdkcjdipaa.Fx Go.Proofs.Ytmhdpjdkcjdipaa.Wd Go.Proofs.Ytmhdpjdkcjdipaa.Sc Go.Proofs.Ytmhdpjdkcjdipaa.Rt Go.Proofs.Ytmhdpjdkcjdipaa.Sm Go.Proofs.Ytmhdpjdkcjdipaa.Vc
set_option linter.unusedVariables false
attribute [local go_sem] Ext.cell Ext.froz Ext.lt Ext.lt1 Ext.lt2 Ext.lt3 Ext.all Ext.set_u drew_heap setCell_size Ext.set_size
namespace Qa
attribute [local go_sem ↓] eq_3 e3_self eq_4 e4_self
theorem aw9_mul : mul ⟨4294967296, 0, 0, 0⟩ ⟨1, 2, 3, 4⟩ = ⟨1, 2, 3, 4⟩ ∧ mb ⟨4294967296, 0, 0, 0⟩ ⟨1, 2, 3, 4⟩ = false :=
  ⟨Q.eq (by decide +kernel) (by decide +kernel) (by decide +kernel) (by decide +kernel), by decide +kernel⟩
theorem aw9_rot : rot ⟨0, 0, 0, 4294967296⟩ 4294967296 0 0 = ⟨0, -4294967296, 0, 0⟩ ∧ rb ⟨0, 0, 0, 4294967296⟩ 4294967296 0 0 = false :=
  ⟨Q.eq (by decide +kernel) (by decide +kernel) (by decide +kernel) (by decide +kernel), by decide +kernel⟩
theorem aw9_back : back ⟨1, 2, 3, 4⟩ = ⟨1, -2, -3, -4⟩ := Q.eq (by decide +kernel) (by decide +kernel) (by decide +kernel) (by decide +kernel)
theorem aw9_nv2 : nv ⟨2, 0, 0, 0⟩ = 2 := by
  unfold nv; rw [show nz ⟨2, 0, 0, 0⟩ = 4 by decide +kernel]; exact in_hit (by omega) (by omega) (by decide)
theorem aw9_nv1 : nv ⟨4294967296, 0, 0, 0⟩ = 4294967296 := by
  unfold nv; rw [show nz ⟨4294967296, 0, 0, 0⟩ = 18446744073709551616 by decide +kernel]; exact in_hit (by omega) (by omega) (by decide)
theorem aw9_nv0 : nv ⟨0, 0, 0, 0⟩ = 0 := by
  unfold nv; rw [show nz ⟨0, 0, 0, 0⟩ = 0 by decide +kernel]; exact in_hit (by omega) (by omega) (by decide)
theorem aw9_unit2 : unit ⟨2, 0, 0, 0⟩ = ⟨4294967296, 0, 0, 0⟩ ∧ ub ⟨2, 0, 0, 0⟩ = false := by
  unfold unit ub; rw [aw9_nv2, if_neg (by decide), if_neg (by decide)]
  exact ⟨Q.eq (by decide +kernel) (by decide +kernel) (by decide +kernel) (by decide +kernel), by decide +kernel⟩
theorem aw9_unit0 : unit ⟨0, 0, 0, 0⟩ = ⟨4294967296, 0, 0, 0⟩ ∧ ub ⟨0, 0, 0, 0⟩ = true := by
  unfold unit ub; rw [aw9_nv0, if_pos rfl, if_pos rfl]; exact ⟨rfl, rfl⟩
theorem aw9_small : unit (sml 0 0 0) = ⟨4294967296, 0, 0, 0⟩ ∧ (tb 0 2147483648 || tb 0 2147483648 || tb 0 2147483648 || ub (sml 0 0 0)) = false := by
  have e : sml 0 0 0 = ⟨4294967296, 0, 0, 0⟩ := Q.eq (by decide +kernel) (by decide +kernel) (by decide +kernel) (by decide +kernel)
  rw [e]
  unfold unit ub; rw [aw9_nv1, if_neg (by decide), if_neg (by decide)]
  exact ⟨Q.eq (by decide +kernel) (by decide +kernel) (by decide +kernel) (by decide +kernel), by decide +kernel⟩
set_option maxRecDepth 100000 in
set_option maxHeartbeats 1000000 in
theorem awake9_c (w : World) : Calls Try.prog 10 #[] w fun e w' => e = .returned (.bool true) ∧ ∃ x : Ext w, w' = x.u := by
  have t1 : Unit := ()
  go_enter Try.func10, Try.ntmps10
  go_wp2_with (first | (go_at_call 23; refine (qone_c _).mono ?_; rintro e w' ⟨rfl, x, rfl⟩) | (go_at_call 11; refine (qmul_c (by unfold W64 B64; decide) (by unfold W64 B64; decide) aw9_mul.1 aw9_mul.2).mono ?_; rintro e w' ⟨rfl, x, rfl⟩) | (go_at_call 19; refine (qrot_c (by unfold W64 B64; decide) (by unfold W64 B64 pure; decide) aw9_rot.1 aw9_rot.2).mono ?_; rintro e w' ⟨rfl, x, rfl⟩) | (go_at_call 15; (have := t1; clear this t1); refine (qunit_c (by unfold W64 B64; decide) aw9_unit2.1 aw9_unit2.2).mono ?_; rintro e w' ⟨rfl, x, rfl⟩) | (go_at_call 15; refine (qunit_c (by unfold W64 B64; decide) aw9_unit0.1 aw9_unit0.2).mono ?_; rintro e w' ⟨rfl, x, rfl⟩) | (go_at_call 17; refine (qsmall_c aw9_small.1 aw9_small.2).mono ?_; rintro e w' ⟨rfl, x, rfl⟩) | (go_at_call 21; refine (qback_c aw9_back).mono ?_; rintro e w' ⟨rfl, x, rfl⟩))
  refine wp_region_ext (by kernel_rfl) (by kernel_rfl) ?_
  repeat (go_big_quiet_step ((first | (go_at_call 23; exact extCall (qone_c _)) | (go_at_call 21; exact extCall (qback_c aw9_back)))))
  refine wpQuiet_nil ?_
  rintro w1 ⟨x1, rfl⟩
  go_wp2
  go_ret
  exact ⟨rfl, Mr.mk' (by repeat (first | (with_reducible exact Mr.refl _) | (with_reducible apply Mr.drew) | (with_reducible apply Mr.alloc) | (with_reducible apply Mr.ext) | (with_reducible refine Mr.setCell ?_ (by first | (simp; done) | (simp; omega) | omega | (refine leOf0 ?_; (repeat (first | (with_reducible exact Mr.refl _) | (with_reducible apply Mr.drew) | (with_reducible apply Mr.alloc) | (with_reducible apply Mr.ext) | (with_reducible refine Mr.setCell ?_ (by first | (simp; done) | (simp; omega) | omega) _))); done) | (refine leOf ?_; (repeat (first | (with_reducible exact Mr.refl _) | (with_reducible apply Mr.drew) | (with_reducible apply Mr.alloc) | (with_reducible apply Mr.ext) | (with_reducible refine Mr.setCell ?_ (by first | (simp; done) | (simp; omega) | omega) _))); done)) _)))⟩
end Qa
end Go.Proofs.Ytmhdpjdkcjdipaa
