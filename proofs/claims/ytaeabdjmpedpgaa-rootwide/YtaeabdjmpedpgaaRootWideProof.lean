/- For every two ints the law RootWide answers true: the square of the hypotenuse of two values up to 2^25 is no greater than the sum of both squares, that of the next value is greater, and root and hypotenuse agree. No condition. -/
import Derived.Test.YtaeabdjmpedpgaaRows
import Derived.WalkKit
import Derived.ProofKit
import Derived.OpenShut
import Derived.Test.YtaeabdjmpedpgaaRootC2
import Derived.Test.YtaeabdjmpedpgaaRootM2
import Derived.Test.YtaeabdjmpedpgaaWideR
namespace Go.Proofs.Ytaeabdjmpedpgaa.rootWide
open Go.ChangeShapes Go.WideShapes Go.ChangeAt Go.RowKit
set_option linter.unusedVariables false
theorem own : ownKnob Try.prog.godebug = none := by kernel_rfl

open Go.Proofs.Ytaeabdjmpedpgaa.Fx Go.Proofs.Ytaeabdjmpedpgaa.Wd Go.Proofs.Ytaeabdjmpedpgaa.Rt
attribute [local go_sem] Ext.cell Ext.froz Ext.lt Ext.lt1 Ext.lt2 Ext.lt3 Ext.all Ext.set_u drew_heap setCell_size Ext.set_size
attribute [local go_sem ↓] eq_wide eqw_self
attribute [local go_sem] and62 and1 sgn64 not64 wrap_and
theorem two_math {a b : Int} (h0 : -144115188075855872 ≤ a) (h1 : a ≤ 144115188075855872) (h2 : -144115188075855872 ≤ b) (h3 : b ≤ 144115188075855872) :
    ∃ A B z h : Int, ml a a = A ∧ ml b b = B ∧ A + B = z ∧ vw (hi A) (lo A) = A ∧ vw (hi B) (lo B) = B ∧ inr z = true ∧ cut z = z ∧ vw (hi z) (lo z) = z ∧ sn (hi z) (lo z) = true ∧ sr z = h ∧ ro z = false ∧ co a = false ∧ co b = false ∧ (0 ≤ h ∧ h < 288230376151711744) ∧ vw (hi (ml h h)) (lo (ml h h)) = h * h ∧ vw (hi (ml (h + 1) (h + 1))) (lo (ml (h + 1) (h + 1))) = (h + 1) * (h + 1) ∧ cm (h * h) z ≤ 0 ∧ cm z ((h + 1) * (h + 1)) < 0 := by
  have sq : ∀ a : Int, -144115188075855872 ≤ a → a ≤ 144115188075855872 → a * a ≤ 144115188075855872 * 144115188075855872 := by
    intro a h0 h1
    rcases Int.le_total 0 a with h | h
    · exact sq_le h h1
    · have := sq_le (a := -a) (b := 144115188075855872) (by omega) (by omega)
      rwa [Int.neg_mul_neg] at this
  have e1 : ml a a = a * a := ml_self (by omega) (by omega)
  have e2 : ml b b = b * b := ml_self (by omega) (by omega)
  have q1 := sq a h0 h1
  have q2 := sq b h2 h3
  have n1 := ml_nn a; have n2 := ml_nn b
  have i := Rt.sq2_inr a b
  have r : ro (ml a a + ml b b) = false := ro_of (by omega) (by omega)
  have f1 := sr_sq (ro_f r).1
  have f2 := sr_next r
  have l := lt_of_sq (a := sr (ml a a + ml b b)) (b := 288230376151711744) (by omega) (by omega)
  have b0 := sr_bd (ml a a + ml b b)
  refine ⟨_, _, _, _, rfl, rfl, rfl, vw_hl (ml_inr a a), vw_hl (ml_inr b b), i, cut_of i, vw_hl i, sn_hl i, rfl, r, (cl_in (by omega) (by omega)).2, (cl_in (by omega) (by omega)).2, ⟨b0.1, l⟩, ?_, ?_, cm_le _ _ f1, cm_lt' _ _ f2⟩
  · rw [vw_hl (ml_inr _ _), ml_self (by omega) (by omega)]
  · rw [vw_hl (ml_inr _ _), ml_self (by omega) (by omega)]
set_option maxHeartbeats 4000000 in
set_option maxRecDepth 100000 in
theorem walk (a0 : Int) (a1 : Int) (w0 : (Lit.int .i64 a0).wf = true) (w1 : (Lit.int .i64 a1).wf = true) (w : World) :
    Calls Try.prog 8 #[.int .i64 a0, .int .i64 a1] w fun e w' => e = .returned (.bool true) ∧ Grown w w' := by
  by_cases hc : -144115188075855872 ≤ a0 ∧ a0 ≤ 144115188075855872 ∧ -144115188075855872 ≤ a1 ∧ a1 ≤ 144115188075855872
  · obtain ⟨h0, h1, h2, h3⟩ := hc
    obtain ⟨A, B, z, h, e1, e2, e3, e4, e5, e6, e7, e8, e9, e10, e11, e12, e13, ⟨b1, b2⟩, e14, e15, e16, e17⟩ := two_math h0 h1 h2 h3
    have b3 : h ≤ 288230376151711744 := by omega
    have d3 : decide (h ≤ 288230376151711744) = true := by simpa using b3
    have d4 : decide (cm (h * h) z ≤ 0) = true := by simpa using e16
    go_enter Try.func8, Try.ntmps8; go_wp2_with (first | (go_at_call 9; refine (awake4_c _).mono ?_; rintro e w' ⟨rfl, x, rfl⟩) | (go_at_call 14; refine (hyp_c _ _ _).mono ?_; rintro e w' ⟨rfl, x, rfl⟩) | (go_at_call 18; refine (wmul_c _ _ _).mono ?_; rintro e w' ⟨rfl, x, rfl⟩) | (go_at_call 20; refine (wadd_c _ _ _ _ _).mono ?_; rintro e w' ⟨rfl, x, rfl⟩) | (go_at_call 10; refine (wide_c _ _ _).mono ?_; rintro e w' ⟨rfl, x, rfl⟩))
    refine wp_region_ext (by kernel_rfl) (by kernel_rfl) ?_
    (repeat (go_big_quiet_step ((first | (go_at_call 18; exact extCall (wmul_c _ _ _)) | (go_at_call 21; exact extCall (wof_c _ _ (by omega))) | (go_at_call 17; exact extCall (wcmp_c _ _ _ _ _)) | (go_at_call 20; exact extCall (wadd_c _ _ _ _ _)) | (go_at_call 16; exact extCall (sane_c _ _ _))))))
    refine wpQuiet_nil ?_
    rintro w1 ⟨x1, rfl⟩
    go_wp2
    go_ret; exact ⟨rfl, Mr.grown (by repeat (first | (with_reducible exact Mr.refl _) | (with_reducible apply Mr.drew) | (with_reducible apply Mr.alloc) | (with_reducible apply Mr.ext) | (with_reducible refine Mr.setCell ?_ (by first | (simp; done) | (simp; omega) | omega | (refine leOf0 ?_; (repeat (first | (with_reducible exact Mr.refl _) | (with_reducible apply Mr.drew) | (with_reducible apply Mr.alloc) | (with_reducible apply Mr.ext) | (with_reducible refine Mr.setCell ?_ (by first | (simp; done) | (simp; omega) | omega) _))); done) | (refine leOf ?_; (repeat (first | (with_reducible exact Mr.refl _) | (with_reducible apply Mr.drew) | (with_reducible apply Mr.alloc) | (with_reducible apply Mr.ext) | (with_reducible refine Mr.setCell ?_ (by first | (simp; done) | (simp; omega) | omega) _))); done)) _)))⟩
  · go_enter Try.func8, Try.ntmps8; go_wp2_with (first | (go_at_call 9; refine (awake4_c _).mono ?_; rintro e w' ⟨rfl, x, rfl⟩) | (go_at_call 14; refine (hyp_c _ _ _).mono ?_; rintro e w' ⟨rfl, x, rfl⟩) | (go_at_call 18; refine (wmul_c _ _ _).mono ?_; rintro e w' ⟨rfl, x, rfl⟩) | (go_at_call 20; refine (wadd_c _ _ _ _ _).mono ?_; rintro e w' ⟨rfl, x, rfl⟩) | (go_at_call 10; refine (wide_c _ _ _).mono ?_; rintro e w' ⟨rfl, x, rfl⟩))
    all_goals first | (go_ret; exact ⟨rfl, Mr.grown (by repeat (first | (with_reducible exact Mr.refl _) | (with_reducible apply Mr.drew) | (with_reducible apply Mr.alloc) | (with_reducible apply Mr.ext) | (with_reducible refine Mr.setCell ?_ (by first | (simp; done) | (simp; omega) | omega | (refine leOf0 ?_; (repeat (first | (with_reducible exact Mr.refl _) | (with_reducible apply Mr.drew) | (with_reducible apply Mr.alloc) | (with_reducible apply Mr.ext) | (with_reducible refine Mr.setCell ?_ (by first | (simp; done) | (simp; omega) | omega) _))); done) | (refine leOf ?_; (repeat (first | (with_reducible exact Mr.refl _) | (with_reducible apply Mr.drew) | (with_reducible apply Mr.alloc) | (with_reducible apply Mr.ext) | (with_reducible refine Mr.setCell ?_ (by first | (simp; done) | (simp; omega) | omega) _))); done)) _)))⟩; done) | (exfalso; omega)

set_option maxRecDepth 100000 in
theorem lifted (os : Os) (started : os.Started) (H : Type) (enc : TypeId × Value → H) :
    ReturnsInHanded {} Try.checked os 8 .any (Rows.rootWideSpec.pre6 enc Try.prog Try.f8 Rows.rootWideRow.domain false) (Rows.rootWideSpec.post enc Try.prog Try.f8 false true false false) := by
  refine returnsInHanded_of_change (C := Try.checked) own started (by kernel_rfl) Try.func8
    (ChangeSpec.witness6 (enc := enc) (C := Try.checked) false ⟨#[], #[.int .i64 0, .int .i64 0], []⟩ 8 (by kernel_rfl) (by kernel_rfl) (by kernel_rfl) (by kernel_rfl)) ?_
  intro W base args ds gs before hval0 hW hcnd _
  have hval : ∀ (j : Nat) t v, Try.f8.params[j]? = some t → args[j]? = some v → Value.okWide Try.prog W .any base t v := hval0
  have hW' := hW
  obtain ⟨p, q, hA0, hV, rfl, hfz, hnd⟩ := hW
  have hA : DataW.TrodAll enc Try.prog W 0 (fun _ => true) true Try.f8.params.toList args.toList ds p := hA0
  rw [Try.params8] at hA hval
  obtain ⟨v0, vs0, d0, ds0, p_0, q_0, hargs, rfl, rfl, h0, r0⟩ := trodAll_cons hA
  obtain ⟨v1, vs1, d1, ds1, p_1, q_1, rfl, rfl, rfl, h1, r1⟩ := trodAll_cons r0
  obtain ⟨rfl, rfl, rfl⟩ := trodAll_nil r1
  obtain rfl : args = #[v0, v1] := by cases args; simp_all
  obtain ⟨rfl, rfl⟩ := trodVars_none hV
  obtain ⟨a0, rfl, rfl, rfl, w0⟩ := open_int Try.underlying3 (hval 0 3 v0 rfl rfl) h0
  obtain ⟨a1, rfl, rfl, rfl, w1⟩ := open_int Try.underlying3 (hval 1 3 v1 rfl rfl) h1
  clear hA0 hval0
  simp only [List.append_nil] at hW'
  refine (walk a0 a1 w0 w1 W).mono fun e W' ⟨he, hg⟩ => ?_
  subst he
  exact ⟨_, rfl, post_of_same (pa := []) (pv := []) hW' (fun _ _ _ => (trodAll_cons_mk (shut_bool Try.underlying4 _) trodAll_mk0)) (fun sp _ => (trodAll_cons_mk (shut_int Try.underlying3 w0) (trodAll_cons_mk (shut_int Try.underlying3 w1) trodAll_mk0))) (fun _ _ => rfl) rfl
    (hg.frame _) hg.2.1 (ok_one (by kernel_rfl) rfl (okWide_bool_mk Try.underlying4 _))⟩

theorem over : Rows.rootWideRow.holds Try.pinned (OpenSpec.ofChange Rows.rootWideSpec) :=
  OpenClaim.holds_of_wide 8 Try.f8 rfl rfl rfl rfl rfl rfl rfl ⟨rfl, rfl, rfl, rfl, rfl⟩ rfl rfl rfl rfl rfl (by kernel_rfl) Try.func8 (by kernel_rfl)
    (of_decide_eq_true (by kernel_rfl)) (by unfold Func.isWrapper; first | (rw [if_pos (by decide +kernel)]; kernel_rfl) | (rw [if_neg (by decide +kernel)]; exact ⟨rfl, rfl⟩))
    (fun os started H enc _ => lifted os started H enc)

theorem proved : Rows.RootWideSaid :=
  over
#print axioms proved
end Go.Proofs.Ytaeabdjmpedpgaa.rootWide
