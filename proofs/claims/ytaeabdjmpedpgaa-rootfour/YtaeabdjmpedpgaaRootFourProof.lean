/- For every two ints the law RootFour answers true: four times as much has twice the root, or one more; so has the hypotenuse of twice both. No condition. -/
import Derived.Test.YtaeabdjmpedpgaaRows
import Derived.WalkKit
import Derived.ProofKit
import Derived.OpenShut
import Derived.Test.YtaeabdjmpedpgaaRootC2
import Derived.Test.YtaeabdjmpedpgaaRootM2
import Derived.Test.YtaeabdjmpedpgaaWideR
namespace Go.Proofs.Ytaeabdjmpedpgaa.rootFour
open Go.ChangeShapes Go.WideShapes Go.ChangeAt Go.RowKit
set_option linter.unusedVariables false
theorem own : ownKnob Try.prog.godebug = none := by kernel_rfl

open Go.Proofs.Ytaeabdjmpedpgaa.Fx Go.Proofs.Ytaeabdjmpedpgaa.Wd Go.Proofs.Ytaeabdjmpedpgaa.Rt
attribute [local go_sem] Ext.cell Ext.froz Ext.lt Ext.lt1 Ext.lt2 Ext.lt3 Ext.all Ext.set_u drew_heap setCell_size Ext.set_size
attribute [local go_sem ↓] eq_wide eqw_self
attribute [local go_sem] and62 and1 sgn64 not64 wrap_and
theorem beq_self' (s : Int) : (2 * s == 2 * s) = true ∧ (2 * s + 1 == 2 * s) = false ∧ (2 * s + 1 == 2 * s + 1) = true := by
  refine ⟨by simp, ?_, by simp⟩
  rw [Bool.eq_false_iff]; simp; omega
theorem four_math {a b : Int} (h0 : 0 ≤ a) (h1 : a ≤ 72057594037927936) (h2 : -72057594037927936 ≤ b) (h3 : b ≤ 72057594037927936) :
    ∃ s t h i z y p q : Int, ml a 4294967296 = z ∧ ml (4 * a) 4294967296 = y ∧ ml a a + ml b b = p ∧ ml (2 * a) (2 * a) + ml (2 * b) (2 * b) = q ∧ sr z = s ∧ sr y = t ∧ sr p = h ∧ sr q = i ∧ ro z = false ∧ ro y = false ∧ ro p = false ∧ ro q = false ∧ (0 ≤ s ∧ s ≤ 288230376151711744) ∧ (0 ≤ h ∧ h ≤ 288230376151711744) ∧ (t = 2 * s ∨ t = 2 * s + 1) ∧ (i = 2 * h ∨ i = 2 * h + 1) ∧ co a = false ∧ co b = false ∧ co (4 * a) = false ∧ co (2 * a) = false ∧ co (2 * b) = false := by
  have e1 : ml a 4294967296 = a * 4294967296 := ml_in (by omega) (by omega) (by omega) (by omega)
  have e2 : ml (4 * a) 4294967296 = 4 * (a * 4294967296) := by rw [ml_in (by omega) (by omega) (by omega) (by omega)]; omega
  have e3 : ml (2 * a) (2 * a) + ml (2 * b) (2 * b) = 4 * (a * a + b * b) := by
    rw [ml_self (by omega) (by omega), ml_self (by omega) (by omega)]; grind
  have e4 : ml a a + ml b b = a * a + b * b := by rw [ml_self (by omega) (by omega), ml_self (by omega) (by omega)]
  have q1 := sq_le h0 h1
  have q2 : b * b ≤ 72057594037927936 * 72057594037927936 := by
    rcases Int.le_total 0 b with h | h
    · exact sq_le h h3
    · have := sq_le (a := -b) (b := 72057594037927936) (by omega) (by omega)
      rwa [Int.neg_mul_neg] at this
  have n1 := sq_nn a; have n2 := sq_nn b
  have r1 : ro (4 * (a * 4294967296)) = false := ro_of (by omega) (by omega)
  have r2 : ro (4 * (a * a + b * b)) = false := ro_of (by omega) (by omega)
  have f1 := four (by omega) r1
  have f2 := four (by omega) r2
  refine ⟨_, _, _, _, _, _, _, _, e1, e2, e4, e3, rfl, rfl, rfl, rfl, f1.1, r1, f2.1, r2, sr_bd _, sr_bd _, f1.2, f2.2, ?_, ?_, ?_, ?_, ?_⟩
  all_goals exact (cl_in (by omega) (by omega)).2
set_option maxHeartbeats 4000000 in
set_option maxRecDepth 100000 in
theorem walk (a0 : Int) (a1 : Int) (w0 : (Lit.int .i64 a0).wf = true) (w1 : (Lit.int .i64 a1).wf = true) (w : World) :
    Calls Try.prog 7 #[.int .i64 a0, .int .i64 a1] w fun e w' => e = .returned (.bool true) ∧ Grown w w' := by
  by_cases hc : 0 ≤ a0 ∧ a0 ≤ 72057594037927936 ∧ -72057594037927936 ≤ a1 ∧ a1 ≤ 72057594037927936
  · obtain ⟨h0, h1, h2, h3⟩ := hc
    obtain ⟨s, t, h, i, z, y, p, q, e1, e2, e3, e4, e5, e6, e7, e8, e9, e10, e11, e12, ⟨b1, b2⟩, ⟨b3, b4⟩, k1, k2, c1, c2, c3, c4, c5⟩ := four_math h0 h1 h2 h3
    obtain ⟨t1, t2, t3⟩ := beq_self' s
    obtain ⟨t4, t5, t6⟩ := beq_self' h
    rcases k1 with rfl | rfl <;> rcases k2 with rfl | rfl
    all_goals
      go_enter Try.func7, Try.ntmps7; go_wp2_with (first | (go_at_call 9; refine (awake4_c _).mono ?_; rintro e w' ⟨rfl, x, rfl⟩) | (go_at_call 12; refine (sqrt_c _ _).mono ?_; rintro e w' ⟨rfl, x, rfl⟩) | (go_at_call 14; refine (hyp_c _ _ _).mono ?_; rintro e w' ⟨rfl, x, rfl⟩))
      go_ret; exact ⟨rfl, Mr.grown (by repeat (first | (with_reducible exact Mr.refl _) | (with_reducible apply Mr.drew) | (with_reducible apply Mr.alloc) | (with_reducible apply Mr.ext) | (with_reducible refine Mr.setCell ?_ (by first | (simp; done) | (simp; omega) | omega | (refine leOf0 ?_; (repeat (first | (with_reducible exact Mr.refl _) | (with_reducible apply Mr.drew) | (with_reducible apply Mr.alloc) | (with_reducible apply Mr.ext) | (with_reducible refine Mr.setCell ?_ (by first | (simp; done) | (simp; omega) | omega) _))); done) | (refine leOf ?_; (repeat (first | (with_reducible exact Mr.refl _) | (with_reducible apply Mr.drew) | (with_reducible apply Mr.alloc) | (with_reducible apply Mr.ext) | (with_reducible refine Mr.setCell ?_ (by first | (simp; done) | (simp; omega) | omega) _))); done)) _)))⟩
  · go_enter Try.func7, Try.ntmps7; go_wp2_with (first | (go_at_call 9; refine (awake4_c _).mono ?_; rintro e w' ⟨rfl, x, rfl⟩) | (go_at_call 12; refine (sqrt_c _ _).mono ?_; rintro e w' ⟨rfl, x, rfl⟩) | (go_at_call 14; refine (hyp_c _ _ _).mono ?_; rintro e w' ⟨rfl, x, rfl⟩))
    all_goals first | (go_ret; exact ⟨rfl, Mr.grown (by repeat (first | (with_reducible exact Mr.refl _) | (with_reducible apply Mr.drew) | (with_reducible apply Mr.alloc) | (with_reducible apply Mr.ext) | (with_reducible refine Mr.setCell ?_ (by first | (simp; done) | (simp; omega) | omega | (refine leOf0 ?_; (repeat (first | (with_reducible exact Mr.refl _) | (with_reducible apply Mr.drew) | (with_reducible apply Mr.alloc) | (with_reducible apply Mr.ext) | (with_reducible refine Mr.setCell ?_ (by first | (simp; done) | (simp; omega) | omega) _))); done) | (refine leOf ?_; (repeat (first | (with_reducible exact Mr.refl _) | (with_reducible apply Mr.drew) | (with_reducible apply Mr.alloc) | (with_reducible apply Mr.ext) | (with_reducible refine Mr.setCell ?_ (by first | (simp; done) | (simp; omega) | omega) _))); done)) _)))⟩; done) | (exfalso; omega)

set_option maxRecDepth 100000 in
theorem lifted (os : Os) (started : os.Started) (H : Type) (enc : TypeId × Value → H) :
    ReturnsInHanded {} Try.checked os 7 .any (Rows.rootFourSpec.pre6 enc Try.prog Try.f7 Rows.rootFourRow.domain false) (Rows.rootFourSpec.post enc Try.prog Try.f7 false true false false) := by
  refine returnsInHanded_of_change (C := Try.checked) own started (by kernel_rfl) Try.func7
    (ChangeSpec.witness6 (enc := enc) (C := Try.checked) false ⟨#[], #[.int .i64 0, .int .i64 0], []⟩ 8 (by kernel_rfl) (by kernel_rfl) (by kernel_rfl) (by kernel_rfl)) ?_
  intro W base args ds gs before hval0 hW hcnd _
  have hval : ∀ (j : Nat) t v, Try.f7.params[j]? = some t → args[j]? = some v → Value.okWide Try.prog W .any base t v := hval0
  have hW' := hW
  obtain ⟨p, q, hA0, hV, rfl, hfz, hnd⟩ := hW
  have hA : DataW.TrodAll enc Try.prog W 0 (fun _ => true) true Try.f7.params.toList args.toList ds p := hA0
  rw [Try.params7] at hA hval
  obtain ⟨v0, vs0, d0, ds0, p_0, q_0, hargs, rfl, rfl, h0, r0⟩ := trodAll_cons hA
  obtain ⟨v1, vs1, d1, ds1, p_1, q_1, rfl, rfl, rfl, h1, r1⟩ := trodAll_cons r0
  obtain ⟨rfl, rfl, rfl⟩ := trodAll_nil r1
  obtain rfl : args = #[v0, v1] := by cases args; simp_all
  obtain ⟨rfl, rfl⟩ := trodVars_none hV
  obtain ⟨a0, rfl, rfl, rfl, w0⟩ := open_int Try.underlying3 (hval 0 3 v0 rfl rfl) h0
  obtain ⟨a1, rfl, rfl, rfl, w1⟩ := open_int Try.underlying3 (hval 1 3 v1 rfl rfl) h1
  clear hA0 hval0
  simp only [List.append_nil] at hW'
  refine (walk a0 a1 w0 w1 W).mono fun e W' ⟨he, hg⟩ => ?_
  subst he
  exact ⟨_, rfl, post_of_same (pa := []) (pv := []) hW' (fun _ _ _ => (trodAll_cons_mk (shut_bool Try.underlying4 _) trodAll_mk0)) (fun sp _ => (trodAll_cons_mk (shut_int Try.underlying3 w0) (trodAll_cons_mk (shut_int Try.underlying3 w1) trodAll_mk0))) (fun _ _ => rfl) rfl
    (hg.frame _) hg.2.1 (ok_one (by kernel_rfl) rfl (okWide_bool_mk Try.underlying4 _))⟩

theorem over : Rows.rootFourRow.holds Try.pinned (OpenSpec.ofChange Rows.rootFourSpec) :=
  OpenClaim.holds_of_wide 7 Try.f7 rfl rfl rfl rfl rfl rfl rfl ⟨rfl, rfl, rfl, rfl, rfl⟩ rfl rfl rfl rfl rfl (by kernel_rfl) Try.func7 (by kernel_rfl)
    (of_decide_eq_true (by kernel_rfl)) (by unfold Func.isWrapper; first | (rw [if_pos (by decide +kernel)]; kernel_rfl) | (rw [if_neg (by decide +kernel)]; exact ⟨rfl, rfl⟩))
    (fun os started H enc _ => lifted os started H enc)

theorem proved : Rows.RootFourSaid :=
  over
#print axioms proved
end Go.Proofs.Ytaeabdjmpedpgaa.rootFour
