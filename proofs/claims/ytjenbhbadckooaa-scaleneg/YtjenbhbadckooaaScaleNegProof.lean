/- For every two ints the law ScaleNeg answers true: products and quotients of what is the other way round are the other way round, or 1 less; with both they are the same. No condition. -/
import Derived.Test.YtjenbhbadckooaaRows
import Derived.WalkKit
import Derived.ProofKit
import Derived.OpenShut
import Derived.Test.YtjenbhbadckooaaScaleC2
import Derived.Test.YtjenbhbadckooaaScaleM2
namespace Go.Proofs.Ytjenbhbadckooaa.scaleNeg
open Go.ChangeShapes Go.WideShapes Go.ChangeAt Go.RowKit
set_option linter.unusedVariables false
theorem own : ownKnob Try.prog.godebug = none := by kernel_rfl

open Go.Proofs.Ytjenbhbadckooaa.Fx Go.Proofs.Ytjenbhbadckooaa.Wd Go.Proofs.Ytjenbhbadckooaa.Dv Go.Proofs.Ytjenbhbadckooaa.Sc
attribute [local go_sem] Ext.cell Ext.froz Ext.lt Ext.lt1 Ext.lt2 Ext.lt3 Ext.all Ext.set_u drew_heap setCell_size Ext.set_size
attribute [local go_sem ↓] eq_wide eqw_self
attribute [local go_sem] and62 and1 sgn64 not64 wrap_and
theorem ml_ng (a b : Int) : ml (-cl a) b = -ml a b := by unfold ml; rw [cl_neg, Int.neg_mul]
theorem tv_nn (a b : Int) : tv (-cl a) (-cl b) = tv a b := by
  unfold tv ml; rw [cl_neg, cl_neg, Int.neg_mul_neg]
theorem tv_sum {a b : Int} (h : tb a b = false) (g : tb (-cl a) b = false) : tv a b + tv (-cl a) b = 0 ∨ tv a b + tv (-cl a) b = 1 := by
  unfold tb at h g
  simp only [Bool.or_eq_false_iff] at h g
  have e1 := (co_false h.1.1).2.2
  have e2 := (co_false g.1.1).2.2
  unfold tv
  rw [e1, e2, ml_ng]
  have r1 := rn_in (ml a b)
  have r2 := rn_in (-ml a b)
  omega
theorem ab_ng (a : Int) : ab (-cl a) = ab a := by unfold ab; rw [cl_neg]; omega
theorem cl_lt (a : Int) : cl a < 0 ↔ a < 0 := by
  unfold cl wv
  repeat' split
  all_goals omega
theorem cl_z (a : Int) : cl a = 0 ↔ a = 0 := by
  unfold cl wv
  repeat' split
  all_goals omega
theorem mg_zero {y : Int} (hy : 0 < y) (r : Bool) : mg 0 y r = 0 := by
  unfold mg
  cases r
  · rw [if_neg Bool.false_ne_true]; exact Int.ediv_eq_zero_of_lt (by omega) (by omega)
  · rw [if_pos rfl]; exact Int.ediv_eq_zero_of_lt (by omega) (by omega)
theorem mg_two {x y : Int} (h0 : 0 ≤ x) (hy : 0 < y) : mg x y false - mg x y true = 0 ∨ mg x y false - mg x y true = 1 := by
  rw [mg_eq h0 hy, mg_eq h0 hy]
  simp only [Bool.true_eq_false, and_false, or_false, and_true]
  split <;> split <;> omega
/-- The rounded quotient with its sign. -/
def sg (A B : Int) (r : Bool) : Int := if r then -mg A B true else mg A B false
theorem qv_sg {a b : Int} (hb : b ≠ 0) (h : co (mg (ab a) (ab b) (bl a b)) = false) : qv a b = sg (ab a) (ab b) (bl a b) := by
  have e := (co_false h).2.2
  unfold qv sg
  rw [if_neg hb]
  cases hr : bl a b
  · rw [hr] at e; rw [if_neg Bool.false_ne_true, if_neg Bool.false_ne_true, e]
  · rw [hr] at e; rw [if_pos rfl, if_pos rfl, e]
theorem ab_z : ab 0 = 0 := by decide
theorem qv_zero {a b : Int} (ha : ab a = 0) (hb : b ≠ 0) : qv a b = 0 := by
  have h1 := ab_one hb
  unfold qv
  rw [if_neg hb, ha, mg_zero (by omega), mg_zero (by omega)]
  split <;> decide
theorem bl_ng {a b : Int} (ha : a ≠ 0) : bl (-cl a) b = !bl a b := by
  have h1 := cl_lt a
  have h2 := cl_z a
  have h3 := bl_iff a b
  have h4 := bl_iff (-cl a) b
  cases h5 : bl a b <;> cases h6 : bl (-cl a) b <;> simp only [h5, h6] at h3 h4 <;> simp at h3 h4 ⊢ <;> omega
theorem bl_nn {a b : Int} (ha : a ≠ 0) (hb : b ≠ 0) : bl (-cl a) (-cl b) = bl a b := by
  have h1 := cl_lt a
  have h2 := cl_z a
  have h1b := cl_lt b
  have h2b := cl_z b
  have h3 := bl_iff a b
  have h4 := bl_iff (-cl a) (-cl b)
  cases h5 : bl a b <;> cases h6 : bl (-cl a) (-cl b) <;> simp only [h5, h6] at h3 h4 <;> simp at h3 h4 ⊢ <;> omega
theorem qv_sum {a b : Int} (h : qb a b = false) (g : qb (-cl a) b = false) : qv a b + qv (-cl a) b = 0 ∨ qv a b + qv (-cl a) b = 1 := by
  obtain ⟨hb, _, _, h1⟩ := qb_false h
  obtain ⟨_, _, _, g1⟩ := qb_false g
  by_cases ha : a = 0
  · rw [qv_zero (by rw [ha]; exact ab_z) hb, qv_zero (by rw [ab_ng, ha]; exact ab_z) hb]; omega
  · rw [qv_sg hb h1, qv_sg hb g1, ab_ng, bl_ng ha]
    have m := mg_two (ab_bd a).1 (show 0 < ab b by have := ab_one hb; omega)
    unfold sg
    cases bl a b
    · simp; omega
    · simp; omega
theorem qv_nn {a b : Int} (h : qb a b = false) : qv (-cl a) (-cl b) = qv a b := by
  obtain ⟨hb, _, _, h1⟩ := qb_false h
  have hb2 : -cl b ≠ 0 := by have := cl_z b; omega
  by_cases ha : a = 0
  · rw [qv_zero (by rw [ha]; exact ab_z) hb, qv_zero (by rw [ab_ng, ha]; exact ab_z) hb2]
  · unfold qv
    rw [if_neg hb, if_neg hb2, ab_ng, ab_ng, bl_nn ha hb]
theorem t_ways (a b : Int) : (tb a b = true) ∨ (tb a b = false ∧ tb (-cl a) b = true) ∨ (tb a b = false ∧ tb (-cl a) b = false ∧ (tv a b + tv (-cl a) b == 0) = true) ∨ (tb a b = false ∧ tb (-cl a) b = false ∧ (tv a b + tv (-cl a) b == 0) = false ∧ (tv a b + tv (-cl a) b == 1) = true) := by
  cases h : tb a b
  · cases g : tb (-cl a) b
    · rcases tv_sum h g with e | e <;> simp [e]
    · simp
  · simp
theorem q_ways (a b : Int) : (qb a b = true) ∨ (qb a b = false ∧ qv (-cl a) (-cl b) = qv a b ∧ qb (-cl a) b = true) ∨ (qb a b = false ∧ qv (-cl a) (-cl b) = qv a b ∧ qb (-cl a) b = false ∧ (qv a b + qv (-cl a) b == 0) = true) ∨ (qb a b = false ∧ qv (-cl a) (-cl b) = qv a b ∧ qb (-cl a) b = false ∧ (qv a b + qv (-cl a) b == 0) = false ∧ (qv a b + qv (-cl a) b == 1) = true) := by
  cases h : qb a b
  · have e := qv_nn h
    cases g : qb (-cl a) b
    · rcases qv_sum h g with k | k <;> simp [e, k]
    · simp [e]
  · simp
set_option maxHeartbeats 4000000 in
set_option maxRecDepth 100000 in
theorem walk (a0 : Int) (a1 : Int) (w0 : (Lit.int .i64 a0).wf = true) (w1 : (Lit.int .i64 a1).wf = true) (w : World) :
    Calls Try.prog 8 #[.int .i64 a0, .int .i64 a1] w fun e w' => e = .returned (.bool true) ∧ Grown w w' := by
  have n1 := tv_nn a0 a1
  have d1 := tv_bd a0 a1
  have d2 := tv_bd (-cl a0) a1
  have d3 := qv_bd a0 a1
  have d4 := qv_bd (-cl a0) a1
  rcases t_ways a0 a1 with t1 | ⟨t1, t2⟩ | ⟨t1, t2, t3⟩ | ⟨t1, t2, t3, t4⟩
  all_goals rcases q_ways a0 a1 with q1 | ⟨q1, q5, q2⟩ | ⟨q1, q5, q2, q3⟩ | ⟨q1, q5, q2, q3, q4⟩
  all_goals
    go_enter Try.func8, Try.ntmps8; go_wp2_with (first | (go_at_call 9; refine (awake3_c _).mono ?_; rintro e w' ⟨rfl, x, rfl⟩) | (go_at_call 12; refine (times_c _ _ _).mono ?_; rintro e w' ⟨rfl, x, rfl⟩) | (go_at_call 14; refine (over_c _ _ _).mono ?_; rintro e w' ⟨rfl, x, rfl⟩) | (go_at_call 20; refine (neg_c _ _).mono ?_; rintro e w' ⟨rfl, rfl⟩))
    go_ret; exact ⟨rfl, Mr.grown (by repeat (first | (with_reducible exact Mr.refl _) | (with_reducible apply Mr.drew) | (with_reducible apply Mr.alloc) | (with_reducible apply Mr.ext) | (with_reducible refine Mr.setCell ?_ (by first | (simp; done) | (simp; omega) | omega | (refine leOf0 ?_; (repeat (first | (with_reducible exact Mr.refl _) | (with_reducible apply Mr.drew) | (with_reducible apply Mr.alloc) | (with_reducible apply Mr.ext) | (with_reducible refine Mr.setCell ?_ (by first | (simp; done) | (simp; omega) | omega) _))); done) | (refine leOf ?_; (repeat (first | (with_reducible exact Mr.refl _) | (with_reducible apply Mr.drew) | (with_reducible apply Mr.alloc) | (with_reducible apply Mr.ext) | (with_reducible refine Mr.setCell ?_ (by first | (simp; done) | (simp; omega) | omega) _))); done)) _)))⟩

set_option maxRecDepth 100000 in
theorem lifted (os : Os) (started : os.Started) (H : Type) (enc : TypeId × Value → H) :
    ReturnsInHanded {} Try.checked os 8 .any (Rows.scaleNegSpec.pre6 enc Try.prog Try.f8 Rows.scaleNegRow.domain false) (Rows.scaleNegSpec.post enc Try.prog Try.f8 false true false false) := by
  refine returnsInHanded_of_change (C := Try.checked) own started (by kernel_rfl) Try.func8
    (ChangeSpec.witness6 (enc := enc) (C := Try.checked) false ⟨#[], #[.int .i64 0, .int .i64 0], []⟩ 8 (by kernel_rfl) (by kernel_rfl) (by kernel_rfl) (by kernel_rfl)) ?_
  intro W base args ds gs before hval0 hW hcnd _
  have hval : ∀ (j : Nat) t v, Try.f8.params[j]? = some t → args[j]? = some v → Value.okWide Try.prog W .any base t v := hval0
  have hW' := hW
  obtain ⟨p, q, hA0, hV, rfl, hfz, hnd⟩ := hW
  have hA : DataW.TrodAll enc Try.prog W 0 (fun _ => true) true Try.f8.params.toList args.toList ds p := hA0
  rw [Try.params8] at hA hval
  obtain ⟨v0, vs0, d0, ds0, p_0, q_0, hargs, rfl, rfl, h0, r0⟩ := trodAll_cons hA
  obtain ⟨v1, vs1, d1, ds1, p_1, q_1, rfl, rfl, rfl, h1, r1⟩ := trodAll_cons r0
  obtain ⟨rfl, rfl, rfl⟩ := trodAll_nil r1
  obtain rfl : args = #[v0, v1] := by cases args; simp_all
  obtain ⟨rfl, rfl⟩ := trodVars_none hV
  obtain ⟨a0, rfl, rfl, rfl, w0⟩ := open_int Try.underlying3 (hval 0 3 v0 rfl rfl) h0
  obtain ⟨a1, rfl, rfl, rfl, w1⟩ := open_int Try.underlying3 (hval 1 3 v1 rfl rfl) h1
  clear hA0 hval0
  simp only [List.append_nil] at hW'
  refine (walk a0 a1 w0 w1 W).mono fun e W' ⟨he, hg⟩ => ?_
  subst he
  exact ⟨_, rfl, post_of_same (pa := []) (pv := []) hW' (fun _ _ _ => (trodAll_cons_mk (shut_bool Try.underlying4 _) trodAll_mk0)) (fun sp _ => (trodAll_cons_mk (shut_int Try.underlying3 w0) (trodAll_cons_mk (shut_int Try.underlying3 w1) trodAll_mk0))) (fun _ _ => rfl) rfl
    (hg.frame _) hg.2.1 (ok_one (by kernel_rfl) rfl (okWide_bool_mk Try.underlying4 _))⟩

theorem over : Rows.scaleNegRow.holds Try.pinned (OpenSpec.ofChange Rows.scaleNegSpec) :=
  OpenClaim.holds_of_wide 8 Try.f8 rfl rfl rfl rfl rfl rfl rfl ⟨rfl, rfl, rfl, rfl, rfl⟩ rfl rfl rfl rfl rfl (by kernel_rfl) Try.func8 (by kernel_rfl)
    (of_decide_eq_true (by kernel_rfl)) (by unfold Func.isWrapper; first | (rw [if_pos (by decide +kernel)]; kernel_rfl) | (rw [if_neg (by decide +kernel)]; exact ⟨rfl, rfl⟩))
    (fun os started H enc _ => lifted os started H enc)

theorem proved : Rows.ScaleNegSaid :=
  over
#print axioms proved
end Go.Proofs.Ytjenbhbadckooaa.scaleNeg
