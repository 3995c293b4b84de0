/- For every two ints the law ScaleTimes answers true: products are within a half of the exact ones, in either order; by 1, 0, -1 and 2 they are exact. No condition. -/
import Derived.Test.YtjenbhbadckooaaRows
import Derived.WalkKit
import Derived.ProofKit
import Derived.OpenShut
import Derived.Test.YtjenbhbadckooaaScaleC2
import Derived.Test.YtjenbhbadckooaaScaleM2
namespace Go.Proofs.Ytjenbhbadckooaa.scaleTimes
open Go.ChangeShapes Go.WideShapes Go.ChangeAt Go.RowKit
set_option linter.unusedVariables false
theorem own : ownKnob Try.prog.godebug = none := by kernel_rfl

open Go.Proofs.Ytjenbhbadckooaa.Fx Go.Proofs.Ytjenbhbadckooaa.Wd Go.Proofs.Ytjenbhbadckooaa.Dv Go.Proofs.Ytjenbhbadckooaa.Sc
attribute [local go_sem] Ext.cell Ext.froz Ext.lt Ext.lt1 Ext.lt2 Ext.lt3 Ext.all Ext.set_u drew_heap setCell_size Ext.set_size
attribute [local go_sem ↓] eq_wide eqw_self
attribute [local go_sem] and62 and1 sgn64 not64 wrap_and
theorem ml_comm (a b : Int) : ml b a = ml a b := by unfold ml; exact Int.mul_comm _ _
theorem tv_comm (a b : Int) : tv b a = tv a b := by unfold tv; rw [ml_comm]
theorem tb_comm (a b : Int) : tb b a = tb a b := by
  unfold tb; rw [ml_comm]
  cases co (rn (ml a b)) <;> cases co a <;> cases co b <;> rfl
theorem tv_zero (a : Int) : tv a 0 = 0 := by
  unfold tv ml; rw [show cl 0 = 0 by decide, Int.mul_zero]; decide
theorem tv_one (a : Int) : tv a 4294967296 = cl a := by
  have h : rn (ml a 4294967296) = cl a := by
    unfold ml; rw [show cl 4294967296 = 4294967296 by decide]; unfold rn; omega
  unfold tv; rw [h]; exact (clcl a).1
theorem tv_neg (a : Int) : tv a (-4294967296) = -cl a := by
  have h : rn (ml a (-4294967296)) = -cl a := by
    unfold ml; rw [show cl (-4294967296) = -4294967296 by decide]; unfold rn; omega
  unfold tv; rw [h]; exact cl_neg a
theorem tv_two (a : Int) : tv (cl a) 8589934592 = av (cl a) (cl a) ∧ tb (cl a) 8589934592 = ao (cl a) (cl a) := by
  have h : rn (ml (cl a) 8589934592) = cl a + cl a := by
    unfold ml; rw [(clcl a).1, show cl 8589934592 = 8589934592 by decide]; unfold rn; omega
  unfold tv tb av ao
  rw [h, (clcl a).1, (clcl a).2, show co 8589934592 = false by decide]
  simp
theorem near_ways {a b : Int} (h : tb a b = false) : ∃ M N L U : Int, ml a b = M ∧ ml (tv a b) 4294967296 = N ∧ vw (hi M) (lo M) = M ∧ vw (hi N) (lo N) = N ∧ cut (N + -2147483648) = L ∧ cut (N + 2147483648) = U ∧ vw (hi L) (lo L) = L ∧ vw (hi U) (lo U) = U ∧ cm L M ≤ 0 ∧ cm M U < 0 := by
  obtain ⟨ha, hb, e, va, vb⟩ := tv_ok h
  have r := rn_in (a * b)
  rw [← e] at r
  have p := tv_bd a b
  have m1 : ml a b = a * b := by unfold ml; rw [ha, hb]
  have m2 : ml (tv a b) 4294967296 = tv a b * 4294967296 := by
    unfold ml; rw [(cl_in p.1 p.2).1, show cl 4294967296 = 4294967296 by decide]
  have i1 := ml_inr a b
  rw [m1] at i1 ⊢
  rw [m2]
  have i2 : inr (tv a b * 4294967296) = true := by rw [inr_iff]; omega
  have i3 : inr (tv a b * 4294967296 + -2147483648) = true := by rw [inr_iff]; omega
  have i4 : inr (tv a b * 4294967296 + 2147483648) = true := by rw [inr_iff]; omega
  refine ⟨_, _, _, _, rfl, rfl, vw_hl i1, vw_hl i2, cut_of i3, cut_of i4, vw_hl i3, vw_hl i4, ?_, ?_⟩
  · unfold cm; split
    · omega
    · rw [if_neg (by omega)]; omega
  · unfold cm; rw [if_pos (by omega)]; omega
set_option maxHeartbeats 4000000 in
set_option maxRecDepth 100000 in
theorem walk (a0 : Int) (a1 : Int) (w0 : (Lit.int .i64 a0).wf = true) (w1 : (Lit.int .i64 a1).wf = true) (w : World) :
    Calls Try.prog 4 #[.int .i64 a0, .int .i64 a1] w fun e w' => e = .returned (.bool true) ∧ Grown w w' := by
  have e1 := tv_comm a0 a1
  have e2 := tb_comm a0 a1
  have e3 := tv_zero a0
  have e4 := tv_one a0
  have e5 := tv_neg a0
  have e6 := tv_two a0
  cases hc : tb a0 a1
  · obtain ⟨M, N, L, U, f1, f2, f3, f4, f5, f6, f7, f8, f9, f10⟩ := near_ways hc
    have g1 : vw (hi (-2147483648)) (lo (-2147483648)) = -2147483648 := by decide
    have g2 : vw (hi 2147483648) (lo 2147483648) = 2147483648 := by decide
    go_enter Try.func4, Try.ntmps4; go_wp2_with (first | (go_at_call 9; refine (awake3_c _).mono ?_; rintro e w' ⟨rfl, x, rfl⟩) | (go_at_call 12; refine (times_c _ _ _).mono ?_; rintro e w' ⟨rfl, x, rfl⟩) | (go_at_call 18; refine (clamp_c _ _).mono ?_; rintro e w' ⟨rfl, rfl⟩) | (go_at_call 19; refine (add_c _ _ _).mono ?_; rintro e w' ⟨rfl, rfl⟩) | (go_at_call 20; refine (neg_c _ _).mono ?_; rintro e w' ⟨rfl, rfl⟩) | (go_at_call 21; refine (wmul_c _ _ _).mono ?_; rintro e w' ⟨rfl, xm, rfl⟩) | (go_at_call 24; refine (wcmp_c _ _ _ _ _).mono ?_; rintro e w' ⟨rfl, x, rfl⟩))
    go_region_held3 (fun w' => w'.cell? ⟨xm.u.heap.size, 0, none⟩ = some (.int .i64 (hi N)) ∧ w'.cell? ⟨xm.u.heap.size, 1, none⟩ = some (.int .i64 (lo N))) ((simp [go_sem]; done)) (first | (go_at_call 23; refine (wof_c _ _ ?_).mono ?_; (first | omega | exact ⟨by omega, by omega⟩); rintro e w' ⟨rfl, x, rfl⟩) | (go_at_call 22; refine (wadd_c _ _ _ _ _).mono ?_; rintro e w' ⟨rfl, x, rfl⟩))
    all_goals
      go_wp2_with fail
      go_region_held3 (fun w' => w'.cell? ⟨xm.u.heap.size, 0, none⟩ = some (.int .i64 (hi N)) ∧ w'.cell? ⟨xm.u.heap.size, 1, none⟩ = some (.int .i64 (lo N))) ((simp [go_sem]; done)) (first | (go_at_call 23; refine (wof_c _ _ ?_).mono ?_; (first | omega | exact ⟨by omega, by omega⟩); rintro e w' ⟨rfl, x, rfl⟩) | (go_at_call 22; refine (wadd_c _ _ _ _ _).mono ?_; rintro e w' ⟨rfl, x, rfl⟩))
      all_goals
        go_wp2_with (go_at_call 24; refine (wcmp_c _ _ _ _ _).mono ?_; rintro e w' ⟨rfl, x, rfl⟩)
        go_ret; exact ⟨rfl, Mr.grown (by repeat (first | (with_reducible exact Mr.refl _) | (with_reducible apply Mr.drew) | (with_reducible apply Mr.alloc) | (with_reducible apply Mr.ext) | (with_reducible refine Mr.setCell ?_ (by first | (simp; done) | (simp; omega) | omega | (refine leOf0 ?_; (repeat (first | (with_reducible exact Mr.refl _) | (with_reducible apply Mr.drew) | (with_reducible apply Mr.alloc) | (with_reducible apply Mr.ext) | (with_reducible refine Mr.setCell ?_ (by first | (simp; done) | (simp; omega) | omega | (refine leOf0 ?_; (repeat (first | (with_reducible exact Mr.refl _) | (with_reducible apply Mr.drew) | (with_reducible apply Mr.alloc) | (with_reducible apply Mr.ext) | (with_reducible refine Mr.setCell ?_ (by first | (simp; done) | (simp; omega) | omega) _))); done) | (refine leOf ?_; (repeat (first | (with_reducible exact Mr.refl _) | (with_reducible apply Mr.drew) | (with_reducible apply Mr.alloc) | (with_reducible apply Mr.ext) | (with_reducible refine Mr.setCell ?_ (by first | (simp; done) | (simp; omega) | omega) _))); done)) _))); done) | (refine leOf ?_; (repeat (first | (with_reducible exact Mr.refl _) | (with_reducible apply Mr.drew) | (with_reducible apply Mr.alloc) | (with_reducible apply Mr.ext) | (with_reducible refine Mr.setCell ?_ (by first | (simp; done) | (simp; omega) | omega | (refine leOf0 ?_; (repeat (first | (with_reducible exact Mr.refl _) | (with_reducible apply Mr.drew) | (with_reducible apply Mr.alloc) | (with_reducible apply Mr.ext) | (with_reducible refine Mr.setCell ?_ (by first | (simp; done) | (simp; omega) | omega) _))); done) | (refine leOf ?_; (repeat (first | (with_reducible exact Mr.refl _) | (with_reducible apply Mr.drew) | (with_reducible apply Mr.alloc) | (with_reducible apply Mr.ext) | (with_reducible refine Mr.setCell ?_ (by first | (simp; done) | (simp; omega) | omega) _))); done)) _))); done)) _)))⟩
  · go_enter Try.func4, Try.ntmps4; go_wp2_with (first | (go_at_call 9; refine (awake3_c _).mono ?_; rintro e w' ⟨rfl, x, rfl⟩) | (go_at_call 12; refine (times_c _ _ _).mono ?_; rintro e w' ⟨rfl, x, rfl⟩) | (go_at_call 18; refine (clamp_c _ _).mono ?_; rintro e w' ⟨rfl, rfl⟩) | (go_at_call 19; refine (add_c _ _ _).mono ?_; rintro e w' ⟨rfl, rfl⟩) | (go_at_call 20; refine (neg_c _ _).mono ?_; rintro e w' ⟨rfl, rfl⟩) | (go_at_call 21; refine (wmul_c _ _ _).mono ?_; rintro e w' ⟨rfl, xm, rfl⟩) | (go_at_call 24; refine (wcmp_c _ _ _ _ _).mono ?_; rintro e w' ⟨rfl, x, rfl⟩))
    go_ret; exact ⟨rfl, Mr.grown (by repeat (first | (with_reducible exact Mr.refl _) | (with_reducible apply Mr.drew) | (with_reducible apply Mr.alloc) | (with_reducible apply Mr.ext) | (with_reducible refine Mr.setCell ?_ (by first | (simp; done) | (simp; omega) | omega | (refine leOf0 ?_; (repeat (first | (with_reducible exact Mr.refl _) | (with_reducible apply Mr.drew) | (with_reducible apply Mr.alloc) | (with_reducible apply Mr.ext) | (with_reducible refine Mr.setCell ?_ (by first | (simp; done) | (simp; omega) | omega) _))); done) | (refine leOf ?_; (repeat (first | (with_reducible exact Mr.refl _) | (with_reducible apply Mr.drew) | (with_reducible apply Mr.alloc) | (with_reducible apply Mr.ext) | (with_reducible refine Mr.setCell ?_ (by first | (simp; done) | (simp; omega) | omega) _))); done)) _)))⟩

set_option maxRecDepth 100000 in
theorem lifted (os : Os) (started : os.Started) (H : Type) (enc : TypeId × Value → H) :
    ReturnsInHanded {} Try.checked os 4 .any (Rows.scaleTimesSpec.pre6 enc Try.prog Try.f4 Rows.scaleTimesRow.domain false) (Rows.scaleTimesSpec.post enc Try.prog Try.f4 false true false false) := by
  refine returnsInHanded_of_change (C := Try.checked) own started (by kernel_rfl) Try.func4
    (ChangeSpec.witness6 (enc := enc) (C := Try.checked) false ⟨#[], #[.int .i64 0, .int .i64 0], []⟩ 8 (by kernel_rfl) (by kernel_rfl) (by kernel_rfl) (by kernel_rfl)) ?_
  intro W base args ds gs before hval0 hW hcnd _
  have hval : ∀ (j : Nat) t v, Try.f4.params[j]? = some t → args[j]? = some v → Value.okWide Try.prog W .any base t v := hval0
  have hW' := hW
  obtain ⟨p, q, hA0, hV, rfl, hfz, hnd⟩ := hW
  have hA : DataW.TrodAll enc Try.prog W 0 (fun _ => true) true Try.f4.params.toList args.toList ds p := hA0
  rw [Try.params4] at hA hval
  obtain ⟨v0, vs0, d0, ds0, p_0, q_0, hargs, rfl, rfl, h0, r0⟩ := trodAll_cons hA
  obtain ⟨v1, vs1, d1, ds1, p_1, q_1, rfl, rfl, rfl, h1, r1⟩ := trodAll_cons r0
  obtain ⟨rfl, rfl, rfl⟩ := trodAll_nil r1
  obtain rfl : args = #[v0, v1] := by cases args; simp_all
  obtain ⟨rfl, rfl⟩ := trodVars_none hV
  obtain ⟨a0, rfl, rfl, rfl, w0⟩ := open_int Try.underlying3 (hval 0 3 v0 rfl rfl) h0
  obtain ⟨a1, rfl, rfl, rfl, w1⟩ := open_int Try.underlying3 (hval 1 3 v1 rfl rfl) h1
  clear hA0 hval0
  simp only [List.append_nil] at hW'
  refine (walk a0 a1 w0 w1 W).mono fun e W' ⟨he, hg⟩ => ?_
  subst he
  exact ⟨_, rfl, post_of_same (pa := []) (pv := []) hW' (fun _ _ _ => (trodAll_cons_mk (shut_bool Try.underlying4 _) trodAll_mk0)) (fun sp _ => (trodAll_cons_mk (shut_int Try.underlying3 w0) (trodAll_cons_mk (shut_int Try.underlying3 w1) trodAll_mk0))) (fun _ _ => rfl) rfl
    (hg.frame _) hg.2.1 (ok_one (by kernel_rfl) rfl (okWide_bool_mk Try.underlying4 _))⟩

theorem over : Rows.scaleTimesRow.holds Try.pinned (OpenSpec.ofChange Rows.scaleTimesSpec) :=
  OpenClaim.holds_of_wide 4 Try.f4 rfl rfl rfl rfl rfl rfl rfl ⟨rfl, rfl, rfl, rfl, rfl⟩ rfl rfl rfl rfl rfl (by kernel_rfl) Try.func4 (by kernel_rfl)
    (of_decide_eq_true (by kernel_rfl)) (by unfold Func.isWrapper; first | (rw [if_pos (by decide +kernel)]; kernel_rfl) | (rw [if_neg (by decide +kernel)]; exact ⟨rfl, rfl⟩))
    (fun os started H enc _ => lifted os started H enc)

theorem proved : Rows.ScaleTimesSaid :=
  over
#print axioms proved
end Go.Proofs.Ytjenbhbadckooaa.scaleTimes
