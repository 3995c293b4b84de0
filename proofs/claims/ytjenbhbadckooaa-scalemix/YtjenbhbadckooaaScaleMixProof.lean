/- For every three ints the law ScaleMix answers true: what is mixed of two values is between both; of 0 it is the one, of 1 the other one. No condition. -/
import Derived.Test.YtjenbhbadckooaaRows
import Derived.WalkKit
import Derived.ProofKit
import Derived.OpenShut
import Derived.Test.YtjenbhbadckooaaScaleC2
import Derived.Test.YtjenbhbadckooaaScaleM2
namespace Go.Proofs.Ytjenbhbadckooaa.scaleMix
open Go.ChangeShapes Go.WideShapes Go.ChangeAt Go.RowKit
set_option linter.unusedVariables false
theorem own : ownKnob Try.prog.godebug = none := by kernel_rfl

open Go.Proofs.Ytjenbhbadckooaa.Fx Go.Proofs.Ytjenbhbadckooaa.Wd Go.Proofs.Ytjenbhbadckooaa.Dv Go.Proofs.Ytjenbhbadckooaa.Sc
attribute [local go_sem] Ext.cell Ext.froz Ext.lt Ext.lt1 Ext.lt2 Ext.lt3 Ext.all Ext.set_u drew_heap setCell_size Ext.set_size
attribute [local go_sem ↓] eq_wide eqw_self
attribute [local go_sem] and62 and1 sgn64 not64 wrap_and
theorem tv_zero (a : Int) : tv a 0 = 0 := by
  unfold tv ml; rw [show cl 0 = 0 by decide, Int.mul_zero]; decide
theorem tv_one (a : Int) : tv a 4294967296 = cl a := by
  have h : rn (ml a 4294967296) = cl a := by
    unfold ml; rw [show cl 4294967296 = 4294967296 by decide]; unfold rn; omega
  unfold tv; rw [h]; exact (clcl a).1
theorem mv_zero (a b : Int) : mv a b 0 = cl a := by
  unfold mv; rw [tv_zero]
  unfold av
  rw [show cl 0 = 0 by decide, Int.add_zero, (clcl a).1]
theorem so_false {a b : Int} (h : so a b = false) : sv a b = cl a - cl b := by
  unfold so at h
  simp only [Bool.or_eq_false_iff] at h
  unfold sv
  exact (co_false h.2).2.2
theorem ao_false {a b : Int} (h : ao a b = false) : av a b = cl a + cl b := by
  unfold ao at h
  simp only [Bool.or_eq_false_iff] at h
  unfold av
  exact (co_false h.2).2.2
theorem mb_false {a b t : Int} (h : mb a b t = false) : so b a = false ∧ tb (sv b a) t = false ∧ ao a (tv (sv b a) t) = false := by
  unfold mb at h
  simp only [Bool.or_eq_false_iff] at h
  exact ⟨h.1.1, h.1.2, h.2⟩
theorem mv_one {a b : Int} (h : mb (cl a) (cl b) 4294967296 = false) : mv (cl a) (cl b) 4294967296 = cl b := by
  obtain ⟨h1, h2, h3⟩ := mb_false h
  unfold mv
  have e := so_false h1
  have b1 := cl_bd (cl (cl b) - cl (cl a))
  rw [ao_false h3, tv_one]
  have e2 : cl (cl (sv (cl b) (cl a))) = sv (cl b) (cl a) := by unfold sv; rw [(clcl _).1, (clcl _).1]
  rw [e2, e, (clcl a).1, (clcl b).1]
  omega
theorem mv_in {a b t : Int} (h : mb (cl a) (cl b) t = false) (h0 : 0 ≤ t) (h1 : t < 4294967296) : min (cl a) (cl b) ≤ mv (cl a) (cl b) t ∧ mv (cl a) (cl b) t ≤ max (cl a) (cl b) := by
  obtain ⟨g1, g2, g3⟩ := mb_false h
  have e := so_false g1
  rw [(clcl a).1, (clcl b).1] at e
  unfold mv
  have b1 := tv_bd (sv (cl b) (cl a)) t
  rw [ao_false g3, (clcl a).1, (cl_in b1.1 b1.2).1, (tv_ok g2).2.2.1, e]
  have r := rn_in ((cl b - cl a) * t)
  generalize hd : cl b - cl a = d at *
  rcases Int.lt_or_le d 0 with c | c
  · have k1 : d * t ≤ 0 := Int.mul_nonpos_of_nonpos_of_nonneg (by omega) h0
    have k2 : d * 4294967295 ≤ d * t := Int.mul_le_mul_of_nonpos_left (by omega) (by omega)
    generalize d * t = z at *
    omega
  · have k1 : 0 ≤ d * t := Int.mul_nonneg c h0
    have k2 : d * t ≤ d * 4294967295 := Int.mul_le_mul_of_nonneg_left (by omega) c
    generalize d * t = z at *
    omega
set_option maxHeartbeats 4000000 in
set_option maxRecDepth 100000 in
theorem walk (a0 : Int) (a1 : Int) (a2 : Int) (w0 : (Lit.int .i64 a0).wf = true) (w1 : (Lit.int .i64 a1).wf = true) (w2 : (Lit.int .i64 a2).wf = true) (w : World) :
    Calls Try.prog 6 #[.int .i64 a0, .int .i64 a1, .int .i64 a2] w fun e w' => e = .returned (.bool true) ∧ Grown w w' := by
  have m0 := mv_zero a0 a1
  obtain ⟨_, _, r0, r1⟩ := fl_bd a2
  generalize hr : rs a2 = r at *
  have hx : (cl a0 < cl a1 ∧ min (cl a0) (cl a1) = cl a0 ∧ max (cl a0) (cl a1) = cl a1) ∨ (cl a1 ≤ cl a0 ∧ min (cl a0) (cl a1) = cl a1 ∧ max (cl a0) (cl a1) = cl a0) := by omega
  cases hc : mb (cl a0) (cl a1) 4294967296
  · have m1 := mv_one hc
    cases hd : mb (cl a0) (cl a1) r
    · obtain ⟨k1, k2⟩ := mv_in hd r0 r1
      rcases hx with ⟨h1, h2, h3⟩ | ⟨h1, h2, h3⟩
      all_goals
        rw [h2] at k1
        rw [h3] at k2
        clear h2 h3
        go_enter Try.func6, Try.ntmps6; go_wp2_with (first | (go_at_call 9; refine (awake3_c _).mono ?_; rintro e w' ⟨rfl, x, rfl⟩) | (go_at_call 16; refine (mix_c _ _ _ _).mono ?_; rintro e w' ⟨rfl, x, rfl⟩) | (go_at_call 18; refine (clamp_c _ _).mono ?_; rintro e w' ⟨rfl, rfl⟩) | (go_at_call 27; refine (rest_c _ _).mono ?_; rintro e w' ⟨rfl, rfl⟩))
        all_goals
          go_ret
          exact ⟨ret_b' (by first | rfl | (simp; omega)), Mr.grown (by repeat (first | (with_reducible exact Mr.refl _) | (with_reducible apply Mr.drew) | (with_reducible apply Mr.alloc) | (with_reducible apply Mr.ext) | (with_reducible refine Mr.setCell ?_ (by first | (simp; done) | (simp; omega) | omega | (refine leOf0 ?_; (repeat (first | (with_reducible exact Mr.refl _) | (with_reducible apply Mr.drew) | (with_reducible apply Mr.alloc) | (with_reducible apply Mr.ext) | (with_reducible refine Mr.setCell ?_ (by first | (simp; done) | (simp; omega) | omega) _))); done) | (refine leOf ?_; (repeat (first | (with_reducible exact Mr.refl _) | (with_reducible apply Mr.drew) | (with_reducible apply Mr.alloc) | (with_reducible apply Mr.ext) | (with_reducible refine Mr.setCell ?_ (by first | (simp; done) | (simp; omega) | omega) _))); done)) _)))⟩
    · clear hx
      go_enter Try.func6, Try.ntmps6; go_wp2_with (first | (go_at_call 9; refine (awake3_c _).mono ?_; rintro e w' ⟨rfl, x, rfl⟩) | (go_at_call 16; refine (mix_c _ _ _ _).mono ?_; rintro e w' ⟨rfl, x, rfl⟩) | (go_at_call 18; refine (clamp_c _ _).mono ?_; rintro e w' ⟨rfl, rfl⟩) | (go_at_call 27; refine (rest_c _ _).mono ?_; rintro e w' ⟨rfl, rfl⟩))
      go_ret; exact ⟨rfl, Mr.grown (by repeat (first | (with_reducible exact Mr.refl _) | (with_reducible apply Mr.drew) | (with_reducible apply Mr.alloc) | (with_reducible apply Mr.ext) | (with_reducible refine Mr.setCell ?_ (by first | (simp; done) | (simp; omega) | omega | (refine leOf0 ?_; (repeat (first | (with_reducible exact Mr.refl _) | (with_reducible apply Mr.drew) | (with_reducible apply Mr.alloc) | (with_reducible apply Mr.ext) | (with_reducible refine Mr.setCell ?_ (by first | (simp; done) | (simp; omega) | omega) _))); done) | (refine leOf ?_; (repeat (first | (with_reducible exact Mr.refl _) | (with_reducible apply Mr.drew) | (with_reducible apply Mr.alloc) | (with_reducible apply Mr.ext) | (with_reducible refine Mr.setCell ?_ (by first | (simp; done) | (simp; omega) | omega) _))); done)) _)))⟩
  · cases hd : mb (cl a0) (cl a1) r
    · obtain ⟨k1, k2⟩ := mv_in hd r0 r1
      rcases hx with ⟨h1, h2, h3⟩ | ⟨h1, h2, h3⟩
      all_goals
        rw [h2] at k1
        rw [h3] at k2
        clear h2 h3
        go_enter Try.func6, Try.ntmps6; go_wp2_with (first | (go_at_call 9; refine (awake3_c _).mono ?_; rintro e w' ⟨rfl, x, rfl⟩) | (go_at_call 16; refine (mix_c _ _ _ _).mono ?_; rintro e w' ⟨rfl, x, rfl⟩) | (go_at_call 18; refine (clamp_c _ _).mono ?_; rintro e w' ⟨rfl, rfl⟩) | (go_at_call 27; refine (rest_c _ _).mono ?_; rintro e w' ⟨rfl, rfl⟩))
        all_goals
          go_ret
          exact ⟨ret_b' (by first | rfl | (simp; omega)), Mr.grown (by repeat (first | (with_reducible exact Mr.refl _) | (with_reducible apply Mr.drew) | (with_reducible apply Mr.alloc) | (with_reducible apply Mr.ext) | (with_reducible refine Mr.setCell ?_ (by first | (simp; done) | (simp; omega) | omega | (refine leOf0 ?_; (repeat (first | (with_reducible exact Mr.refl _) | (with_reducible apply Mr.drew) | (with_reducible apply Mr.alloc) | (with_reducible apply Mr.ext) | (with_reducible refine Mr.setCell ?_ (by first | (simp; done) | (simp; omega) | omega) _))); done) | (refine leOf ?_; (repeat (first | (with_reducible exact Mr.refl _) | (with_reducible apply Mr.drew) | (with_reducible apply Mr.alloc) | (with_reducible apply Mr.ext) | (with_reducible refine Mr.setCell ?_ (by first | (simp; done) | (simp; omega) | omega) _))); done)) _)))⟩
    · clear hx
      go_enter Try.func6, Try.ntmps6; go_wp2_with (first | (go_at_call 9; refine (awake3_c _).mono ?_; rintro e w' ⟨rfl, x, rfl⟩) | (go_at_call 16; refine (mix_c _ _ _ _).mono ?_; rintro e w' ⟨rfl, x, rfl⟩) | (go_at_call 18; refine (clamp_c _ _).mono ?_; rintro e w' ⟨rfl, rfl⟩) | (go_at_call 27; refine (rest_c _ _).mono ?_; rintro e w' ⟨rfl, rfl⟩))
      go_ret; exact ⟨rfl, Mr.grown (by repeat (first | (with_reducible exact Mr.refl _) | (with_reducible apply Mr.drew) | (with_reducible apply Mr.alloc) | (with_reducible apply Mr.ext) | (with_reducible refine Mr.setCell ?_ (by first | (simp; done) | (simp; omega) | omega | (refine leOf0 ?_; (repeat (first | (with_reducible exact Mr.refl _) | (with_reducible apply Mr.drew) | (with_reducible apply Mr.alloc) | (with_reducible apply Mr.ext) | (with_reducible refine Mr.setCell ?_ (by first | (simp; done) | (simp; omega) | omega) _))); done) | (refine leOf ?_; (repeat (first | (with_reducible exact Mr.refl _) | (with_reducible apply Mr.drew) | (with_reducible apply Mr.alloc) | (with_reducible apply Mr.ext) | (with_reducible refine Mr.setCell ?_ (by first | (simp; done) | (simp; omega) | omega) _))); done)) _)))⟩

set_option maxRecDepth 100000 in
theorem lifted (os : Os) (started : os.Started) (H : Type) (enc : TypeId × Value → H) :
    ReturnsInHanded {} Try.checked os 6 .any (Rows.scaleMixSpec.pre6 enc Try.prog Try.f6 Rows.scaleMixRow.domain false) (Rows.scaleMixSpec.post enc Try.prog Try.f6 false true false false) := by
  refine returnsInHanded_of_change (C := Try.checked) own started (by kernel_rfl) Try.func6
    (ChangeSpec.witness6 (enc := enc) (C := Try.checked) false ⟨#[], #[.int .i64 0, .int .i64 0, .int .i64 0], []⟩ 8 (by kernel_rfl) (by kernel_rfl) (by kernel_rfl) (by kernel_rfl)) ?_
  intro W base args ds gs before hval0 hW hcnd _
  have hval : ∀ (j : Nat) t v, Try.f6.params[j]? = some t → args[j]? = some v → Value.okWide Try.prog W .any base t v := hval0
  have hW' := hW
  obtain ⟨p, q, hA0, hV, rfl, hfz, hnd⟩ := hW
  have hA : DataW.TrodAll enc Try.prog W 0 (fun _ => true) true Try.f6.params.toList args.toList ds p := hA0
  rw [Try.params6] at hA hval
  obtain ⟨v0, vs0, d0, ds0, p_0, q_0, hargs, rfl, rfl, h0, r0⟩ := trodAll_cons hA
  obtain ⟨v1, vs1, d1, ds1, p_1, q_1, rfl, rfl, rfl, h1, r1⟩ := trodAll_cons r0
  obtain ⟨v2, vs2, d2, ds2, p_2, q_2, rfl, rfl, rfl, h2, r2⟩ := trodAll_cons r1
  obtain ⟨rfl, rfl, rfl⟩ := trodAll_nil r2
  obtain rfl : args = #[v0, v1, v2] := by cases args; simp_all
  obtain ⟨rfl, rfl⟩ := trodVars_none hV
  obtain ⟨a0, rfl, rfl, rfl, w0⟩ := open_int Try.underlying3 (hval 0 3 v0 rfl rfl) h0
  obtain ⟨a1, rfl, rfl, rfl, w1⟩ := open_int Try.underlying3 (hval 1 3 v1 rfl rfl) h1
  obtain ⟨a2, rfl, rfl, rfl, w2⟩ := open_int Try.underlying3 (hval 2 3 v2 rfl rfl) h2
  clear hA0 hval0
  simp only [List.append_nil] at hW'
  refine (walk a0 a1 a2 w0 w1 w2 W).mono fun e W' ⟨he, hg⟩ => ?_
  subst he
  exact ⟨_, rfl, post_of_same (pa := []) (pv := []) hW' (fun _ _ _ => (trodAll_cons_mk (shut_bool Try.underlying4 _) trodAll_mk0)) (fun sp _ => (trodAll_cons_mk (shut_int Try.underlying3 w0) (trodAll_cons_mk (shut_int Try.underlying3 w1) (trodAll_cons_mk (shut_int Try.underlying3 w2) trodAll_mk0)))) (fun _ _ => rfl) rfl
    (hg.frame _) hg.2.1 (ok_one (by kernel_rfl) rfl (okWide_bool_mk Try.underlying4 _))⟩

theorem over : Rows.scaleMixRow.holds Try.pinned (OpenSpec.ofChange Rows.scaleMixSpec) :=
  OpenClaim.holds_of_wide 6 Try.f6 rfl rfl rfl rfl rfl rfl rfl ⟨rfl, rfl, rfl, rfl, rfl⟩ rfl rfl rfl rfl rfl (by kernel_rfl) Try.func6 (by kernel_rfl)
    (of_decide_eq_true (by kernel_rfl)) (by unfold Func.isWrapper; first | (rw [if_pos (by decide +kernel)]; kernel_rfl) | (rw [if_neg (by decide +kernel)]; exact ⟨rfl, rfl⟩))
    (fun os started H enc _ => lifted os started H enc)

theorem proved : Rows.ScaleMixSaid :=
  over
#print axioms proved
end Go.Proofs.Ytjenbhbadckooaa.scaleMix
