/- For every two ints the law ScaleOver answers true: what a quotient is multiplied back to is within half of the divisor; by 1 it is the value; of a value by itself it is 1. No condition. -/
import Derived.Test.YtjenbhbadckooaaRows
import Derived.WalkKit
import Derived.ProofKit
import Derived.OpenShut
import Derived.Test.YtjenbhbadckooaaScaleC2
import Derived.Test.YtjenbhbadckooaaScaleM2
namespace Go.Proofs.Ytjenbhbadckooaa.scaleOver
open Go.ChangeShapes Go.WideShapes Go.ChangeAt Go.RowKit
set_option linter.unusedVariables false
theorem own : ownKnob Try.prog.godebug = none := by kernel_rfl

open Go.Proofs.Ytjenbhbadckooaa.Fx Go.Proofs.Ytjenbhbadckooaa.Wd Go.Proofs.Ytjenbhbadckooaa.Dv Go.Proofs.Ytjenbhbadckooaa.Sc
attribute [local go_sem] Ext.cell Ext.froz Ext.lt Ext.lt1 Ext.lt2 Ext.lt3 Ext.all Ext.set_u drew_heap setCell_size Ext.set_size
attribute [local go_sem ↓] eq_wide eqw_self
attribute [local go_sem] and62 and1 sgn64 not64 wrap_and
theorem cl_z (a : Int) : cl a = 0 ↔ a = 0 := by
  unfold cl wv
  repeat' split
  all_goals omega
theorem ab_one2 : ab 4294967296 = 4294967296 := by decide
theorem mg_byone {x : Int} (r : Bool) : mg x 4294967296 r = x := by
  unfold mg; split <;> omega
theorem over_one (a : Int) : qv a 4294967296 = cl a := by
  have a0 := ab_bd a
  unfold qv
  rw [if_neg (by decide), ab_one2, mg_byone, mg_byone, (cl_in (by omega) a0.2).1]
  have h := bl_iff a 4294967296
  cases hr : bl a 4294967296
  · rw [hr] at h; simp at h; rw [if_neg Bool.false_ne_true, ab_pos (by omega)]
  · rw [hr] at h; simp at h; rw [if_pos rfl, ab_neg h]
theorem bl_self (a : Int) : bl a a = false := by unfold bl; simp
theorem mg_self {x : Int} (h : 0 < x) (r : Bool) : mg x x r = 4294967296 := by
  rw [mg_eq (by omega) h, Int.mul_ediv_cancel_left _ (by omega), Int.mul_emod_right, if_neg (by omega), Int.add_zero]
theorem over_self {a : Int} (h : a ≠ 0) : qv (cl a) (cl a) = 4294967296 ∧ qb (cl a) (cl a) = false := by
  have hc : cl a ≠ 0 := fun g => h ((cl_z a).1 g)
  have h1 := ab_one hc
  unfold qv qb
  rw [if_neg hc, if_neg hc, bl_self, if_neg Bool.false_ne_true, mg_self (by omega), (clcl a).2]
  decide
theorem over_zero (a : Int) : qb a 0 = true ∧ (a = 0 → qv a 0 = 0) ∧ (a ≠ 0 → ab (qv a 0) = 288230376151711744) := by
  unfold qb qv
  rw [if_pos rfl, if_pos rfl]
  refine ⟨rfl, ?_, ?_⟩
  · rintro rfl; decide
  · intro h
    unfold cm
    split
    · decide
    · rw [if_pos (by omega)]; decide
theorem near_over {a b : Int} (h : qb a b = false) : ∃ B E R T Z NT : Int, ml (qv a b) b = B ∧ ml a 4294967296 = E ∧ vw (hi B) (lo B) = B ∧ vw (hi E) (lo E) = E ∧ cut (-B) = -B ∧ vw (hi (-B)) (lo (-B)) = -B ∧ cut (E + -B) = R ∧ inr (E + -B) = true ∧ vw (hi R) (lo R) = R ∧ cut (R + R) = T ∧ inr (R + R) = true ∧ vw (hi T) (lo T) = T ∧ ab (cl b) = Z ∧ 0 ≤ Z ∧ Z ≤ 288230376151711744 ∧ vw (hi Z) (lo Z) = Z ∧ cut (-T) = NT ∧ vw (hi NT) (lo NT) = NT ∧ cm T Z ≤ 0 ∧ cm NT Z ≤ 0 := by
  obtain ⟨hb, ha, hb2, n1, n2⟩ := qv_ok h
  have q := qv_bd a b
  have m1 : ml (qv a b) b = qv a b * b := by unfold ml; rw [(cl_in q.1 q.2).1, hb2]
  have m2 : ml a 4294967296 = a * 4294967296 := by unfold ml; rw [ha, show cl 4294967296 = 4294967296 by decide]
  have i1 := ml_inr (qv a b) b
  have i2 := ml_inr a 4294967296
  have z := ab_bd b
  have va := co_false (qb_false h).2.1
  have vE : -1237940039285380274899124224 ≤ a * 4294967296 ∧ a * 4294967296 ≤ 1237940039285380274899124224 := by omega
  rw [m1] at i1 ⊢
  rw [m2] at i2 ⊢
  rw [hb2]
  generalize qv a b * b = B at *
  generalize a * 4294967296 = E at *
  generalize ab b = Z at *
  have j0 := i1
  rw [inr_iff] at j0
  have i3 : inr (-B) = true := by rw [inr_iff]; omega
  have i4 : inr (E + -B) = true := by rw [inr_iff]; omega
  have i5 : inr (E + -B + (E + -B)) = true := by rw [inr_iff]; omega
  have i6 : inr Z = true := by rw [inr_iff]; omega
  have i7 : inr (-(E + -B + (E + -B))) = true := by rw [inr_iff]; omega
  refine ⟨B, E, E + -B, E + -B + (E + -B), Z, -(E + -B + (E + -B)), rfl, rfl, vw_hl i1, vw_hl i2, cut_of i3, vw_hl i3, cut_of i4, i4, vw_hl i4, cut_of i5, i5, vw_hl i5, rfl, z.1, z.2, vw_hl i6, cut_of i7, vw_hl i7, ?_, ?_⟩
  · unfold cm; split
    · omega
    · rw [if_neg (by omega)]; omega
  · unfold cm; split
    · omega
    · rw [if_neg (by omega)]; omega
set_option maxHeartbeats 4000000 in
set_option maxRecDepth 100000 in
theorem walk (a0 : Int) (a1 : Int) (w0 : (Lit.int .i64 a0).wf = true) (w1 : (Lit.int .i64 a1).wf = true) (w : World) :
    Calls Try.prog 5 #[.int .i64 a0, .int .i64 a1] w fun e w' => e = .returned (.bool true) ∧ Grown w w' := by
  have e1 := over_one a0
  by_cases ha : a0 = 0
  · subst ha
    have z5 : cl 0 = 0 := by decide
    by_cases hb : a1 = 0
    · subst hb
      obtain ⟨z1, z2, z3⟩ := over_zero 0
      have z4 := z2 rfl
      clear z2 z3
      go_enter Try.func5, Try.ntmps5; go_wp2_with (first | (go_at_call 9; refine (awake3_c _).mono ?_; rintro e w' ⟨rfl, x, rfl⟩) | (go_at_call 14; refine (over_c _ _ _).mono ?_; rintro e w' ⟨rfl, x, rfl⟩) | (go_at_call 18; refine (clamp_c _ _).mono ?_; rintro e w' ⟨rfl, rfl⟩) | (go_at_call 25; refine (abs_c _ _).mono ?_; rintro e w' ⟨rfl, rfl⟩) | (go_at_call 21; refine (wmul_c _ _ _).mono ?_; rintro e w' ⟨rfl, xm, rfl⟩))
      go_ret; exact ⟨rfl, Mr.grown (by repeat (first | (with_reducible exact Mr.refl _) | (with_reducible apply Mr.drew) | (with_reducible apply Mr.alloc) | (with_reducible apply Mr.ext) | (with_reducible refine Mr.setCell ?_ (by first | (simp; done) | (simp; omega) | omega | (refine leOf0 ?_; (repeat (first | (with_reducible exact Mr.refl _) | (with_reducible apply Mr.drew) | (with_reducible apply Mr.alloc) | (with_reducible apply Mr.ext) | (with_reducible refine Mr.setCell ?_ (by first | (simp; done) | (simp; omega) | omega) _))); done) | (refine leOf ?_; (repeat (first | (with_reducible exact Mr.refl _) | (with_reducible apply Mr.drew) | (with_reducible apply Mr.alloc) | (with_reducible apply Mr.ext) | (with_reducible refine Mr.setCell ?_ (by first | (simp; done) | (simp; omega) | omega) _))); done)) _)))⟩
    · have hy : (cl a1 == 0) = false := by have := cl_z a1; simp; omega
      have hy2 : ¬ cl a1 = 0 := by have := cl_z a1; omega
      cases hc : qb 0 a1
      · obtain ⟨B, E, R, T, Z, NT, f1, f2, f3, f4, f5, f6, f7, f8, f9, f10, f11, f12, f13, f14, f14b, f15, f16, f17, f18, f19⟩ := near_over hc
        go_enter Try.func5, Try.ntmps5; go_wp2_with (first | (go_at_call 9; refine (awake3_c _).mono ?_; rintro e w' ⟨rfl, x, rfl⟩) | (go_at_call 14; refine (over_c _ _ _).mono ?_; rintro e w' ⟨rfl, x, rfl⟩) | (go_at_call 18; refine (clamp_c _ _).mono ?_; rintro e w' ⟨rfl, rfl⟩) | (go_at_call 25; refine (abs_c _ _).mono ?_; rintro e w' ⟨rfl, rfl⟩) | (go_at_call 21; refine (wmul_c _ _ _).mono ?_; rintro e w' ⟨rfl, xm, rfl⟩))
        rename_i Y KK hKK; go_region_held3 (fun w' => w'.cell? ⟨xm.u.heap.size, 0, none⟩ = some (.int .i64 (hi E)) ∧ w'.cell? ⟨xm.u.heap.size, 1, none⟩ = some (.int .i64 (lo E)) ∧ w'.cell? ⟨Y.u.heap.size, 0, none⟩ = some (.int .i64 (hi B)) ∧ w'.cell? ⟨Y.u.heap.size, 1, none⟩ = some (.int .i64 (lo B))) ((simp [go_sem]; done)) (first | (go_at_call 26; refine (wneg_c _ _ _).mono ?_; rintro e w' ⟨rfl, x, rfl⟩) | (go_at_call 22; refine (wadd_c _ _ _ _ _).mono ?_; rintro e w' ⟨rfl, x, rfl⟩))
        all_goals
          go_wp2_with (first | (go_at_call 22; refine (wadd_c _ _ _ _ _).mono ?_; rintro e w' ⟨rfl, x, rfl⟩) | (go_at_call 25; refine (abs_c _ _).mono ?_; rintro e w' ⟨rfl, rfl⟩) | (go_at_call 23; refine (wof_c _ _ ?_).mono ?_; (first | omega | exact ⟨by omega, by omega⟩); rintro e w' ⟨rfl, x, rfl⟩))
          refine wp_region_ext (by kernel_rfl) (by kernel_rfl) ?_; repeat (go_big_quiet_step ((first | (go_at_call 26; exact extCall (wneg_c _ _ _)) | (go_at_call 24; exact extCall (wcmp_c _ _ _ _ _)))))
          refine wpQuiet_nil ?_
          rintro w1 ⟨x1, rfl⟩
          go_wp2
          go_ret; exact ⟨rfl, Mr.grown (by repeat (first | (with_reducible exact Mr.refl _) | (with_reducible apply Mr.drew) | (with_reducible apply Mr.alloc) | (with_reducible apply Mr.ext) | (with_reducible refine Mr.setCell ?_ (by first | (simp; done) | (simp; omega) | omega | (refine leOf0 ?_; (repeat (first | (with_reducible exact Mr.refl _) | (with_reducible apply Mr.drew) | (with_reducible apply Mr.alloc) | (with_reducible apply Mr.ext) | (with_reducible refine Mr.setCell ?_ (by first | (simp; done) | (simp; omega) | omega | (refine leOf0 ?_; (repeat (first | (with_reducible exact Mr.refl _) | (with_reducible apply Mr.drew) | (with_reducible apply Mr.alloc) | (with_reducible apply Mr.ext) | (with_reducible refine Mr.setCell ?_ (by first | (simp; done) | (simp; omega) | omega) _))); done) | (refine leOf ?_; (repeat (first | (with_reducible exact Mr.refl _) | (with_reducible apply Mr.drew) | (with_reducible apply Mr.alloc) | (with_reducible apply Mr.ext) | (with_reducible refine Mr.setCell ?_ (by first | (simp; done) | (simp; omega) | omega) _))); done)) _))); done) | (refine leOf ?_; (repeat (first | (with_reducible exact Mr.refl _) | (with_reducible apply Mr.drew) | (with_reducible apply Mr.alloc) | (with_reducible apply Mr.ext) | (with_reducible refine Mr.setCell ?_ (by first | (simp; done) | (simp; omega) | omega | (refine leOf0 ?_; (repeat (first | (with_reducible exact Mr.refl _) | (with_reducible apply Mr.drew) | (with_reducible apply Mr.alloc) | (with_reducible apply Mr.ext) | (with_reducible refine Mr.setCell ?_ (by first | (simp; done) | (simp; omega) | omega) _))); done) | (refine leOf ?_; (repeat (first | (with_reducible exact Mr.refl _) | (with_reducible apply Mr.drew) | (with_reducible apply Mr.alloc) | (with_reducible apply Mr.ext) | (with_reducible refine Mr.setCell ?_ (by first | (simp; done) | (simp; omega) | omega) _))); done)) _))); done)) _)))⟩
      · go_enter Try.func5, Try.ntmps5; go_wp2_with (first | (go_at_call 9; refine (awake3_c _).mono ?_; rintro e w' ⟨rfl, x, rfl⟩) | (go_at_call 14; refine (over_c _ _ _).mono ?_; rintro e w' ⟨rfl, x, rfl⟩) | (go_at_call 18; refine (clamp_c _ _).mono ?_; rintro e w' ⟨rfl, rfl⟩) | (go_at_call 25; refine (abs_c _ _).mono ?_; rintro e w' ⟨rfl, rfl⟩) | (go_at_call 21; refine (wmul_c _ _ _).mono ?_; rintro e w' ⟨rfl, xm, rfl⟩))
        go_ret; exact ⟨rfl, Mr.grown (by repeat (first | (with_reducible exact Mr.refl _) | (with_reducible apply Mr.drew) | (with_reducible apply Mr.alloc) | (with_reducible apply Mr.ext) | (with_reducible refine Mr.setCell ?_ (by first | (simp; done) | (simp; omega) | omega | (refine leOf0 ?_; (repeat (first | (with_reducible exact Mr.refl _) | (with_reducible apply Mr.drew) | (with_reducible apply Mr.alloc) | (with_reducible apply Mr.ext) | (with_reducible refine Mr.setCell ?_ (by first | (simp; done) | (simp; omega) | omega) _))); done) | (refine leOf ?_; (repeat (first | (with_reducible exact Mr.refl _) | (with_reducible apply Mr.drew) | (with_reducible apply Mr.alloc) | (with_reducible apply Mr.ext) | (with_reducible refine Mr.setCell ?_ (by first | (simp; done) | (simp; omega) | omega) _))); done)) _)))⟩
  · have hx : (cl a0 == 0) = false := by have := cl_z a0; simp; omega
    have hx2 : ¬ cl a0 = 0 := by have := cl_z a0; omega
    have hx3 : (cl a0 != 0) = true := by have := cl_z a0; simp; omega
    obtain ⟨s1, s2⟩ := over_self ha
    by_cases hb : a1 = 0
    · subst hb
      obtain ⟨z1, z2, z3⟩ := over_zero a0
      have z4 := z3 ha
      clear z2 z3
      have z5 : cl 0 = 0 := by decide
      go_enter Try.func5, Try.ntmps5; go_wp2_with (first | (go_at_call 9; refine (awake3_c _).mono ?_; rintro e w' ⟨rfl, x, rfl⟩) | (go_at_call 14; refine (over_c _ _ _).mono ?_; rintro e w' ⟨rfl, x, rfl⟩) | (go_at_call 18; refine (clamp_c _ _).mono ?_; rintro e w' ⟨rfl, rfl⟩) | (go_at_call 25; refine (abs_c _ _).mono ?_; rintro e w' ⟨rfl, rfl⟩) | (go_at_call 21; refine (wmul_c _ _ _).mono ?_; rintro e w' ⟨rfl, xm, rfl⟩))
      go_ret; exact ⟨rfl, Mr.grown (by repeat (first | (with_reducible exact Mr.refl _) | (with_reducible apply Mr.drew) | (with_reducible apply Mr.alloc) | (with_reducible apply Mr.ext) | (with_reducible refine Mr.setCell ?_ (by first | (simp; done) | (simp; omega) | omega | (refine leOf0 ?_; (repeat (first | (with_reducible exact Mr.refl _) | (with_reducible apply Mr.drew) | (with_reducible apply Mr.alloc) | (with_reducible apply Mr.ext) | (with_reducible refine Mr.setCell ?_ (by first | (simp; done) | (simp; omega) | omega) _))); done) | (refine leOf ?_; (repeat (first | (with_reducible exact Mr.refl _) | (with_reducible apply Mr.drew) | (with_reducible apply Mr.alloc) | (with_reducible apply Mr.ext) | (with_reducible refine Mr.setCell ?_ (by first | (simp; done) | (simp; omega) | omega) _))); done)) _)))⟩
    · have hy : (cl a1 == 0) = false := by have := cl_z a1; simp; omega
      have hy2 : ¬ cl a1 = 0 := by have := cl_z a1; omega
      cases hc : qb a0 a1
      · obtain ⟨B, E, R, T, Z, NT, f1, f2, f3, f4, f5, f6, f7, f8, f9, f10, f11, f12, f13, f14, f14b, f15, f16, f17, f18, f19⟩ := near_over hc
        go_enter Try.func5, Try.ntmps5; go_wp2_with (first | (go_at_call 9; refine (awake3_c _).mono ?_; rintro e w' ⟨rfl, x, rfl⟩) | (go_at_call 14; refine (over_c _ _ _).mono ?_; rintro e w' ⟨rfl, x, rfl⟩) | (go_at_call 18; refine (clamp_c _ _).mono ?_; rintro e w' ⟨rfl, rfl⟩) | (go_at_call 25; refine (abs_c _ _).mono ?_; rintro e w' ⟨rfl, rfl⟩) | (go_at_call 21; refine (wmul_c _ _ _).mono ?_; rintro e w' ⟨rfl, xm, rfl⟩))
        rename_i Y KK hKK; go_region_held3 (fun w' => w'.cell? ⟨xm.u.heap.size, 0, none⟩ = some (.int .i64 (hi E)) ∧ w'.cell? ⟨xm.u.heap.size, 1, none⟩ = some (.int .i64 (lo E)) ∧ w'.cell? ⟨Y.u.heap.size, 0, none⟩ = some (.int .i64 (hi B)) ∧ w'.cell? ⟨Y.u.heap.size, 1, none⟩ = some (.int .i64 (lo B))) ((simp [go_sem]; done)) (first | (go_at_call 26; refine (wneg_c _ _ _).mono ?_; rintro e w' ⟨rfl, x, rfl⟩) | (go_at_call 22; refine (wadd_c _ _ _ _ _).mono ?_; rintro e w' ⟨rfl, x, rfl⟩))
        all_goals
          go_wp2_with (first | (go_at_call 22; refine (wadd_c _ _ _ _ _).mono ?_; rintro e w' ⟨rfl, x, rfl⟩) | (go_at_call 25; refine (abs_c _ _).mono ?_; rintro e w' ⟨rfl, rfl⟩) | (go_at_call 23; refine (wof_c _ _ ?_).mono ?_; (first | omega | exact ⟨by omega, by omega⟩); rintro e w' ⟨rfl, x, rfl⟩))
          refine wp_region_ext (by kernel_rfl) (by kernel_rfl) ?_; repeat (go_big_quiet_step ((first | (go_at_call 26; exact extCall (wneg_c _ _ _)) | (go_at_call 24; exact extCall (wcmp_c _ _ _ _ _)))))
          refine wpQuiet_nil ?_
          rintro w1 ⟨x1, rfl⟩
          go_wp2
          go_ret; exact ⟨rfl, Mr.grown (by repeat (first | (with_reducible exact Mr.refl _) | (with_reducible apply Mr.drew) | (with_reducible apply Mr.alloc) | (with_reducible apply Mr.ext) | (with_reducible refine Mr.setCell ?_ (by first | (simp; done) | (simp; omega) | omega | (refine leOf0 ?_; (repeat (first | (with_reducible exact Mr.refl _) | (with_reducible apply Mr.drew) | (with_reducible apply Mr.alloc) | (with_reducible apply Mr.ext) | (with_reducible refine Mr.setCell ?_ (by first | (simp; done) | (simp; omega) | omega | (refine leOf0 ?_; (repeat (first | (with_reducible exact Mr.refl _) | (with_reducible apply Mr.drew) | (with_reducible apply Mr.alloc) | (with_reducible apply Mr.ext) | (with_reducible refine Mr.setCell ?_ (by first | (simp; done) | (simp; omega) | omega) _))); done) | (refine leOf ?_; (repeat (first | (with_reducible exact Mr.refl _) | (with_reducible apply Mr.drew) | (with_reducible apply Mr.alloc) | (with_reducible apply Mr.ext) | (with_reducible refine Mr.setCell ?_ (by first | (simp; done) | (simp; omega) | omega) _))); done)) _))); done) | (refine leOf ?_; (repeat (first | (with_reducible exact Mr.refl _) | (with_reducible apply Mr.drew) | (with_reducible apply Mr.alloc) | (with_reducible apply Mr.ext) | (with_reducible refine Mr.setCell ?_ (by first | (simp; done) | (simp; omega) | omega | (refine leOf0 ?_; (repeat (first | (with_reducible exact Mr.refl _) | (with_reducible apply Mr.drew) | (with_reducible apply Mr.alloc) | (with_reducible apply Mr.ext) | (with_reducible refine Mr.setCell ?_ (by first | (simp; done) | (simp; omega) | omega) _))); done) | (refine leOf ?_; (repeat (first | (with_reducible exact Mr.refl _) | (with_reducible apply Mr.drew) | (with_reducible apply Mr.alloc) | (with_reducible apply Mr.ext) | (with_reducible refine Mr.setCell ?_ (by first | (simp; done) | (simp; omega) | omega) _))); done)) _))); done)) _)))⟩
      · go_enter Try.func5, Try.ntmps5; go_wp2_with (first | (go_at_call 9; refine (awake3_c _).mono ?_; rintro e w' ⟨rfl, x, rfl⟩) | (go_at_call 14; refine (over_c _ _ _).mono ?_; rintro e w' ⟨rfl, x, rfl⟩) | (go_at_call 18; refine (clamp_c _ _).mono ?_; rintro e w' ⟨rfl, rfl⟩) | (go_at_call 25; refine (abs_c _ _).mono ?_; rintro e w' ⟨rfl, rfl⟩) | (go_at_call 21; refine (wmul_c _ _ _).mono ?_; rintro e w' ⟨rfl, xm, rfl⟩))
        go_ret; exact ⟨rfl, Mr.grown (by repeat (first | (with_reducible exact Mr.refl _) | (with_reducible apply Mr.drew) | (with_reducible apply Mr.alloc) | (with_reducible apply Mr.ext) | (with_reducible refine Mr.setCell ?_ (by first | (simp; done) | (simp; omega) | omega | (refine leOf0 ?_; (repeat (first | (with_reducible exact Mr.refl _) | (with_reducible apply Mr.drew) | (with_reducible apply Mr.alloc) | (with_reducible apply Mr.ext) | (with_reducible refine Mr.setCell ?_ (by first | (simp; done) | (simp; omega) | omega) _))); done) | (refine leOf ?_; (repeat (first | (with_reducible exact Mr.refl _) | (with_reducible apply Mr.drew) | (with_reducible apply Mr.alloc) | (with_reducible apply Mr.ext) | (with_reducible refine Mr.setCell ?_ (by first | (simp; done) | (simp; omega) | omega) _))); done)) _)))⟩

set_option maxRecDepth 100000 in
theorem lifted (os : Os) (started : os.Started) (H : Type) (enc : TypeId × Value → H) :
    ReturnsInHanded {} Try.checked os 5 .any (Rows.scaleOverSpec.pre6 enc Try.prog Try.f5 Rows.scaleOverRow.domain false) (Rows.scaleOverSpec.post enc Try.prog Try.f5 false true false false) := by
  refine returnsInHanded_of_change (C := Try.checked) own started (by kernel_rfl) Try.func5
    (ChangeSpec.witness6 (enc := enc) (C := Try.checked) false ⟨#[], #[.int .i64 0, .int .i64 0], []⟩ 8 (by kernel_rfl) (by kernel_rfl) (by kernel_rfl) (by kernel_rfl)) ?_
  intro W base args ds gs before hval0 hW hcnd _
  have hval : ∀ (j : Nat) t v, Try.f5.params[j]? = some t → args[j]? = some v → Value.okWide Try.prog W .any base t v := hval0
  have hW' := hW
  obtain ⟨p, q, hA0, hV, rfl, hfz, hnd⟩ := hW
  have hA : DataW.TrodAll enc Try.prog W 0 (fun _ => true) true Try.f5.params.toList args.toList ds p := hA0
  rw [Try.params5] at hA hval
  obtain ⟨v0, vs0, d0, ds0, p_0, q_0, hargs, rfl, rfl, h0, r0⟩ := trodAll_cons hA
  obtain ⟨v1, vs1, d1, ds1, p_1, q_1, rfl, rfl, rfl, h1, r1⟩ := trodAll_cons r0
  obtain ⟨rfl, rfl, rfl⟩ := trodAll_nil r1
  obtain rfl : args = #[v0, v1] := by cases args; simp_all
  obtain ⟨rfl, rfl⟩ := trodVars_none hV
  obtain ⟨a0, rfl, rfl, rfl, w0⟩ := open_int Try.underlying3 (hval 0 3 v0 rfl rfl) h0
  obtain ⟨a1, rfl, rfl, rfl, w1⟩ := open_int Try.underlying3 (hval 1 3 v1 rfl rfl) h1
  clear hA0 hval0
  simp only [List.append_nil] at hW'
  refine (walk a0 a1 w0 w1 W).mono fun e W' ⟨he, hg⟩ => ?_
  subst he
  exact ⟨_, rfl, post_of_same (pa := []) (pv := []) hW' (fun _ _ _ => (trodAll_cons_mk (shut_bool Try.underlying4 _) trodAll_mk0)) (fun sp _ => (trodAll_cons_mk (shut_int Try.underlying3 w0) (trodAll_cons_mk (shut_int Try.underlying3 w1) trodAll_mk0))) (fun _ _ => rfl) rfl
    (hg.frame _) hg.2.1 (ok_one (by kernel_rfl) rfl (okWide_bool_mk Try.underlying4 _))⟩

theorem over : Rows.scaleOverRow.holds Try.pinned (OpenSpec.ofChange Rows.scaleOverSpec) :=
  OpenClaim.holds_of_wide 5 Try.f5 rfl rfl rfl rfl rfl rfl rfl ⟨rfl, rfl, rfl, rfl, rfl⟩ rfl rfl rfl rfl rfl (by kernel_rfl) Try.func5 (by kernel_rfl)
    (of_decide_eq_true (by kernel_rfl)) (by unfold Func.isWrapper; first | (rw [if_pos (by decide +kernel)]; kernel_rfl) | (rw [if_neg (by decide +kernel)]; exact ⟨rfl, rfl⟩))
    (fun os started H enc _ => lifted os started H enc)

theorem proved : Rows.ScaleOverSaid :=
  over
#print axioms proved
end Go.Proofs.Ytjenbhbadckooaa.scaleOver
