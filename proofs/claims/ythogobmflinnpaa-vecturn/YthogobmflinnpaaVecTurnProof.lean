/- For every two threes of ints the law VecTurn answers true: what is added is taken back if nothing was clamped; sums and inner products do not hang on the order; once as much is as much. No condition. -/
import Derived.Test.YthogobmflinnpaaRows
import Derived.WalkKit
import Derived.ProofKit
import Derived.OpenShut
import Derived.ShutString
import Derived.ChangeOld
import Derived.Below
import Derived.Test.YthogobmflinnpaaVecC2
import Derived.Test.YthogobmflinnpaaVecR
namespace Go.Proofs.Ythogobmflinnpaa.vecTurn
open Go.ChangeShapes Go.WideShapes Go.ChangeAt Go.RowKit
set_option linter.unusedVariables false
theorem own : ownKnob Try.prog.godebug = none := by kernel_rfl
theorem laidOut : laidOutB Try.prog = true := by kernel_rfl

open Go.Proofs.Ythogobmflinnpaa.Fx Go.Proofs.Ythogobmflinnpaa.Wd Go.Proofs.Ythogobmflinnpaa.Sc Go.Proofs.Ythogobmflinnpaa.Rt Go.Proofs.Ythogobmflinnpaa.Vc
attribute [local go_sem] Ext.cell Ext.froz Ext.lt Ext.lt1 Ext.lt2 Ext.lt3 Ext.all Ext.set_u drew_heap setCell_size Ext.set_size
attribute [local go_sem ↓] eq_v3 eq3_self
theorem flip3 (a b c d e f : Int) : (ao d a || ao e b || ao f c) = (ao a d || ao b e || ao c f) := by rw [ao_comm d, ao_comm e, ao_comm f]
set_option maxHeartbeats 4000000 in
set_option maxRecDepth 100000 in
theorem walk (x0 y0 z0 : Int) (x1 y1 z1 : Int) (w : World) (wx0 : (Lit.int .i64 x0).wf = true) (wy0 : (Lit.int .i64 y0).wf = true) (wz0 : (Lit.int .i64 z0).wf = true) (wx1 : (Lit.int .i64 x1).wf = true) (wy1 : (Lit.int .i64 y1).wf = true) (wz1 : (Lit.int .i64 z1).wf = true) :
    Calls Try.prog 4 #[.agg #[.int .i64 x0, .int .i64 y0, .int .i64 z0], .agg #[.int .i64 x1, .int .i64 y1, .int .i64 z1]] w fun e w' => e = .returned (.bool true) ∧ Below w.heap.size w w' := by
  have hX0 : B64 x0 := bd wx0
  have hY0 : B64 y0 := bd wy0
  have hZ0 : B64 z0 := bd wz0
  clear wx0 wy0 wz0
  have hX1 : B64 x1 := bd wx1
  have hY1 : B64 y1 := bd wy1
  have hZ1 : B64 z1 := bd wz1
  clear wx1 wy1 wz1
  have a1 := av_comm x1 x0
  have a2 := av_comm y1 y0
  have a3 := av_comm z1 z0
  have o1 := ao_comm x1 x0
  have o2 := ao_comm y1 y0
  have o3 := ao_comm z1 z0
  obtain ⟨d1, d2⟩ := dv_comm3 x0 y0 z0 x1 y1 z1
  have t1 := tv_one x0
  have t2 := tv_one y0
  have t3 := tv_one z0
  cases f1 : ao x0 x1 <;> cases f2 : ao y0 y1 <;> cases f3 : ao z0 z1
  · have u1 := turn_ok f1
    have u2 := turn_ok f2
    have u3 := turn_ok f3
    obtain ⟨u1, v1⟩ := u1
    obtain ⟨u2, v2⟩ := u2
    obtain ⟨u3, v3⟩ := u3
    go_enter Try.func4, Try.ntmps4; go_wp2_with (first | (go_at_call 9; refine (awake7_c _).mono ?_; rintro e w' ⟨rfl, x, rfl⟩) | (go_at_call 10; refine (vadd_c _ _ _ _ _ _ _).mono ?_; rintro e w' ⟨rfl, x, rfl⟩) | (go_at_call 12; refine (vsub_c _ _ _ _ _ _ _).mono ?_; rintro e w' ⟨rfl, x, rfl⟩) | (go_at_call 14; refine (vscale_c _ _ _ _ _).mono ?_; rintro e w' ⟨rfl, x, rfl⟩) | (go_at_call 16; refine (vdot_c _ _ _ _ _ _ _ (by first | assumption | (have := av_bd; omega) | decide) (by first | assumption | (have := av_bd; omega) | decide) (by first | assumption | (have := av_bd; omega) | decide) (by first | assumption | (have := av_bd; omega) | decide) (by first | assumption | (have := av_bd; omega) | decide) (by first | assumption | (have := av_bd; omega) | decide)).mono ?_; rintro e w' ⟨rfl, x, rfl⟩))
    go_ret; exact ⟨rfl, Mr.grown (by repeat (first | (with_reducible exact Mr.refl _) | (with_reducible apply Mr.drew) | (with_reducible apply Mr.alloc) | (with_reducible apply Mr.ext) | (with_reducible refine Mr.setCell ?_ (by first | (simp; done) | (simp; omega) | omega | (refine leOf0 ?_; (repeat (first | (with_reducible exact Mr.refl _) | (with_reducible apply Mr.drew) | (with_reducible apply Mr.alloc) | (with_reducible apply Mr.ext) | (with_reducible refine Mr.setCell ?_ (by first | (simp; done) | (simp; omega) | omega) _))); done) | (refine leOf ?_; (repeat (first | (with_reducible exact Mr.refl _) | (with_reducible apply Mr.drew) | (with_reducible apply Mr.alloc) | (with_reducible apply Mr.ext) | (with_reducible refine Mr.setCell ?_ (by first | (simp; done) | (simp; omega) | omega) _))); done)) _)))⟩
  all_goals
    go_enter Try.func4, Try.ntmps4; go_wp2_with (first | (go_at_call 9; refine (awake7_c _).mono ?_; rintro e w' ⟨rfl, x, rfl⟩) | (go_at_call 10; refine (vadd_c _ _ _ _ _ _ _).mono ?_; rintro e w' ⟨rfl, x, rfl⟩) | (go_at_call 12; refine (vsub_c _ _ _ _ _ _ _).mono ?_; rintro e w' ⟨rfl, x, rfl⟩) | (go_at_call 14; refine (vscale_c _ _ _ _ _).mono ?_; rintro e w' ⟨rfl, x, rfl⟩) | (go_at_call 16; refine (vdot_c _ _ _ _ _ _ _ (by first | assumption | (have := av_bd; omega) | decide) (by first | assumption | (have := av_bd; omega) | decide) (by first | assumption | (have := av_bd; omega) | decide) (by first | assumption | (have := av_bd; omega) | decide) (by first | assumption | (have := av_bd; omega) | decide) (by first | assumption | (have := av_bd; omega) | decide)).mono ?_; rintro e w' ⟨rfl, x, rfl⟩))
    go_ret; exact ⟨rfl, Mr.grown (by repeat (first | (with_reducible exact Mr.refl _) | (with_reducible apply Mr.drew) | (with_reducible apply Mr.alloc) | (with_reducible apply Mr.ext) | (with_reducible refine Mr.setCell ?_ (by first | (simp; done) | (simp; omega) | omega | (refine leOf0 ?_; (repeat (first | (with_reducible exact Mr.refl _) | (with_reducible apply Mr.drew) | (with_reducible apply Mr.alloc) | (with_reducible apply Mr.ext) | (with_reducible refine Mr.setCell ?_ (by first | (simp; done) | (simp; omega) | omega) _))); done) | (refine leOf ?_; (repeat (first | (with_reducible exact Mr.refl _) | (with_reducible apply Mr.drew) | (with_reducible apply Mr.alloc) | (with_reducible apply Mr.ext) | (with_reducible refine Mr.setCell ?_ (by first | (simp; done) | (simp; omega) | omega) _))); done)) _)))⟩

set_option maxRecDepth 100000 in
theorem lifted (os : Os) (started : os.Started) (H : Type) (enc : TypeId × Value → H) :
    ReturnsInHanded {} Try.checked os 4 .any (Rows.vecTurnSpec.pre6 enc Try.prog Try.f4 Rows.vecTurnRow.domain false) (Rows.vecTurnSpec.post enc Try.prog Try.f4 false true false false) := by
  refine returnsInHanded_of_change (C := Try.checked) own started (by kernel_rfl) Try.func4
    (ChangeSpec.witness6 (enc := enc) (C := Try.checked) false ⟨#[], #[.agg #[.int .i64 0, .int .i64 0, .int .i64 0], .agg #[.int .i64 0, .int .i64 0, .int .i64 0]], []⟩ 8 (by kernel_rfl) (by kernel_rfl) (by kernel_rfl) (by kernel_rfl)) ?_
  intro W base args ds gs before hval0 hW hcnd _
  have hval : ∀ (j : Nat) t v, Try.f4.params[j]? = some t → args[j]? = some v → Value.okWide Try.prog W .any base t v := hval0
  have hW' := hW
  obtain ⟨p, q, hA0, hV, rfl, hfz, hnd⟩ := hW
  have hA : DataW.TrodAll enc Try.prog W 0 (fun _ => true) true Try.f4.params.toList args.toList ds p := hA0
  rw [Try.params4] at hA hval
  obtain ⟨v0, vs0, d0, ds0, p_0, q_0, hargs, rfl, rfl, h0, r0⟩ := trodAll_cons hA
  obtain ⟨v1, vs1, d1, ds1, p_1, q_1, rfl, rfl, rfl, h1, r1⟩ := trodAll_cons r0
  obtain ⟨rfl, rfl, rfl⟩ := trodAll_nil r1
  obtain rfl : args = #[v0, v1] := by cases args; simp_all
  obtain ⟨rfl, rfl⟩ := trodVars_none hV
  obtain ⟨x0, y0, z0, rfl, rfl, rfl, wx0, wy0, wz0⟩ := Vr.open_v3 (hval 0 22 v0 rfl rfl) h0
  obtain ⟨x1, y1, z1, rfl, rfl, rfl, wx1, wy1, wz1⟩ := Vr.open_v3 (hval 1 22 v1 rfl rfl) h1
  clear hA0 hval0
  refine (walk x0 y0 z0 x1 y1 z1 W wx0 wy0 wz0 wx1 wy1 wz1).mono fun e W' ⟨he, bel⟩ => ?_
  subst he
  exact ⟨_, rfl, _, _, _, [], _, [], hW', trodAll_mk1 (shut_bool Try.underlying4 _), (trodAll_cons_mk (Vr.shut_v3 wx0 wy0 wz0) (trodAll_cons_mk (Vr.shut_v3 wx1 wy1 wz1) trodAll_mk0)), rfl, bel.frame _, fun h => by cases h⟩

theorem over : Rows.vecTurnRow.holds Try.pinned (OpenSpec.ofChange Rows.vecTurnSpec) :=
  OpenClaim.holds_of_wide 4 Try.f4 rfl rfl rfl rfl rfl rfl rfl ⟨rfl, rfl, rfl, rfl, rfl⟩ rfl rfl rfl rfl rfl (by kernel_rfl) Try.func4 (by kernel_rfl)
    (of_decide_eq_true (by kernel_rfl)) (by unfold Func.isWrapper; first | (rw [if_pos (by decide +kernel)]; kernel_rfl) | (rw [if_neg (by decide +kernel)]; exact ⟨rfl, rfl⟩))
    (fun os started H enc _ => lifted os started H enc)

theorem proved : Rows.VecTurnSaid :=
  over
#print axioms proved
end Go.Proofs.Ythogobmflinnpaa.vecTurn
