/- For every two threes of ints and every int the law VecIs answers true: package vec answers as the document's own answers do. No condition. -/
import Derived.Test.YthogobmflinnpaaRows
import Derived.WalkKit
import Derived.ProofKit
import Derived.OpenShut
import Derived.ShutString
import Derived.ChangeOld
import Derived.Below
import Derived.Test.YthogobmflinnpaaVecC2
import Derived.Test.YthogobmflinnpaaRefC14
import Derived.Test.YthogobmflinnpaaVecR
namespace Go.Proofs.Ythogobmflinnpaa.vecIs
open Go.ChangeShapes Go.WideShapes Go.ChangeAt Go.RowKit
set_option linter.unusedVariables false
theorem own : ownKnob Try.prog.godebug = none := by kernel_rfl
theorem laidOut : laidOutB Try.prog = true := by kernel_rfl

open Go.Proofs.Ythogobmflinnpaa.Fx Go.Proofs.Ythogobmflinnpaa.Wd Go.Proofs.Ythogobmflinnpaa.Sc Go.Proofs.Ythogobmflinnpaa.Rt Go.Proofs.Ythogobmflinnpaa.Vc
attribute [local go_sem] Ext.cell Ext.froz Ext.lt Ext.lt1 Ext.lt2 Ext.lt3 Ext.all Ext.set_u drew_heap setCell_size Ext.set_size
attribute [local go_sem ↓] eq_v3 eq3_self
set_option maxHeartbeats 4000000 in
set_option maxRecDepth 100000 in
theorem walk (x0 y0 z0 : Int) (x1 y1 z1 : Int) (a2 : Int) (w : World) (wx0 : (Lit.int .i64 x0).wf = true) (wy0 : (Lit.int .i64 y0).wf = true) (wz0 : (Lit.int .i64 z0).wf = true) (wx1 : (Lit.int .i64 x1).wf = true) (wy1 : (Lit.int .i64 y1).wf = true) (wz1 : (Lit.int .i64 z1).wf = true) (w2 : (Lit.int .i64 a2).wf = true) :
    Calls Try.prog 3 #[.agg #[.int .i64 x0, .int .i64 y0, .int .i64 z0], .agg #[.int .i64 x1, .int .i64 y1, .int .i64 z1], .int .i64 a2] w fun e w' => e = .returned (.bool true) ∧ Below w.heap.size w w' := by
  have hX0 : B64 x0 := bd wx0
  have hY0 : B64 y0 := bd wy0
  have hZ0 : B64 z0 := bd wz0
  clear wx0 wy0 wz0
  have hX1 : B64 x1 := bd wx1
  have hY1 : B64 y1 := bd wy1
  have hZ1 : B64 z1 := bd wz1
  clear wx1 wy1 wz1
  obtain ⟨u, v, q, f, UN⟩ : ∃ (u v q : Int) (f : Bool), (if lv [x0, y0, z0] = 0 then Value.tuple #[.agg #[.int .i64 0, .int .i64 0, .int .i64 0], .bool true] else .tuple #[.agg #[.int .i64 (qv x0 (lv [x0, y0, z0])), .int .i64 (qv y0 (lv [x0, y0, z0])), .int .i64 (qv z0 (lv [x0, y0, z0]))], .bool (lb [x0, y0, z0] || qb x0 (lv [x0, y0, z0]) || qb y0 (lv [x0, y0, z0]) || qb z0 (lv [x0, y0, z0]))]) = .tuple #[.agg #[.int .i64 u, .int .i64 v, .int .i64 q], .bool f] := by
    by_cases h : lv [x0, y0, z0] = 0
    · rw [if_pos h]; exact ⟨_, _, _, _, rfl⟩
    · rw [if_neg h]; exact ⟨_, _, _, _, rfl⟩
  go_enter Try.func3, Try.ntmps3; go_wp2_with (first | (go_at_call 9; refine (awake7_c _).mono ?_; rintro e w' ⟨rfl, x, rfl⟩) | (go_at_call 10; refine (vadd_c _ _ _ _ _ _ _).mono ?_; rintro e w' ⟨rfl, x, rfl⟩) | (go_at_call 11; refine (radd7_c _ _ _ _ _ _ _).mono ?_; rintro e w' ⟨rfl, x, rfl⟩) | (go_at_call 12; refine (vsub_c _ _ _ _ _ _ _).mono ?_; rintro e w' ⟨rfl, x, rfl⟩) | (go_at_call 13; refine (rsub7_c _ _ _ _ _ _ _).mono ?_; rintro e w' ⟨rfl, x, rfl⟩) | (go_at_call 14; refine (vscale_c _ _ _ _ _).mono ?_; rintro e w' ⟨rfl, x, rfl⟩) | (go_at_call 15; refine (rscale7_c _ _ _ _ _).mono ?_; rintro e w' ⟨rfl, x, rfl⟩) | (go_at_call 16; refine (vdot_c _ _ _ _ _ _ _ (by first | assumption | (have := av_bd; omega) | decide) (by first | assumption | (have := av_bd; omega) | decide) (by first | assumption | (have := av_bd; omega) | decide) (by first | assumption | (have := av_bd; omega) | decide) (by first | assumption | (have := av_bd; omega) | decide) (by first | assumption | (have := av_bd; omega) | decide)).mono ?_; rintro e w' ⟨rfl, x, rfl⟩) | (go_at_call 17; refine (rdot7_c _ _ _ _ _ _ _ hX0 hY0 hZ0 hX1 hY1 hZ1).mono ?_; rintro e w' ⟨rfl, x, rfl⟩) | (go_at_call 18; refine (vcross_c _ _ _ _ _ _ _ (by first | assumption | (have := av_bd; omega) | decide) (by first | assumption | (have := av_bd; omega) | decide) (by first | assumption | (have := av_bd; omega) | decide) (by first | assumption | (have := av_bd; omega) | decide) (by first | assumption | (have := av_bd; omega) | decide) (by first | assumption | (have := av_bd; omega) | decide)).mono ?_; rintro e w' ⟨rfl, x, rfl⟩) | (go_at_call 19; refine (rcross7_c _ _ _ _ _ _ _ hX0 hY0 hZ0 hX1 hY1 hZ1).mono ?_; rintro e w' ⟨rfl, x, rfl⟩) | (go_at_call 20; refine (vlen_c _ _ _ _ (by first | assumption | (have := av_bd; omega) | decide) (by first | assumption | (have := av_bd; omega) | decide) (by first | assumption | (have := av_bd; omega) | decide)).mono ?_; rintro e w' ⟨rfl, x, rfl⟩) | (go_at_call 21; refine (rlen7_c _ _ _ _ hX0 hY0 hZ0).mono ?_; rintro e w' ⟨rfl, x, rfl⟩) | (go_at_call 22; refine (vunit_c _ _ _ _ hX0 hY0 hZ0).mono ?_; rw [UN]; rintro e w' ⟨rfl, x, rfl⟩) | (go_at_call 23; refine (runit7_c _ _ _ _ hX0 hY0 hZ0).mono ?_; rw [UN]; rintro e w' ⟨rfl, x, rfl⟩))
  go_ret; exact ⟨rfl, Mr.grown (by repeat (first | (with_reducible exact Mr.refl _) | (with_reducible apply Mr.drew) | (with_reducible apply Mr.alloc) | (with_reducible apply Mr.ext) | (with_reducible refine Mr.setCell ?_ (by first | (simp; done) | (simp; omega) | omega | (refine leOf0 ?_; (repeat (first | (with_reducible exact Mr.refl _) | (with_reducible apply Mr.drew) | (with_reducible apply Mr.alloc) | (with_reducible apply Mr.ext) | (with_reducible refine Mr.setCell ?_ (by first | (simp; done) | (simp; omega) | omega) _))); done) | (refine leOf ?_; (repeat (first | (with_reducible exact Mr.refl _) | (with_reducible apply Mr.drew) | (with_reducible apply Mr.alloc) | (with_reducible apply Mr.ext) | (with_reducible refine Mr.setCell ?_ (by first | (simp; done) | (simp; omega) | omega) _))); done)) _)))⟩

set_option maxRecDepth 100000 in
theorem lifted (os : Os) (started : os.Started) (H : Type) (enc : TypeId × Value → H) :
    ReturnsInHanded {} Try.checked os 3 .any (Rows.vecIsSpec.pre6 enc Try.prog Try.f3 Rows.vecIsRow.domain false) (Rows.vecIsSpec.post enc Try.prog Try.f3 false true false false) := by
  refine returnsInHanded_of_change (C := Try.checked) own started (by kernel_rfl) Try.func3
    (ChangeSpec.witness6 (enc := enc) (C := Try.checked) false ⟨#[], #[.agg #[.int .i64 0, .int .i64 0, .int .i64 0], .agg #[.int .i64 0, .int .i64 0, .int .i64 0], .int .i64 0], []⟩ 8 (by kernel_rfl) (by kernel_rfl) (by kernel_rfl) (by kernel_rfl)) ?_
  intro W base args ds gs before hval0 hW hcnd _
  have hval : ∀ (j : Nat) t v, Try.f3.params[j]? = some t → args[j]? = some v → Value.okWide Try.prog W .any base t v := hval0
  have hW' := hW
  obtain ⟨p, q, hA0, hV, rfl, hfz, hnd⟩ := hW
  have hA : DataW.TrodAll enc Try.prog W 0 (fun _ => true) true Try.f3.params.toList args.toList ds p := hA0
  rw [Try.params3] at hA hval
  obtain ⟨v0, vs0, d0, ds0, p_0, q_0, hargs, rfl, rfl, h0, r0⟩ := trodAll_cons hA
  obtain ⟨v1, vs1, d1, ds1, p_1, q_1, rfl, rfl, rfl, h1, r1⟩ := trodAll_cons r0
  obtain ⟨v2, vs2, d2, ds2, p_2, q_2, rfl, rfl, rfl, h2, r2⟩ := trodAll_cons r1
  obtain ⟨rfl, rfl, rfl⟩ := trodAll_nil r2
  obtain rfl : args = #[v0, v1, v2] := by cases args; simp_all
  obtain ⟨rfl, rfl⟩ := trodVars_none hV
  obtain ⟨x0, y0, z0, rfl, rfl, rfl, wx0, wy0, wz0⟩ := Vr.open_v3 (hval 0 22 v0 rfl rfl) h0
  obtain ⟨x1, y1, z1, rfl, rfl, rfl, wx1, wy1, wz1⟩ := Vr.open_v3 (hval 1 22 v1 rfl rfl) h1
  obtain ⟨a2, rfl, rfl, rfl, w2⟩ := open_int Try.underlying3 (hval 2 3 v2 rfl rfl) h2
  clear hA0 hval0
  refine (walk x0 y0 z0 x1 y1 z1 a2 W wx0 wy0 wz0 wx1 wy1 wz1 w2).mono fun e W' ⟨he, bel⟩ => ?_
  subst he
  exact ⟨_, rfl, _, _, _, [], _, [], hW', trodAll_mk1 (shut_bool Try.underlying4 _), (trodAll_cons_mk (Vr.shut_v3 wx0 wy0 wz0) (trodAll_cons_mk (Vr.shut_v3 wx1 wy1 wz1) (trodAll_cons_mk (shut_int Try.underlying3 w2) trodAll_mk0))), rfl, bel.frame _, fun h => by cases h⟩

theorem over : Rows.vecIsRow.holds Try.pinned (OpenSpec.ofChange Rows.vecIsSpec) :=
  OpenClaim.holds_of_wide 3 Try.f3 rfl rfl rfl rfl rfl rfl rfl ⟨rfl, rfl, rfl, rfl, rfl⟩ rfl rfl rfl rfl rfl (by kernel_rfl) Try.func3 (by kernel_rfl)
    (of_decide_eq_true (by kernel_rfl)) (by unfold Func.isWrapper; first | (rw [if_pos (by decide +kernel)]; kernel_rfl) | (rw [if_neg (by decide +kernel)]; exact ⟨rfl, rfl⟩))
    (fun os started H enc _ => lifted os started H enc)

theorem proved : Rows.VecIsSaid :=
  over
#print axioms proved
end Go.Proofs.Ythogobmflinnpaa.vecIs
