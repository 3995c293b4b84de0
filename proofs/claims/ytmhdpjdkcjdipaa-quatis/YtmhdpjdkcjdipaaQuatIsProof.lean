/- For every two fours of ints and every three ints the law QuatIs answers true: products, ways back, lengths, small turns and what is turned are what the document says. No condition. -/
import Derived.Test.YtmhdpjdkcjdipaaRows
import Derived.WalkKit
import Derived.ProofKit
import Derived.OpenShut
import Derived.ShutString
import Derived.ChangeOld
import Derived.Below
import Derived.Test.YtmhdpjdkcjdipaaQuatC2
import Derived.Test.YtmhdpjdkcjdipaaRefC24
import Derived.Test.YtmhdpjdkcjdipaaQuatR
import Derived.Test.YtmhdpjdkcjdipaaVecR
namespace Go.Proofs.Ytmhdpjdkcjdipaa.quatIs
open Go.ChangeShapes Go.WideShapes Go.ChangeAt Go.RowKit
set_option linter.unusedVariables false
theorem own : ownKnob Try.prog.godebug = none := by kernel_rfl
theorem laidOut : laidOutB Try.prog = true := by kernel_rfl

open Go.Proofs.Ytmhdpjdkcjdipaa.Fx Go.Proofs.Ytmhdpjdkcjdipaa.Wd Go.Proofs.Ytmhdpjdkcjdipaa.Sc Go.Proofs.Ytmhdpjdkcjdipaa.Rt Go.Proofs.Ytmhdpjdkcjdipaa.Vc Go.Proofs.Ytmhdpjdkcjdipaa.Qa
attribute [local go_sem] Ext.cell Ext.froz Ext.lt Ext.lt1 Ext.lt2 Ext.lt3 Ext.all Ext.set_u drew_heap setCell_size Ext.set_size
attribute [local go_sem ↓] eq_3 e3_self eq_4 e4_self
set_option maxHeartbeats 4000000 in
set_option maxRecDepth 100000 in
theorem walk (t0 x0 y0 z0 : Int) (t1 x1 y1 z1 : Int) (x2 y2 z2 : Int) (w : World) (wt0 : (Lit.int .i64 t0).wf = true) (wx0 : (Lit.int .i64 x0).wf = true) (wy0 : (Lit.int .i64 y0).wf = true) (wz0 : (Lit.int .i64 z0).wf = true) (wt1 : (Lit.int .i64 t1).wf = true) (wx1 : (Lit.int .i64 x1).wf = true) (wy1 : (Lit.int .i64 y1).wf = true) (wz1 : (Lit.int .i64 z1).wf = true) (wx2 : (Lit.int .i64 x2).wf = true) (wy2 : (Lit.int .i64 y2).wf = true) (wz2 : (Lit.int .i64 z2).wf = true) :
    Calls Try.prog 3 #[.agg #[.int .i64 t0, .int .i64 x0, .int .i64 y0, .int .i64 z0], .agg #[.int .i64 t1, .int .i64 x1, .int .i64 y1, .int .i64 z1], .agg #[.int .i64 x2, .int .i64 y2, .int .i64 z2]] w fun e w' => e = .returned (.bool true) ∧ Below w.heap.size w w' := by
  have hA : W64 ⟨t0, x0, y0, z0⟩ := ⟨bd wt0, bd wx0, bd wy0, bd wz0⟩
  have hB : W64 ⟨t1, x1, y1, z1⟩ := ⟨bd wt1, bd wx1, bd wy1, bd wz1⟩
  have hV : W64 (Qa.pure x2 y2 z2) := ⟨(by decide : B64 0), bd wx2, bd wy2, bd wz2⟩
  clear wt0 wx0 wy0 wz0 wt1 wx1 wy1 wz1 wx2 wy2 wz2
  obtain ⟨m0, m1, m2, m3, hM⟩ : ∃ a b c d, mul ⟨t0, x0, y0, z0⟩ ⟨t1, x1, y1, z1⟩ = ⟨a, b, c, d⟩ := ⟨_, _, _, _, rfl⟩
  obtain ⟨f1, hmb⟩ : ∃ f, Qa.mb ⟨t0, x0, y0, z0⟩ ⟨t1, x1, y1, z1⟩ = f := ⟨_, rfl⟩
  obtain ⟨n, hn⟩ : ∃ n, nv ⟨t0, x0, y0, z0⟩ = n := ⟨_, rfl⟩
  obtain ⟨f2, hnb⟩ : ∃ f, nb ⟨t0, x0, y0, z0⟩ = f := ⟨_, rfl⟩
  obtain ⟨u0, u1, u2, u3, hU⟩ : ∃ a b c d, unit ⟨t0, x0, y0, z0⟩ = ⟨a, b, c, d⟩ := ⟨_, _, _, _, rfl⟩
  obtain ⟨f3, hub⟩ : ∃ f, ub ⟨t0, x0, y0, z0⟩ = f := ⟨_, rfl⟩
  obtain ⟨s0, s1, s2, s3, hS⟩ : ∃ a b c d, unit (sml x2 y2 z2) = ⟨a, b, c, d⟩ := ⟨_, _, _, _, rfl⟩
  obtain ⟨f4, hsb⟩ : ∃ f, (tb x2 2147483648 || tb y2 2147483648 || tb z2 2147483648 || ub (sml x2 y2 z2)) = f := ⟨_, rfl⟩
  obtain ⟨r0, r1, r2, r3, hR⟩ : ∃ a b c d, rot ⟨t0, x0, y0, z0⟩ x2 y2 z2 = ⟨a, b, c, d⟩ := ⟨_, _, _, _, rfl⟩
  obtain ⟨f5, hrb⟩ : ∃ f, rb ⟨t0, x0, y0, z0⟩ x2 y2 z2 = f := ⟨_, rfl⟩
  obtain ⟨b0, b1, b2, b3, hK⟩ : ∃ a b c d, back ⟨t0, x0, y0, z0⟩ = ⟨a, b, c, d⟩ := ⟨_, _, _, _, rfl⟩
  go_enter Try.func3, Try.ntmps3; go_wp2_with (first | (go_at_call 10; refine (awake9_c _).mono ?_; rintro e w' ⟨rfl, x, rfl⟩) | (go_at_call 11; refine (qmul_c hA hB hM hmb).mono ?_; rintro e w' ⟨rfl, x, rfl⟩) | (go_at_call 12; refine (rmul9_c hA hB hM hmb).mono ?_; rintro e w' ⟨rfl, x, rfl⟩) | (go_at_call 13; refine (qnorm_c hA hn hnb).mono ?_; rintro e w' ⟨rfl, x, rfl⟩) | (go_at_call 14; refine (rnorm9_c hA hn hnb).mono ?_; rintro e w' ⟨rfl, x, rfl⟩) | (go_at_call 15; refine (qunit_c hA hU hub).mono ?_; rintro e w' ⟨rfl, x, rfl⟩) | (go_at_call 16; refine (runit9_c hA hU hub).mono ?_; rintro e w' ⟨rfl, x, rfl⟩) | (go_at_call 17; refine (qsmall_c hS hsb).mono ?_; rintro e w' ⟨rfl, x, rfl⟩) | (go_at_call 18; refine (rsmall9_c hS hsb).mono ?_; rintro e w' ⟨rfl, x, rfl⟩) | (go_at_call 19; refine (qrot_c hA hV hR hrb).mono ?_; rintro e w' ⟨rfl, x, rfl⟩) | (go_at_call 20; refine (rrot9_c hA hV hR hrb).mono ?_; rintro e w' ⟨rfl, x, rfl⟩))
  clear hM hmb hn hnb hU hub hS hsb hR hrb hA hB hV
  refine wp_region_ext (by kernel_rfl) (by kernel_rfl) ?_
  repeat (go_big_quiet_step ((first | (go_at_call 23; exact extCall (qone_c _)) | (go_at_call 24; exact extCall (rone9_c _)) | (go_at_call 21; exact extCall (qback_c hK)) | (go_at_call 22; exact extCall (rback9_c hK)))))
  refine wpQuiet_nil ?_
  rintro w1 ⟨x9, rfl⟩
  go_wp2
  go_ret; exact ⟨rfl, Mr.grown (by repeat (first | (with_reducible exact Mr.refl _) | (with_reducible apply Mr.drew) | (with_reducible apply Mr.alloc) | (with_reducible apply Mr.ext) | (with_reducible refine Mr.setCell ?_ (by first | (simp; done) | (simp; omega) | omega | (refine leOf0 ?_; (repeat (first | (with_reducible exact Mr.refl _) | (with_reducible apply Mr.drew) | (with_reducible apply Mr.alloc) | (with_reducible apply Mr.ext) | (with_reducible refine Mr.setCell ?_ (by first | (simp; done) | (simp; omega) | omega) _))); done) | (refine leOf ?_; (repeat (first | (with_reducible exact Mr.refl _) | (with_reducible apply Mr.drew) | (with_reducible apply Mr.alloc) | (with_reducible apply Mr.ext) | (with_reducible refine Mr.setCell ?_ (by first | (simp; done) | (simp; omega) | omega) _))); done)) _)))⟩

set_option maxRecDepth 100000 in
theorem lifted (os : Os) (started : os.Started) (H : Type) (enc : TypeId × Value → H) :
    ReturnsInHanded {} Try.checked os 3 .any (Rows.quatIsSpec.pre6 enc Try.prog Try.f3 Rows.quatIsRow.domain false) (Rows.quatIsSpec.post enc Try.prog Try.f3 false true false false) := by
  refine returnsInHanded_of_change (C := Try.checked) own started (by kernel_rfl) Try.func3
    (ChangeSpec.witness6 (enc := enc) (C := Try.checked) false ⟨#[], #[.agg #[.int .i64 0, .int .i64 0, .int .i64 0, .int .i64 0], .agg #[.int .i64 0, .int .i64 0, .int .i64 0, .int .i64 0], .agg #[.int .i64 0, .int .i64 0, .int .i64 0]], []⟩ 8 (by kernel_rfl) (by kernel_rfl) (by kernel_rfl) (by kernel_rfl)) ?_
  intro W base args ds gs before hval0 hW hcnd _
  have hval : ∀ (j : Nat) t v, Try.f3.params[j]? = some t → args[j]? = some v → Value.okWide Try.prog W .any base t v := hval0
  have hW' := hW
  obtain ⟨p, q, hA0, hV, rfl, hfz, hnd⟩ := hW
  have hA : DataW.TrodAll enc Try.prog W 0 (fun _ => true) true Try.f3.params.toList args.toList ds p := hA0
  rw [Try.params3] at hA hval
  obtain ⟨v0, vs0, d0, ds0, p_0, q_0, hargs, rfl, rfl, h0, r0⟩ := trodAll_cons hA
  obtain ⟨v1, vs1, d1, ds1, p_1, q_1, rfl, rfl, rfl, h1, r1⟩ := trodAll_cons r0
  obtain ⟨v2, vs2, d2, ds2, p_2, q_2, rfl, rfl, rfl, h2, r2⟩ := trodAll_cons r1
  obtain ⟨rfl, rfl, rfl⟩ := trodAll_nil r2
  obtain rfl : args = #[v0, v1, v2] := by cases args; simp_all
  obtain ⟨rfl, rfl⟩ := trodVars_none hV
  obtain ⟨t0, x0, y0, z0, rfl, rfl, rfl, wt0, wx0, wy0, wz0⟩ := Qr.open_v4 (hval 0 22 v0 rfl rfl) h0
  obtain ⟨t1, x1, y1, z1, rfl, rfl, rfl, wt1, wx1, wy1, wz1⟩ := Qr.open_v4 (hval 1 22 v1 rfl rfl) h1
  obtain ⟨x2, y2, z2, rfl, rfl, rfl, wx2, wy2, wz2⟩ := Vr.open_v3 (hval 2 23 v2 rfl rfl) h2
  clear hA0 hval0
  refine (walk t0 x0 y0 z0 t1 x1 y1 z1 x2 y2 z2 W wt0 wx0 wy0 wz0 wt1 wx1 wy1 wz1 wx2 wy2 wz2).mono fun e W' ⟨he, bel⟩ => ?_
  subst he
  exact ⟨_, rfl, _, _, _, [], _, [], hW', trodAll_mk1 (shut_bool Try.underlying4 _), (trodAll_cons_mk (Qr.shut_v4 wt0 wx0 wy0 wz0) (trodAll_cons_mk (Qr.shut_v4 wt1 wx1 wy1 wz1) (trodAll_cons_mk (Vr.shut_v3 wx2 wy2 wz2) trodAll_mk0))), rfl, bel.frame _, fun h => by cases h⟩

theorem over : Rows.quatIsRow.holds Try.pinned (OpenSpec.ofChange Rows.quatIsSpec) :=
  OpenClaim.holds_of_wide 3 Try.f3 rfl rfl rfl rfl rfl rfl rfl ⟨rfl, rfl, rfl, rfl, rfl⟩ rfl rfl rfl rfl rfl (by kernel_rfl) Try.func3 (by kernel_rfl)
    (of_decide_eq_true (by kernel_rfl)) (by unfold Func.isWrapper; first | (rw [if_pos (by decide +kernel)]; kernel_rfl) | (rw [if_neg (by decide +kernel)]; exact ⟨rfl, rfl⟩))
    (fun os started H enc _ => lifted os started H enc)

theorem proved : Rows.QuatIsSaid :=
  over
#print axioms proved
end Go.Proofs.Ytmhdpjdkcjdipaa.quatIs
