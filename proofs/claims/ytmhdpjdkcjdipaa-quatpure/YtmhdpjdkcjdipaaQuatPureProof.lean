/- For every four ints the law QuatPure answers true: where nothing is clamped, the product of a turn and its way back, in either order, has nothing but its first number, which is none below 0 and the same in both, and the length of both is the same. No condition. -/
import Derived.Test.YtmhdpjdkcjdipaaRows
import Derived.WalkKit
import Derived.ProofKit
import Derived.OpenShut
import Derived.ShutString
import Derived.ChangeOld
import Derived.Below
import Derived.Test.YtmhdpjdkcjdipaaQuatC2
import Derived.Test.YtmhdpjdkcjdipaaQuatR
namespace Go.Proofs.Ytmhdpjdkcjdipaa.quatPure
open Go.ChangeShapes Go.WideShapes Go.ChangeAt Go.RowKit
set_option linter.unusedVariables false
theorem own : ownKnob Try.prog.godebug = none := by kernel_rfl
theorem laidOut : laidOutB Try.prog = true := by kernel_rfl

open Go.Proofs.Ytmhdpjdkcjdipaa.Fx Go.Proofs.Ytmhdpjdkcjdipaa.Wd Go.Proofs.Ytmhdpjdkcjdipaa.Sc Go.Proofs.Ytmhdpjdkcjdipaa.Rt Go.Proofs.Ytmhdpjdkcjdipaa.Vc Go.Proofs.Ytmhdpjdkcjdipaa.Qa
attribute [local go_sem] Ext.cell Ext.froz Ext.lt Ext.lt1 Ext.lt2 Ext.lt3 Ext.all Ext.set_u drew_heap setCell_size Ext.set_size
attribute [local go_sem ↓] eq_3 e3_self eq_4 e4_self
set_option maxHeartbeats 4000000 in
set_option maxRecDepth 100000 in
theorem walk (t0 x0 y0 z0 : Int) (w : World) (wt0 : (Lit.int .i64 t0).wf = true) (wx0 : (Lit.int .i64 x0).wf = true) (wy0 : (Lit.int .i64 y0).wf = true) (wz0 : (Lit.int .i64 z0).wf = true) :
    Calls Try.prog 8 #[.agg #[.int .i64 t0, .int .i64 x0, .int .i64 y0, .int .i64 z0]] w fun e w' => e = .returned (.bool true) ∧ Below w.heap.size w w' := by
  have hA : W64 ⟨t0, x0, y0, z0⟩ := ⟨bd wt0, bd wx0, bd wy0, bd wz0⟩
  clear wt0 wx0 wy0 wz0
  obtain ⟨⟨h0, h1, h2, h3⟩, hRR, hmm⟩ := pure_ok ⟨t0, x0, y0, z0⟩
  have hB6 := back_w64 ⟨t0, x0, y0, z0⟩
  obtain ⟨b0, b1, b2, b3, hB⟩ : ∃ b0 b1 b2 b3, back ⟨t0, x0, y0, z0⟩ = ⟨b0, b1, b2, b3⟩ := ⟨_, _, _, _, rfl⟩
  rw [hB] at hB6 hRR hmm h0 h1 h2 h3
  obtain ⟨p0, hP, hp0⟩ : ∃ p0, mul ⟨t0, x0, y0, z0⟩ ⟨b0, b1, b2, b3⟩ = ⟨p0, 0, 0, 0⟩ ∧ 0 ≤ p0 := ⟨_, Q.eq rfl h1 h2 h3, h0⟩
  have hR : mul ⟨b0, b1, b2, b3⟩ ⟨t0, x0, y0, z0⟩ = ⟨p0, 0, 0, 0⟩ := by rw [hRR, hP]
  obtain ⟨n, hn⟩ : ∃ n, nv ⟨t0, x0, y0, z0⟩ = n := ⟨_, rfl⟩
  have hm : nv ⟨b0, b1, b2, b3⟩ = n := by rw [hmm, hn]
  clear h0 h1 h2 h3 hRR hmm
  have k1 : Unit := ()
  have k2 : Unit := ()
  have k3 : Unit := ()
  have k4 : Unit := ()
  obtain ⟨f1, hf1⟩ : ∃ f, mb ⟨t0, x0, y0, z0⟩ ⟨b0, b1, b2, b3⟩ = f := ⟨_, rfl⟩
  obtain ⟨f2, hf2⟩ : ∃ f, mb ⟨b0, b1, b2, b3⟩ ⟨t0, x0, y0, z0⟩ = f := ⟨_, rfl⟩
  obtain ⟨f3, hf3⟩ : ∃ f, nb ⟨t0, x0, y0, z0⟩ = f := ⟨_, rfl⟩
  obtain ⟨f4, hf4⟩ : ∃ f, nb ⟨b0, b1, b2, b3⟩ = f := ⟨_, rfl⟩
  cases f1
  · cases f2
    · cases f3
      · cases f4
        · go_enter Try.func8, Try.ntmps8; go_wp2_with (first | (go_at_call 10; refine (awake9_c _).mono ?_; rintro e w' ⟨rfl, x, rfl⟩) | (go_at_call 21; refine (qback_c hB).mono ?_; rintro e w' ⟨rfl, x, rfl⟩) | (go_at_call 11; (have := k1; clear this k1); refine (qmul_c hA hB6 hP hf1).mono ?_; rintro e w' ⟨rfl, x, rfl⟩) | (go_at_call 11; (have := k2; clear this k2); refine (qmul_c hB6 hA hR hf2).mono ?_; rintro e w' ⟨rfl, x, rfl⟩) | (go_at_call 13; (have := k3; clear this k3); refine (qnorm_c hA hn hf3).mono ?_; rintro e w' ⟨rfl, x, rfl⟩) | (go_at_call 13; (have := k4; clear this k4); refine (qnorm_c hB6 hm hf4).mono ?_; rintro e w' ⟨rfl, x, rfl⟩))
          go_ret; exact ⟨rfl, Mr.grown (by repeat (first | (with_reducible exact Mr.refl _) | (with_reducible apply Mr.drew) | (with_reducible apply Mr.alloc) | (with_reducible apply Mr.ext) | (with_reducible refine Mr.setCell ?_ (by first | (simp; done) | (simp; omega) | omega | (refine leOf0 ?_; (repeat (first | (with_reducible exact Mr.refl _) | (with_reducible apply Mr.drew) | (with_reducible apply Mr.alloc) | (with_reducible apply Mr.ext) | (with_reducible refine Mr.setCell ?_ (by first | (simp; done) | (simp; omega) | omega) _))); done) | (refine leOf ?_; (repeat (first | (with_reducible exact Mr.refl _) | (with_reducible apply Mr.drew) | (with_reducible apply Mr.alloc) | (with_reducible apply Mr.ext) | (with_reducible refine Mr.setCell ?_ (by first | (simp; done) | (simp; omega) | omega) _))); done)) _)))⟩
        · go_enter Try.func8, Try.ntmps8; go_wp2_with (first | (go_at_call 10; refine (awake9_c _).mono ?_; rintro e w' ⟨rfl, x, rfl⟩) | (go_at_call 21; refine (qback_c hB).mono ?_; rintro e w' ⟨rfl, x, rfl⟩) | (go_at_call 11; (have := k1; clear this k1); refine (qmul_c hA hB6 hP hf1).mono ?_; rintro e w' ⟨rfl, x, rfl⟩) | (go_at_call 11; (have := k2; clear this k2); refine (qmul_c hB6 hA hR hf2).mono ?_; rintro e w' ⟨rfl, x, rfl⟩) | (go_at_call 13; (have := k3; clear this k3); refine (qnorm_c hA hn hf3).mono ?_; rintro e w' ⟨rfl, x, rfl⟩) | (go_at_call 13; (have := k4; clear this k4); refine (qnorm_c hB6 hm hf4).mono ?_; rintro e w' ⟨rfl, x, rfl⟩))
          go_ret; exact ⟨rfl, Mr.grown (by repeat (first | (with_reducible exact Mr.refl _) | (with_reducible apply Mr.drew) | (with_reducible apply Mr.alloc) | (with_reducible apply Mr.ext) | (with_reducible refine Mr.setCell ?_ (by first | (simp; done) | (simp; omega) | omega | (refine leOf0 ?_; (repeat (first | (with_reducible exact Mr.refl _) | (with_reducible apply Mr.drew) | (with_reducible apply Mr.alloc) | (with_reducible apply Mr.ext) | (with_reducible refine Mr.setCell ?_ (by first | (simp; done) | (simp; omega) | omega) _))); done) | (refine leOf ?_; (repeat (first | (with_reducible exact Mr.refl _) | (with_reducible apply Mr.drew) | (with_reducible apply Mr.alloc) | (with_reducible apply Mr.ext) | (with_reducible refine Mr.setCell ?_ (by first | (simp; done) | (simp; omega) | omega) _))); done)) _)))⟩
      · go_enter Try.func8, Try.ntmps8; go_wp2_with (first | (go_at_call 10; refine (awake9_c _).mono ?_; rintro e w' ⟨rfl, x, rfl⟩) | (go_at_call 21; refine (qback_c hB).mono ?_; rintro e w' ⟨rfl, x, rfl⟩) | (go_at_call 11; (have := k1; clear this k1); refine (qmul_c hA hB6 hP hf1).mono ?_; rintro e w' ⟨rfl, x, rfl⟩) | (go_at_call 11; (have := k2; clear this k2); refine (qmul_c hB6 hA hR hf2).mono ?_; rintro e w' ⟨rfl, x, rfl⟩) | (go_at_call 13; (have := k3; clear this k3); refine (qnorm_c hA hn hf3).mono ?_; rintro e w' ⟨rfl, x, rfl⟩) | (go_at_call 13; (have := k4; clear this k4); refine (qnorm_c hB6 hm hf4).mono ?_; rintro e w' ⟨rfl, x, rfl⟩))
        go_ret; exact ⟨rfl, Mr.grown (by repeat (first | (with_reducible exact Mr.refl _) | (with_reducible apply Mr.drew) | (with_reducible apply Mr.alloc) | (with_reducible apply Mr.ext) | (with_reducible refine Mr.setCell ?_ (by first | (simp; done) | (simp; omega) | omega | (refine leOf0 ?_; (repeat (first | (with_reducible exact Mr.refl _) | (with_reducible apply Mr.drew) | (with_reducible apply Mr.alloc) | (with_reducible apply Mr.ext) | (with_reducible refine Mr.setCell ?_ (by first | (simp; done) | (simp; omega) | omega) _))); done) | (refine leOf ?_; (repeat (first | (with_reducible exact Mr.refl _) | (with_reducible apply Mr.drew) | (with_reducible apply Mr.alloc) | (with_reducible apply Mr.ext) | (with_reducible refine Mr.setCell ?_ (by first | (simp; done) | (simp; omega) | omega) _))); done)) _)))⟩
    · go_enter Try.func8, Try.ntmps8; go_wp2_with (first | (go_at_call 10; refine (awake9_c _).mono ?_; rintro e w' ⟨rfl, x, rfl⟩) | (go_at_call 21; refine (qback_c hB).mono ?_; rintro e w' ⟨rfl, x, rfl⟩) | (go_at_call 11; (have := k1; clear this k1); refine (qmul_c hA hB6 hP hf1).mono ?_; rintro e w' ⟨rfl, x, rfl⟩) | (go_at_call 11; (have := k2; clear this k2); refine (qmul_c hB6 hA hR hf2).mono ?_; rintro e w' ⟨rfl, x, rfl⟩) | (go_at_call 13; (have := k3; clear this k3); refine (qnorm_c hA hn hf3).mono ?_; rintro e w' ⟨rfl, x, rfl⟩) | (go_at_call 13; (have := k4; clear this k4); refine (qnorm_c hB6 hm hf4).mono ?_; rintro e w' ⟨rfl, x, rfl⟩))
      go_ret; exact ⟨rfl, Mr.grown (by repeat (first | (with_reducible exact Mr.refl _) | (with_reducible apply Mr.drew) | (with_reducible apply Mr.alloc) | (with_reducible apply Mr.ext) | (with_reducible refine Mr.setCell ?_ (by first | (simp; done) | (simp; omega) | omega | (refine leOf0 ?_; (repeat (first | (with_reducible exact Mr.refl _) | (with_reducible apply Mr.drew) | (with_reducible apply Mr.alloc) | (with_reducible apply Mr.ext) | (with_reducible refine Mr.setCell ?_ (by first | (simp; done) | (simp; omega) | omega) _))); done) | (refine leOf ?_; (repeat (first | (with_reducible exact Mr.refl _) | (with_reducible apply Mr.drew) | (with_reducible apply Mr.alloc) | (with_reducible apply Mr.ext) | (with_reducible refine Mr.setCell ?_ (by first | (simp; done) | (simp; omega) | omega) _))); done)) _)))⟩
  · go_enter Try.func8, Try.ntmps8; go_wp2_with (first | (go_at_call 10; refine (awake9_c _).mono ?_; rintro e w' ⟨rfl, x, rfl⟩) | (go_at_call 21; refine (qback_c hB).mono ?_; rintro e w' ⟨rfl, x, rfl⟩) | (go_at_call 11; (have := k1; clear this k1); refine (qmul_c hA hB6 hP hf1).mono ?_; rintro e w' ⟨rfl, x, rfl⟩) | (go_at_call 11; (have := k2; clear this k2); refine (qmul_c hB6 hA hR hf2).mono ?_; rintro e w' ⟨rfl, x, rfl⟩) | (go_at_call 13; (have := k3; clear this k3); refine (qnorm_c hA hn hf3).mono ?_; rintro e w' ⟨rfl, x, rfl⟩) | (go_at_call 13; (have := k4; clear this k4); refine (qnorm_c hB6 hm hf4).mono ?_; rintro e w' ⟨rfl, x, rfl⟩))
    go_ret; exact ⟨rfl, Mr.grown (by repeat (first | (with_reducible exact Mr.refl _) | (with_reducible apply Mr.drew) | (with_reducible apply Mr.alloc) | (with_reducible apply Mr.ext) | (with_reducible refine Mr.setCell ?_ (by first | (simp; done) | (simp; omega) | omega | (refine leOf0 ?_; (repeat (first | (with_reducible exact Mr.refl _) | (with_reducible apply Mr.drew) | (with_reducible apply Mr.alloc) | (with_reducible apply Mr.ext) | (with_reducible refine Mr.setCell ?_ (by first | (simp; done) | (simp; omega) | omega) _))); done) | (refine leOf ?_; (repeat (first | (with_reducible exact Mr.refl _) | (with_reducible apply Mr.drew) | (with_reducible apply Mr.alloc) | (with_reducible apply Mr.ext) | (with_reducible refine Mr.setCell ?_ (by first | (simp; done) | (simp; omega) | omega) _))); done)) _)))⟩

set_option maxRecDepth 100000 in
theorem lifted (os : Os) (started : os.Started) (H : Type) (enc : TypeId × Value → H) :
    ReturnsInHanded {} Try.checked os 8 .any (Rows.quatPureSpec.pre6 enc Try.prog Try.f8 Rows.quatPureRow.domain false) (Rows.quatPureSpec.post enc Try.prog Try.f8 false true false false) := by
  refine returnsInHanded_of_change (C := Try.checked) own started (by kernel_rfl) Try.func8
    (ChangeSpec.witness6 (enc := enc) (C := Try.checked) false ⟨#[], #[.agg #[.int .i64 0, .int .i64 0, .int .i64 0, .int .i64 0]], []⟩ 8 (by kernel_rfl) (by kernel_rfl) (by kernel_rfl) (by kernel_rfl)) ?_
  intro W base args ds gs before hval0 hW hcnd _
  have hval : ∀ (j : Nat) t v, Try.f8.params[j]? = some t → args[j]? = some v → Value.okWide Try.prog W .any base t v := hval0
  have hW' := hW
  obtain ⟨p, q, hA0, hV, rfl, hfz, hnd⟩ := hW
  have hA : DataW.TrodAll enc Try.prog W 0 (fun _ => true) true Try.f8.params.toList args.toList ds p := hA0
  rw [Try.params8] at hA hval
  obtain ⟨v0, vs0, d0, ds0, p_0, q_0, hargs, rfl, rfl, h0, r0⟩ := trodAll_cons hA
  obtain ⟨rfl, rfl, rfl⟩ := trodAll_nil r0
  obtain rfl : args = #[v0] := by cases args; simp_all
  obtain ⟨rfl, rfl⟩ := trodVars_none hV
  obtain ⟨t0, x0, y0, z0, rfl, rfl, rfl, wt0, wx0, wy0, wz0⟩ := Qr.open_v4 (hval 0 22 v0 rfl rfl) h0
  clear hA0 hval0
  refine (walk t0 x0 y0 z0 W wt0 wx0 wy0 wz0).mono fun e W' ⟨he, bel⟩ => ?_
  subst he
  exact ⟨_, rfl, _, _, _, [], _, [], hW', trodAll_mk1 (shut_bool Try.underlying4 _), (trodAll_cons_mk (Qr.shut_v4 wt0 wx0 wy0 wz0) trodAll_mk0), rfl, bel.frame _, fun h => by cases h⟩

theorem over : Rows.quatPureRow.holds Try.pinned (OpenSpec.ofChange Rows.quatPureSpec) :=
  OpenClaim.holds_of_wide 8 Try.f8 rfl rfl rfl rfl rfl rfl rfl ⟨rfl, rfl, rfl, rfl, rfl⟩ rfl rfl rfl rfl rfl (by kernel_rfl) Try.func8 (by kernel_rfl)
    (of_decide_eq_true (by kernel_rfl)) (by unfold Func.isWrapper; first | (rw [if_pos (by decide +kernel)]; kernel_rfl) | (rw [if_neg (by decide +kernel)]; exact ⟨rfl, rfl⟩))
    (fun os started H enc _ => lifted os started H enc)

theorem proved : Rows.QuatPureSaid :=
  over
#print axioms proved
end Go.Proofs.Ytmhdpjdkcjdipaa.quatPure
