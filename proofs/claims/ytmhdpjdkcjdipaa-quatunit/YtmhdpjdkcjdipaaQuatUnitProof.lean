/- For every four ints the law QuatUnit answers true: what is made of the length 1 has it, within 2^-20, if the length is 2^-8 at least and 2^20 at most, and each number of it has the sign that it had, or is 0. No condition. -/
import Derived.Test.YtmhdpjdkcjdipaaRows
import Derived.WalkKit
import Derived.ProofKit
import Derived.OpenShut
import Derived.ShutString
import Derived.ChangeOld
import Derived.Below
import Derived.Test.YtmhdpjdkcjdipaaQuatC2
import Derived.Test.YtmhdpjdkcjdipaaQuatR
namespace Go.Proofs.Ytmhdpjdkcjdipaa.quatUnit
open Go.ChangeShapes Go.WideShapes Go.ChangeAt Go.RowKit
set_option linter.unusedVariables false
theorem own : ownKnob Try.prog.godebug = none := by kernel_rfl
theorem laidOut : laidOutB Try.prog = true := by kernel_rfl

open Go.Proofs.Ytmhdpjdkcjdipaa.Fx Go.Proofs.Ytmhdpjdkcjdipaa.Wd Go.Proofs.Ytmhdpjdkcjdipaa.Sc Go.Proofs.Ytmhdpjdkcjdipaa.Rt Go.Proofs.Ytmhdpjdkcjdipaa.Vc Go.Proofs.Ytmhdpjdkcjdipaa.Qa
attribute [local go_sem] Ext.cell Ext.froz Ext.lt Ext.lt1 Ext.lt2 Ext.lt3 Ext.all Ext.set_u drew_heap setCell_size Ext.set_size
attribute [local go_sem ↓] eq_3 e3_self eq_4 e4_self
theorem sg {a u : Int} (h : (0 ≤ a → 0 ≤ u) ∧ (a ≤ 0 → u ≤ 0)) : (0 ≤ a ∧ ¬ a ≤ 0 ∧ ¬ u < 0) ∨ (0 ≤ a ∧ a ≤ 0 ∧ ¬ u < 0 ∧ ¬ 0 < u) ∨ (¬ 0 ≤ a ∧ a ≤ 0 ∧ ¬ 0 < u) := by
  rcases Int.lt_trichotomy a 0 with k | k | k
  · have := h.2 (by omega); omega
  · have := h.1 (by omega); have := h.2 (by omega); omega
  · have := h.1 (by omega); omega
set_option maxHeartbeats 4000000 in
set_option maxRecDepth 100000 in
theorem walk (t0 x0 y0 z0 : Int) (w : World) (wt0 : (Lit.int .i64 t0).wf = true) (wx0 : (Lit.int .i64 x0).wf = true) (wy0 : (Lit.int .i64 y0).wf = true) (wz0 : (Lit.int .i64 z0).wf = true) :
    Calls Try.prog 5 #[.agg #[.int .i64 t0, .int .i64 x0, .int .i64 y0, .int .i64 z0]] w fun e w' => e = .returned (.bool true) ∧ Below w.heap.size w w' := by
  have hA : W64 ⟨t0, x0, y0, z0⟩ := ⟨bd wt0, bd wx0, bd wy0, bd wz0⟩
  clear wt0 wx0 wy0 wz0
  obtain ⟨n, hn⟩ : ∃ n, nv ⟨t0, x0, y0, z0⟩ = n := ⟨_, rfl⟩
  have k3 : Unit := ()
  have k4 : Unit := ()
  cases hc : nb ⟨t0, x0, y0, z0⟩ with
  | true =>
    go_enter Try.func5, Try.ntmps5; go_wp2_with (first | (go_at_call 10; refine (awake9_c _).mono ?_; rintro e w' ⟨rfl, x, rfl⟩) | (go_at_call 13; (have := k3; clear this k3); refine (qnorm_c hA hn hc).mono ?_; rintro e w' ⟨rfl, x, rfl⟩) | (go_at_call 15; refine (qunit_c hA u2 u1).mono ?_; rintro e w' ⟨rfl, x, rfl⟩) | (go_at_call 13; (have := k4; clear this k4); refine (qnorm_c hU6 hm lo).mono ?_; rintro e w' ⟨rfl, x, rfl⟩))
    go_ret; exact ⟨rfl, Mr.grown (by repeat (first | (with_reducible exact Mr.refl _) | (with_reducible apply Mr.drew) | (with_reducible apply Mr.alloc) | (with_reducible apply Mr.ext) | (with_reducible refine Mr.setCell ?_ (by first | (simp; done) | (simp; omega) | omega | (refine leOf0 ?_; (repeat (first | (with_reducible exact Mr.refl _) | (with_reducible apply Mr.drew) | (with_reducible apply Mr.alloc) | (with_reducible apply Mr.ext) | (with_reducible refine Mr.setCell ?_ (by first | (simp; done) | (simp; omega) | omega) _))); done) | (refine leOf ?_; (repeat (first | (with_reducible exact Mr.refl _) | (with_reducible apply Mr.drew) | (with_reducible apply Mr.alloc) | (with_reducible apply Mr.ext) | (with_reducible refine Mr.setCell ?_ (by first | (simp; done) | (simp; omega) | omega) _))); done)) _)))⟩
  | false =>
    by_cases h0 : n < 16777216
    · go_enter Try.func5, Try.ntmps5; go_wp2_with (first | (go_at_call 10; refine (awake9_c _).mono ?_; rintro e w' ⟨rfl, x, rfl⟩) | (go_at_call 13; (have := k3; clear this k3); refine (qnorm_c hA hn hc).mono ?_; rintro e w' ⟨rfl, x, rfl⟩) | (go_at_call 15; refine (qunit_c hA u2 u1).mono ?_; rintro e w' ⟨rfl, x, rfl⟩) | (go_at_call 13; (have := k4; clear this k4); refine (qnorm_c hU6 hm lo).mono ?_; rintro e w' ⟨rfl, x, rfl⟩))
      go_ret; exact ⟨rfl, Mr.grown (by repeat (first | (with_reducible exact Mr.refl _) | (with_reducible apply Mr.drew) | (with_reducible apply Mr.alloc) | (with_reducible apply Mr.ext) | (with_reducible refine Mr.setCell ?_ (by first | (simp; done) | (simp; omega) | omega | (refine leOf0 ?_; (repeat (first | (with_reducible exact Mr.refl _) | (with_reducible apply Mr.drew) | (with_reducible apply Mr.alloc) | (with_reducible apply Mr.ext) | (with_reducible refine Mr.setCell ?_ (by first | (simp; done) | (simp; omega) | omega) _))); done) | (refine leOf ?_; (repeat (first | (with_reducible exact Mr.refl _) | (with_reducible apply Mr.drew) | (with_reducible apply Mr.alloc) | (with_reducible apply Mr.ext) | (with_reducible refine Mr.setCell ?_ (by first | (simp; done) | (simp; omega) | omega) _))); done)) _)))⟩
    · by_cases h1 : 4503599627370496 < n
      · go_enter Try.func5, Try.ntmps5; go_wp2_with (first | (go_at_call 10; refine (awake9_c _).mono ?_; rintro e w' ⟨rfl, x, rfl⟩) | (go_at_call 13; (have := k3; clear this k3); refine (qnorm_c hA hn hc).mono ?_; rintro e w' ⟨rfl, x, rfl⟩) | (go_at_call 15; refine (qunit_c hA u2 u1).mono ?_; rintro e w' ⟨rfl, x, rfl⟩) | (go_at_call 13; (have := k4; clear this k4); refine (qnorm_c hU6 hm lo).mono ?_; rintro e w' ⟨rfl, x, rfl⟩))
        go_ret; exact ⟨rfl, Mr.grown (by repeat (first | (with_reducible exact Mr.refl _) | (with_reducible apply Mr.drew) | (with_reducible apply Mr.alloc) | (with_reducible apply Mr.ext) | (with_reducible refine Mr.setCell ?_ (by first | (simp; done) | (simp; omega) | omega | (refine leOf0 ?_; (repeat (first | (with_reducible exact Mr.refl _) | (with_reducible apply Mr.drew) | (with_reducible apply Mr.alloc) | (with_reducible apply Mr.ext) | (with_reducible refine Mr.setCell ?_ (by first | (simp; done) | (simp; omega) | omega) _))); done) | (refine leOf ?_; (repeat (first | (with_reducible exact Mr.refl _) | (with_reducible apply Mr.drew) | (with_reducible apply Mr.alloc) | (with_reducible apply Mr.ext) | (with_reducible refine Mr.setCell ?_ (by first | (simp; done) | (simp; omega) | omega) _))); done)) _)))⟩
      · obtain ⟨u1, u2, u3, u4, -, S0, S1, S2, S3⟩ := unit_all4 hc hn (by omega) (by omega)
        obtain ⟨lo, m0, m1⟩ := len_one u3 u4
        rw [u2] at u3 lo m0 m1
        clear u4
        simp only at S0 S1 S2 S3
        simp only [] at u2 u3 lo m0 m1
        generalize qv t0 n = a at *
        generalize qv x0 n = b at *
        generalize qv y0 n = c at *
        generalize qv z0 n = d at *
        have hU6 : W64 ⟨a, b, c, d⟩ := by unfold Bd at u3; unfold W64 B64; simp only at u3 ⊢; omega
        generalize hm : nv ⟨a, b, c, d⟩ = m at *
        clear u3
        have h0' : 16777216 ≤ n := by omega
        have h1' : n ≤ 4503599627370496 := by omega
        go_enter Try.func5, Try.ntmps5; go_wp2_with (first | (go_at_call 10; refine (awake9_c _).mono ?_; rintro e w' ⟨rfl, x, rfl⟩) | (go_at_call 13; (have := k3; clear this k3); refine (qnorm_c hA hn hc).mono ?_; rintro e w' ⟨rfl, x, rfl⟩) | (go_at_call 15; refine (qunit_c hA u2 u1).mono ?_; rintro e w' ⟨rfl, x, rfl⟩) | (go_at_call 13; (have := k4; clear this k4); refine (qnorm_c hU6 hm lo).mono ?_; rintro e w' ⟨rfl, x, rfl⟩))
        go_loopw [10] (fun i wr => ∃ j : Nat, j ≤ 4 ∧ i = .int .i64 j ∧ wr = x.u) (fun i _ => (4 - intOf i).toNat)
        case atStart => exact ⟨0, by omega, rfl, rfl⟩
        case round =>
          obtain ⟨j, hj, rfl, rfl⟩ := hrel
          match j, hj with
          | 0, _ =>
            rcases sg S0 with ⟨g1, g2, g3⟩ | ⟨g1, g2, g3, g4⟩ | ⟨g1, g2, g3⟩
            all_goals
              clear S0 S1 S2 S3
              go_wp2_with fail
              go_roundw
              case rel => exact ⟨1, by omega, rfl, by first | rfl | trivial⟩
              case measure => simp [intOf]
          | 1, _ =>
            rcases sg S1 with ⟨g1, g2, g3⟩ | ⟨g1, g2, g3, g4⟩ | ⟨g1, g2, g3⟩
            all_goals
              clear S0 S1 S2 S3
              go_wp2_with fail
              go_roundw
              case rel => exact ⟨2, by omega, rfl, by first | rfl | trivial⟩
              case measure => simp [intOf]
          | 2, _ =>
            rcases sg S2 with ⟨g1, g2, g3⟩ | ⟨g1, g2, g3, g4⟩ | ⟨g1, g2, g3⟩
            all_goals
              clear S0 S1 S2 S3
              go_wp2_with fail
              go_roundw
              case rel => exact ⟨3, by omega, rfl, by first | rfl | trivial⟩
              case measure => simp [intOf]
          | 3, _ =>
            rcases sg S3 with ⟨g1, g2, g3⟩ | ⟨g1, g2, g3, g4⟩ | ⟨g1, g2, g3⟩
            all_goals
              clear S0 S1 S2 S3
              go_wp2_with fail
              go_roundw
              case rel => exact ⟨4, by omega, rfl, by first | rfl | trivial⟩
              case measure => simp [intOf]
          | 4, _ =>
            clear S0 S1 S2 S3
            go_wp2_with fail
            go_ret; exact ⟨rfl, Mr.grown (by repeat (first | (with_reducible exact Mr.refl _) | (with_reducible apply Mr.drew) | (with_reducible apply Mr.alloc) | (with_reducible apply Mr.ext) | (with_reducible refine Mr.setCell ?_ (by first | (simp; done) | (simp; omega) | omega | (refine leOf0 ?_; (repeat (first | (with_reducible exact Mr.refl _) | (with_reducible apply Mr.drew) | (with_reducible apply Mr.alloc) | (with_reducible apply Mr.ext) | (with_reducible refine Mr.setCell ?_ (by first | (simp; done) | (simp; omega) | omega) _))); done) | (refine leOf ?_; (repeat (first | (with_reducible exact Mr.refl _) | (with_reducible apply Mr.drew) | (with_reducible apply Mr.alloc) | (with_reducible apply Mr.ext) | (with_reducible refine Mr.setCell ?_ (by first | (simp; done) | (simp; omega) | omega) _))); done)) _)))⟩

set_option maxRecDepth 100000 in
theorem lifted (os : Os) (started : os.Started) (H : Type) (enc : TypeId × Value → H) :
    ReturnsInHanded {} Try.checked os 5 .any (Rows.quatUnitSpec.pre6 enc Try.prog Try.f5 Rows.quatUnitRow.domain false) (Rows.quatUnitSpec.post enc Try.prog Try.f5 false true false false) := by
  refine returnsInHanded_of_change (C := Try.checked) own started (by kernel_rfl) Try.func5
    (ChangeSpec.witness6 (enc := enc) (C := Try.checked) false ⟨#[], #[.agg #[.int .i64 0, .int .i64 0, .int .i64 0, .int .i64 0]], []⟩ 8 (by kernel_rfl) (by kernel_rfl) (by kernel_rfl) (by kernel_rfl)) ?_
  intro W base args ds gs before hval0 hW hcnd _
  have hval : ∀ (j : Nat) t v, Try.f5.params[j]? = some t → args[j]? = some v → Value.okWide Try.prog W .any base t v := hval0
  have hW' := hW
  obtain ⟨p, q, hA0, hV, rfl, hfz, hnd⟩ := hW
  have hA : DataW.TrodAll enc Try.prog W 0 (fun _ => true) true Try.f5.params.toList args.toList ds p := hA0
  rw [Try.params5] at hA hval
  obtain ⟨v0, vs0, d0, ds0, p_0, q_0, hargs, rfl, rfl, h0, r0⟩ := trodAll_cons hA
  obtain ⟨rfl, rfl, rfl⟩ := trodAll_nil r0
  obtain rfl : args = #[v0] := by cases args; simp_all
  obtain ⟨rfl, rfl⟩ := trodVars_none hV
  obtain ⟨t0, x0, y0, z0, rfl, rfl, rfl, wt0, wx0, wy0, wz0⟩ := Qr.open_v4 (hval 0 22 v0 rfl rfl) h0
  clear hA0 hval0
  refine (walk t0 x0 y0 z0 W wt0 wx0 wy0 wz0).mono fun e W' ⟨he, bel⟩ => ?_
  subst he
  exact ⟨_, rfl, _, _, _, [], _, [], hW', trodAll_mk1 (shut_bool Try.underlying4 _), (trodAll_cons_mk (Qr.shut_v4 wt0 wx0 wy0 wz0) trodAll_mk0), rfl, bel.frame _, fun h => by cases h⟩

theorem over : Rows.quatUnitRow.holds Try.pinned (OpenSpec.ofChange Rows.quatUnitSpec) :=
  OpenClaim.holds_of_wide 5 Try.f5 rfl rfl rfl rfl rfl rfl rfl ⟨rfl, rfl, rfl, rfl, rfl⟩ rfl rfl rfl rfl rfl (by kernel_rfl) Try.func5 (by kernel_rfl)
    (of_decide_eq_true (by kernel_rfl)) (by unfold Func.isWrapper; first | (rw [if_pos (by decide +kernel)]; kernel_rfl) | (rw [if_neg (by decide +kernel)]; exact ⟨rfl, rfl⟩))
    (fun os started H enc _ => lifted os started H enc)

theorem proved : Rows.QuatUnitSaid :=
  over
#print axioms proved
end Go.Proofs.Ytmhdpjdkcjdipaa.quatUnit
