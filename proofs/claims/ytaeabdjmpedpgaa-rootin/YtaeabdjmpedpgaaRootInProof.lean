/- For every wide number (any struct of two ints) the law RootIn answers true: of one of which nothing is told the square of the root is no greater, and that of one more is greater; of one below 0 there is none. No condition. -/
import Derived.Test.YtaeabdjmpedpgaaRows
import Derived.WalkKit
import Derived.ProofKit
import Derived.OpenShut
import Derived.Test.YtaeabdjmpedpgaaRootC2
import Derived.Test.YtaeabdjmpedpgaaRootM2
import Derived.Test.YtaeabdjmpedpgaaWideR
namespace Go.Proofs.Ytaeabdjmpedpgaa.rootIn
open Go.ChangeShapes Go.WideShapes Go.ChangeAt Go.RowKit
set_option linter.unusedVariables false
theorem own : ownKnob Try.prog.godebug = none := by kernel_rfl

open Go.Proofs.Ytaeabdjmpedpgaa.Fx Go.Proofs.Ytaeabdjmpedpgaa.Wd Go.Proofs.Ytaeabdjmpedpgaa.Rt
attribute [local go_sem] Ext.cell Ext.froz Ext.lt Ext.lt1 Ext.lt2 Ext.lt3 Ext.all Ext.set_u drew_heap setCell_size Ext.set_size
attribute [local go_sem ↓] eq_wide eqw_self
attribute [local go_sem] and62 and1 sgn64 not64 wrap_and
theorem vw_neg {p q : Int} (h : sn p q = true) (g : p < 0) : vw p q < 0 := by
  rw [vw_sn h]; rw [sn_iff] at h; omega
theorem vw_nneg {p q : Int} (h : sn p q = true) (g : ¬ p < 0) : 0 ≤ vw p q := by
  rw [vw_sn h]; rw [sn_iff] at h; omega
set_option maxHeartbeats 4000000 in
set_option maxRecDepth 100000 in
theorem walk (p0 q0 : Int) (wp0 : (Lit.int .i64 p0).wf = true) (wq0 : (Lit.int .i64 q0).wf = true) (w : World) :
    Calls Try.prog 4 #[.agg #[.int .i64 p0, .int .i64 q0]] w fun e w' => e = .returned (.bool true) ∧ Grown w w' := by
  have hb := sr_bd (vw p0 q0)
  obtain ⟨h0, h1⟩ := hb
  cases hs : sn p0 q0
  · have hr : ro (vw p0 q0) = false := by rw [vw_nsn hs]; decide
    generalize hn : sr (vw p0 q0) = n at *
    go_enter Try.func4, Try.ntmps4; go_wp2_with (first | (go_at_call 9; refine (awake4_c _).mono ?_; rintro e w' ⟨rfl, x, rfl⟩) | (go_at_call 10; refine (wide_c _ _ _).mono ?_; rintro e w' ⟨rfl, x, rfl⟩) | (go_at_call 16; refine (sane_c _ _ _).mono ?_; rintro e w' ⟨rfl, x, rfl⟩))
    go_ret; exact ⟨rfl, Mr.grown (by repeat (first | (with_reducible exact Mr.refl _) | (with_reducible apply Mr.drew) | (with_reducible apply Mr.alloc) | (with_reducible apply Mr.ext) | (with_reducible refine Mr.setCell ?_ (by first | (simp; done) | (simp; omega) | omega | (refine leOf0 ?_; (repeat (first | (with_reducible exact Mr.refl _) | (with_reducible apply Mr.drew) | (with_reducible apply Mr.alloc) | (with_reducible apply Mr.ext) | (with_reducible refine Mr.setCell ?_ (by first | (simp; done) | (simp; omega) | omega) _))); done) | (refine leOf ?_; (repeat (first | (with_reducible exact Mr.refl _) | (with_reducible apply Mr.drew) | (with_reducible apply Mr.alloc) | (with_reducible apply Mr.ext) | (with_reducible refine Mr.setCell ?_ (by first | (simp; done) | (simp; omega) | omega) _))); done)) _)))⟩
  · by_cases hp : p0 < 0
    · have hz := vw_neg hs hp
      have e1 := sr_neg hz
      have e2 := ro_neg hz
      clear hz h0 h1
      go_enter Try.func4, Try.ntmps4; go_wp2_with (first | (go_at_call 9; refine (awake4_c _).mono ?_; rintro e w' ⟨rfl, x, rfl⟩) | (go_at_call 10; refine (wide_c _ _ _).mono ?_; rintro e w' ⟨rfl, x, rfl⟩) | (go_at_call 16; refine (sane_c _ _ _).mono ?_; rintro e w' ⟨rfl, x, rfl⟩))
      go_ret; exact ⟨rfl, Mr.grown (by repeat (first | (with_reducible exact Mr.refl _) | (with_reducible apply Mr.drew) | (with_reducible apply Mr.alloc) | (with_reducible apply Mr.ext) | (with_reducible refine Mr.setCell ?_ (by first | (simp; done) | (simp; omega) | omega | (refine leOf0 ?_; (repeat (first | (with_reducible exact Mr.refl _) | (with_reducible apply Mr.drew) | (with_reducible apply Mr.alloc) | (with_reducible apply Mr.ext) | (with_reducible refine Mr.setCell ?_ (by first | (simp; done) | (simp; omega) | omega) _))); done) | (refine leOf ?_; (repeat (first | (with_reducible exact Mr.refl _) | (with_reducible apply Mr.drew) | (with_reducible apply Mr.alloc) | (with_reducible apply Mr.ext) | (with_reducible refine Mr.setCell ?_ (by first | (simp; done) | (simp; omega) | omega) _))); done)) _)))⟩
    · have hz := vw_nneg hs hp
      have e1 : ¬ p0 < 0 := hp
      cases hr : ro (vw p0 q0)
      · have f1 := sr_sq hz
        have f2 := sr_next hr
        by_cases hl : sr (vw p0 q0) = 288230376151711744
        · clear hz h0 h1 f1 f2
          go_enter Try.func4, Try.ntmps4; go_wp2_with (first | (go_at_call 9; refine (awake4_c _).mono ?_; rintro e w' ⟨rfl, x, rfl⟩) | (go_at_call 10; refine (wide_c _ _ _).mono ?_; rintro e w' ⟨rfl, x, rfl⟩) | (go_at_call 16; refine (sane_c _ _ _).mono ?_; rintro e w' ⟨rfl, x, rfl⟩))
          go_ret; exact ⟨rfl, Mr.grown (by repeat (first | (with_reducible exact Mr.refl _) | (with_reducible apply Mr.drew) | (with_reducible apply Mr.alloc) | (with_reducible apply Mr.ext) | (with_reducible refine Mr.setCell ?_ (by first | (simp; done) | (simp; omega) | omega | (refine leOf0 ?_; (repeat (first | (with_reducible exact Mr.refl _) | (with_reducible apply Mr.drew) | (with_reducible apply Mr.alloc) | (with_reducible apply Mr.ext) | (with_reducible refine Mr.setCell ?_ (by first | (simp; done) | (simp; omega) | omega) _))); done) | (refine leOf ?_; (repeat (first | (with_reducible exact Mr.refl _) | (with_reducible apply Mr.drew) | (with_reducible apply Mr.alloc) | (with_reducible apply Mr.ext) | (with_reducible refine Mr.setCell ?_ (by first | (simp; done) | (simp; omega) | omega) _))); done)) _)))⟩
        · have d1 : (sr (vw p0 q0) == 288230376151711744) = false := by simpa using hl
          have c1 : vw (hi (ml (sr (vw p0 q0)) (sr (vw p0 q0)))) (lo (ml (sr (vw p0 q0)) (sr (vw p0 q0)))) = sr (vw p0 q0) * sr (vw p0 q0) := by rw [vw_hl (ml_inr _ _), ml_self (by omega) (by omega)]
          have c2 : vw (hi (ml (sr (vw p0 q0) + 1) (sr (vw p0 q0) + 1))) (lo (ml (sr (vw p0 q0) + 1) (sr (vw p0 q0) + 1))) = (sr (vw p0 q0) + 1) * (sr (vw p0 q0) + 1) := by rw [vw_hl (ml_inr _ _), ml_self (by omega) (by omega)]
          have c3 := cm_le _ _ f1
          have c4 := cm_gt _ _ f2
          clear hz f1 f2
          generalize hn : sr (vw p0 q0) = n at *
          go_enter Try.func4, Try.ntmps4; go_wp2_with (first | (go_at_call 9; refine (awake4_c _).mono ?_; rintro e w' ⟨rfl, x, rfl⟩) | (go_at_call 10; refine (wide_c _ _ _).mono ?_; rintro e w' ⟨rfl, x, rfl⟩) | (go_at_call 16; refine (sane_c _ _ _).mono ?_; rintro e w' ⟨rfl, x, rfl⟩))
          refine wp_region_ext (by kernel_rfl) (by kernel_rfl) ?_
          (repeat (go_big_quiet_step ((first | (go_at_call 18; exact extCall (wmul_c _ _ _)) | (go_at_call 21; exact extCall (wof_c _ _ (by omega))) | (go_at_call 17; exact extCall (wcmp_c _ _ _ _ _)) | (go_at_call 20; exact extCall (wadd_c _ _ _ _ _)) | (go_at_call 16; exact extCall (sane_c _ _ _))))))
          refine wpQuiet_nil ?_
          rintro w1 ⟨x1, rfl⟩
          go_wp2
          go_ret; exact ⟨rfl, Mr.grown (by repeat (first | (with_reducible exact Mr.refl _) | (with_reducible apply Mr.drew) | (with_reducible apply Mr.alloc) | (with_reducible apply Mr.ext) | (with_reducible refine Mr.setCell ?_ (by first | (simp; done) | (simp; omega) | omega | (refine leOf0 ?_; (repeat (first | (with_reducible exact Mr.refl _) | (with_reducible apply Mr.drew) | (with_reducible apply Mr.alloc) | (with_reducible apply Mr.ext) | (with_reducible refine Mr.setCell ?_ (by first | (simp; done) | (simp; omega) | omega) _))); done) | (refine leOf ?_; (repeat (first | (with_reducible exact Mr.refl _) | (with_reducible apply Mr.drew) | (with_reducible apply Mr.alloc) | (with_reducible apply Mr.ext) | (with_reducible refine Mr.setCell ?_ (by first | (simp; done) | (simp; omega) | omega) _))); done)) _)))⟩
      · have e2 := ro_lim hr hz
        clear hz h0 h1
        go_enter Try.func4, Try.ntmps4; go_wp2_with (first | (go_at_call 9; refine (awake4_c _).mono ?_; rintro e w' ⟨rfl, x, rfl⟩) | (go_at_call 10; refine (wide_c _ _ _).mono ?_; rintro e w' ⟨rfl, x, rfl⟩) | (go_at_call 16; refine (sane_c _ _ _).mono ?_; rintro e w' ⟨rfl, x, rfl⟩))
        go_ret; exact ⟨rfl, Mr.grown (by repeat (first | (with_reducible exact Mr.refl _) | (with_reducible apply Mr.drew) | (with_reducible apply Mr.alloc) | (with_reducible apply Mr.ext) | (with_reducible refine Mr.setCell ?_ (by first | (simp; done) | (simp; omega) | omega | (refine leOf0 ?_; (repeat (first | (with_reducible exact Mr.refl _) | (with_reducible apply Mr.drew) | (with_reducible apply Mr.alloc) | (with_reducible apply Mr.ext) | (with_reducible refine Mr.setCell ?_ (by first | (simp; done) | (simp; omega) | omega) _))); done) | (refine leOf ?_; (repeat (first | (with_reducible exact Mr.refl _) | (with_reducible apply Mr.drew) | (with_reducible apply Mr.alloc) | (with_reducible apply Mr.ext) | (with_reducible refine Mr.setCell ?_ (by first | (simp; done) | (simp; omega) | omega) _))); done)) _)))⟩

set_option maxRecDepth 100000 in
theorem lifted (os : Os) (started : os.Started) (H : Type) (enc : TypeId × Value → H) :
    ReturnsInHanded {} Try.checked os 4 .any (Rows.rootInSpec.pre6 enc Try.prog Try.f4 Rows.rootInRow.domain false) (Rows.rootInSpec.post enc Try.prog Try.f4 false true false false) := by
  refine returnsInHanded_of_change (C := Try.checked) own started (by kernel_rfl) Try.func4
    (ChangeSpec.witness6 (enc := enc) (C := Try.checked) false ⟨#[], #[.agg #[.int .i64 0, .int .i64 0]], []⟩ 8 (by kernel_rfl) (by kernel_rfl) (by kernel_rfl) (by kernel_rfl)) ?_
  intro W base args ds gs before hval0 hW hcnd _
  have hval : ∀ (j : Nat) t v, Try.f4.params[j]? = some t → args[j]? = some v → Value.okWide Try.prog W .any base t v := hval0
  have hW' := hW
  obtain ⟨p, q, hA0, hV, rfl, hfz, hnd⟩ := hW
  have hA : DataW.TrodAll enc Try.prog W 0 (fun _ => true) true Try.f4.params.toList args.toList ds p := hA0
  rw [Try.params4] at hA hval
  obtain ⟨v0, vs0, d0, ds0, p_0, q_0, hargs, rfl, rfl, h0, r0⟩ := trodAll_cons hA
  obtain ⟨rfl, rfl, rfl⟩ := trodAll_nil r0
  obtain rfl : args = #[v0] := by cases args; simp_all
  obtain ⟨rfl, rfl⟩ := trodVars_none hV
  obtain ⟨p0, q0, rfl, rfl, rfl, wp0, wq0⟩ := Wr.open_wide (hval 0 23 v0 rfl rfl) h0
  clear hA0 hval0
  simp only [List.append_nil] at hW'
  refine (walk p0 q0 wp0 wq0 W).mono fun e W' ⟨he, hg⟩ => ?_
  subst he
  exact ⟨_, rfl, post_of_same (pa := []) (pv := []) hW' (fun _ _ _ => (trodAll_cons_mk (shut_bool Try.underlying4 _) trodAll_mk0)) (fun sp _ => (trodAll_cons_mk (Wr.shut_wide wp0 wq0) trodAll_mk0)) (fun _ _ => rfl) rfl
    (hg.frame _) hg.2.1 (ok_one (by kernel_rfl) rfl (okWide_bool_mk Try.underlying4 _))⟩

theorem over : Rows.rootInRow.holds Try.pinned (OpenSpec.ofChange Rows.rootInSpec) :=
  OpenClaim.holds_of_wide 4 Try.f4 rfl rfl rfl rfl rfl rfl rfl ⟨rfl, rfl, rfl, rfl, rfl⟩ rfl rfl rfl rfl rfl (by kernel_rfl) Try.func4 (by kernel_rfl)
    (of_decide_eq_true (by kernel_rfl)) (by unfold Func.isWrapper; first | (rw [if_pos (by decide +kernel)]; kernel_rfl) | (rw [if_neg (by decide +kernel)]; exact ⟨rfl, rfl⟩))
    (fun os started H enc _ => lifted os started H enc)

theorem proved : Rows.RootInSaid :=
  over
#print axioms proved
end Go.Proofs.Ytaeabdjmpedpgaa.rootIn
