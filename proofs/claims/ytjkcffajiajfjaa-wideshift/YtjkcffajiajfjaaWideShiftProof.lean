/- For every two ints the law WideShift answers true: times a power of two, and divided by it. No condition. -/
import Derived.Test.YtjkcffajiajfjaaRows
import Derived.WalkKit
import Derived.ProofKit
import Derived.OpenShut
import Derived.Test.YtjkcffajiajfjaaWideC4
namespace Go.Proofs.Ytjkcffajiajfjaa.wideShift
open Go.ChangeShapes Go.WideShapes Go.ChangeAt Go.RowKit
set_option linter.unusedVariables false      -- a walk need not use every 'w<i>' (that an integer argument fits its kind)

theorem own : ownKnob Try.prog.godebug = none := by kernel_rfl

open Go.Proofs.Ytjkcffajiajfjaa.Fx Go.Proofs.Ytjkcffajiajfjaa.Wd
attribute [local go_sem] Ext.cell Ext.froz Ext.lt Ext.lt1 Ext.lt2 Ext.lt3 Ext.all Ext.set_u drew_heap setCell_size Ext.set_size
attribute [local go_sem ↓] eq_wide eqw_self
attribute [local go_sem] and62 and1 sgn64 not64 wrap_and
theorem shift_math (a : Int) (j : Nat) (hj : j ≤ 57) : ∃ z h : Int, ml a (wrap64 (2 ^ j)) = z ∧ vw (hi z) (lo z) = z ∧ dn z j = cl a ∧ dn z (j + 1) = h ∧ vw (hi (cl a)) (lo (cl a)) = cl a ∧ vw (hi h) (lo h) = h ∧ cl (cl a) = cl a ∧ co (cl a) = false ∧ cl h = h ∧ co h = false ∧ (2 * h = cl a ∨ 2 * h = cl a - 1) ∧ -144115188075855872 ≤ h ∧ h ≤ 144115188075855872 := by
  have hp : (1 : Int) ≤ 2 ^ j ∧ (2 : Int) ^ j ≤ 144115188075855872 := by
    have h1 : (2 : Nat) ^ j ≤ 2 ^ 57 := Nat.pow_le_pow_right (by decide) hj
    have h2 : ((2 ^ j : Nat) : Int) ≤ ((2 ^ 57 : Nat) : Int) := Int.ofNat_le.2 h1
    have h3 : (1 : Nat) ≤ 2 ^ j := Nat.one_le_two_pow
    have h4 : ((1 : Nat) : Int) ≤ ((2 ^ j : Nat) : Int) := Int.ofNat_le.2 h3
    simp at h2 h4
    exact ⟨h4, h2⟩
  have hc := cl_bd a
  have hw : wrap64 ((2 : Int) ^ j) = 2 ^ j := IntWalk.wrap64_in _ (by omega)
  have hz : ml a (wrap64 (2 ^ j)) = cl a * 2 ^ j := by
    rw [hw]; unfold ml; rw [(cl_in (a := 2 ^ j) (by omega) (by omega)).1]
  have hi1 := ml_inr a (wrap64 (2 ^ j))
  rw [hz] at hi1
  have d1 : dn (cl a * 2 ^ j) j = cl a := by
    rw [dn_low _ _ j (by omega), Int.mul_ediv_cancel _ (by omega)]
  have d2 : dn (cl a * 2 ^ j) (j + 1) = cl a / 2 := by
    rw [dn_low _ _ (j + 1) (by omega), Int.pow_succ, ← Int.ediv_ediv_of_nonneg (by omega), Int.mul_ediv_cancel _ (by omega)]
  refine ⟨cl a * 2 ^ j, cl a / 2, hz, vw_hl hi1, d1, d2, vw_hl1 (by omega), vw_hl1 (by omega), (cl_in hc.1 hc.2).1, (cl_in hc.1 hc.2).2, (cl_in (by omega) (by omega)).1, (cl_in (by omega) (by omega)).2, by omega, by omega, by omega⟩
set_option maxHeartbeats 1000000 in
set_option maxRecDepth 100000 in
theorem walk (a0 : Int) (a1 : Int) (w0 : (Lit.int .i64 a0).wf = true) (w1 : (Lit.int .i64 a1).wf = true) (w : World) :
    Calls Try.prog 8 #[.int .i64 a0, .int .i64 a1] w fun e w' => e = .returned (.bool true) ∧ Grown w w' := by
  by_cases h1 : a1 < 0
  · go_enter Try.func8, Try.ntmps8; go_wp2_with (first | (go_at_call 9; refine (awake2_c _).mono ?_; rintro e w' ⟨rfl, x, rfl⟩) | (go_at_call 27; refine (clamp_c _ _).mono ?_; rintro e w' ⟨rfl, rfl⟩) | (go_at_call 14; refine (wmul_c _ _ _).mono ?_; rintro e w' ⟨rfl, x, rfl⟩) | (go_at_call 24; refine (wdown_c _ _ _ _).mono ?_; rintro e w' ⟨rfl, x, rfl⟩) | (go_at_call 12; refine (wint_c _ _ _).mono ?_; rintro e w' ⟨rfl, x, rfl⟩))
    go_ret
    exact ⟨rfl, Mr.grown (by repeat (first | (with_reducible exact Mr.refl _) | (with_reducible apply Mr.drew) | (with_reducible apply Mr.alloc) | (with_reducible apply Mr.ext) | (with_reducible refine Mr.setCell ?_ (by first | (simp; done) | (simp; omega) | omega | (refine leOf0 ?_; (repeat (first | (with_reducible exact Mr.refl _) | (with_reducible apply Mr.drew) | (with_reducible apply Mr.alloc) | (with_reducible apply Mr.ext) | (with_reducible refine Mr.setCell ?_ (by first | (simp; done) | (simp; omega) | omega) _))); done) | (refine leOf ?_; (repeat (first | (with_reducible exact Mr.refl _) | (with_reducible apply Mr.drew) | (with_reducible apply Mr.alloc) | (with_reducible apply Mr.ext) | (with_reducible refine Mr.setCell ?_ (by first | (simp; done) | (simp; omega) | omega) _))); done)) _)))⟩
  · by_cases h2 : 57 < a1
    · go_enter Try.func8, Try.ntmps8; go_wp2_with (first | (go_at_call 9; refine (awake2_c _).mono ?_; rintro e w' ⟨rfl, x, rfl⟩) | (go_at_call 27; refine (clamp_c _ _).mono ?_; rintro e w' ⟨rfl, rfl⟩) | (go_at_call 14; refine (wmul_c _ _ _).mono ?_; rintro e w' ⟨rfl, x, rfl⟩) | (go_at_call 24; refine (wdown_c _ _ _ _).mono ?_; rintro e w' ⟨rfl, x, rfl⟩) | (go_at_call 12; refine (wint_c _ _ _).mono ?_; rintro e w' ⟨rfl, x, rfl⟩))
      go_ret
      exact ⟨rfl, Mr.grown (by repeat (first | (with_reducible exact Mr.refl _) | (with_reducible apply Mr.drew) | (with_reducible apply Mr.alloc) | (with_reducible apply Mr.ext) | (with_reducible refine Mr.setCell ?_ (by first | (simp; done) | (simp; omega) | omega | (refine leOf0 ?_; (repeat (first | (with_reducible exact Mr.refl _) | (with_reducible apply Mr.drew) | (with_reducible apply Mr.alloc) | (with_reducible apply Mr.ext) | (with_reducible refine Mr.setCell ?_ (by first | (simp; done) | (simp; omega) | omega) _))); done) | (refine leOf ?_; (repeat (first | (with_reducible exact Mr.refl _) | (with_reducible apply Mr.drew) | (with_reducible apply Mr.alloc) | (with_reducible apply Mr.ext) | (with_reducible refine Mr.setCell ?_ (by first | (simp; done) | (simp; omega) | omega) _))); done)) _)))⟩
    · obtain ⟨j, rfl⟩ := Int.eq_ofNat_of_zero_le (show 0 ≤ a1 by omega)
      obtain ⟨z, h, e1, e2, e3, e4, e5, e6, e7, e8, e9, e10, e11, e12, e13⟩ := shift_math a0 j (by omega)
      have hc := cl_bd a0
      have h3 : (j : Int) ≤ 57 := by omega
      have h4 : decide ((j : Int) < 0) = false := by simp
      have h5 : decide (57 < (j : Int)) = false := by simp; omega
      clear h1 h2
      rcases e11 with e11 | e11
      · have e14 : (2 * h == cl a0) = true := by simp [e11]
        clear e11
        go_enter Try.func8, Try.ntmps8; go_wp2_with (first | (go_at_call 9; refine (awake2_c _).mono ?_; rintro e w' ⟨rfl, x, rfl⟩) | (go_at_call 27; refine (clamp_c _ _).mono ?_; rintro e w' ⟨rfl, rfl⟩) | (go_at_call 14; refine (wmul_c _ _ _).mono ?_; rintro e w' ⟨rfl, x, rfl⟩) | (go_at_call 24; refine (wdown_c _ _ _ _).mono ?_; rintro e w' ⟨rfl, x, rfl⟩) | (go_at_call 12; refine (wint_c _ _ _).mono ?_; rintro e w' ⟨rfl, x, rfl⟩))
        go_ret
        exact ⟨rfl, Mr.grown (by repeat (first | (with_reducible exact Mr.refl _) | (with_reducible apply Mr.drew) | (with_reducible apply Mr.alloc) | (with_reducible apply Mr.ext) | (with_reducible refine Mr.setCell ?_ (by first | (simp; done) | (simp; omega) | omega | (refine leOf0 ?_; (repeat (first | (with_reducible exact Mr.refl _) | (with_reducible apply Mr.drew) | (with_reducible apply Mr.alloc) | (with_reducible apply Mr.ext) | (with_reducible refine Mr.setCell ?_ (by first | (simp; done) | (simp; omega) | omega) _))); done) | (refine leOf ?_; (repeat (first | (with_reducible exact Mr.refl _) | (with_reducible apply Mr.drew) | (with_reducible apply Mr.alloc) | (with_reducible apply Mr.ext) | (with_reducible refine Mr.setCell ?_ (by first | (simp; done) | (simp; omega) | omega) _))); done)) _)))⟩
      · have e14 : (2 * h == cl a0) = false := by simp; omega
        have e15 : (2 * h == cl a0 - 1) = true := by simp [e11]
        clear e11
        go_enter Try.func8, Try.ntmps8; go_wp2_with (first | (go_at_call 9; refine (awake2_c _).mono ?_; rintro e w' ⟨rfl, x, rfl⟩) | (go_at_call 27; refine (clamp_c _ _).mono ?_; rintro e w' ⟨rfl, rfl⟩) | (go_at_call 14; refine (wmul_c _ _ _).mono ?_; rintro e w' ⟨rfl, x, rfl⟩) | (go_at_call 24; refine (wdown_c _ _ _ _).mono ?_; rintro e w' ⟨rfl, x, rfl⟩) | (go_at_call 12; refine (wint_c _ _ _).mono ?_; rintro e w' ⟨rfl, x, rfl⟩))
        go_ret
        exact ⟨rfl, Mr.grown (by repeat (first | (with_reducible exact Mr.refl _) | (with_reducible apply Mr.drew) | (with_reducible apply Mr.alloc) | (with_reducible apply Mr.ext) | (with_reducible refine Mr.setCell ?_ (by first | (simp; done) | (simp; omega) | omega | (refine leOf0 ?_; (repeat (first | (with_reducible exact Mr.refl _) | (with_reducible apply Mr.drew) | (with_reducible apply Mr.alloc) | (with_reducible apply Mr.ext) | (with_reducible refine Mr.setCell ?_ (by first | (simp; done) | (simp; omega) | omega) _))); done) | (refine leOf ?_; (repeat (first | (with_reducible exact Mr.refl _) | (with_reducible apply Mr.drew) | (with_reducible apply Mr.alloc) | (with_reducible apply Mr.ext) | (with_reducible refine Mr.setCell ?_ (by first | (simp; done) | (simp; omega) | omega) _))); done)) _)))⟩

/-! ### THE ROW's STEP: WRITTEN OUT: LEAVE IT -/
set_option maxRecDepth 100000 in
theorem lifted (os : Os) (started : os.Started) (H : Type) (enc : TypeId × Value → H) :
    ReturnsInHanded {} Try.checked os 8 .any (Rows.wideShiftSpec.pre6 enc Try.prog Try.f8 Rows.wideShiftRow.domain false) (Rows.wideShiftSpec.post enc Try.prog Try.f8 false true false false) := by
  refine returnsInHanded_of_change (C := Try.checked) own started (by kernel_rfl) Try.func8
    (ChangeSpec.witness6 (enc := enc) (C := Try.checked) false ⟨#[], #[.int .i64 0, .int .i64 0], []⟩ 8 (by kernel_rfl) (by kernel_rfl) (by kernel_rfl) (by kernel_rfl)) ?_
  intro W base args ds gs before hval0 hW hcnd _
  have hval : ∀ (j : Nat) t v, Try.f8.params[j]? = some t → args[j]? = some v → Value.okWide Try.prog W .any base t v := hval0
  have hW' := hW
  obtain ⟨p, q, hA0, hV, rfl, hfz, hnd⟩ := hW
  have hA : DataW.TrodAll enc Try.prog W 0 (fun _ => true) true Try.f8.params.toList args.toList ds p := hA0
  rw [Try.params8] at hA hval
  obtain ⟨v0, vs0, d0, ds0, p0, q0, hargs, rfl, rfl, h0, r0⟩ := trodAll_cons hA
  obtain ⟨v1, vs1, d1, ds1, p1, q1, rfl, rfl, rfl, h1, r1⟩ := trodAll_cons r0
  obtain ⟨rfl, rfl, rfl⟩ := trodAll_nil r1
  obtain rfl : args = #[v0, v1] := by cases args; simp_all
  obtain ⟨rfl, rfl⟩ := trodVars_none hV
  obtain ⟨a0, rfl, rfl, rfl, w0⟩ := open_int Try.underlying3 (hval 0 3 v0 rfl rfl) h0
  obtain ⟨a1, rfl, rfl, rfl, w1⟩ := open_int Try.underlying3 (hval 1 3 v1 rfl rfl) h1
  clear hA0 hval0
  simp only [List.append_nil] at hW'
  refine (walk a0 a1 w0 w1 W).mono fun e W' ⟨he, hg⟩ => ?_
  subst he
  exact ⟨_, rfl, post_of_same (pa := []) (pv := []) hW' (fun _ _ _ => (trodAll_cons_mk (shut_bool Try.underlying4 _) trodAll_mk0)) (fun sp _ => (trodAll_cons_mk (shut_int Try.underlying3 w0) (trodAll_cons_mk (shut_int Try.underlying3 w1) trodAll_mk0))) (fun _ _ => rfl) rfl
    (hg.frame _) hg.2.1 (ok_one (by kernel_rfl) rfl (okWide_bool_mk Try.underlying4 _))⟩

theorem over : Rows.wideShiftRow.holds Try.pinned (OpenSpec.ofChange Rows.wideShiftSpec) :=
  OpenClaim.holds_of_wide 8 Try.f8 rfl rfl rfl rfl rfl rfl rfl ⟨rfl, rfl, rfl, rfl, rfl⟩ rfl rfl rfl rfl rfl (by kernel_rfl) Try.func8 (by kernel_rfl)
    (of_decide_eq_true (by kernel_rfl)) (by unfold Func.isWrapper; first | (rw [if_pos (by decide +kernel)]; kernel_rfl) | (rw [if_neg (by decide +kernel)]; exact ⟨rfl, rfl⟩))
    (fun os started H enc _ => lifted os started H enc)

/-- ████ THE STATEMENT ████ -/
theorem proved : Rows.WideShiftSaid :=
  over
#print axioms proved
end Go.Proofs.Ytjkcffajiajfjaa.wideShift
