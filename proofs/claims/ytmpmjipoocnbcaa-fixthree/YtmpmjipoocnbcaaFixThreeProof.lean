/- For every three ints the law FixThree answers true. No condition. -/
import Derived.Test.YtmpmjipoocnbcaaRows
import Derived.WalkKit
import Derived.ProofKit
import Derived.OpenShut
import Derived.Test.YtmpmjipoocnbcaaFixC
namespace Go.Proofs.Ytmpmjipoocnbcaa.fixThree
open Go.ChangeShapes Go.WideShapes Go.ChangeAt Go.RowKit
set_option linter.unusedVariables false      -- a walk need not use every 'w<i>' (that an integer argument fits its kind)

theorem own : ownKnob Try.prog.godebug = none := by kernel_rfl

open Go.Proofs.Ytmpmjipoocnbcaa.Fx
theorem three (a b c : Int) (h1 : ao a b = false) (h2 : ao (av a b) c = false) (h3 : ao b c = false) (h4 : ao a (av b c) = false) : (av (av a b) c == av a (av b c)) = true := by
  simp only [ao, co, wb, Bool.or_eq_false_iff, decide_eq_false_iff_not, beq_iff_eq] at *
  simp only [av, cl, wv] at *
  grind
theorem turned (a b : Int) : (av (-cl a) (-cl b) == -cl (av a b)) = true := by
  have ha := cl_bd a
  have hb := cl_bd b
  simp only [beq_iff_eq]
  unfold av
  rw [cl_neg, cl_neg]
  generalize cl a = x at *
  generalize cl b = y at *
  simp only [cl, wv]
  grind
theorem told (a b : Int) (h1 : (a != -cl (-cl a)) = false) (h2 : (b != -cl (-cl b)) = false) : (ao (-cl a) (-cl b) == ao a b) = true := by
  rw [cl_neg] at h1 h2
  simp only [bne_eq_false_iff_eq, Int.neg_neg] at h1 h2
  simp only [beq_iff_eq]
  have ha := cl_bd a
  have hb := cl_bd b
  unfold ao co
  rw [cl_neg, cl_neg, ← h1, ← h2]
  rw [← h1] at ha
  rw [← h2] at hb
  simp only [wb]
  grind
theorem told3 (a b : Int) (h : ao (-cl a) (-cl b) ≠ ao a b) : (a != -cl (-cl a)) = true ∨ (-cl (-cl a) = a ∧ (b != -cl (-cl b)) = true) := by
  by_cases h1 : (a != -cl (-cl a)) = true
  · exact .inl h1
  by_cases h2 : (b != -cl (-cl b)) = true
  · refine .inr ⟨?_, h2⟩
    simp only [bne_iff_ne, ne_eq, Decidable.not_not] at h1
    exact h1.symm
  exact absurd (by simpa using told a b (Bool.eq_false_iff.2 h1) (Bool.eq_false_iff.2 h2)) h
set_option maxHeartbeats 1000000 in
set_option maxRecDepth 100000 in
theorem walk (a0 : Int) (a1 : Int) (a2 : Int) (w0 : (Lit.int .i64 a0).wf = true) (w1 : (Lit.int .i64 a1).wf = true) (w2 : (Lit.int .i64 a2).wf = true) (w : World) :
    Calls Try.prog 7 #[.int .i64 a0, .int .i64 a1, .int .i64 a2] w fun e w' => e = .returned (.bool true) ∧ Grown w w' := by
  obtain ⟨ba0, ba1⟩ := bd w0
  obtain ⟨bb0, bb1⟩ := bd w1
  have k0 := cl_bd a0
  have k1 := cl_bd a1
  have k2 := cl_bd (-cl a0)
  have k3 := cl_bd (-cl a1)
  have k4 := cl_bd (av a0 a1)
  have hn := turned a0 a1
  have h4 := told3 a0 a1
  have h3 := three a0 a1 a2
  cases hp : ao a0 a1
  all_goals
    cases ht : ao (-cl a0) (-cl a1)
  all_goals
    rw [hp, ht] at h4
    rw [hp] at h3
  · clear h4
    cases hq : ao (av a0 a1) a2
    · cases hr : ao a1 a2
      · cases hs : ao a0 (av a1 a2)
        · have h3 := h3 rfl hq hr hs
          go_enter Try.func7, Try.ntmps7; go_wp2_with (first | (go_at_call 8; refine (awake1_c _).mono ?_; rintro e w' ⟨rfl, rfl⟩) | (go_at_call 11; refine (add_c _ _ _).mono ?_; rintro e w' ⟨rfl, rfl⟩) | (go_at_call 17; refine (neg_c _ _).mono ?_; rintro e w' ⟨rfl, rfl⟩))
          go_ret
          exact ⟨rfl, Grown.refl _⟩
        · clear h3
          go_enter Try.func7, Try.ntmps7; go_wp2_with (first | (go_at_call 8; refine (awake1_c _).mono ?_; rintro e w' ⟨rfl, rfl⟩) | (go_at_call 11; refine (add_c _ _ _).mono ?_; rintro e w' ⟨rfl, rfl⟩) | (go_at_call 17; refine (neg_c _ _).mono ?_; rintro e w' ⟨rfl, rfl⟩))
          go_ret
          exact ⟨rfl, Grown.refl _⟩
      · clear h3
        go_enter Try.func7, Try.ntmps7; go_wp2_with (first | (go_at_call 8; refine (awake1_c _).mono ?_; rintro e w' ⟨rfl, rfl⟩) | (go_at_call 11; refine (add_c _ _ _).mono ?_; rintro e w' ⟨rfl, rfl⟩) | (go_at_call 17; refine (neg_c _ _).mono ?_; rintro e w' ⟨rfl, rfl⟩))
        go_ret
        exact ⟨rfl, Grown.refl _⟩
    · clear h3
      go_enter Try.func7, Try.ntmps7; go_wp2_with (first | (go_at_call 8; refine (awake1_c _).mono ?_; rintro e w' ⟨rfl, rfl⟩) | (go_at_call 11; refine (add_c _ _ _).mono ?_; rintro e w' ⟨rfl, rfl⟩) | (go_at_call 17; refine (neg_c _ _).mono ?_; rintro e w' ⟨rfl, rfl⟩))
      go_ret
      exact ⟨rfl, Grown.refl _⟩
  · rcases h4 (by decide) with h4 | ⟨h4, h5⟩
    all_goals
      cases hq : ao (av a0 a1) a2
      · cases hr : ao a1 a2
        · cases hs : ao a0 (av a1 a2)
          · have h3 := h3 rfl hq hr hs
            go_enter Try.func7, Try.ntmps7; go_wp2_with (first | (go_at_call 8; refine (awake1_c _).mono ?_; rintro e w' ⟨rfl, rfl⟩) | (go_at_call 11; refine (add_c _ _ _).mono ?_; rintro e w' ⟨rfl, rfl⟩) | (go_at_call 17; refine (neg_c _ _).mono ?_; rintro e w' ⟨rfl, rfl⟩))
            go_ret
            exact ⟨rfl, Grown.refl _⟩
          · clear h3
            go_enter Try.func7, Try.ntmps7; go_wp2_with (first | (go_at_call 8; refine (awake1_c _).mono ?_; rintro e w' ⟨rfl, rfl⟩) | (go_at_call 11; refine (add_c _ _ _).mono ?_; rintro e w' ⟨rfl, rfl⟩) | (go_at_call 17; refine (neg_c _ _).mono ?_; rintro e w' ⟨rfl, rfl⟩))
            go_ret
            exact ⟨rfl, Grown.refl _⟩
        · clear h3
          go_enter Try.func7, Try.ntmps7; go_wp2_with (first | (go_at_call 8; refine (awake1_c _).mono ?_; rintro e w' ⟨rfl, rfl⟩) | (go_at_call 11; refine (add_c _ _ _).mono ?_; rintro e w' ⟨rfl, rfl⟩) | (go_at_call 17; refine (neg_c _ _).mono ?_; rintro e w' ⟨rfl, rfl⟩))
          go_ret
          exact ⟨rfl, Grown.refl _⟩
      · clear h3
        go_enter Try.func7, Try.ntmps7; go_wp2_with (first | (go_at_call 8; refine (awake1_c _).mono ?_; rintro e w' ⟨rfl, rfl⟩) | (go_at_call 11; refine (add_c _ _ _).mono ?_; rintro e w' ⟨rfl, rfl⟩) | (go_at_call 17; refine (neg_c _ _).mono ?_; rintro e w' ⟨rfl, rfl⟩))
        go_ret
        exact ⟨rfl, Grown.refl _⟩
  · clear h3
    rcases h4 (by decide) with h4 | ⟨h4, h5⟩
    all_goals
      go_enter Try.func7, Try.ntmps7; go_wp2_with (first | (go_at_call 8; refine (awake1_c _).mono ?_; rintro e w' ⟨rfl, rfl⟩) | (go_at_call 11; refine (add_c _ _ _).mono ?_; rintro e w' ⟨rfl, rfl⟩) | (go_at_call 17; refine (neg_c _ _).mono ?_; rintro e w' ⟨rfl, rfl⟩))
      go_ret
      exact ⟨rfl, Grown.refl _⟩
  · clear h3 h4
    go_enter Try.func7, Try.ntmps7; go_wp2_with (first | (go_at_call 8; refine (awake1_c _).mono ?_; rintro e w' ⟨rfl, rfl⟩) | (go_at_call 11; refine (add_c _ _ _).mono ?_; rintro e w' ⟨rfl, rfl⟩) | (go_at_call 17; refine (neg_c _ _).mono ?_; rintro e w' ⟨rfl, rfl⟩))
    go_ret
    exact ⟨rfl, Grown.refl _⟩

/-! ### THE ROW's STEP: WRITTEN OUT: LEAVE IT -/
set_option maxRecDepth 100000 in
theorem lifted (os : Os) (started : os.Started) (H : Type) (enc : TypeId × Value → H) :
    ReturnsInHanded {} Try.checked os 7 .any (Rows.fixThreeSpec.pre6 enc Try.prog Try.f7 Rows.fixThreeRow.domain false) (Rows.fixThreeSpec.post enc Try.prog Try.f7 false true false false) := by
  refine returnsInHanded_of_change (C := Try.checked) own started (by kernel_rfl) Try.func7
    (ChangeSpec.witness6 (enc := enc) (C := Try.checked) false ⟨#[], #[.int .i64 0, .int .i64 0, .int .i64 0], []⟩ 8 (by kernel_rfl) (by kernel_rfl) (by kernel_rfl) (by kernel_rfl)) ?_
  intro W base args ds gs before hval0 hW hcnd _
  have hval : ∀ (j : Nat) t v, Try.f7.params[j]? = some t → args[j]? = some v → Value.okWide Try.prog W .any base t v := hval0
  have hW' := hW
  obtain ⟨p, q, hA0, hV, rfl, hfz, hnd⟩ := hW
  have hA : DataW.TrodAll enc Try.prog W 0 (fun _ => true) true Try.f7.params.toList args.toList ds p := hA0
  rw [Try.params7] at hA hval
  obtain ⟨v0, vs0, d0, ds0, p0, q0, hargs, rfl, rfl, h0, r0⟩ := trodAll_cons hA
  obtain ⟨v1, vs1, d1, ds1, p1, q1, rfl, rfl, rfl, h1, r1⟩ := trodAll_cons r0
  obtain ⟨v2, vs2, d2, ds2, p2, q2, rfl, rfl, rfl, h2, r2⟩ := trodAll_cons r1
  obtain ⟨rfl, rfl, rfl⟩ := trodAll_nil r2
  obtain rfl : args = #[v0, v1, v2] := by cases args; simp_all
  obtain ⟨rfl, rfl⟩ := trodVars_none hV
  obtain ⟨a0, rfl, rfl, rfl, w0⟩ := open_int Try.underlying3 (hval 0 3 v0 rfl rfl) h0
  obtain ⟨a1, rfl, rfl, rfl, w1⟩ := open_int Try.underlying3 (hval 1 3 v1 rfl rfl) h1
  obtain ⟨a2, rfl, rfl, rfl, w2⟩ := open_int Try.underlying3 (hval 2 3 v2 rfl rfl) h2
  clear hA0 hval0
  simp only [List.append_nil] at hW'
  refine (walk a0 a1 a2 w0 w1 w2 W).mono fun e W' ⟨he, hg⟩ => ?_
  subst he
  exact ⟨_, rfl, post_of_same (pa := []) (pv := []) hW' (fun _ _ _ => (trodAll_cons_mk (shut_bool Try.underlying4 _) trodAll_mk0)) (fun sp _ => (trodAll_cons_mk (shut_int Try.underlying3 w0) (trodAll_cons_mk (shut_int Try.underlying3 w1) (trodAll_cons_mk (shut_int Try.underlying3 w2) trodAll_mk0)))) (fun _ _ => rfl) rfl
    (hg.frame _) hg.2.1 (ok_one (by kernel_rfl) rfl (okWide_bool_mk Try.underlying4 _))⟩

theorem over : Rows.fixThreeRow.holds Try.pinned (OpenSpec.ofChange Rows.fixThreeSpec) :=
  OpenClaim.holds_of_wide 7 Try.f7 rfl rfl rfl rfl rfl rfl rfl ⟨rfl, rfl, rfl, rfl, rfl⟩ rfl rfl rfl rfl rfl (by kernel_rfl) Try.func7 (by kernel_rfl)
    (of_decide_eq_true (by kernel_rfl)) (by unfold Func.isWrapper; first | (rw [if_pos (by decide +kernel)]; kernel_rfl) | (rw [if_neg (by decide +kernel)]; exact ⟨rfl, rfl⟩))
    (fun os started H enc _ => lifted os started H enc)

/-- ████ THE STATEMENT ████ -/
theorem proved : Rows.FixThreeSaid :=
  over
#print axioms proved
end Go.Proofs.Ytmpmjipoocnbcaa.fixThree
