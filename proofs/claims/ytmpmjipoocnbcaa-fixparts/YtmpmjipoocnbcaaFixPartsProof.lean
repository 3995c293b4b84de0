/- For every int the law FixParts answers true: the whole part and what is beside it are all. No condition. -/
import Derived.Test.YtmpmjipoocnbcaaRows
import Derived.WalkKit
import Derived.ProofKit
import Derived.OpenShut
import Derived.Test.YtmpmjipoocnbcaaFixC
namespace Go.Proofs.Ytmpmjipoocnbcaa.fixParts
open Go.ChangeShapes Go.WideShapes Go.ChangeAt Go.RowKit
set_option linter.unusedVariables false      -- a walk need not use every 'w<i>' (that an integer argument fits its kind)

theorem own : ownKnob Try.prog.godebug = none := by kernel_rfl

open Go.Proofs.Ytmpmjipoocnbcaa.Fx
theorem ret_b {p : Bool} (h : p = true) : Ending.returned (.bool p) = .returned (.bool true) := by rw [h]
theorem parts (a : Int) : fl a * 4294967296 + rs a = cl a := by unfold rs; omega
theorem nearb (a : Int) : (2147483648 ≤ rs a → nr a = fl a + 1) ∧ (rs a < 2147483648 → nr a = fl a) := by
  unfold nr rs fl; omega
theorem ofb (a : Int) : (ob a = true ↔ (67108864 < a ∨ a < -67108864)) ∧ (ob a = false → fl (ov a) = a ∧ rs (ov a) = 0) := by
  simp only [ob, wb, rs, fl, ov, cl, wv, decide_eq_true_eq, decide_eq_false_iff_not]
  grind
set_option maxHeartbeats 1000000 in
set_option maxRecDepth 100000 in
theorem walk (a0 : Int) (w0 : (Lit.int .i64 a0).wf = true) (w : World) :
    Calls Try.prog 5 #[.int .i64 a0] w fun e w' => e = .returned (.bool true) ∧ Grown w w' := by
  have h1 := parts a0
  obtain ⟨h2, h3, h4, h5⟩ := fl_bd a0
  have h6 := nearb a0
  have h7 := ofb a0
  rcases Int.lt_or_le (rs a0) 2147483648 with hr | hr
  · have h8 := h6.2 hr
    clear h6
    cases ho : ob a0
    · obtain ⟨h9, h10⟩ := h7.2 ho
      have h11 : ¬ (67108864 < a0 ∨ a0 < -67108864) := by rw [← h7.1, ho]; decide
      have h12 : a0 ≤ 67108864 := by omega
      have h13 : -67108864 ≤ a0 := by omega
      clear h11 h7
      go_enter Try.func5, Try.ntmps5; go_wp2_with (first | (go_at_call 8; refine (awake1_c _).mono ?_; rintro e w' ⟨rfl, rfl⟩) | (go_at_call 9; refine (clamp_c _ _).mono ?_; rintro e w' ⟨rfl, rfl⟩) | (go_at_call 15; refine (of_c _ _).mono ?_; rintro e w' ⟨rfl, rfl⟩) | (go_at_call 21; refine (floor_c _ _).mono ?_; rintro e w' ⟨rfl, rfl⟩) | (go_at_call 23; refine (near_c _ _).mono ?_; rintro e w' ⟨rfl, rfl⟩) | (go_at_call 25; refine (rest_c _ _).mono ?_; rintro e w' ⟨rfl, rfl⟩))
      all_goals
        go_ret
        exact ⟨ret_b (by simp; omega), Grown.refl _⟩
    · have h11 := h7.1.1 ho
      clear h7
      rcases h11 with h11 | h11
      all_goals
        go_enter Try.func5, Try.ntmps5; go_wp2_with (first | (go_at_call 8; refine (awake1_c _).mono ?_; rintro e w' ⟨rfl, rfl⟩) | (go_at_call 9; refine (clamp_c _ _).mono ?_; rintro e w' ⟨rfl, rfl⟩) | (go_at_call 15; refine (of_c _ _).mono ?_; rintro e w' ⟨rfl, rfl⟩) | (go_at_call 21; refine (floor_c _ _).mono ?_; rintro e w' ⟨rfl, rfl⟩) | (go_at_call 23; refine (near_c _ _).mono ?_; rintro e w' ⟨rfl, rfl⟩) | (go_at_call 25; refine (rest_c _ _).mono ?_; rintro e w' ⟨rfl, rfl⟩))
        all_goals
          go_ret
          exact ⟨rfl, Grown.refl _⟩
  · have h8 := h6.1 hr
    clear h6
    cases ho : ob a0
    · obtain ⟨h9, h10⟩ := h7.2 ho
      have h11 : ¬ (67108864 < a0 ∨ a0 < -67108864) := by rw [← h7.1, ho]; decide
      have h12 : a0 ≤ 67108864 := by omega
      have h13 : -67108864 ≤ a0 := by omega
      clear h11 h7
      go_enter Try.func5, Try.ntmps5; go_wp2_with (first | (go_at_call 8; refine (awake1_c _).mono ?_; rintro e w' ⟨rfl, rfl⟩) | (go_at_call 9; refine (clamp_c _ _).mono ?_; rintro e w' ⟨rfl, rfl⟩) | (go_at_call 15; refine (of_c _ _).mono ?_; rintro e w' ⟨rfl, rfl⟩) | (go_at_call 21; refine (floor_c _ _).mono ?_; rintro e w' ⟨rfl, rfl⟩) | (go_at_call 23; refine (near_c _ _).mono ?_; rintro e w' ⟨rfl, rfl⟩) | (go_at_call 25; refine (rest_c _ _).mono ?_; rintro e w' ⟨rfl, rfl⟩))
      all_goals
        go_ret
        exact ⟨ret_b (by simp; omega), Grown.refl _⟩
    · have h11 := h7.1.1 ho
      clear h7
      rcases h11 with h11 | h11
      all_goals
        go_enter Try.func5, Try.ntmps5; go_wp2_with (first | (go_at_call 8; refine (awake1_c _).mono ?_; rintro e w' ⟨rfl, rfl⟩) | (go_at_call 9; refine (clamp_c _ _).mono ?_; rintro e w' ⟨rfl, rfl⟩) | (go_at_call 15; refine (of_c _ _).mono ?_; rintro e w' ⟨rfl, rfl⟩) | (go_at_call 21; refine (floor_c _ _).mono ?_; rintro e w' ⟨rfl, rfl⟩) | (go_at_call 23; refine (near_c _ _).mono ?_; rintro e w' ⟨rfl, rfl⟩) | (go_at_call 25; refine (rest_c _ _).mono ?_; rintro e w' ⟨rfl, rfl⟩))
        all_goals
          go_ret
          exact ⟨rfl, Grown.refl _⟩

/-! ### THE ROW's STEP: WRITTEN OUT: LEAVE IT -/
set_option maxRecDepth 100000 in
theorem lifted (os : Os) (started : os.Started) (H : Type) (enc : TypeId × Value → H) :
    ReturnsInHanded {} Try.checked os 5 .any (Rows.fixPartsSpec.pre6 enc Try.prog Try.f5 Rows.fixPartsRow.domain false) (Rows.fixPartsSpec.post enc Try.prog Try.f5 false true false false) := by
  refine returnsInHanded_of_change (C := Try.checked) own started (by kernel_rfl) Try.func5
    (ChangeSpec.witness6 (enc := enc) (C := Try.checked) false ⟨#[], #[.int .i64 0], []⟩ 8 (by kernel_rfl) (by kernel_rfl) (by kernel_rfl) (by kernel_rfl)) ?_
  intro W base args ds gs before hval0 hW hcnd _
  have hval : ∀ (j : Nat) t v, Try.f5.params[j]? = some t → args[j]? = some v → Value.okWide Try.prog W .any base t v := hval0
  have hW' := hW
  obtain ⟨p, q, hA0, hV, rfl, hfz, hnd⟩ := hW
  have hA : DataW.TrodAll enc Try.prog W 0 (fun _ => true) true Try.f5.params.toList args.toList ds p := hA0
  rw [Try.params5] at hA hval
  obtain ⟨v0, vs0, d0, ds0, p0, q0, hargs, rfl, rfl, h0, r0⟩ := trodAll_cons hA
  obtain ⟨rfl, rfl, rfl⟩ := trodAll_nil r0
  obtain rfl : args = #[v0] := by cases args; simp_all
  obtain ⟨rfl, rfl⟩ := trodVars_none hV
  obtain ⟨a0, rfl, rfl, rfl, w0⟩ := open_int Try.underlying3 (hval 0 3 v0 rfl rfl) h0
  clear hA0 hval0
  simp only [List.append_nil] at hW'
  refine (walk a0 w0 W).mono fun e W' ⟨he, hg⟩ => ?_
  subst he
  exact ⟨_, rfl, post_of_same (pa := []) (pv := []) hW' (fun _ _ _ => (trodAll_cons_mk (shut_bool Try.underlying4 _) trodAll_mk0)) (fun sp _ => (trodAll_cons_mk (shut_int Try.underlying3 w0) trodAll_mk0)) (fun _ _ => rfl) rfl
    (hg.frame _) hg.2.1 (ok_one (by kernel_rfl) rfl (okWide_bool_mk Try.underlying4 _))⟩

theorem over : Rows.fixPartsRow.holds Try.pinned (OpenSpec.ofChange Rows.fixPartsSpec) :=
  OpenClaim.holds_of_wide 5 Try.f5 rfl rfl rfl rfl rfl rfl rfl ⟨rfl, rfl, rfl, rfl, rfl⟩ rfl rfl rfl rfl rfl (by kernel_rfl) Try.func5 (by kernel_rfl)
    (of_decide_eq_true (by kernel_rfl)) (by unfold Func.isWrapper; first | (rw [if_pos (by decide +kernel)]; kernel_rfl) | (rw [if_neg (by decide +kernel)]; exact ⟨rfl, rfl⟩))
    (fun os started H enc _ => lifted os started H enc)

/-- ████ THE STATEMENT ████ -/
theorem proved : Rows.FixPartsSaid :=
  over
#print axioms proved
end Go.Proofs.Ytmpmjipoocnbcaa.fixParts
