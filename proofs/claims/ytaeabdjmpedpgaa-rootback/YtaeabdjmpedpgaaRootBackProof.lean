/- For every two ints the law RootBack answers true: the root of a square is it, without its sign, and so is that of what lies between it and the next one. No condition. -/
import Derived.Test.YtaeabdjmpedpgaaRows
import Derived.WalkKit
import Derived.ProofKit
import Derived.OpenShut
import Derived.Test.YtaeabdjmpedpgaaRootC2
import Derived.Test.YtaeabdjmpedpgaaRootM2
import Derived.Test.YtaeabdjmpedpgaaWideR
namespace Go.Proofs.Ytaeabdjmpedpgaa.rootBack
open Go.ChangeShapes Go.WideShapes Go.ChangeAt Go.RowKit
set_option linter.unusedVariables false
theorem own : ownKnob Try.prog.godebug = none := by kernel_rfl

open Go.Proofs.Ytaeabdjmpedpgaa.Fx Go.Proofs.Ytaeabdjmpedpgaa.Wd Go.Proofs.Ytaeabdjmpedpgaa.Rt
attribute [local go_sem] Ext.cell Ext.froz Ext.lt Ext.lt1 Ext.lt2 Ext.lt3 Ext.all Ext.set_u drew_heap setCell_size Ext.set_size
attribute [local go_sem ↓] eq_wide eqw_self
attribute [local go_sem] and62 and1 sgn64 not64 wrap_and
attribute [local go_sem] and57
theorem back_math (a : Int) : ∃ z : Int, ml a a = z ∧ vw (hi z) (lo z) = z ∧ sn (hi z) (lo z) = true ∧ sr z = ab a ∧ ro z = false ∧ ml 0 0 = 0 ∧ co 0 = false := by
  have h := sr_back (m := 0) (ab_bd a).1 (ab_bd a).2 (by omega) (by have := ab_bd a; omega)
  rw [Int.add_zero] at h
  refine ⟨_, ml_ab a, ?_, ?_, h.1, h.2, by decide, by decide⟩
  · rw [← ml_ab]; exact vw_hl (ml_inr a a)
  · rw [← ml_ab]; exact sn_hl (ml_inr a a)
theorem more_math {x m : Int} (h0 : 0 ≤ x) (h1 : x ≤ 288230376151711744) (h2 : 0 ≤ m) (h3 : m ≤ 2 * x) : vw (hi (ml x x)) (lo (ml x x)) = x * x ∧ vw (hi m) (lo m) = m ∧ ∃ z : Int, x * x + m = z ∧ inr z = true ∧ cut z = z ∧ vw (hi z) (lo z) = z ∧ sn (hi z) (lo z) = true ∧ sr z = x ∧ ro z = false := by
  have h := sr_back h0 h1 h2 h3
  have hi1 : inr (x * x + m) = true := by rw [inr_iff]; have := ro_f h.2; omega
  exact ⟨by rw [vw_hl (ml_inr _ _), ml_self (by omega) h1], vw_hl1 (by omega), _, rfl, hi1, cut_of hi1, vw_hl hi1, sn_hl hi1, h.1, h.2⟩
set_option maxHeartbeats 4000000 in
set_option maxRecDepth 100000 in
theorem walk (a0 : Int) (a1 : Int) (w0 : (Lit.int .i64 a0).wf = true) (w1 : (Lit.int .i64 a1).wf = true) (w : World) :
    Calls Try.prog 5 #[.int .i64 a0, .int .i64 a1] w fun e w' => e = .returned (.bool true) ∧ Grown w w' := by
  obtain ⟨h0, h1⟩ := ab_bd a0
  obtain ⟨z, e1, e2, e3, e4, e5, e6, e7⟩ := back_math a0
  by_cases hp : 0 < ab a0
  · have hk : ∃ k : Int, a1 % 144115188075855872 = k ∧ 0 ≤ k ∧ k < 144115188075855872 := ⟨_, rfl, by omega, by omega⟩
    obtain ⟨k, k1, k2, k3⟩ := hk
    have hm : ∃ m : Int, k.tmod (2 * ab a0 + 1) = m ∧ 0 ≤ m ∧ m ≤ 2 * ab a0 := by
      refine ⟨_, rfl, ?_, ?_⟩
      · rw [Int.tmod_eq_emod_of_nonneg k2]; exact Int.emod_nonneg _ (by omega)
      · rw [Int.tmod_eq_emod_of_nonneg k2]; have := Int.emod_lt_of_pos k (show 0 < 2 * ab a0 + 1 by omega); omega
    obtain ⟨m, m1, m2, m3⟩ := hm
    obtain ⟨g1, g2, y, g3, g4, g5, g6, g7, g8, g9⟩ := more_math h0 h1 m2 m3
    go_enter Try.func5, Try.ntmps5; go_wp2_with (first | (go_at_call 9; refine (awake4_c _).mono ?_; rintro e w' ⟨rfl, x, rfl⟩) | (go_at_call 19; refine (abs_c _ _).mono ?_; rintro e w' ⟨rfl, rfl⟩) | (go_at_call 18; refine (wmul_c _ _ _).mono ?_; rintro e w' ⟨rfl, x, rfl⟩) | (go_at_call 10; refine (wide_c _ _ _).mono ?_; rintro e w' ⟨rfl, x, rfl⟩) | (go_at_call 21; refine (wof_c _ _ ?_).mono ?_; (first | omega | exact ⟨by omega, by omega⟩); rintro e w' ⟨rfl, x, rfl⟩) | (go_at_call 20; refine (wadd_c _ _ _ _ _).mono ?_; rintro e w' ⟨rfl, x, rfl⟩) | (go_at_call 14; refine (hyp_c _ _ _).mono ?_; rintro e w' ⟨rfl, x, rfl⟩) | (go_at_call 22; refine (clamp_c _ _).mono ?_; rintro e w' ⟨rfl, rfl⟩))
    go_ret; exact ⟨rfl, Mr.grown (by repeat (first | (with_reducible exact Mr.refl _) | (with_reducible apply Mr.drew) | (with_reducible apply Mr.alloc) | (with_reducible apply Mr.ext) | (with_reducible refine Mr.setCell ?_ (by first | (simp; done) | (simp; omega) | omega | (refine leOf0 ?_; (repeat (first | (with_reducible exact Mr.refl _) | (with_reducible apply Mr.drew) | (with_reducible apply Mr.alloc) | (with_reducible apply Mr.ext) | (with_reducible refine Mr.setCell ?_ (by first | (simp; done) | (simp; omega) | omega) _))); done) | (refine leOf ?_; (repeat (first | (with_reducible exact Mr.refl _) | (with_reducible apply Mr.drew) | (with_reducible apply Mr.alloc) | (with_reducible apply Mr.ext) | (with_reducible refine Mr.setCell ?_ (by first | (simp; done) | (simp; omega) | omega) _))); done)) _)))⟩
  · have hx : ab a0 = 0 := by omega
    have g1 : vw (hi 0) (lo 0) = 0 := vw_zero
    have g2 : inr 0 = true := by decide
    have g3 : cut 0 = 0 := by decide
    have g4 : sn (hi 0) (lo 0) = true := by decide
    have g5 : sr 0 = 0 := in_hit (by omega) (by omega) rfl
    have g6 : ro 0 = false := by decide
    rw [hx] at e4
    clear h0 h1 hp
    go_enter Try.func5, Try.ntmps5; go_wp2_with (first | (go_at_call 9; refine (awake4_c _).mono ?_; rintro e w' ⟨rfl, x, rfl⟩) | (go_at_call 19; refine (abs_c _ _).mono ?_; rintro e w' ⟨rfl, rfl⟩) | (go_at_call 18; refine (wmul_c _ _ _).mono ?_; rintro e w' ⟨rfl, x, rfl⟩) | (go_at_call 10; refine (wide_c _ _ _).mono ?_; rintro e w' ⟨rfl, x, rfl⟩) | (go_at_call 21; refine (wof_c _ _ ?_).mono ?_; (first | omega | exact ⟨by omega, by omega⟩); rintro e w' ⟨rfl, x, rfl⟩) | (go_at_call 20; refine (wadd_c _ _ _ _ _).mono ?_; rintro e w' ⟨rfl, x, rfl⟩) | (go_at_call 14; refine (hyp_c _ _ _).mono ?_; rintro e w' ⟨rfl, x, rfl⟩) | (go_at_call 22; refine (clamp_c _ _).mono ?_; rintro e w' ⟨rfl, rfl⟩))
    go_ret; exact ⟨rfl, Mr.grown (by repeat (first | (with_reducible exact Mr.refl _) | (with_reducible apply Mr.drew) | (with_reducible apply Mr.alloc) | (with_reducible apply Mr.ext) | (with_reducible refine Mr.setCell ?_ (by first | (simp; done) | (simp; omega) | omega | (refine leOf0 ?_; (repeat (first | (with_reducible exact Mr.refl _) | (with_reducible apply Mr.drew) | (with_reducible apply Mr.alloc) | (with_reducible apply Mr.ext) | (with_reducible refine Mr.setCell ?_ (by first | (simp; done) | (simp; omega) | omega) _))); done) | (refine leOf ?_; (repeat (first | (with_reducible exact Mr.refl _) | (with_reducible apply Mr.drew) | (with_reducible apply Mr.alloc) | (with_reducible apply Mr.ext) | (with_reducible refine Mr.setCell ?_ (by first | (simp; done) | (simp; omega) | omega) _))); done)) _)))⟩

set_option maxRecDepth 100000 in
theorem lifted (os : Os) (started : os.Started) (H : Type) (enc : TypeId × Value → H) :
    ReturnsInHanded {} Try.checked os 5 .any (Rows.rootBackSpec.pre6 enc Try.prog Try.f5 Rows.rootBackRow.domain false) (Rows.rootBackSpec.post enc Try.prog Try.f5 false true false false) := by
  refine returnsInHanded_of_change (C := Try.checked) own started (by kernel_rfl) Try.func5
    (ChangeSpec.witness6 (enc := enc) (C := Try.checked) false ⟨#[], #[.int .i64 0, .int .i64 0], []⟩ 8 (by kernel_rfl) (by kernel_rfl) (by kernel_rfl) (by kernel_rfl)) ?_
  intro W base args ds gs before hval0 hW hcnd _
  have hval : ∀ (j : Nat) t v, Try.f5.params[j]? = some t → args[j]? = some v → Value.okWide Try.prog W .any base t v := hval0
  have hW' := hW
  obtain ⟨p, q, hA0, hV, rfl, hfz, hnd⟩ := hW
  have hA : DataW.TrodAll enc Try.prog W 0 (fun _ => true) true Try.f5.params.toList args.toList ds p := hA0
  rw [Try.params5] at hA hval
  obtain ⟨v0, vs0, d0, ds0, p_0, q_0, hargs, rfl, rfl, h0, r0⟩ := trodAll_cons hA
  obtain ⟨v1, vs1, d1, ds1, p_1, q_1, rfl, rfl, rfl, h1, r1⟩ := trodAll_cons r0
  obtain ⟨rfl, rfl, rfl⟩ := trodAll_nil r1
  obtain rfl : args = #[v0, v1] := by cases args; simp_all
  obtain ⟨rfl, rfl⟩ := trodVars_none hV
  obtain ⟨a0, rfl, rfl, rfl, w0⟩ := open_int Try.underlying3 (hval 0 3 v0 rfl rfl) h0
  obtain ⟨a1, rfl, rfl, rfl, w1⟩ := open_int Try.underlying3 (hval 1 3 v1 rfl rfl) h1
  clear hA0 hval0
  simp only [List.append_nil] at hW'
  refine (walk a0 a1 w0 w1 W).mono fun e W' ⟨he, hg⟩ => ?_
  subst he
  exact ⟨_, rfl, post_of_same (pa := []) (pv := []) hW' (fun _ _ _ => (trodAll_cons_mk (shut_bool Try.underlying4 _) trodAll_mk0)) (fun sp _ => (trodAll_cons_mk (shut_int Try.underlying3 w0) (trodAll_cons_mk (shut_int Try.underlying3 w1) trodAll_mk0))) (fun _ _ => rfl) rfl
    (hg.frame _) hg.2.1 (ok_one (by kernel_rfl) rfl (okWide_bool_mk Try.underlying4 _))⟩

theorem over : Rows.rootBackRow.holds Try.pinned (OpenSpec.ofChange Rows.rootBackSpec) :=
  OpenClaim.holds_of_wide 5 Try.f5 rfl rfl rfl rfl rfl rfl rfl ⟨rfl, rfl, rfl, rfl, rfl⟩ rfl rfl rfl rfl rfl (by kernel_rfl) Try.func5 (by kernel_rfl)
    (of_decide_eq_true (by kernel_rfl)) (by unfold Func.isWrapper; first | (rw [if_pos (by decide +kernel)]; kernel_rfl) | (rw [if_neg (by decide +kernel)]; exact ⟨rfl, rfl⟩))
    (fun os started H enc _ => lifted os started H enc)

theorem proved : Rows.RootBackSaid :=
  over
#print axioms proved
end Go.Proofs.Ytaeabdjmpedpgaa.rootBack
