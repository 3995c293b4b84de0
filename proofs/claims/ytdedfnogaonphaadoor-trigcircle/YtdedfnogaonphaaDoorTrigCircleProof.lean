/- For every int the law TrigCircle answers true: the squares of sine and cosine are 1 together, within 2^-29. The table at package level holds what the program's text lays (the card ties it). -/
import Derived.Test.YtdedfnogaonphaaDoorRows
import Derived.Test.YtdedfnogaonphaaDoorTie
import Derived.Test.YtdedfnogaonphaaDoorCards
import Derived.Lay
import Derived.LaidOnce
import Derived.SevenTiedAt
import Derived.Lib.LaidTab
import Derived.WalkKit
import Derived.ProofKit
import Derived.OpenShut
import Derived.ShutString
import Derived.ChangeOld
import Derived.Below
import Derived.Test.YtdedfnogaonphaaDoorTrigC2
import Derived.Test.YtdedfnogaonphaaDoorWideC2
import Derived.Test.YtdedfnogaonphaaDoorWideC3
namespace Go.Proofs.YtdedfnogaonphaaDoor.trigCircle
open Go.ChangeShapes Go.WideShapes Go.ChangeAt Go.RowKit
set_option linter.unusedVariables false
theorem own : ownKnob Tryd.prog.godebug = none := by kernel_rfl
theorem laidOut : laidOutB Tryd.prog = true := by kernel_rfl

open Go.Proofs.YtdedfnogaonphaaDoor.Fx Go.Proofs.YtdedfnogaonphaaDoor.Wd Go.Proofs.YtdedfnogaonphaaDoor.Tg
attribute [local go_sem] Ext.cell Ext.froz Ext.lt Ext.lt1 Ext.lt2 Ext.lt3 Ext.all Ext.set_u drew_heap setCell_size Ext.set_size
attribute [local go_sem ↓] eq_wide eqw_self
attribute [local go_sem] and62 and1 sgn64 not64 wrap_and
theorem ml_in' {m n : Int} (h0 : -288230376151711744 ≤ m ∧ m ≤ 288230376151711744) (g0 : -288230376151711744 ≤ n ∧ n ≤ 288230376151711744) : ml m n = m * n := by
  unfold ml; rw [(cl_in h0.1 h0.2).1, (cl_in g0.1 g0.2).1]
theorem circle_math (t : Int) : ∃ s c A B z r : Int, bs t = s ∧ bc t = c ∧ (-4294967300 ≤ s ∧ s ≤ 4294967300) ∧ (-4294967300 ≤ c ∧ c ≤ 4294967300) ∧ ml s s = A ∧ ml c c = B ∧ vw (hi A) (lo A) = A ∧ vw (hi B) (lo B) = B ∧ A + B = z ∧ inr z = true ∧ cut z = z ∧ vw (hi z) (lo z) = z ∧ ml (-4294967296) 4294967296 = -18446744073709551616 ∧ vw (hi (-18446744073709551616)) (lo (-18446744073709551616)) = -18446744073709551616 ∧ z - 18446744073709551616 = r ∧ z + -18446744073709551616 = r ∧ inr r = true ∧ cut r = r ∧ vw (hi r) (lo r) = r ∧ cl r = r ∧ co r = false ∧ (-34359738368 ≤ r ∧ r ≤ 34359738368) := by
  have h := bs_circle t
  have b := bs_bd t
  have e1 : ml (bs t) (bs t) = bs t * bs t := ml_in' ⟨by omega, by omega⟩ ⟨by omega, by omega⟩
  have e2 : ml (bc t) (bc t) = bc t * bc t := ml_in' ⟨by omega, by omega⟩ ⟨by omega, by omega⟩
  have i1 : inr (bs t * bs t + bc t * bc t) = true := by rw [inr_iff]; omega
  have i2 : inr (bs t * bs t + bc t * bc t - 18446744073709551616) = true := by rw [inr_iff]; omega
  refine ⟨_, _, _, _, _, _, rfl, rfl, b.1, b.2, e1, e2, ?_, ?_, rfl, i1, cut_of i1, vw_hl i1, by decide, by decide, rfl, by omega, i2, cut_of i2, vw_hl i2, (cl_in (by omega) (by omega)).1, (cl_in (by omega) (by omega)).2, h⟩
  · rw [← e1]; exact vw_hl (ml_inr _ _)
  · rw [← e2]; exact vw_hl (ml_inr _ _)
set_option maxHeartbeats 4000000 in
set_option maxRecDepth 100000 in
theorem walk (a0 : Int) (w : World) (w0 : (Lit.int .i64 a0).wf = true) (hT : Tg.Tb w) :
    Calls Tryd.prog 4 #[.int .i64 a0] w fun e w' => e = .returned (.bool true) ∧ Below w.heap.size w w' := by
  obtain ⟨s, c, A, B, z, r, e1, e2, ⟨b1, b2⟩, ⟨b3, b4⟩, e3, e4, e5, e6, e7, e8, e9, e10, e11, e12, e13, e14, e15, e16, e17, e18, e19, ⟨b5, b6⟩⟩ := circle_math a0
  go_enter Tryd.func4, Tryd.ntmps4; go_wp2_with (first | (go_at_call 10; refine (awake5_c _ ?_).mono ?_; (repeat (first | assumption | apply Tb.ext | apply Tb.alloc | apply Tb.drew)); rintro e w' ⟨rfl, x, rfl⟩) | (go_at_call 11; refine (both_c _ _ ?_).mono ?_; (repeat (first | assumption | apply Tb.ext | apply Tb.alloc | apply Tb.drew)); rintro e w' ⟨rfl, x, rfl⟩) | (go_at_call 20; refine (wmul_c _ _ _).mono ?_; rintro e w' ⟨rfl, x, rfl⟩) | (go_at_call 19; refine (wadd_c _ _ _ _ _).mono ?_; rintro e w' ⟨rfl, x, rfl⟩) | (go_at_call 21; refine (wint_c _ _ _).mono ?_; rintro e w' ⟨rfl, x, rfl⟩))
  go_region_held3 (fun w' => w'.cell? ⟨x.u.heap.size, 0, none⟩ = some (.int .i64 (hi z)) ∧ w'.cell? ⟨x.u.heap.size, 1, none⟩ = some (.int .i64 (lo z))) ((simp [go_sem]; done)) (first | (go_at_call 20; refine (wmul_c _ _ _).mono ?_; rintro e w' ⟨rfl, x, rfl⟩) | (go_at_call 19; refine (wadd_c _ _ _ _ _).mono ?_; rintro e w' ⟨rfl, x, rfl⟩))
  all_goals
    go_wp2_with (go_at_call 21; refine (wint_c _ _ _).mono ?_; rintro e w' ⟨rfl, x, rfl⟩)
    go_ret; exact ⟨rfl, Mr.grown (by repeat (first | (with_reducible exact Mr.refl _) | (with_reducible apply Mr.drew) | (with_reducible apply Mr.alloc) | (with_reducible apply Mr.ext) | (with_reducible refine Mr.setCell ?_ (by first | (simp; done) | (simp; omega) | omega | (refine leOf0 ?_; (repeat (first | (with_reducible exact Mr.refl _) | (with_reducible apply Mr.drew) | (with_reducible apply Mr.alloc) | (with_reducible apply Mr.ext) | (with_reducible refine Mr.setCell ?_ (by first | (simp; done) | (simp; omega) | omega | (refine leOf0 ?_; (repeat (first | (with_reducible exact Mr.refl _) | (with_reducible apply Mr.drew) | (with_reducible apply Mr.alloc) | (with_reducible apply Mr.ext) | (with_reducible refine Mr.setCell ?_ (by first | (simp; done) | (simp; omega) | omega) _))); done) | (refine leOf ?_; (repeat (first | (with_reducible exact Mr.refl _) | (with_reducible apply Mr.drew) | (with_reducible apply Mr.alloc) | (with_reducible apply Mr.ext) | (with_reducible refine Mr.setCell ?_ (by first | (simp; done) | (simp; omega) | omega) _))); done)) _))); done) | (refine leOf ?_; (repeat (first | (with_reducible exact Mr.refl _) | (with_reducible apply Mr.drew) | (with_reducible apply Mr.alloc) | (with_reducible apply Mr.ext) | (with_reducible refine Mr.setCell ?_ (by first | (simp; done) | (simp; omega) | omega | (refine leOf0 ?_; (repeat (first | (with_reducible exact Mr.refl _) | (with_reducible apply Mr.drew) | (with_reducible apply Mr.alloc) | (with_reducible apply Mr.ext) | (with_reducible refine Mr.setCell ?_ (by first | (simp; done) | (simp; omega) | omega) _))); done) | (refine leOf ?_; (repeat (first | (with_reducible exact Mr.refl _) | (with_reducible apply Mr.drew) | (with_reducible apply Mr.alloc) | (with_reducible apply Mr.ext) | (with_reducible refine Mr.setCell ?_ (by first | (simp; done) | (simp; omega) | omega) _))); done)) _))); done)) _)))⟩

set_option maxRecDepth 100000 in
theorem lifted (os : Os) (started : os.Started) (H : Type) (enc : TypeId × Value → H) :
    ReturnsInHanded {} Tryd.checked os 4 .any (fun w args => (Rows.trigCircleSpec.pre enc Tryd.prog Tryd.f4 [] false w args ∧ laidMetH Tryd.prog Rows.trigCircleRow.laid w) ∧ sizedMet enc Tryd.prog Tryd.f4 (OpenSpec.ofChange Rows.trigCircleSpec) false w args)
      (Rows.trigCircleSpec.post enc Tryd.prog Tryd.f4 false true false false) := by
  refine returnsInHanded_of_change_and (C := Tryd.checked) (X := fun w _ => laidMetH Tryd.prog Rows.trigCircleRow.laid w) (fun _ _ _ hh h => h.of_heap hh) own started (by kernel_rfl) Tryd.func4
    (ChangeSpec.witness_shaped (enc := enc) (C := Tryd.checked) (os := os) (X := fun w _ => laidMetH Tryd.prog Rows.trigCircleRow.laid w) false (World.laidAll Tryd.prog os Rows.trigCircleRow.laid) #[.int .i64 0] 8 (World.laidAll_os _ _ _)
      (World.shaped_of_ZipB (by kernel_rfl) (by kernel_rfl)) (by kernel_rfl) (by kernel_rfl) (by kernel_rfl)
      (by rw [MakeChecks.laidMetH_plain _ _ _ (by kernel_rfl)]; exact laidMet_laidAll _ (by kernel_rfl) (by kernel_rfl))) ?_
  intro W base args ds gs before hval0 hW _ _ hL _
  have hval : ∀ (j : Nat) t v, Tryd.f4.params[j]? = some t → args[j]? = some v → Value.okWide Tryd.prog W .any base t v := hval0
  have hW' := hW
  obtain ⟨p, q, hA0, hV, rfl, hfz, hnd⟩ := hW
  have hA : DataW.TrodAll enc Tryd.prog W 0 (fun _ => true) true Tryd.f4.params.toList args.toList ds p := hA0
  rw [Tryd.params4] at hA hval
  obtain ⟨v0, vs0, d0, ds0, p_0, q_0, hargs, rfl, rfl, h0, r0⟩ := trodAll_cons hA
  obtain ⟨rfl, rfl, rfl⟩ := trodAll_nil r0
  obtain rfl : args = #[v0] := by cases args; simp_all
  obtain ⟨rfl, rfl⟩ := trodVars_none hV
  obtain ⟨a0, rfl, rfl, rfl, w0⟩ := open_int Tryd.underlying3 (hval 0 3 v0 rfl rfl) h0
  clear hA0 hval0
  rw [MakeChecks.laidMetH_plain _ _ _ (by kernel_rfl)] at hL
  refine (walk a0 W w0 (Tg.tb_of hL)).mono fun e W' ⟨he, bel⟩ => ?_
  subst he
  exact ⟨_, rfl, _, _, _, [], _, [], hW', trodAll_mk1 (shut_bool Tryd.underlying4 _), (trodAll_cons_mk (shut_int Tryd.underlying3 w0) trodAll_mk0), rfl, bel.frame _, fun h => by cases h⟩

theorem over : Rows.trigCircleRow.holds Tryd.pinned (OpenSpec.ofChange Rows.trigCircleSpec) :=
  OpenClaim.holds_of_wide 4 Tryd.f4 rfl rfl rfl rfl rfl rfl rfl ⟨rfl, rfl, rfl, rfl, rfl⟩ rfl rfl rfl rfl rfl (by kernel_rfl) Tryd.func4 (by kernel_rfl)
    (of_decide_eq_true (by kernel_rfl)) (by unfold Func.isWrapper; first | (rw [if_pos (by decide +kernel)]; kernel_rfl) | (rw [if_neg (by decide +kernel)]; exact ⟨rfl, rfl⟩))
    (fun os started H enc _ => lifted os started H enc)

theorem proved : Rows.TrigCircleCardSaid :=
  Claim7.holds_tied_plain_at .later [] [.data] true (true, "7140f3c31b22615de939a7aa3f70dcffaa6fea7123bdbde3be1b410eff024fb5") false over (fun _ h => by cases h) (by kernel_rfl) (fun _ h => by cases h) trigCircle_row_tie rfl ⟨rfl, rfl⟩ (by kernel_rfl) rfl
    (fun f fn hf hfn => by
      obtain rfl : f = 4 := Option.some.inj ((show Tryd.prog.funcNamed "outrigger/outriggerlaw05.TrigCircle" = some 4 by kernel_rfl).symm.trans hf) |>.symm
      obtain rfl : fn = Tryd.f4 := (Option.some.inj (Tryd.func4.symm.trans hfn)).symm
      exact ⟨by kernel_rfl, fun j t ht => by
        rw [Tryd.params4] at ht
        have hm : t ∈ [3] := by simpa using Array.mem_of_getElem? ht
        have hall : ([3].all fun u => !Tryd.prog.wantsStandIn u) = true := by kernel_rfl
        exact (show Tryd.prog.wantsStandIn t = false by simpa using List.all_eq_true.1 hall t hm)⟩)
    (by kernel_rfl)
#print axioms proved
end Go.Proofs.YtdedfnogaonphaaDoor.trigCircle
