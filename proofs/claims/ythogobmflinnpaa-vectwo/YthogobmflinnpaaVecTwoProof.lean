/- For every three ints the law VecTwo answers true: twice them are the sum with themselves, and are twice as long, or one more in the last place, if they are up to 2^12. No condition. -/
import Derived.Test.YthogobmflinnpaaRows
import Derived.WalkKit
import Derived.ProofKit
import Derived.OpenShut
import Derived.ShutString
import Derived.ChangeOld
import Derived.Below
import Derived.Test.YthogobmflinnpaaVecC2
import Derived.Test.YthogobmflinnpaaVecR
namespace Go.Proofs.Ythogobmflinnpaa.vecTwo
open Go.ChangeShapes Go.WideShapes Go.ChangeAt Go.RowKit
set_option linter.unusedVariables false
theorem own : ownKnob Try.prog.godebug = none := by kernel_rfl
theorem laidOut : laidOutB Try.prog = true := by kernel_rfl

open Go.Proofs.Ythogobmflinnpaa.Fx Go.Proofs.Ythogobmflinnpaa.Wd Go.Proofs.Ythogobmflinnpaa.Sc Go.Proofs.Ythogobmflinnpaa.Rt Go.Proofs.Ythogobmflinnpaa.Vc
attribute [local go_sem] Ext.cell Ext.froz Ext.lt Ext.lt1 Ext.lt2 Ext.lt3 Ext.all Ext.set_u drew_heap setCell_size Ext.set_size
attribute [local go_sem ↓] eq_v3 eq3_self
theorem in_or (a : Int) : (-17592186044416 ≤ a ∧ a ≤ 17592186044416) ∨ 17592186044416 < a ∨ (a ≤ 17592186044416 ∧ a < -17592186044416) := by omega
set_option maxHeartbeats 4000000 in
set_option maxRecDepth 100000 in
theorem walk (x0 y0 z0 : Int) (w : World) (wx0 : (Lit.int .i64 x0).wf = true) (wy0 : (Lit.int .i64 y0).wf = true) (wz0 : (Lit.int .i64 z0).wf = true) :
    Calls Try.prog 7 #[.agg #[.int .i64 x0, .int .i64 y0, .int .i64 z0]] w fun e w' => e = .returned (.bool true) ∧ Below w.heap.size w w' := by
  have hX0 : B64 x0 := bd wx0
  have hY0 : B64 y0 := bd wy0
  have hZ0 : B64 z0 := bd wz0
  clear wx0 wy0 wz0
  go_enter Try.func7, Try.ntmps7; go_wp2_with (first | (go_at_call 9; refine (awake7_c _).mono ?_; rintro e w' ⟨rfl, x, rfl⟩))
  go_loopw [4] (fun i wr => ∃ j : Nat, j ≤ 3 ∧ i = .int .i64 j ∧ wr = x.u ∧ Hid ((1 ≤ j → -17592186044416 ≤ x0 ∧ x0 ≤ 17592186044416) ∧ (2 ≤ j → -17592186044416 ≤ y0 ∧ y0 ≤ 17592186044416) ∧ (3 ≤ j → -17592186044416 ≤ z0 ∧ z0 ≤ 17592186044416))) (fun i _ => (3 - intOf i).toNat)
  case atStart => exact ⟨0, by omega, rfl, rfl, by omega, by omega, by omega⟩
  case round =>
    obtain ⟨j, hj, rfl, rfl, HB⟩ := hrel
    match j, hj with
    | 0, _ =>
      rcases in_or x0 with ⟨h, h'⟩ | h | ⟨h', h⟩
      · go_wp2
        go_roundw
        case rel => exact ⟨1, by omega, rfl, by first | rfl | trivial, fun _ => ⟨h, h'⟩, by omega, by omega⟩
        case measure => simp [intOf]
      all_goals
        go_wp2
        go_ret; exact ⟨rfl, Mr.grown (by repeat (first | (with_reducible exact Mr.refl _) | (with_reducible apply Mr.drew) | (with_reducible apply Mr.alloc) | (with_reducible apply Mr.ext) | (with_reducible refine Mr.setCell ?_ (by first | (simp; done) | (simp; omega) | omega | (refine leOf0 ?_; (repeat (first | (with_reducible exact Mr.refl _) | (with_reducible apply Mr.drew) | (with_reducible apply Mr.alloc) | (with_reducible apply Mr.ext) | (with_reducible refine Mr.setCell ?_ (by first | (simp; done) | (simp; omega) | omega) _))); done) | (refine leOf ?_; (repeat (first | (with_reducible exact Mr.refl _) | (with_reducible apply Mr.drew) | (with_reducible apply Mr.alloc) | (with_reducible apply Mr.ext) | (with_reducible refine Mr.setCell ?_ (by first | (simp; done) | (simp; omega) | omega) _))); done)) _)))⟩
    | 1, _ =>
      rcases in_or y0 with ⟨h, h'⟩ | h | ⟨h', h⟩
      · go_wp2
        go_roundw
        case rel => exact ⟨2, by omega, rfl, by first | rfl | trivial, fun _ => HB.out.1 (by omega), fun _ => ⟨h, h'⟩, by omega⟩
        case measure => simp [intOf]
      all_goals
        go_wp2
        go_ret; exact ⟨rfl, Mr.grown (by repeat (first | (with_reducible exact Mr.refl _) | (with_reducible apply Mr.drew) | (with_reducible apply Mr.alloc) | (with_reducible apply Mr.ext) | (with_reducible refine Mr.setCell ?_ (by first | (simp; done) | (simp; omega) | omega | (refine leOf0 ?_; (repeat (first | (with_reducible exact Mr.refl _) | (with_reducible apply Mr.drew) | (with_reducible apply Mr.alloc) | (with_reducible apply Mr.ext) | (with_reducible refine Mr.setCell ?_ (by first | (simp; done) | (simp; omega) | omega) _))); done) | (refine leOf ?_; (repeat (first | (with_reducible exact Mr.refl _) | (with_reducible apply Mr.drew) | (with_reducible apply Mr.alloc) | (with_reducible apply Mr.ext) | (with_reducible refine Mr.setCell ?_ (by first | (simp; done) | (simp; omega) | omega) _))); done)) _)))⟩
    | 2, _ =>
      rcases in_or z0 with ⟨h, h'⟩ | h | ⟨h', h⟩
      · go_wp2
        go_roundw
        case rel => exact ⟨3, by omega, rfl, by first | rfl | trivial, fun _ => HB.out.1 (by omega), fun _ => HB.out.2.1 (by omega), fun _ => ⟨h, h'⟩⟩
        case measure => simp [intOf]
      all_goals
        go_wp2
        go_ret; exact ⟨rfl, Mr.grown (by repeat (first | (with_reducible exact Mr.refl _) | (with_reducible apply Mr.drew) | (with_reducible apply Mr.alloc) | (with_reducible apply Mr.ext) | (with_reducible refine Mr.setCell ?_ (by first | (simp; done) | (simp; omega) | omega | (refine leOf0 ?_; (repeat (first | (with_reducible exact Mr.refl _) | (with_reducible apply Mr.drew) | (with_reducible apply Mr.alloc) | (with_reducible apply Mr.ext) | (with_reducible refine Mr.setCell ?_ (by first | (simp; done) | (simp; omega) | omega) _))); done) | (refine leOf ?_; (repeat (first | (with_reducible exact Mr.refl _) | (with_reducible apply Mr.drew) | (with_reducible apply Mr.alloc) | (with_reducible apply Mr.ext) | (with_reducible refine Mr.setCell ?_ (by first | (simp; done) | (simp; omega) | omega) _))); done)) _)))⟩
    | 3, _ =>
      have b1 := HB.out.1 (by omega)
      have b2 := HB.out.2.1 (by omega)
      have b3 := HB.out.2.2 (by omega)
      obtain ⟨s1, s2, s3, s4⟩ := two_ok b1
      obtain ⟨t1, t2, t3, t4⟩ := two_ok b2
      obtain ⟨u1, u2, u3, u4⟩ := two_ok b3
      obtain ⟨l1, l2, l3⟩ := two_len b1 b2 b3
      have n0 : 0 ≤ lv [x0, y0, z0] ∧ lv [x0, y0, z0] ≤ 288230376151711744 := by rw [(lv3 _ _ _).1]; exact sr_bd _
      have c1 : B64 (2 * x0) := ⟨by omega, by omega⟩
      have c2 : B64 (2 * y0) := ⟨by omega, by omega⟩
      have c3 : B64 (2 * z0) := ⟨by omega, by omega⟩
      generalize hN : lv [x0, y0, z0] = N at *
      generalize hM : lv [2 * x0, 2 * y0, 2 * z0] = M at *
      have l4 : ((M == 2 * N) = true ∧ (M == 2 * N + 1) = false) ∨ ((M == 2 * N) = false ∧ (M == 2 * N + 1) = true) := by
        rcases l3 with h | h
        · left; exact ⟨by simp [h], by rw [beq_eq_false_iff_ne]; omega⟩
        · right; exact ⟨by rw [beq_eq_false_iff_ne]; omega, by simp [h]⟩
      clear l3
      rcases l4 with ⟨l4, l5⟩ | ⟨l4, l5⟩
      all_goals
        go_wp2_with (first | (go_at_call 14; refine (vscale_c _ _ _ _ _).mono ?_; rintro e w' ⟨rfl, x, rfl⟩) | (go_at_call 10; refine (vadd_c _ _ _ _ _ _ _).mono ?_; rintro e w' ⟨rfl, x, rfl⟩) | (go_at_call 20; refine (vlen_c _ _ _ _ (by first | assumption | (have := av_bd; omega) | decide) (by first | assumption | (have := av_bd; omega) | decide) (by first | assumption | (have := av_bd; omega) | decide)).mono ?_; rintro e w' ⟨rfl, x, rfl⟩))
        go_ret; exact ⟨rfl, Mr.grown (by repeat (first | (with_reducible exact Mr.refl _) | (with_reducible apply Mr.drew) | (with_reducible apply Mr.alloc) | (with_reducible apply Mr.ext) | (with_reducible refine Mr.setCell ?_ (by first | (simp; done) | (simp; omega) | omega | (refine leOf0 ?_; (repeat (first | (with_reducible exact Mr.refl _) | (with_reducible apply Mr.drew) | (with_reducible apply Mr.alloc) | (with_reducible apply Mr.ext) | (with_reducible refine Mr.setCell ?_ (by first | (simp; done) | (simp; omega) | omega) _))); done) | (refine leOf ?_; (repeat (first | (with_reducible exact Mr.refl _) | (with_reducible apply Mr.drew) | (with_reducible apply Mr.alloc) | (with_reducible apply Mr.ext) | (with_reducible refine Mr.setCell ?_ (by first | (simp; done) | (simp; omega) | omega) _))); done)) _)))⟩

set_option maxRecDepth 100000 in
theorem lifted (os : Os) (started : os.Started) (H : Type) (enc : TypeId × Value → H) :
    ReturnsInHanded {} Try.checked os 7 .any (Rows.vecTwoSpec.pre6 enc Try.prog Try.f7 Rows.vecTwoRow.domain false) (Rows.vecTwoSpec.post enc Try.prog Try.f7 false true false false) := by
  refine returnsInHanded_of_change (C := Try.checked) own started (by kernel_rfl) Try.func7
    (ChangeSpec.witness6 (enc := enc) (C := Try.checked) false ⟨#[], #[.agg #[.int .i64 0, .int .i64 0, .int .i64 0]], []⟩ 8 (by kernel_rfl) (by kernel_rfl) (by kernel_rfl) (by kernel_rfl)) ?_
  intro W base args ds gs before hval0 hW hcnd _
  have hval : ∀ (j : Nat) t v, Try.f7.params[j]? = some t → args[j]? = some v → Value.okWide Try.prog W .any base t v := hval0
  have hW' := hW
  obtain ⟨p, q, hA0, hV, rfl, hfz, hnd⟩ := hW
  have hA : DataW.TrodAll enc Try.prog W 0 (fun _ => true) true Try.f7.params.toList args.toList ds p := hA0
  rw [Try.params7] at hA hval
  obtain ⟨v0, vs0, d0, ds0, p_0, q_0, hargs, rfl, rfl, h0, r0⟩ := trodAll_cons hA
  obtain ⟨rfl, rfl, rfl⟩ := trodAll_nil r0
  obtain rfl : args = #[v0] := by cases args; simp_all
  obtain ⟨rfl, rfl⟩ := trodVars_none hV
  obtain ⟨x0, y0, z0, rfl, rfl, rfl, wx0, wy0, wz0⟩ := Vr.open_v3 (hval 0 22 v0 rfl rfl) h0
  clear hA0 hval0
  refine (walk x0 y0 z0 W wx0 wy0 wz0).mono fun e W' ⟨he, bel⟩ => ?_
  subst he
  exact ⟨_, rfl, _, _, _, [], _, [], hW', trodAll_mk1 (shut_bool Try.underlying4 _), (trodAll_cons_mk (Vr.shut_v3 wx0 wy0 wz0) trodAll_mk0), rfl, bel.frame _, fun h => by cases h⟩

theorem over : Rows.vecTwoRow.holds Try.pinned (OpenSpec.ofChange Rows.vecTwoSpec) :=
  OpenClaim.holds_of_wide 7 Try.f7 rfl rfl rfl rfl rfl rfl rfl ⟨rfl, rfl, rfl, rfl, rfl⟩ rfl rfl rfl rfl rfl (by kernel_rfl) Try.func7 (by kernel_rfl)
    (of_decide_eq_true (by kernel_rfl)) (by unfold Func.isWrapper; first | (rw [if_pos (by decide +kernel)]; kernel_rfl) | (rw [if_neg (by decide +kernel)]; exact ⟨rfl, rfl⟩))
    (fun os started H enc _ => lifted os started H enc)

theorem proved : Rows.VecTwoSaid :=
  over
#print axioms proved
end Go.Proofs.Ythogobmflinnpaa.vecTwo
