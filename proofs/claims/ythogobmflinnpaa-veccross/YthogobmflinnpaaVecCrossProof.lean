/- For every two threes of ints the law VecCross answers true: of the other order the outer product is the other way round, number by number, but for rounding, if the numbers are up to 2^16; with itself it is 0. No condition. -/
import Derived.Test.YthogobmflinnpaaRows
import Derived.WalkKit
import Derived.ProofKit
import Derived.OpenShut
import Derived.ShutString
import Derived.ChangeOld
import Derived.Below
import Derived.Test.YthogobmflinnpaaVecC2
import Derived.Test.YthogobmflinnpaaVecR
namespace Go.Proofs.Ythogobmflinnpaa.vecCross
open Go.ChangeShapes Go.WideShapes Go.ChangeAt Go.RowKit
set_option linter.unusedVariables false
theorem own : ownKnob Try.prog.godebug = none := by kernel_rfl
theorem laidOut : laidOutB Try.prog = true := by kernel_rfl

open Go.Proofs.Ythogobmflinnpaa.Fx Go.Proofs.Ythogobmflinnpaa.Wd Go.Proofs.Ythogobmflinnpaa.Sc Go.Proofs.Ythogobmflinnpaa.Rt Go.Proofs.Ythogobmflinnpaa.Vc
attribute [local go_sem] Ext.cell Ext.froz Ext.lt Ext.lt1 Ext.lt2 Ext.lt3 Ext.all Ext.set_u drew_heap setCell_size Ext.set_size
attribute [local go_sem ↓] eq_v3 eq3_self
theorem in_or2 (a b : Int) : (-281474976710656 ≤ a ∧ a ≤ 281474976710656 ∧ -281474976710656 ≤ b ∧ b ≤ 281474976710656) ∨ 281474976710656 < a ∨ (a ≤ 281474976710656 ∧ a < -281474976710656) ∨ (-281474976710656 ≤ a ∧ a ≤ 281474976710656 ∧ 281474976710656 < b) ∨ (-281474976710656 ≤ a ∧ a ≤ 281474976710656 ∧ b ≤ 281474976710656 ∧ b < -281474976710656) := by omega
theorem pv_bd (p q r s : Int) : -288230376151711744 ≤ pv p q r s ∧ pv p q r s ≤ 288230376151711744 := cl_bd _
theorem co_in {a : Int} (h : -281474976710656 ≤ a ∧ a ≤ 281474976710656) : co a = false := (cl_in (by omega) (by omega)).2
set_option maxHeartbeats 4000000 in
set_option maxRecDepth 100000 in
theorem walk (x0 y0 z0 : Int) (x1 y1 z1 : Int) (w : World) (wx0 : (Lit.int .i64 x0).wf = true) (wy0 : (Lit.int .i64 y0).wf = true) (wz0 : (Lit.int .i64 z0).wf = true) (wx1 : (Lit.int .i64 x1).wf = true) (wy1 : (Lit.int .i64 y1).wf = true) (wz1 : (Lit.int .i64 z1).wf = true) :
    Calls Try.prog 5 #[.agg #[.int .i64 x0, .int .i64 y0, .int .i64 z0], .agg #[.int .i64 x1, .int .i64 y1, .int .i64 z1]] w fun e w' => e = .returned (.bool true) ∧ Below w.heap.size w w' := by
  have hX0 : B64 x0 := bd wx0
  have hY0 : B64 y0 := bd wy0
  have hZ0 : B64 z0 := bd wz0
  clear wx0 wy0 wz0
  have hX1 : B64 x1 := bd wx1
  have hY1 : B64 y1 := bd wy1
  have hZ1 : B64 z1 := bd wz1
  clear wx1 wy1 wz1
  go_enter Try.func5, Try.ntmps5; go_wp2_with (first | (go_at_call 9; refine (awake7_c _).mono ?_; rintro e w' ⟨rfl, x, rfl⟩))
  go_loopw [6] (fun i wr => ∃ j : Nat, j ≤ 3 ∧ i = .int .i64 j ∧ wr = x.u ∧ Hid ((1 ≤ j → (-281474976710656 ≤ x0 ∧ x0 ≤ 281474976710656) ∧ (-281474976710656 ≤ x1 ∧ x1 ≤ 281474976710656)) ∧ (2 ≤ j → (-281474976710656 ≤ y0 ∧ y0 ≤ 281474976710656) ∧ (-281474976710656 ≤ y1 ∧ y1 ≤ 281474976710656)) ∧ (3 ≤ j → (-281474976710656 ≤ z0 ∧ z0 ≤ 281474976710656) ∧ (-281474976710656 ≤ z1 ∧ z1 ≤ 281474976710656)))) (fun i _ => (3 - intOf i).toNat)
  case atStart => exact ⟨0, by omega, rfl, rfl, by omega, by omega, by omega⟩
  case round =>
    obtain ⟨j, hj, rfl, rfl, HB⟩ := hrel
    match j, hj with
    | 0, _ =>
      rcases in_or2 x0 x1 with ⟨h1, h2, h3, h4⟩ | h1 | ⟨h1, h2⟩ | ⟨h1, h2, h3⟩ | ⟨h1, h2, h3, h4⟩
      · go_wp2
        go_roundw
        case rel => exact ⟨1, by omega, rfl, by first | rfl | trivial, fun _ => ⟨⟨h1, h2⟩, h3, h4⟩, by omega, by omega⟩
        case measure => simp [intOf]
      all_goals
        go_wp2
        go_ret; exact ⟨rfl, Mr.grown (by repeat (first | (with_reducible exact Mr.refl _) | (with_reducible apply Mr.drew) | (with_reducible apply Mr.alloc) | (with_reducible apply Mr.ext) | (with_reducible refine Mr.setCell ?_ (by first | (simp; done) | (simp; omega) | omega | (refine leOf0 ?_; (repeat (first | (with_reducible exact Mr.refl _) | (with_reducible apply Mr.drew) | (with_reducible apply Mr.alloc) | (with_reducible apply Mr.ext) | (with_reducible refine Mr.setCell ?_ (by first | (simp; done) | (simp; omega) | omega) _))); done) | (refine leOf ?_; (repeat (first | (with_reducible exact Mr.refl _) | (with_reducible apply Mr.drew) | (with_reducible apply Mr.alloc) | (with_reducible apply Mr.ext) | (with_reducible refine Mr.setCell ?_ (by first | (simp; done) | (simp; omega) | omega) _))); done)) _)))⟩
    | 1, _ =>
      rcases in_or2 y0 y1 with ⟨h1, h2, h3, h4⟩ | h1 | ⟨h1, h2⟩ | ⟨h1, h2, h3⟩ | ⟨h1, h2, h3, h4⟩
      · go_wp2
        go_roundw
        case rel => exact ⟨2, by omega, rfl, by first | rfl | trivial, fun _ => HB.out.1 (by omega), fun _ => ⟨⟨h1, h2⟩, h3, h4⟩, by omega⟩
        case measure => simp [intOf]
      all_goals
        go_wp2
        go_ret; exact ⟨rfl, Mr.grown (by repeat (first | (with_reducible exact Mr.refl _) | (with_reducible apply Mr.drew) | (with_reducible apply Mr.alloc) | (with_reducible apply Mr.ext) | (with_reducible refine Mr.setCell ?_ (by first | (simp; done) | (simp; omega) | omega | (refine leOf0 ?_; (repeat (first | (with_reducible exact Mr.refl _) | (with_reducible apply Mr.drew) | (with_reducible apply Mr.alloc) | (with_reducible apply Mr.ext) | (with_reducible refine Mr.setCell ?_ (by first | (simp; done) | (simp; omega) | omega) _))); done) | (refine leOf ?_; (repeat (first | (with_reducible exact Mr.refl _) | (with_reducible apply Mr.drew) | (with_reducible apply Mr.alloc) | (with_reducible apply Mr.ext) | (with_reducible refine Mr.setCell ?_ (by first | (simp; done) | (simp; omega) | omega) _))); done)) _)))⟩
    | 2, _ =>
      rcases in_or2 z0 z1 with ⟨h1, h2, h3, h4⟩ | h1 | ⟨h1, h2⟩ | ⟨h1, h2, h3⟩ | ⟨h1, h2, h3, h4⟩
      · go_wp2
        go_roundw
        case rel => exact ⟨3, by omega, rfl, by first | rfl | trivial, fun _ => HB.out.1 (by omega), fun _ => HB.out.2.1 (by omega), fun _ => ⟨⟨h1, h2⟩, h3, h4⟩⟩
        case measure => simp [intOf]
      all_goals
        go_wp2
        go_ret; exact ⟨rfl, Mr.grown (by repeat (first | (with_reducible exact Mr.refl _) | (with_reducible apply Mr.drew) | (with_reducible apply Mr.alloc) | (with_reducible apply Mr.ext) | (with_reducible refine Mr.setCell ?_ (by first | (simp; done) | (simp; omega) | omega | (refine leOf0 ?_; (repeat (first | (with_reducible exact Mr.refl _) | (with_reducible apply Mr.drew) | (with_reducible apply Mr.alloc) | (with_reducible apply Mr.ext) | (with_reducible refine Mr.setCell ?_ (by first | (simp; done) | (simp; omega) | omega) _))); done) | (refine leOf ?_; (repeat (first | (with_reducible exact Mr.refl _) | (with_reducible apply Mr.drew) | (with_reducible apply Mr.alloc) | (with_reducible apply Mr.ext) | (with_reducible refine Mr.setCell ?_ (by first | (simp; done) | (simp; omega) | omega) _))); done)) _)))⟩
    | 3, _ =>
      have b1 := HB.out.1 (by omega)
      have b2 := HB.out.2.1 (by omega)
      have b3 := HB.out.2.2 (by omega)
      obtain ⟨s1, s2⟩ := cross_self (co_in b2.1) (co_in b3.1)
      obtain ⟨s3, s4⟩ := cross_self (co_in b3.1) (co_in b1.1)
      obtain ⟨s5, s6⟩ := cross_self (co_in b1.1) (co_in b2.1)
      clear b1 b2 b3
      have c1 := pv_bd y0 z0 z1 y1
      have c2 := pv_bd z0 x0 x1 z1
      have c3 := pv_bd x0 y0 y1 x1
      have d1 := pv_bd y1 z1 z0 y0
      have d2 := pv_bd z1 x1 x0 z0
      have d3 := pv_bd x1 y1 y0 x0
      have E1 : Hid (pb y0 z0 z1 y1 = false → pb y1 z1 z0 y0 = false → -1 ≤ av (pv y0 z0 z1 y1) (pv y1 z1 z0 y0) ∧ av (pv y0 z0 z1 y1) (pv y1 z1 z0 y0) ≤ 1) := fun h g => cross_ok h g
      have E2 : Hid (pb z0 x0 x1 z1 = false → pb z1 x1 x0 z0 = false → -1 ≤ av (pv z0 x0 x1 z1) (pv z1 x1 x0 z0) ∧ av (pv z0 x0 x1 z1) (pv z1 x1 x0 z0) ≤ 1) := fun h g => cross_ok h g
      have E3 : Hid (pb x0 y0 y1 x1 = false → pb x1 y1 y0 x0 = false → -1 ≤ av (pv x0 y0 y1 x1) (pv x1 y1 y0 x0) ∧ av (pv x0 y0 y1 x1) (pv x1 y1 y0 x0) ≤ 1) := fun h g => cross_ok h g
      cases hP : (pb y0 z0 z1 y1 || pb z0 x0 x1 z1 || pb x0 y0 y1 x1) with
      | true =>
        clear E1 E2 E3 HB
        go_wp2_with (first | (go_at_call 18; refine (vcross_c _ _ _ _ _ _ _ (by first | assumption | (have := av_bd; omega) | decide) (by first | assumption | (have := av_bd; omega) | decide) (by first | assumption | (have := av_bd; omega) | decide) (by first | assumption | (have := av_bd; omega) | decide) (by first | assumption | (have := av_bd; omega) | decide) (by first | assumption | (have := av_bd; omega) | decide)).mono ?_; rintro e w' ⟨rfl, x, rfl⟩))
        go_loopw [13] (fun i wr => ∃ j : Nat, j ≤ 3 ∧ i = .int .i64 j ∧ wr = x.u.alloc (.cells #[.int .i64 0, .int .i64 0, .int .i64 0] 22)) (fun i _ => (3 - intOf i).toNat); (case atStart => exact ⟨0, by omega, rfl, rfl⟩); (case round => (obtain ⟨j, hj, rfl, rfl⟩ := hrel; by_cases hlt : (j : Int) < 3; (go_wp2; go_roundw; (case rel => exact ⟨j + 1, by omega, by first | rfl | simp, by first | rfl | trivial⟩); (case measure => simp [intOf]; omega)); (obtain rfl : j = 3 := by omega); go_wp2; go_ret; exact ⟨rfl, Mr.grown (by repeat (first | (with_reducible exact Mr.refl _) | (with_reducible apply Mr.drew) | (with_reducible apply Mr.alloc) | (with_reducible apply Mr.ext) | (with_reducible refine Mr.setCell ?_ (by first | (simp; done) | (simp; omega) | omega | (refine leOf0 ?_; (repeat (first | (with_reducible exact Mr.refl _) | (with_reducible apply Mr.drew) | (with_reducible apply Mr.alloc) | (with_reducible apply Mr.ext) | (with_reducible refine Mr.setCell ?_ (by first | (simp; done) | (simp; omega) | omega) _))); done) | (refine leOf ?_; (repeat (first | (with_reducible exact Mr.refl _) | (with_reducible apply Mr.drew) | (with_reducible apply Mr.alloc) | (with_reducible apply Mr.ext) | (with_reducible refine Mr.setCell ?_ (by first | (simp; done) | (simp; omega) | omega) _))); done)) _)))⟩))
      | false =>
        cases hQ : (pb y1 z1 z0 y0 || pb z1 x1 x0 z0 || pb x1 y1 y0 x0) with
        | true =>
          clear E1 E2 E3 HB
          go_wp2_with (first | (go_at_call 18; refine (vcross_c _ _ _ _ _ _ _ (by first | assumption | (have := av_bd; omega) | decide) (by first | assumption | (have := av_bd; omega) | decide) (by first | assumption | (have := av_bd; omega) | decide) (by first | assumption | (have := av_bd; omega) | decide) (by first | assumption | (have := av_bd; omega) | decide) (by first | assumption | (have := av_bd; omega) | decide)).mono ?_; rintro e w' ⟨rfl, x, rfl⟩))
          go_loopw [13] (fun i wr => ∃ j : Nat, j ≤ 3 ∧ i = .int .i64 j ∧ wr = x.u.alloc (.cells #[.int .i64 0, .int .i64 0, .int .i64 0] 22)) (fun i _ => (3 - intOf i).toNat); (case atStart => exact ⟨0, by omega, rfl, rfl⟩); (case round => (obtain ⟨j, hj, rfl, rfl⟩ := hrel; by_cases hlt : (j : Int) < 3; (go_wp2; go_roundw; (case rel => exact ⟨j + 1, by omega, by first | rfl | simp, by first | rfl | trivial⟩); (case measure => simp [intOf]; omega)); (obtain rfl : j = 3 := by omega); go_wp2; go_ret; exact ⟨rfl, Mr.grown (by repeat (first | (with_reducible exact Mr.refl _) | (with_reducible apply Mr.drew) | (with_reducible apply Mr.alloc) | (with_reducible apply Mr.ext) | (with_reducible refine Mr.setCell ?_ (by first | (simp; done) | (simp; omega) | omega | (refine leOf0 ?_; (repeat (first | (with_reducible exact Mr.refl _) | (with_reducible apply Mr.drew) | (with_reducible apply Mr.alloc) | (with_reducible apply Mr.ext) | (with_reducible refine Mr.setCell ?_ (by first | (simp; done) | (simp; omega) | omega) _))); done) | (refine leOf ?_; (repeat (first | (with_reducible exact Mr.refl _) | (with_reducible apply Mr.drew) | (with_reducible apply Mr.alloc) | (with_reducible apply Mr.ext) | (with_reducible refine Mr.setCell ?_ (by first | (simp; done) | (simp; omega) | omega) _))); done)) _)))⟩))
        | false =>
          have hP' := hP
          have hQ' := hQ
          simp only [Bool.or_eq_false_iff] at hP' hQ'
          have F1 := E1.out hP'.1.1 hQ'.1.1
          have F2 := E2.out hP'.1.2 hQ'.1.2
          have F3 := E3.out hP'.2 hQ'.2
          clear E1 E2 E3 HB hP' hQ'
          go_wp2_with (first | (go_at_call 18; refine (vcross_c _ _ _ _ _ _ _ (by first | assumption | (have := av_bd; omega) | decide) (by first | assumption | (have := av_bd; omega) | decide) (by first | assumption | (have := av_bd; omega) | decide) (by first | assumption | (have := av_bd; omega) | decide) (by first | assumption | (have := av_bd; omega) | decide) (by first | assumption | (have := av_bd; omega) | decide)).mono ?_; rintro e w' ⟨rfl, x, rfl⟩))
          go_loopw [13] (fun i wr => ∃ j : Nat, j ≤ 3 ∧ i = .int .i64 j ∧ ∃ y : Ext (x.u.alloc (.cells #[.int .i64 0, .int .i64 0, .int .i64 0] 22)), wr = y.u) (fun i _ => (3 - intOf i).toNat)
          case atStart => exact ⟨0, by omega, rfl, Mr.mk' (Mr.refl _)⟩
          case round =>
            obtain ⟨j, hj, rfl, y, rfl⟩ := hrel
            match j, hj with
            | 0, _ =>
              go_wp2
              refine wp_region_ext (by kernel_rfl) (by kernel_rfl) ?_; (repeat (go_big_quiet_step ((go_at_call 24; exact extCall0 (add_c _ _ _))))); refine wpQuiet_nil ?_; rintro w1 ⟨x9, rfl⟩
              go_wp2
              go_roundw
              case rel => exact ⟨1, by omega, rfl, Mr.mk' (by repeat (first | (with_reducible exact Mr.refl _) | (with_reducible apply Mr.drew) | (with_reducible apply Mr.alloc) | (with_reducible apply Mr.ext) | (with_reducible refine Mr.setCell ?_ (by first | (simp; done) | (simp; omega) | omega | (refine leOf0 ?_; (repeat (first | (with_reducible exact Mr.refl _) | (with_reducible apply Mr.drew) | (with_reducible apply Mr.alloc) | (with_reducible apply Mr.ext) | (with_reducible refine Mr.setCell ?_ (by first | (simp; done) | (simp; omega) | omega) _))); done) | (refine leOf ?_; (repeat (first | (with_reducible exact Mr.refl _) | (with_reducible apply Mr.drew) | (with_reducible apply Mr.alloc) | (with_reducible apply Mr.ext) | (with_reducible refine Mr.setCell ?_ (by first | (simp; done) | (simp; omega) | omega) _))); done)) _)))⟩
              case measure => simp [intOf]
            | 1, _ =>
              go_wp2
              refine wp_region_ext (by kernel_rfl) (by kernel_rfl) ?_; (repeat (go_big_quiet_step ((go_at_call 24; exact extCall0 (add_c _ _ _))))); refine wpQuiet_nil ?_; rintro w1 ⟨x9, rfl⟩
              go_wp2
              go_roundw
              case rel => exact ⟨2, by omega, rfl, Mr.mk' (by repeat (first | (with_reducible exact Mr.refl _) | (with_reducible apply Mr.drew) | (with_reducible apply Mr.alloc) | (with_reducible apply Mr.ext) | (with_reducible refine Mr.setCell ?_ (by first | (simp; done) | (simp; omega) | omega | (refine leOf0 ?_; (repeat (first | (with_reducible exact Mr.refl _) | (with_reducible apply Mr.drew) | (with_reducible apply Mr.alloc) | (with_reducible apply Mr.ext) | (with_reducible refine Mr.setCell ?_ (by first | (simp; done) | (simp; omega) | omega) _))); done) | (refine leOf ?_; (repeat (first | (with_reducible exact Mr.refl _) | (with_reducible apply Mr.drew) | (with_reducible apply Mr.alloc) | (with_reducible apply Mr.ext) | (with_reducible refine Mr.setCell ?_ (by first | (simp; done) | (simp; omega) | omega) _))); done)) _)))⟩
              case measure => simp [intOf]
            | 2, _ =>
              go_wp2
              refine wp_region_ext (by kernel_rfl) (by kernel_rfl) ?_; (repeat (go_big_quiet_step ((go_at_call 24; exact extCall0 (add_c _ _ _))))); refine wpQuiet_nil ?_; rintro w1 ⟨x9, rfl⟩
              go_wp2
              go_roundw
              case rel => exact ⟨3, by omega, rfl, Mr.mk' (by repeat (first | (with_reducible exact Mr.refl _) | (with_reducible apply Mr.drew) | (with_reducible apply Mr.alloc) | (with_reducible apply Mr.ext) | (with_reducible refine Mr.setCell ?_ (by first | (simp; done) | (simp; omega) | omega | (refine leOf0 ?_; (repeat (first | (with_reducible exact Mr.refl _) | (with_reducible apply Mr.drew) | (with_reducible apply Mr.alloc) | (with_reducible apply Mr.ext) | (with_reducible refine Mr.setCell ?_ (by first | (simp; done) | (simp; omega) | omega) _))); done) | (refine leOf ?_; (repeat (first | (with_reducible exact Mr.refl _) | (with_reducible apply Mr.drew) | (with_reducible apply Mr.alloc) | (with_reducible apply Mr.ext) | (with_reducible refine Mr.setCell ?_ (by first | (simp; done) | (simp; omega) | omega) _))); done)) _)))⟩
              case measure => simp [intOf]
            | 3, _ =>
              go_wp2
              go_ret; exact ⟨rfl, Mr.grown (by repeat (first | (with_reducible exact Mr.refl _) | (with_reducible apply Mr.drew) | (with_reducible apply Mr.alloc) | (with_reducible apply Mr.ext) | (with_reducible refine Mr.setCell ?_ (by first | (simp; done) | (simp; omega) | omega | (refine leOf0 ?_; (repeat (first | (with_reducible exact Mr.refl _) | (with_reducible apply Mr.drew) | (with_reducible apply Mr.alloc) | (with_reducible apply Mr.ext) | (with_reducible refine Mr.setCell ?_ (by first | (simp; done) | (simp; omega) | omega) _))); done) | (refine leOf ?_; (repeat (first | (with_reducible exact Mr.refl _) | (with_reducible apply Mr.drew) | (with_reducible apply Mr.alloc) | (with_reducible apply Mr.ext) | (with_reducible refine Mr.setCell ?_ (by first | (simp; done) | (simp; omega) | omega) _))); done)) _)))⟩

set_option maxRecDepth 100000 in
theorem lifted (os : Os) (started : os.Started) (H : Type) (enc : TypeId × Value → H) :
    ReturnsInHanded {} Try.checked os 5 .any (Rows.vecCrossSpec.pre6 enc Try.prog Try.f5 Rows.vecCrossRow.domain false) (Rows.vecCrossSpec.post enc Try.prog Try.f5 false true false false) := by
  refine returnsInHanded_of_change (C := Try.checked) own started (by kernel_rfl) Try.func5
    (ChangeSpec.witness6 (enc := enc) (C := Try.checked) false ⟨#[], #[.agg #[.int .i64 0, .int .i64 0, .int .i64 0], .agg #[.int .i64 0, .int .i64 0, .int .i64 0]], []⟩ 8 (by kernel_rfl) (by kernel_rfl) (by kernel_rfl) (by kernel_rfl)) ?_
  intro W base args ds gs before hval0 hW hcnd _
  have hval : ∀ (j : Nat) t v, Try.f5.params[j]? = some t → args[j]? = some v → Value.okWide Try.prog W .any base t v := hval0
  have hW' := hW
  obtain ⟨p, q, hA0, hV, rfl, hfz, hnd⟩ := hW
  have hA : DataW.TrodAll enc Try.prog W 0 (fun _ => true) true Try.f5.params.toList args.toList ds p := hA0
  rw [Try.params5] at hA hval
  obtain ⟨v0, vs0, d0, ds0, p_0, q_0, hargs, rfl, rfl, h0, r0⟩ := trodAll_cons hA
  obtain ⟨v1, vs1, d1, ds1, p_1, q_1, rfl, rfl, rfl, h1, r1⟩ := trodAll_cons r0
  obtain ⟨rfl, rfl, rfl⟩ := trodAll_nil r1
  obtain rfl : args = #[v0, v1] := by cases args; simp_all
  obtain ⟨rfl, rfl⟩ := trodVars_none hV
  obtain ⟨x0, y0, z0, rfl, rfl, rfl, wx0, wy0, wz0⟩ := Vr.open_v3 (hval 0 22 v0 rfl rfl) h0
  obtain ⟨x1, y1, z1, rfl, rfl, rfl, wx1, wy1, wz1⟩ := Vr.open_v3 (hval 1 22 v1 rfl rfl) h1
  clear hA0 hval0
  refine (walk x0 y0 z0 x1 y1 z1 W wx0 wy0 wz0 wx1 wy1 wz1).mono fun e W' ⟨he, bel⟩ => ?_
  subst he
  exact ⟨_, rfl, _, _, _, [], _, [], hW', trodAll_mk1 (shut_bool Try.underlying4 _), (trodAll_cons_mk (Vr.shut_v3 wx0 wy0 wz0) (trodAll_cons_mk (Vr.shut_v3 wx1 wy1 wz1) trodAll_mk0)), rfl, bel.frame _, fun h => by cases h⟩

theorem over : Rows.vecCrossRow.holds Try.pinned (OpenSpec.ofChange Rows.vecCrossSpec) :=
  OpenClaim.holds_of_wide 5 Try.f5 rfl rfl rfl rfl rfl rfl rfl ⟨rfl, rfl, rfl, rfl, rfl⟩ rfl rfl rfl rfl rfl (by kernel_rfl) Try.func5 (by kernel_rfl)
    (of_decide_eq_true (by kernel_rfl)) (by unfold Func.isWrapper; first | (rw [if_pos (by decide +kernel)]; kernel_rfl) | (rw [if_neg (by decide +kernel)]; exact ⟨rfl, rfl⟩))
    (fun os started H enc _ => lifted os started H enc)

theorem proved : Rows.VecCrossSaid :=
  over
#print axioms proved
end Go.Proofs.Ythogobmflinnpaa.vecCross
