/- For every three ints the law QuatSmall answers true: a small turn is a turn: of three numbers up to 2^8 its length is 1, within 2^-20, its first number above 0, and of the numbers the other way round it is the way back, within 16 of the last places. No condition. -/
import Derived.Test.YtmhdpjdkcjdipaaRows
import Derived.WalkKit
import Derived.ProofKit
import Derived.OpenShut
import Derived.ShutString
import Derived.ChangeOld
import Derived.Below
import Derived.Test.YtmhdpjdkcjdipaaQuatC2
import Derived.Test.YtmhdpjdkcjdipaaQuatR
import Derived.Test.YtmhdpjdkcjdipaaVecR
namespace Go.Proofs.Ytmhdpjdkcjdipaa.quatSmall
open Go.ChangeShapes Go.WideShapes Go.ChangeAt Go.RowKit
set_option linter.unusedVariables false
theorem own : ownKnob Try.prog.godebug = none := by kernel_rfl
theorem laidOut : laidOutB Try.prog = true := by kernel_rfl

open Go.Proofs.Ytmhdpjdkcjdipaa.Fx Go.Proofs.Ytmhdpjdkcjdipaa.Wd Go.Proofs.Ytmhdpjdkcjdipaa.Sc Go.Proofs.Ytmhdpjdkcjdipaa.Rt Go.Proofs.Ytmhdpjdkcjdipaa.Vc Go.Proofs.Ytmhdpjdkcjdipaa.Qa
attribute [local go_sem] Ext.cell Ext.froz Ext.lt Ext.lt1 Ext.lt2 Ext.lt3 Ext.all Ext.set_u drew_heap setCell_size Ext.set_size
attribute [local go_sem ↓] eq_3 e3_self eq_4 e4_self
def In (a : Int) : Prop := -1099511627776 ≤ a ∧ a ≤ 1099511627776
theorem in_or (a : Int) : 1099511627776 < a ∨ (¬ 1099511627776 < a ∧ a < -1099511627776) ∨ In a := by unfold In; omega
theorem not_out {a : Int} (h : In a) : ¬ 1099511627776 < a ∧ ¬ a < -1099511627776 := by unfold In at h; omega
set_option maxHeartbeats 4000000 in
set_option maxRecDepth 100000 in
theorem walk (x0 y0 z0 : Int) (w : World) (wx0 : (Lit.int .i64 x0).wf = true) (wy0 : (Lit.int .i64 y0).wf = true) (wz0 : (Lit.int .i64 z0).wf = true) :
    Calls Try.prog 7 #[.agg #[.int .i64 x0, .int .i64 y0, .int .i64 z0]] w fun e w' => e = .returned (.bool true) ∧ Below w.heap.size w w' := by
  have bx0 := bd wx0
  have by0 := bd wy0
  have bz0 := bd wz0
  clear wx0 wy0 wz0
  go_enter Try.func7, Try.ntmps7; go_wp2_with (first | (go_at_call 10; refine (awake9_c _).mono ?_; rintro e w' ⟨rfl, x, rfl⟩))
  go_loopw [5] (fun i wr => (i = .int .i64 0 ∧ wr = x.u.alloc (.cells #[.int .i64 0, .int .i64 0, .int .i64 0] 23) ∧ True) ∨ (i = .int .i64 1 ∧ wr = x.u.alloc (.cells #[.int .i64 (-x0), .int .i64 0, .int .i64 0] 23) ∧ In x0) ∨ (i = .int .i64 2 ∧ wr = x.u.alloc (.cells #[.int .i64 (-x0), .int .i64 (-y0), .int .i64 0] 23) ∧ (In x0 ∧ In y0)) ∨ (i = .int .i64 3 ∧ wr = x.u.alloc (.cells #[.int .i64 (-x0), .int .i64 (-y0), .int .i64 (-z0)] 23) ∧ (In x0 ∧ In y0 ∧ In z0))) (fun i _ => (3 - intOf i).toNat)
  case atStart => exact .inl ⟨rfl, rfl, trivial⟩
  case round =>
    rcases hrel with ⟨rfl, rfl, hin⟩ | ⟨rfl, rfl, hin⟩ | ⟨rfl, rfl, hin⟩ | ⟨rfl, rfl, hin⟩
    · rcases in_or x0 with hc | hc | hc
      · clear hin
        go_wp2_with fail
        go_ret; exact ⟨rfl, Mr.grown (by repeat (first | (with_reducible exact Mr.refl _) | (with_reducible apply Mr.drew) | (with_reducible apply Mr.alloc) | (with_reducible apply Mr.ext) | (with_reducible refine Mr.setCell ?_ (by first | (simp; done) | (simp; omega) | omega | (refine leOf0 ?_; (repeat (first | (with_reducible exact Mr.refl _) | (with_reducible apply Mr.drew) | (with_reducible apply Mr.alloc) | (with_reducible apply Mr.ext) | (with_reducible refine Mr.setCell ?_ (by first | (simp; done) | (simp; omega) | omega) _))); done) | (refine leOf ?_; (repeat (first | (with_reducible exact Mr.refl _) | (with_reducible apply Mr.drew) | (with_reducible apply Mr.alloc) | (with_reducible apply Mr.ext) | (with_reducible refine Mr.setCell ?_ (by first | (simp; done) | (simp; omega) | omega) _))); done)) _)))⟩
      · obtain ⟨hc, hc2⟩ := hc
        clear hin
        go_wp2_with fail
        go_ret; exact ⟨rfl, Mr.grown (by repeat (first | (with_reducible exact Mr.refl _) | (with_reducible apply Mr.drew) | (with_reducible apply Mr.alloc) | (with_reducible apply Mr.ext) | (with_reducible refine Mr.setCell ?_ (by first | (simp; done) | (simp; omega) | omega | (refine leOf0 ?_; (repeat (first | (with_reducible exact Mr.refl _) | (with_reducible apply Mr.drew) | (with_reducible apply Mr.alloc) | (with_reducible apply Mr.ext) | (with_reducible refine Mr.setCell ?_ (by first | (simp; done) | (simp; omega) | omega) _))); done) | (refine leOf ?_; (repeat (first | (with_reducible exact Mr.refl _) | (with_reducible apply Mr.drew) | (with_reducible apply Mr.alloc) | (with_reducible apply Mr.ext) | (with_reducible refine Mr.setCell ?_ (by first | (simp; done) | (simp; omega) | omega) _))); done)) _)))⟩
      · obtain ⟨hc1, hc2⟩ := not_out hc
        have hH : Hid (In x0) := hc
        have hI : Hid (True) := hin
        clear hin
        unfold In at hc
        go_wp2_with fail
        go_roundw
        case rel => exact .inr (.inl ⟨rfl, by simp [go_sem], hH.out⟩)
        case measure => simp [intOf]
    · rcases in_or y0 with hc | hc | hc
      · clear hin
        go_wp2_with fail
        go_ret; exact ⟨rfl, Mr.grown (by repeat (first | (with_reducible exact Mr.refl _) | (with_reducible apply Mr.drew) | (with_reducible apply Mr.alloc) | (with_reducible apply Mr.ext) | (with_reducible refine Mr.setCell ?_ (by first | (simp; done) | (simp; omega) | omega | (refine leOf0 ?_; (repeat (first | (with_reducible exact Mr.refl _) | (with_reducible apply Mr.drew) | (with_reducible apply Mr.alloc) | (with_reducible apply Mr.ext) | (with_reducible refine Mr.setCell ?_ (by first | (simp; done) | (simp; omega) | omega) _))); done) | (refine leOf ?_; (repeat (first | (with_reducible exact Mr.refl _) | (with_reducible apply Mr.drew) | (with_reducible apply Mr.alloc) | (with_reducible apply Mr.ext) | (with_reducible refine Mr.setCell ?_ (by first | (simp; done) | (simp; omega) | omega) _))); done)) _)))⟩
      · obtain ⟨hc, hc2⟩ := hc
        clear hin
        go_wp2_with fail
        go_ret; exact ⟨rfl, Mr.grown (by repeat (first | (with_reducible exact Mr.refl _) | (with_reducible apply Mr.drew) | (with_reducible apply Mr.alloc) | (with_reducible apply Mr.ext) | (with_reducible refine Mr.setCell ?_ (by first | (simp; done) | (simp; omega) | omega | (refine leOf0 ?_; (repeat (first | (with_reducible exact Mr.refl _) | (with_reducible apply Mr.drew) | (with_reducible apply Mr.alloc) | (with_reducible apply Mr.ext) | (with_reducible refine Mr.setCell ?_ (by first | (simp; done) | (simp; omega) | omega) _))); done) | (refine leOf ?_; (repeat (first | (with_reducible exact Mr.refl _) | (with_reducible apply Mr.drew) | (with_reducible apply Mr.alloc) | (with_reducible apply Mr.ext) | (with_reducible refine Mr.setCell ?_ (by first | (simp; done) | (simp; omega) | omega) _))); done)) _)))⟩
      · obtain ⟨hc1, hc2⟩ := not_out hc
        have hH : Hid (In y0) := hc
        have hI : Hid (In x0) := hin
        clear hin
        unfold In at hc
        go_wp2_with fail
        go_roundw
        case rel => exact .inr (.inr (.inl ⟨rfl, by simp [go_sem], ⟨hI.out, hH.out⟩⟩))
        case measure => simp [intOf]
    · rcases in_or z0 with hc | hc | hc
      · clear hin
        go_wp2_with fail
        go_ret; exact ⟨rfl, Mr.grown (by repeat (first | (with_reducible exact Mr.refl _) | (with_reducible apply Mr.drew) | (with_reducible apply Mr.alloc) | (with_reducible apply Mr.ext) | (with_reducible refine Mr.setCell ?_ (by first | (simp; done) | (simp; omega) | omega | (refine leOf0 ?_; (repeat (first | (with_reducible exact Mr.refl _) | (with_reducible apply Mr.drew) | (with_reducible apply Mr.alloc) | (with_reducible apply Mr.ext) | (with_reducible refine Mr.setCell ?_ (by first | (simp; done) | (simp; omega) | omega) _))); done) | (refine leOf ?_; (repeat (first | (with_reducible exact Mr.refl _) | (with_reducible apply Mr.drew) | (with_reducible apply Mr.alloc) | (with_reducible apply Mr.ext) | (with_reducible refine Mr.setCell ?_ (by first | (simp; done) | (simp; omega) | omega) _))); done)) _)))⟩
      · obtain ⟨hc, hc2⟩ := hc
        clear hin
        go_wp2_with fail
        go_ret; exact ⟨rfl, Mr.grown (by repeat (first | (with_reducible exact Mr.refl _) | (with_reducible apply Mr.drew) | (with_reducible apply Mr.alloc) | (with_reducible apply Mr.ext) | (with_reducible refine Mr.setCell ?_ (by first | (simp; done) | (simp; omega) | omega | (refine leOf0 ?_; (repeat (first | (with_reducible exact Mr.refl _) | (with_reducible apply Mr.drew) | (with_reducible apply Mr.alloc) | (with_reducible apply Mr.ext) | (with_reducible refine Mr.setCell ?_ (by first | (simp; done) | (simp; omega) | omega) _))); done) | (refine leOf ?_; (repeat (first | (with_reducible exact Mr.refl _) | (with_reducible apply Mr.drew) | (with_reducible apply Mr.alloc) | (with_reducible apply Mr.ext) | (with_reducible refine Mr.setCell ?_ (by first | (simp; done) | (simp; omega) | omega) _))); done)) _)))⟩
      · obtain ⟨hc1, hc2⟩ := not_out hc
        have hH : Hid (In z0) := hc
        have hI : Hid ((In x0 ∧ In y0)) := hin
        clear hin
        unfold In at hc
        go_wp2_with fail
        go_roundw
        case rel => exact .inr (.inr (.inr (⟨rfl, by simp [go_sem], ⟨hI.out.1, hI.out.2, hH.out⟩⟩)))
        case measure => simp [intOf]
    · obtain ⟨i1, i2, i3⟩ := hin
      unfold In at i1 i2 i3
      obtain ⟨q, p, hq, hp, hf, hg, Bq, Bp, lo, ⟨l1, l2⟩, qw, d0, d1, d2, d3⟩ := small_all i1 i2 i3
      obtain ⟨q0, q1, q2, q3⟩ := q
      obtain ⟨p0, p1, p2, p3⟩ := p
      simp only [Bd] at Bq Bp qw d0 d1 d2 d3
      obtain ⟨⟨e1, e2⟩, ⟨e3, e4⟩, ⟨e5, e6⟩, e7, e8⟩ := Bq
      obtain ⟨⟨e9, e10⟩, ⟨e11, e12⟩, ⟨e13, e14⟩, e15, e16⟩ := Bp
      have hQ6 : W64 ⟨q0, q1, q2, q3⟩ := by unfold W64 B64; simp only; omega
      have hb : back ⟨q0, q1, q2, q3⟩ = ⟨q0, -q1, -q2, -q3⟩ := back_cj (vals_of (by unfold Bd; simp only; omega))
      generalize hn : nv ⟨q0, q1, q2, q3⟩ = n at *
      obtain ⟨b1, c1⟩ : ∃ b, -q1 = b := ⟨_, rfl⟩
      obtain ⟨b2, c2⟩ : ∃ b, -q2 = b := ⟨_, rfl⟩
      obtain ⟨b3, c3⟩ : ∃ b, -q3 = b := ⟨_, rfl⟩
      rw [c1, c2, c3] at hb
      have g1 : -4294967296 ≤ b1 ∧ b1 ≤ 4294967296 ∧ -16 ≤ p1 - b1 ∧ p1 - b1 ≤ 16 := by omega
      have g2 : -4294967296 ≤ b2 ∧ b2 ≤ 4294967296 ∧ -16 ≤ p2 - b2 ∧ p2 - b2 ≤ 16 := by omega
      have g3 : -4294967296 ≤ b3 ∧ b3 ≤ 4294967296 ∧ -16 ≤ p3 - b3 ∧ p3 - b3 ≤ 16 := by omega
      obtain ⟨g11, g12, g13, g14⟩ := g1
      obtain ⟨g21, g22, g23, g24⟩ := g2
      obtain ⟨g31, g32, g33, g34⟩ := g3
      obtain ⟨g03, g04⟩ := d0
      clear c1 c2 c3 d1 d2 d3 i1 i2 i3
      have k1 : Unit := ()
      have k2 : Unit := ()
      go_wp2_with (first | (go_at_call 17; (have := k1; clear this k1); refine (qsmall_c hq hf).mono ?_; rintro e w' ⟨rfl, x, rfl⟩) | (go_at_call 17; (have := k2; clear this k2); refine (qsmall_c hp hg).mono ?_; rintro e w' ⟨rfl, x, rfl⟩) | (go_at_call 13; refine (qnorm_c hQ6 hn lo).mono ?_; rintro e w' ⟨rfl, x, rfl⟩) | (go_at_call 21; refine (qback_c hb).mono ?_; rintro e w' ⟨rfl, x, rfl⟩))
      go_loopw [13] (fun i wr => ∃ j : Nat, j ≤ 4 ∧ i = .int .i64 j ∧ ∃ y : Ext (x.u.alloc (.cells #[.int .i64 q0, .int .i64 b1, .int .i64 b2, .int .i64 b3] 22)), wr = y.u) (fun i _ => (4 - intOf i).toNat)
      case atStart => exact ⟨0, by omega, rfl, Mr.mk' (Mr.refl _)⟩
      case round =>
        obtain ⟨j, hj, rfl, y, rfl⟩ := hrel
        match j, hj with
        | 0, _ =>
          have v1 : decide (16 < p0 - q0) = false := decide_eq_false (by omega)
          have v2 : decide (16 < q0 - p0) = false := decide_eq_false (by omega)
          go_wp2_with fail
          refine wp_region_ext (by kernel_rfl) (by kernel_rfl) ?_
          repeat (go_big_quiet_step (fail))
          refine wpQuiet_nil ?_
          rintro w1 ⟨x9, rfl⟩
          go_wp2_with fail
          go_roundw
          case rel => exact ⟨1, by omega, rfl, Mr.mk' (by repeat (first | (with_reducible exact Mr.refl _) | (with_reducible apply Mr.drew) | (with_reducible apply Mr.alloc) | (with_reducible apply Mr.ext) | (with_reducible refine Mr.setCell ?_ (by first | (simp; done) | (simp; omega) | omega | (refine leOf0 ?_; (repeat (first | (with_reducible exact Mr.refl _) | (with_reducible apply Mr.drew) | (with_reducible apply Mr.alloc) | (with_reducible apply Mr.ext) | (with_reducible refine Mr.setCell ?_ (by first | (simp; done) | (simp; omega) | omega) _))); done) | (refine leOf ?_; (repeat (first | (with_reducible exact Mr.refl _) | (with_reducible apply Mr.drew) | (with_reducible apply Mr.alloc) | (with_reducible apply Mr.ext) | (with_reducible refine Mr.setCell ?_ (by first | (simp; done) | (simp; omega) | omega) _))); done)) _)))⟩
          case measure => simp [intOf]
        | 1, _ =>
          have v1 : decide (16 < p1 - b1) = false := decide_eq_false (by omega)
          have v2 : decide (16 < b1 - p1) = false := decide_eq_false (by omega)
          go_wp2_with fail
          refine wp_region_ext (by kernel_rfl) (by kernel_rfl) ?_
          repeat (go_big_quiet_step (fail))
          refine wpQuiet_nil ?_
          rintro w1 ⟨x9, rfl⟩
          go_wp2_with fail
          go_roundw
          case rel => exact ⟨2, by omega, rfl, Mr.mk' (by repeat (first | (with_reducible exact Mr.refl _) | (with_reducible apply Mr.drew) | (with_reducible apply Mr.alloc) | (with_reducible apply Mr.ext) | (with_reducible refine Mr.setCell ?_ (by first | (simp; done) | (simp; omega) | omega | (refine leOf0 ?_; (repeat (first | (with_reducible exact Mr.refl _) | (with_reducible apply Mr.drew) | (with_reducible apply Mr.alloc) | (with_reducible apply Mr.ext) | (with_reducible refine Mr.setCell ?_ (by first | (simp; done) | (simp; omega) | omega) _))); done) | (refine leOf ?_; (repeat (first | (with_reducible exact Mr.refl _) | (with_reducible apply Mr.drew) | (with_reducible apply Mr.alloc) | (with_reducible apply Mr.ext) | (with_reducible refine Mr.setCell ?_ (by first | (simp; done) | (simp; omega) | omega) _))); done)) _)))⟩
          case measure => simp [intOf]
        | 2, _ =>
          have v1 : decide (16 < p2 - b2) = false := decide_eq_false (by omega)
          have v2 : decide (16 < b2 - p2) = false := decide_eq_false (by omega)
          go_wp2_with fail
          refine wp_region_ext (by kernel_rfl) (by kernel_rfl) ?_
          repeat (go_big_quiet_step (fail))
          refine wpQuiet_nil ?_
          rintro w1 ⟨x9, rfl⟩
          go_wp2_with fail
          go_roundw
          case rel => exact ⟨3, by omega, rfl, Mr.mk' (by repeat (first | (with_reducible exact Mr.refl _) | (with_reducible apply Mr.drew) | (with_reducible apply Mr.alloc) | (with_reducible apply Mr.ext) | (with_reducible refine Mr.setCell ?_ (by first | (simp; done) | (simp; omega) | omega | (refine leOf0 ?_; (repeat (first | (with_reducible exact Mr.refl _) | (with_reducible apply Mr.drew) | (with_reducible apply Mr.alloc) | (with_reducible apply Mr.ext) | (with_reducible refine Mr.setCell ?_ (by first | (simp; done) | (simp; omega) | omega) _))); done) | (refine leOf ?_; (repeat (first | (with_reducible exact Mr.refl _) | (with_reducible apply Mr.drew) | (with_reducible apply Mr.alloc) | (with_reducible apply Mr.ext) | (with_reducible refine Mr.setCell ?_ (by first | (simp; done) | (simp; omega) | omega) _))); done)) _)))⟩
          case measure => simp [intOf]
        | 3, _ =>
          have v1 : decide (16 < p3 - b3) = false := decide_eq_false (by omega)
          have v2 : decide (16 < b3 - p3) = false := decide_eq_false (by omega)
          go_wp2_with fail
          refine wp_region_ext (by kernel_rfl) (by kernel_rfl) ?_
          repeat (go_big_quiet_step (fail))
          refine wpQuiet_nil ?_
          rintro w1 ⟨x9, rfl⟩
          go_wp2_with fail
          go_roundw
          case rel => exact ⟨4, by omega, rfl, Mr.mk' (by repeat (first | (with_reducible exact Mr.refl _) | (with_reducible apply Mr.drew) | (with_reducible apply Mr.alloc) | (with_reducible apply Mr.ext) | (with_reducible refine Mr.setCell ?_ (by first | (simp; done) | (simp; omega) | omega | (refine leOf0 ?_; (repeat (first | (with_reducible exact Mr.refl _) | (with_reducible apply Mr.drew) | (with_reducible apply Mr.alloc) | (with_reducible apply Mr.ext) | (with_reducible refine Mr.setCell ?_ (by first | (simp; done) | (simp; omega) | omega) _))); done) | (refine leOf ?_; (repeat (first | (with_reducible exact Mr.refl _) | (with_reducible apply Mr.drew) | (with_reducible apply Mr.alloc) | (with_reducible apply Mr.ext) | (with_reducible refine Mr.setCell ?_ (by first | (simp; done) | (simp; omega) | omega) _))); done)) _)))⟩
          case measure => simp [intOf]
        | 4, _ =>
          have v3 : n ≤ 4294971392 := l2
          have v4 : 4294963200 ≤ n := l1
          go_wp2_with fail
          go_ret; exact ⟨rfl, Mr.grown (by repeat (first | (with_reducible exact Mr.refl _) | (with_reducible apply Mr.drew) | (with_reducible apply Mr.alloc) | (with_reducible apply Mr.ext) | (with_reducible refine Mr.setCell ?_ (by first | (simp; done) | (simp; omega) | omega | (refine leOf0 ?_; (repeat (first | (with_reducible exact Mr.refl _) | (with_reducible apply Mr.drew) | (with_reducible apply Mr.alloc) | (with_reducible apply Mr.ext) | (with_reducible refine Mr.setCell ?_ (by first | (simp; done) | (simp; omega) | omega) _))); done) | (refine leOf ?_; (repeat (first | (with_reducible exact Mr.refl _) | (with_reducible apply Mr.drew) | (with_reducible apply Mr.alloc) | (with_reducible apply Mr.ext) | (with_reducible refine Mr.setCell ?_ (by first | (simp; done) | (simp; omega) | omega) _))); done)) _)))⟩

set_option maxRecDepth 100000 in
theorem lifted (os : Os) (started : os.Started) (H : Type) (enc : TypeId × Value → H) :
    ReturnsInHanded {} Try.checked os 7 .any (Rows.quatSmallSpec.pre6 enc Try.prog Try.f7 Rows.quatSmallRow.domain false) (Rows.quatSmallSpec.post enc Try.prog Try.f7 false true false false) := by
  refine returnsInHanded_of_change (C := Try.checked) own started (by kernel_rfl) Try.func7
    (ChangeSpec.witness6 (enc := enc) (C := Try.checked) false ⟨#[], #[.agg #[.int .i64 0, .int .i64 0, .int .i64 0]], []⟩ 8 (by kernel_rfl) (by kernel_rfl) (by kernel_rfl) (by kernel_rfl)) ?_
  intro W base args ds gs before hval0 hW hcnd _
  have hval : ∀ (j : Nat) t v, Try.f7.params[j]? = some t → args[j]? = some v → Value.okWide Try.prog W .any base t v := hval0
  have hW' := hW
  obtain ⟨p, q, hA0, hV, rfl, hfz, hnd⟩ := hW
  have hA : DataW.TrodAll enc Try.prog W 0 (fun _ => true) true Try.f7.params.toList args.toList ds p := hA0
  rw [Try.params7] at hA hval
  obtain ⟨v0, vs0, d0, ds0, p_0, q_0, hargs, rfl, rfl, h0, r0⟩ := trodAll_cons hA
  obtain ⟨rfl, rfl, rfl⟩ := trodAll_nil r0
  obtain rfl : args = #[v0] := by cases args; simp_all
  obtain ⟨rfl, rfl⟩ := trodVars_none hV
  obtain ⟨x0, y0, z0, rfl, rfl, rfl, wx0, wy0, wz0⟩ := Vr.open_v3 (hval 0 23 v0 rfl rfl) h0
  clear hA0 hval0
  refine (walk x0 y0 z0 W wx0 wy0 wz0).mono fun e W' ⟨he, bel⟩ => ?_
  subst he
  exact ⟨_, rfl, _, _, _, [], _, [], hW', trodAll_mk1 (shut_bool Try.underlying4 _), (trodAll_cons_mk (Vr.shut_v3 wx0 wy0 wz0) trodAll_mk0), rfl, bel.frame _, fun h => by cases h⟩

theorem over : Rows.quatSmallRow.holds Try.pinned (OpenSpec.ofChange Rows.quatSmallSpec) :=
  OpenClaim.holds_of_wide 7 Try.f7 rfl rfl rfl rfl rfl rfl rfl ⟨rfl, rfl, rfl, rfl, rfl⟩ rfl rfl rfl rfl rfl (by kernel_rfl) Try.func7 (by kernel_rfl)
    (of_decide_eq_true (by kernel_rfl)) (by unfold Func.isWrapper; first | (rw [if_pos (by decide +kernel)]; kernel_rfl) | (rw [if_neg (by decide +kernel)]; exact ⟨rfl, rfl⟩))
    (fun os started H enc _ => lifted os started H enc)

theorem proved : Rows.QuatSmallSaid :=
  over
#print axioms proved
end Go.Proofs.Ytmhdpjdkcjdipaa.quatSmall
