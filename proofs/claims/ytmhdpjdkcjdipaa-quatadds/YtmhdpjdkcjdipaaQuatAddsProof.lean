/- For every four ints and every two threes of ints the law QuatAdds answers true: what adds up turns as it adds up, within 16 of the last places, of a turn up to 1 without its sign and two directions up to 2^12. No condition. -/
import Derived.Test.YtmhdpjdkcjdipaaRows
import Derived.WalkKit
import Derived.ProofKit
import Derived.OpenShut
import Derived.ShutString
import Derived.ChangeOld
import Derived.Below
import Derived.Test.YtmhdpjdkcjdipaaQuatC2
import Derived.Test.YtmhdpjdkcjdipaaQuatR
import Derived.Test.YtmhdpjdkcjdipaaVecR
import Derived.Test.YtmhdpjdkcjdipaaRefC11
namespace Go.Proofs.Ytmhdpjdkcjdipaa.quatAdds
open Go.ChangeShapes Go.WideShapes Go.ChangeAt Go.RowKit
set_option linter.unusedVariables false
theorem own : ownKnob Try.prog.godebug = none := by kernel_rfl
theorem laidOut : laidOutB Try.prog = true := by kernel_rfl

open Go.Proofs.Ytmhdpjdkcjdipaa.Fx Go.Proofs.Ytmhdpjdkcjdipaa.Wd Go.Proofs.Ytmhdpjdkcjdipaa.Sc Go.Proofs.Ytmhdpjdkcjdipaa.Rt Go.Proofs.Ytmhdpjdkcjdipaa.Vc Go.Proofs.Ytmhdpjdkcjdipaa.Qa
attribute [local go_sem] Ext.cell Ext.froz Ext.lt Ext.lt1 Ext.lt2 Ext.lt3 Ext.all Ext.set_u drew_heap setCell_size Ext.set_size
attribute [local go_sem ↓] eq_3 e3_self eq_4 e4_self
theorem mr_set1 {V V' W : World} (X : Ext W) {a : Addr} {p : Value} (h : Mr V X.u) (e : V.setCell a p = V') : Mr V' (X.set a p).u := by
  rw [← e]
  exact h.both a p
def I1 (a : Int) : Prop := -4294967296 ≤ a ∧ a ≤ 4294967296
theorem I1_or (a : Int) : 4294967296 < a ∨ (¬ 4294967296 < a ∧ a < -4294967296) ∨ (I1 a ∧ ¬ 4294967296 < a ∧ ¬ a < -4294967296) := by unfold I1; omega
def I2 (a b : Int) : Prop := (-17592186044416 ≤ a ∧ a ≤ 17592186044416) ∧ (-17592186044416 ≤ b ∧ b ≤ 17592186044416)
theorem I2_or (a b : Int) : 17592186044416 < a ∨ (¬ 17592186044416 < a ∧ a < -17592186044416) ∨ (¬ 17592186044416 < a ∧ ¬ a < -17592186044416 ∧ 17592186044416 < b) ∨ (¬ 17592186044416 < a ∧ ¬ a < -17592186044416 ∧ ¬ 17592186044416 < b ∧ b < -17592186044416) ∨ (I2 a b ∧ ¬ 17592186044416 < a ∧ ¬ a < -17592186044416 ∧ ¬ 17592186044416 < b ∧ ¬ b < -17592186044416) := by unfold I2; omega
set_option maxHeartbeats 4000000 in
set_option maxRecDepth 100000 in
theorem walk (t0 x0 y0 z0 : Int) (x1 y1 z1 : Int) (x2 y2 z2 : Int) (w : World) (wt0 : (Lit.int .i64 t0).wf = true) (wx0 : (Lit.int .i64 x0).wf = true) (wy0 : (Lit.int .i64 y0).wf = true) (wz0 : (Lit.int .i64 z0).wf = true) (wx1 : (Lit.int .i64 x1).wf = true) (wy1 : (Lit.int .i64 y1).wf = true) (wz1 : (Lit.int .i64 z1).wf = true) (wx2 : (Lit.int .i64 x2).wf = true) (wy2 : (Lit.int .i64 y2).wf = true) (wz2 : (Lit.int .i64 z2).wf = true) :
    Calls Try.prog 9 #[.agg #[.int .i64 t0, .int .i64 x0, .int .i64 y0, .int .i64 z0], .agg #[.int .i64 x1, .int .i64 y1, .int .i64 z1], .agg #[.int .i64 x2, .int .i64 y2, .int .i64 z2]] w fun e w' => e = .returned (.bool true) ∧ Below w.heap.size w w' := by
  have hA : W64 ⟨t0, x0, y0, z0⟩ := ⟨bd wt0, bd wx0, bd wy0, bd wz0⟩
  clear wt0 wx0 wy0 wz0 wx1 wy1 wz1 wx2 wy2 wz2
  go_enter Try.func9, Try.ntmps9; go_wp2_with (first | (go_at_call 10; refine (awake9_c _).mono ?_; rintro e w' ⟨rfl, x, rfl⟩))
  go_loopw [9] (fun i wr => (i = .int .i64 0 ∧ wr = x.u.alloc (.cells #[.int .i64 0, .int .i64 0, .int .i64 0] 23) ∧ Hid True) ∨ (i = .int .i64 1 ∧ wr = x.u.alloc (.cells #[.int .i64 0, .int .i64 0, .int .i64 0] 23) ∧ Hid (I1 t0)) ∨ (i = .int .i64 2 ∧ wr = x.u.alloc (.cells #[.int .i64 0, .int .i64 0, .int .i64 0] 23) ∧ Hid (I1 t0 ∧ I1 x0)) ∨ (i = .int .i64 3 ∧ wr = x.u.alloc (.cells #[.int .i64 0, .int .i64 0, .int .i64 0] 23) ∧ Hid (I1 t0 ∧ I1 x0 ∧ I1 y0)) ∨ (i = .int .i64 4 ∧ wr = x.u.alloc (.cells #[.int .i64 0, .int .i64 0, .int .i64 0] 23) ∧ Hid (I1 t0 ∧ I1 x0 ∧ I1 y0 ∧ I1 z0))) (fun i _ => (4 - intOf i).toNat)
  case atStart => exact .inl ⟨rfl, rfl, trivial⟩
  case round =>
    rcases hrel with ⟨rfl, rfl, hI⟩ | ⟨rfl, rfl, hI⟩ | ⟨rfl, rfl, hI⟩ | ⟨rfl, rfl, hI⟩ | ⟨rfl, rfl, hI⟩
    · rcases I1_or t0 with h1 | ⟨h1, h2⟩ | ⟨hc, h1, h2⟩
      · go_wp2_with fail
        go_ret; exact ⟨rfl, Mr.grown (by repeat (first | (with_reducible exact Mr.refl _) | (with_reducible apply Mr.drew) | (with_reducible apply Mr.alloc) | (with_reducible apply Mr.ext) | (with_reducible refine Mr.setCell ?_ (by first | (simp; done) | (simp; omega) | omega | (refine leOf0 ?_; (repeat (first | (with_reducible exact Mr.refl _) | (with_reducible apply Mr.drew) | (with_reducible apply Mr.alloc) | (with_reducible apply Mr.ext) | (with_reducible refine Mr.setCell ?_ (by first | (simp; done) | (simp; omega) | omega) _))); done) | (refine leOf ?_; (repeat (first | (with_reducible exact Mr.refl _) | (with_reducible apply Mr.drew) | (with_reducible apply Mr.alloc) | (with_reducible apply Mr.ext) | (with_reducible refine Mr.setCell ?_ (by first | (simp; done) | (simp; omega) | omega) _))); done)) _)))⟩
      · go_wp2_with fail
        go_ret; exact ⟨rfl, Mr.grown (by repeat (first | (with_reducible exact Mr.refl _) | (with_reducible apply Mr.drew) | (with_reducible apply Mr.alloc) | (with_reducible apply Mr.ext) | (with_reducible refine Mr.setCell ?_ (by first | (simp; done) | (simp; omega) | omega | (refine leOf0 ?_; (repeat (first | (with_reducible exact Mr.refl _) | (with_reducible apply Mr.drew) | (with_reducible apply Mr.alloc) | (with_reducible apply Mr.ext) | (with_reducible refine Mr.setCell ?_ (by first | (simp; done) | (simp; omega) | omega) _))); done) | (refine leOf ?_; (repeat (first | (with_reducible exact Mr.refl _) | (with_reducible apply Mr.drew) | (with_reducible apply Mr.alloc) | (with_reducible apply Mr.ext) | (with_reducible refine Mr.setCell ?_ (by first | (simp; done) | (simp; omega) | omega) _))); done)) _)))⟩
      · replace hc : Hid (I1 t0) := hc
        go_wp2_with fail
        go_roundw
        case rel => exact .inr (.inl ⟨rfl, by first | rfl | trivial, hc.out⟩)
        case measure => simp [intOf]
    · rcases I1_or x0 with h1 | ⟨h1, h2⟩ | ⟨hc, h1, h2⟩
      · go_wp2_with fail
        go_ret; exact ⟨rfl, Mr.grown (by repeat (first | (with_reducible exact Mr.refl _) | (with_reducible apply Mr.drew) | (with_reducible apply Mr.alloc) | (with_reducible apply Mr.ext) | (with_reducible refine Mr.setCell ?_ (by first | (simp; done) | (simp; omega) | omega | (refine leOf0 ?_; (repeat (first | (with_reducible exact Mr.refl _) | (with_reducible apply Mr.drew) | (with_reducible apply Mr.alloc) | (with_reducible apply Mr.ext) | (with_reducible refine Mr.setCell ?_ (by first | (simp; done) | (simp; omega) | omega) _))); done) | (refine leOf ?_; (repeat (first | (with_reducible exact Mr.refl _) | (with_reducible apply Mr.drew) | (with_reducible apply Mr.alloc) | (with_reducible apply Mr.ext) | (with_reducible refine Mr.setCell ?_ (by first | (simp; done) | (simp; omega) | omega) _))); done)) _)))⟩
      · go_wp2_with fail
        go_ret; exact ⟨rfl, Mr.grown (by repeat (first | (with_reducible exact Mr.refl _) | (with_reducible apply Mr.drew) | (with_reducible apply Mr.alloc) | (with_reducible apply Mr.ext) | (with_reducible refine Mr.setCell ?_ (by first | (simp; done) | (simp; omega) | omega | (refine leOf0 ?_; (repeat (first | (with_reducible exact Mr.refl _) | (with_reducible apply Mr.drew) | (with_reducible apply Mr.alloc) | (with_reducible apply Mr.ext) | (with_reducible refine Mr.setCell ?_ (by first | (simp; done) | (simp; omega) | omega) _))); done) | (refine leOf ?_; (repeat (first | (with_reducible exact Mr.refl _) | (with_reducible apply Mr.drew) | (with_reducible apply Mr.alloc) | (with_reducible apply Mr.ext) | (with_reducible refine Mr.setCell ?_ (by first | (simp; done) | (simp; omega) | omega) _))); done)) _)))⟩
      · replace hc : Hid (I1 x0) := hc
        go_wp2_with fail
        go_roundw
        case rel => exact .inr (.inr (.inl ⟨rfl, by first | rfl | trivial, ⟨hI.out, hc.out⟩⟩))
        case measure => simp [intOf]
    · rcases I1_or y0 with h1 | ⟨h1, h2⟩ | ⟨hc, h1, h2⟩
      · go_wp2_with fail
        go_ret; exact ⟨rfl, Mr.grown (by repeat (first | (with_reducible exact Mr.refl _) | (with_reducible apply Mr.drew) | (with_reducible apply Mr.alloc) | (with_reducible apply Mr.ext) | (with_reducible refine Mr.setCell ?_ (by first | (simp; done) | (simp; omega) | omega | (refine leOf0 ?_; (repeat (first | (with_reducible exact Mr.refl _) | (with_reducible apply Mr.drew) | (with_reducible apply Mr.alloc) | (with_reducible apply Mr.ext) | (with_reducible refine Mr.setCell ?_ (by first | (simp; done) | (simp; omega) | omega) _))); done) | (refine leOf ?_; (repeat (first | (with_reducible exact Mr.refl _) | (with_reducible apply Mr.drew) | (with_reducible apply Mr.alloc) | (with_reducible apply Mr.ext) | (with_reducible refine Mr.setCell ?_ (by first | (simp; done) | (simp; omega) | omega) _))); done)) _)))⟩
      · go_wp2_with fail
        go_ret; exact ⟨rfl, Mr.grown (by repeat (first | (with_reducible exact Mr.refl _) | (with_reducible apply Mr.drew) | (with_reducible apply Mr.alloc) | (with_reducible apply Mr.ext) | (with_reducible refine Mr.setCell ?_ (by first | (simp; done) | (simp; omega) | omega | (refine leOf0 ?_; (repeat (first | (with_reducible exact Mr.refl _) | (with_reducible apply Mr.drew) | (with_reducible apply Mr.alloc) | (with_reducible apply Mr.ext) | (with_reducible refine Mr.setCell ?_ (by first | (simp; done) | (simp; omega) | omega) _))); done) | (refine leOf ?_; (repeat (first | (with_reducible exact Mr.refl _) | (with_reducible apply Mr.drew) | (with_reducible apply Mr.alloc) | (with_reducible apply Mr.ext) | (with_reducible refine Mr.setCell ?_ (by first | (simp; done) | (simp; omega) | omega) _))); done)) _)))⟩
      · replace hc : Hid (I1 y0) := hc
        go_wp2_with fail
        go_roundw
        case rel => exact .inr (.inr (.inr (.inl ⟨rfl, by first | rfl | trivial, ⟨hI.out.1, hI.out.2, hc.out⟩⟩)))
        case measure => simp [intOf]
    · rcases I1_or z0 with h1 | ⟨h1, h2⟩ | ⟨hc, h1, h2⟩
      · go_wp2_with fail
        go_ret; exact ⟨rfl, Mr.grown (by repeat (first | (with_reducible exact Mr.refl _) | (with_reducible apply Mr.drew) | (with_reducible apply Mr.alloc) | (with_reducible apply Mr.ext) | (with_reducible refine Mr.setCell ?_ (by first | (simp; done) | (simp; omega) | omega | (refine leOf0 ?_; (repeat (first | (with_reducible exact Mr.refl _) | (with_reducible apply Mr.drew) | (with_reducible apply Mr.alloc) | (with_reducible apply Mr.ext) | (with_reducible refine Mr.setCell ?_ (by first | (simp; done) | (simp; omega) | omega) _))); done) | (refine leOf ?_; (repeat (first | (with_reducible exact Mr.refl _) | (with_reducible apply Mr.drew) | (with_reducible apply Mr.alloc) | (with_reducible apply Mr.ext) | (with_reducible refine Mr.setCell ?_ (by first | (simp; done) | (simp; omega) | omega) _))); done)) _)))⟩
      · go_wp2_with fail
        go_ret; exact ⟨rfl, Mr.grown (by repeat (first | (with_reducible exact Mr.refl _) | (with_reducible apply Mr.drew) | (with_reducible apply Mr.alloc) | (with_reducible apply Mr.ext) | (with_reducible refine Mr.setCell ?_ (by first | (simp; done) | (simp; omega) | omega | (refine leOf0 ?_; (repeat (first | (with_reducible exact Mr.refl _) | (with_reducible apply Mr.drew) | (with_reducible apply Mr.alloc) | (with_reducible apply Mr.ext) | (with_reducible refine Mr.setCell ?_ (by first | (simp; done) | (simp; omega) | omega) _))); done) | (refine leOf ?_; (repeat (first | (with_reducible exact Mr.refl _) | (with_reducible apply Mr.drew) | (with_reducible apply Mr.alloc) | (with_reducible apply Mr.ext) | (with_reducible refine Mr.setCell ?_ (by first | (simp; done) | (simp; omega) | omega) _))); done)) _)))⟩
      · replace hc : Hid (I1 z0) := hc
        go_wp2_with fail
        go_roundw
        case rel => exact .inr (.inr (.inr (.inr (⟨rfl, by first | rfl | trivial, ⟨hI.out.1, hI.out.2.1, hI.out.2.2, hc.out⟩⟩))))
        case measure => simp [intOf]
    · go_wp2_with fail
      go_loopw [10] (fun i wr => (i = .int .i64 0 ∧ (∃ y : Ext (x.u.alloc (.cells #[.int .i64 0, .int .i64 0, .int .i64 0] 23)), wr = y.u) ∧ Hid True) ∨ (i = .int .i64 1 ∧ (∃ y : Ext (x.u.alloc (.cells #[.int .i64 (x1 + x2), .int .i64 0, .int .i64 0] 23)), wr = y.u) ∧ Hid (I2 x1 x2)) ∨ (i = .int .i64 2 ∧ (∃ y : Ext (x.u.alloc (.cells #[.int .i64 (x1 + x2), .int .i64 (y1 + y2), .int .i64 0] 23)), wr = y.u) ∧ Hid (I2 x1 x2 ∧ I2 y1 y2)) ∨ (i = .int .i64 3 ∧ (∃ y : Ext (x.u.alloc (.cells #[.int .i64 (x1 + x2), .int .i64 (y1 + y2), .int .i64 (z1 + z2)] 23)), wr = y.u) ∧ Hid (I2 x1 x2 ∧ I2 y1 y2 ∧ I2 z1 z2))) (fun i _ => (3 - intOf i).toNat)
      case atStart => exact .inl ⟨rfl, Mr.mk' (Mr.refl _), trivial⟩
      case round =>
        rcases hrel with ⟨rfl, ⟨y, rfl⟩, hJ⟩ | ⟨rfl, ⟨y, rfl⟩, hJ⟩ | ⟨rfl, ⟨y, rfl⟩, hJ⟩ | ⟨rfl, ⟨y, rfl⟩, hJ⟩
        · rcases I2_or x1 x2 with h1 | ⟨h1, h2⟩ | ⟨h1, h2, h3⟩ | ⟨h1, h2, h3, h4⟩ | ⟨hc, h1, h2, h3, h4⟩
          · go_wp2_with fail
            go_ret; exact ⟨rfl, Mr.grown (by repeat (first | (with_reducible exact Mr.refl _) | (with_reducible apply Mr.drew) | (with_reducible apply Mr.alloc) | (with_reducible apply Mr.ext) | (with_reducible refine Mr.setCell ?_ (by first | (simp; done) | (simp; omega) | omega | (refine leOf0 ?_; (repeat (first | (with_reducible exact Mr.refl _) | (with_reducible apply Mr.drew) | (with_reducible apply Mr.alloc) | (with_reducible apply Mr.ext) | (with_reducible refine Mr.setCell ?_ (by first | (simp; done) | (simp; omega) | omega) _))); done) | (refine leOf ?_; (repeat (first | (with_reducible exact Mr.refl _) | (with_reducible apply Mr.drew) | (with_reducible apply Mr.alloc) | (with_reducible apply Mr.ext) | (with_reducible refine Mr.setCell ?_ (by first | (simp; done) | (simp; omega) | omega) _))); done)) _)))⟩
          · go_wp2_with fail
            go_ret; exact ⟨rfl, Mr.grown (by repeat (first | (with_reducible exact Mr.refl _) | (with_reducible apply Mr.drew) | (with_reducible apply Mr.alloc) | (with_reducible apply Mr.ext) | (with_reducible refine Mr.setCell ?_ (by first | (simp; done) | (simp; omega) | omega | (refine leOf0 ?_; (repeat (first | (with_reducible exact Mr.refl _) | (with_reducible apply Mr.drew) | (with_reducible apply Mr.alloc) | (with_reducible apply Mr.ext) | (with_reducible refine Mr.setCell ?_ (by first | (simp; done) | (simp; omega) | omega) _))); done) | (refine leOf ?_; (repeat (first | (with_reducible exact Mr.refl _) | (with_reducible apply Mr.drew) | (with_reducible apply Mr.alloc) | (with_reducible apply Mr.ext) | (with_reducible refine Mr.setCell ?_ (by first | (simp; done) | (simp; omega) | omega) _))); done)) _)))⟩
          · go_wp2_with fail
            go_ret; exact ⟨rfl, Mr.grown (by repeat (first | (with_reducible exact Mr.refl _) | (with_reducible apply Mr.drew) | (with_reducible apply Mr.alloc) | (with_reducible apply Mr.ext) | (with_reducible refine Mr.setCell ?_ (by first | (simp; done) | (simp; omega) | omega | (refine leOf0 ?_; (repeat (first | (with_reducible exact Mr.refl _) | (with_reducible apply Mr.drew) | (with_reducible apply Mr.alloc) | (with_reducible apply Mr.ext) | (with_reducible refine Mr.setCell ?_ (by first | (simp; done) | (simp; omega) | omega) _))); done) | (refine leOf ?_; (repeat (first | (with_reducible exact Mr.refl _) | (with_reducible apply Mr.drew) | (with_reducible apply Mr.alloc) | (with_reducible apply Mr.ext) | (with_reducible refine Mr.setCell ?_ (by first | (simp; done) | (simp; omega) | omega) _))); done)) _)))⟩
          · go_wp2_with fail
            go_ret; exact ⟨rfl, Mr.grown (by repeat (first | (with_reducible exact Mr.refl _) | (with_reducible apply Mr.drew) | (with_reducible apply Mr.alloc) | (with_reducible apply Mr.ext) | (with_reducible refine Mr.setCell ?_ (by first | (simp; done) | (simp; omega) | omega | (refine leOf0 ?_; (repeat (first | (with_reducible exact Mr.refl _) | (with_reducible apply Mr.drew) | (with_reducible apply Mr.alloc) | (with_reducible apply Mr.ext) | (with_reducible refine Mr.setCell ?_ (by first | (simp; done) | (simp; omega) | omega) _))); done) | (refine leOf ?_; (repeat (first | (with_reducible exact Mr.refl _) | (with_reducible apply Mr.drew) | (with_reducible apply Mr.alloc) | (with_reducible apply Mr.ext) | (with_reducible refine Mr.setCell ?_ (by first | (simp; done) | (simp; omega) | omega) _))); done)) _)))⟩
          · replace hc : Hid (I2 x1 x2) := hc
            have s1 : -35184372088832 ≤ x1 + x2 := by omega
            have s2 : x1 + x2 ≤ 35184372088832 := by omega
            go_wp2_with fail
            go_region_held3 (fun w' => w'.cell? ⟨w.heap.size + 1, 0, none⟩ = some (.int .i64 x1) ∧ w'.cell? ⟨w.heap.size + 1 + 1, 0, none⟩ = some (.int .i64 x2)) ((simp [go_sem]; done)) (fail)
            all_goals
              go_wp2_with fail
              go_roundw
              case rel => exact .inr (.inl ⟨rfl, Mr.mk' (by (try with_reducible apply Mr.drew); exact mr_set1 (V := x.u.alloc (.cells #[.int .i64 0, .int .i64 0, .int .i64 0] 23)) _ (by repeat (first | (with_reducible exact Mr.refl _) | (with_reducible apply Mr.drew) | (with_reducible apply Mr.alloc) | (with_reducible apply Mr.ext) | (with_reducible refine Mr.setCell ?_ (by first | (simp; done) | (simp; omega) | omega | (refine leOf0 ?_; (repeat (first | (with_reducible exact Mr.refl _) | (with_reducible apply Mr.drew) | (with_reducible apply Mr.alloc) | (with_reducible apply Mr.ext) | (with_reducible refine Mr.setCell ?_ (by first | (simp; done) | (simp; omega) | omega) _))); done) | (refine leOf ?_; (repeat (first | (with_reducible exact Mr.refl _) | (with_reducible apply Mr.drew) | (with_reducible apply Mr.alloc) | (with_reducible apply Mr.ext) | (with_reducible refine Mr.setCell ?_ (by first | (simp; done) | (simp; omega) | omega) _))); done)) _))) (by have hw : IntKind.i64.wrap (x1 + x2) = x1 + x2 := (by rw [IntKind.wrap_i64]; omega); simp [go_sem, hw])), hc.out⟩)
              case measure => simp [intOf]
        · rcases I2_or y1 y2 with h1 | ⟨h1, h2⟩ | ⟨h1, h2, h3⟩ | ⟨h1, h2, h3, h4⟩ | ⟨hc, h1, h2, h3, h4⟩
          · go_wp2_with fail
            go_ret; exact ⟨rfl, Mr.grown (by repeat (first | (with_reducible exact Mr.refl _) | (with_reducible apply Mr.drew) | (with_reducible apply Mr.alloc) | (with_reducible apply Mr.ext) | (with_reducible refine Mr.setCell ?_ (by first | (simp; done) | (simp; omega) | omega | (refine leOf0 ?_; (repeat (first | (with_reducible exact Mr.refl _) | (with_reducible apply Mr.drew) | (with_reducible apply Mr.alloc) | (with_reducible apply Mr.ext) | (with_reducible refine Mr.setCell ?_ (by first | (simp; done) | (simp; omega) | omega) _))); done) | (refine leOf ?_; (repeat (first | (with_reducible exact Mr.refl _) | (with_reducible apply Mr.drew) | (with_reducible apply Mr.alloc) | (with_reducible apply Mr.ext) | (with_reducible refine Mr.setCell ?_ (by first | (simp; done) | (simp; omega) | omega) _))); done)) _)))⟩
          · go_wp2_with fail
            go_ret; exact ⟨rfl, Mr.grown (by repeat (first | (with_reducible exact Mr.refl _) | (with_reducible apply Mr.drew) | (with_reducible apply Mr.alloc) | (with_reducible apply Mr.ext) | (with_reducible refine Mr.setCell ?_ (by first | (simp; done) | (simp; omega) | omega | (refine leOf0 ?_; (repeat (first | (with_reducible exact Mr.refl _) | (with_reducible apply Mr.drew) | (with_reducible apply Mr.alloc) | (with_reducible apply Mr.ext) | (with_reducible refine Mr.setCell ?_ (by first | (simp; done) | (simp; omega) | omega) _))); done) | (refine leOf ?_; (repeat (first | (with_reducible exact Mr.refl _) | (with_reducible apply Mr.drew) | (with_reducible apply Mr.alloc) | (with_reducible apply Mr.ext) | (with_reducible refine Mr.setCell ?_ (by first | (simp; done) | (simp; omega) | omega) _))); done)) _)))⟩
          · go_wp2_with fail
            go_ret; exact ⟨rfl, Mr.grown (by repeat (first | (with_reducible exact Mr.refl _) | (with_reducible apply Mr.drew) | (with_reducible apply Mr.alloc) | (with_reducible apply Mr.ext) | (with_reducible refine Mr.setCell ?_ (by first | (simp; done) | (simp; omega) | omega | (refine leOf0 ?_; (repeat (first | (with_reducible exact Mr.refl _) | (with_reducible apply Mr.drew) | (with_reducible apply Mr.alloc) | (with_reducible apply Mr.ext) | (with_reducible refine Mr.setCell ?_ (by first | (simp; done) | (simp; omega) | omega) _))); done) | (refine leOf ?_; (repeat (first | (with_reducible exact Mr.refl _) | (with_reducible apply Mr.drew) | (with_reducible apply Mr.alloc) | (with_reducible apply Mr.ext) | (with_reducible refine Mr.setCell ?_ (by first | (simp; done) | (simp; omega) | omega) _))); done)) _)))⟩
          · go_wp2_with fail
            go_ret; exact ⟨rfl, Mr.grown (by repeat (first | (with_reducible exact Mr.refl _) | (with_reducible apply Mr.drew) | (with_reducible apply Mr.alloc) | (with_reducible apply Mr.ext) | (with_reducible refine Mr.setCell ?_ (by first | (simp; done) | (simp; omega) | omega | (refine leOf0 ?_; (repeat (first | (with_reducible exact Mr.refl _) | (with_reducible apply Mr.drew) | (with_reducible apply Mr.alloc) | (with_reducible apply Mr.ext) | (with_reducible refine Mr.setCell ?_ (by first | (simp; done) | (simp; omega) | omega) _))); done) | (refine leOf ?_; (repeat (first | (with_reducible exact Mr.refl _) | (with_reducible apply Mr.drew) | (with_reducible apply Mr.alloc) | (with_reducible apply Mr.ext) | (with_reducible refine Mr.setCell ?_ (by first | (simp; done) | (simp; omega) | omega) _))); done)) _)))⟩
          · replace hc : Hid (I2 y1 y2) := hc
            have s1 : -35184372088832 ≤ y1 + y2 := by omega
            have s2 : y1 + y2 ≤ 35184372088832 := by omega
            go_wp2_with fail
            go_region_held3 (fun w' => w'.cell? ⟨w.heap.size + 1, 1, none⟩ = some (.int .i64 y1) ∧ w'.cell? ⟨w.heap.size + 1 + 1, 1, none⟩ = some (.int .i64 y2)) ((simp [go_sem]; done)) (fail)
            all_goals
              go_wp2_with fail
              go_roundw
              case rel => exact .inr (.inr (.inl ⟨rfl, Mr.mk' (by (try with_reducible apply Mr.drew); exact mr_set1 (V := x.u.alloc (.cells #[.int .i64 (x1 + x2), .int .i64 0, .int .i64 0] 23)) _ (by repeat (first | (with_reducible exact Mr.refl _) | (with_reducible apply Mr.drew) | (with_reducible apply Mr.alloc) | (with_reducible apply Mr.ext) | (with_reducible refine Mr.setCell ?_ (by first | (simp; done) | (simp; omega) | omega | (refine leOf0 ?_; (repeat (first | (with_reducible exact Mr.refl _) | (with_reducible apply Mr.drew) | (with_reducible apply Mr.alloc) | (with_reducible apply Mr.ext) | (with_reducible refine Mr.setCell ?_ (by first | (simp; done) | (simp; omega) | omega) _))); done) | (refine leOf ?_; (repeat (first | (with_reducible exact Mr.refl _) | (with_reducible apply Mr.drew) | (with_reducible apply Mr.alloc) | (with_reducible apply Mr.ext) | (with_reducible refine Mr.setCell ?_ (by first | (simp; done) | (simp; omega) | omega) _))); done)) _))) (by have hw : IntKind.i64.wrap (y1 + y2) = y1 + y2 := (by rw [IntKind.wrap_i64]; omega); simp [go_sem, hw])), ⟨hJ.out, hc.out⟩⟩))
              case measure => simp [intOf]
        · rcases I2_or z1 z2 with h1 | ⟨h1, h2⟩ | ⟨h1, h2, h3⟩ | ⟨h1, h2, h3, h4⟩ | ⟨hc, h1, h2, h3, h4⟩
          · go_wp2_with fail
            go_ret; exact ⟨rfl, Mr.grown (by repeat (first | (with_reducible exact Mr.refl _) | (with_reducible apply Mr.drew) | (with_reducible apply Mr.alloc) | (with_reducible apply Mr.ext) | (with_reducible refine Mr.setCell ?_ (by first | (simp; done) | (simp; omega) | omega | (refine leOf0 ?_; (repeat (first | (with_reducible exact Mr.refl _) | (with_reducible apply Mr.drew) | (with_reducible apply Mr.alloc) | (with_reducible apply Mr.ext) | (with_reducible refine Mr.setCell ?_ (by first | (simp; done) | (simp; omega) | omega) _))); done) | (refine leOf ?_; (repeat (first | (with_reducible exact Mr.refl _) | (with_reducible apply Mr.drew) | (with_reducible apply Mr.alloc) | (with_reducible apply Mr.ext) | (with_reducible refine Mr.setCell ?_ (by first | (simp; done) | (simp; omega) | omega) _))); done)) _)))⟩
          · go_wp2_with fail
            go_ret; exact ⟨rfl, Mr.grown (by repeat (first | (with_reducible exact Mr.refl _) | (with_reducible apply Mr.drew) | (with_reducible apply Mr.alloc) | (with_reducible apply Mr.ext) | (with_reducible refine Mr.setCell ?_ (by first | (simp; done) | (simp; omega) | omega | (refine leOf0 ?_; (repeat (first | (with_reducible exact Mr.refl _) | (with_reducible apply Mr.drew) | (with_reducible apply Mr.alloc) | (with_reducible apply Mr.ext) | (with_reducible refine Mr.setCell ?_ (by first | (simp; done) | (simp; omega) | omega) _))); done) | (refine leOf ?_; (repeat (first | (with_reducible exact Mr.refl _) | (with_reducible apply Mr.drew) | (with_reducible apply Mr.alloc) | (with_reducible apply Mr.ext) | (with_reducible refine Mr.setCell ?_ (by first | (simp; done) | (simp; omega) | omega) _))); done)) _)))⟩
          · go_wp2_with fail
            go_ret; exact ⟨rfl, Mr.grown (by repeat (first | (with_reducible exact Mr.refl _) | (with_reducible apply Mr.drew) | (with_reducible apply Mr.alloc) | (with_reducible apply Mr.ext) | (with_reducible refine Mr.setCell ?_ (by first | (simp; done) | (simp; omega) | omega | (refine leOf0 ?_; (repeat (first | (with_reducible exact Mr.refl _) | (with_reducible apply Mr.drew) | (with_reducible apply Mr.alloc) | (with_reducible apply Mr.ext) | (with_reducible refine Mr.setCell ?_ (by first | (simp; done) | (simp; omega) | omega) _))); done) | (refine leOf ?_; (repeat (first | (with_reducible exact Mr.refl _) | (with_reducible apply Mr.drew) | (with_reducible apply Mr.alloc) | (with_reducible apply Mr.ext) | (with_reducible refine Mr.setCell ?_ (by first | (simp; done) | (simp; omega) | omega) _))); done)) _)))⟩
          · go_wp2_with fail
            go_ret; exact ⟨rfl, Mr.grown (by repeat (first | (with_reducible exact Mr.refl _) | (with_reducible apply Mr.drew) | (with_reducible apply Mr.alloc) | (with_reducible apply Mr.ext) | (with_reducible refine Mr.setCell ?_ (by first | (simp; done) | (simp; omega) | omega | (refine leOf0 ?_; (repeat (first | (with_reducible exact Mr.refl _) | (with_reducible apply Mr.drew) | (with_reducible apply Mr.alloc) | (with_reducible apply Mr.ext) | (with_reducible refine Mr.setCell ?_ (by first | (simp; done) | (simp; omega) | omega) _))); done) | (refine leOf ?_; (repeat (first | (with_reducible exact Mr.refl _) | (with_reducible apply Mr.drew) | (with_reducible apply Mr.alloc) | (with_reducible apply Mr.ext) | (with_reducible refine Mr.setCell ?_ (by first | (simp; done) | (simp; omega) | omega) _))); done)) _)))⟩
          · replace hc : Hid (I2 z1 z2) := hc
            have s1 : -35184372088832 ≤ z1 + z2 := by omega
            have s2 : z1 + z2 ≤ 35184372088832 := by omega
            go_wp2_with fail
            go_region_held3 (fun w' => w'.cell? ⟨w.heap.size + 1, 2, none⟩ = some (.int .i64 z1) ∧ w'.cell? ⟨w.heap.size + 1 + 1, 2, none⟩ = some (.int .i64 z2)) ((simp [go_sem]; done)) (fail)
            all_goals
              go_wp2_with fail
              go_roundw
              case rel => exact .inr (.inr (.inr (⟨rfl, Mr.mk' (by (try with_reducible apply Mr.drew); exact mr_set1 (V := x.u.alloc (.cells #[.int .i64 (x1 + x2), .int .i64 (y1 + y2), .int .i64 0] 23)) _ (by repeat (first | (with_reducible exact Mr.refl _) | (with_reducible apply Mr.drew) | (with_reducible apply Mr.alloc) | (with_reducible apply Mr.ext) | (with_reducible refine Mr.setCell ?_ (by first | (simp; done) | (simp; omega) | omega | (refine leOf0 ?_; (repeat (first | (with_reducible exact Mr.refl _) | (with_reducible apply Mr.drew) | (with_reducible apply Mr.alloc) | (with_reducible apply Mr.ext) | (with_reducible refine Mr.setCell ?_ (by first | (simp; done) | (simp; omega) | omega) _))); done) | (refine leOf ?_; (repeat (first | (with_reducible exact Mr.refl _) | (with_reducible apply Mr.drew) | (with_reducible apply Mr.alloc) | (with_reducible apply Mr.ext) | (with_reducible refine Mr.setCell ?_ (by first | (simp; done) | (simp; omega) | omega) _))); done)) _))) (by have hw : IntKind.i64.wrap (z1 + z2) = z1 + z2 := (by rw [IntKind.wrap_i64]; omega); simp [go_sem, hw])), ⟨hJ.out.1, hJ.out.2, hc.out⟩⟩)))
              case measure => simp [intOf]
        · obtain ⟨a1, a2, a3, a4⟩ := hI.out
          obtain ⟨⟨c1, d1⟩, ⟨c2, d2⟩, ⟨c3, d3⟩⟩ := hJ.out
          clear hI hJ
          unfold I1 at a1 a2 a3 a4
          have hBd : Bd ⟨t0, x0, y0, z0⟩ 4294967296 := ⟨a1, a2, a3, a4⟩
          obtain ⟨⟨hfa, hfb, hft⟩, ⟨ba, bb, bt⟩, X, Y, Z⟩ := adds_all hBd c1 c2 c3 d1 d2 d3
          have hV6 : W64 (Qa.pure x1 y1 z1) := by unfold W64 B64 Qa.pure; simp only; omega
          have hW6 : W64 (Qa.pure x2 y2 z2) := by unfold W64 B64 Qa.pure; simp only; omega
          have hS6 : W64 (Qa.pure (x1 + x2) (y1 + y2) (z1 + z2)) := by unfold W64 B64 Qa.pure; simp only; omega
          obtain ⟨A0, A1, A2, A3, hra⟩ : ∃ a b c d, rot ⟨t0, x0, y0, z0⟩ x1 y1 z1 = ⟨a, b, c, d⟩ := ⟨_, _, _, _, rfl⟩
          obtain ⟨B0, B1, B2, B3, hrb⟩ : ∃ a b c d, rot ⟨t0, x0, y0, z0⟩ x2 y2 z2 = ⟨a, b, c, d⟩ := ⟨_, _, _, _, rfl⟩
          obtain ⟨T0, T1, T2, T3, hrt⟩ : ∃ a b c d, rot ⟨t0, x0, y0, z0⟩ (x1 + x2) (y1 + y2) (z1 + z2) = ⟨a, b, c, d⟩ := ⟨_, _, _, _, rfl⟩
          rw [hra] at ba X Y Z
          rw [hrb] at bb X Y Z
          rw [hrt] at bt X Y Z
          simp only [Bd] at ba bb bt X Y Z
          obtain ⟨-, ⟨e1, e2⟩, ⟨e3, e4⟩, e5, e6⟩ := ba
          obtain ⟨-, ⟨f1, f2⟩, ⟨f3, f4⟩, f5, f6⟩ := bb
          obtain ⟨-, ⟨g1, g2⟩, ⟨g3, g4⟩, g5, g6⟩ := bt
          generalize x1 + x2 = S1 at *
          generalize y1 + y2 = S2 at *
          generalize z1 + z2 = S3 at *
          clear a1 a2 a3 a4 c1 c2 c3 d1 d2 d3 hBd
          have k1 : Unit := ()
          have k2 : Unit := ()
          have k3 : Unit := ()
          go_wp2_with (first | (go_at_call 19; (have := k1; clear this k1); refine (qrot_c hA hV6 hra hfa).mono ?_; rintro e w' ⟨rfl, x, rfl⟩) | (go_at_call 19; (have := k2; clear this k2); refine (qrot_c hA hW6 hrb hfb).mono ?_; rintro e w' ⟨rfl, x, rfl⟩) | (go_at_call 19; (have := k3; clear this k3); refine (qrot_c hA hS6 hrt hft).mono ?_; rintro e w' ⟨rfl, x, rfl⟩))
          obtain ⟨X1, X2⟩ := X
          obtain ⟨Y1, Y2⟩ := Y
          obtain ⟨Z1, Z2⟩ := Z
          go_loopw [17] (fun i wr => ∃ j : Nat, j ≤ 3 ∧ i = .int .i64 j ∧ ∃ y : Ext (x.u.alloc (.cells #[.int .i64 T1, .int .i64 T2, .int .i64 T3] 23)), wr = y.u) (fun i _ => (3 - intOf i).toNat)
          case atStart => exact ⟨0, by omega, rfl, Mr.mk' (Mr.refl _)⟩
          case round =>
            obtain ⟨j, hj, rfl, y2, rfl⟩ := hrel
            match j, hj with
            | 0, _ =>
              have v1 : decide (16 < T1 - A1 - B1) = false := decide_eq_false (by omega)
              have v2 : decide (T1 - A1 - B1 < -16) = false := decide_eq_false (by omega)
              go_wp2_with fail
              refine wp_region_ext (by kernel_rfl) (by kernel_rfl) ?_
              repeat (go_big_quiet_step (fail))
              refine wpQuiet_nil ?_
              rintro w1 ⟨x9, rfl⟩
              go_wp2_with fail
              go_roundw
              case rel => exact ⟨1, by omega, rfl, Mr.mk' (by repeat (first | (with_reducible exact Mr.refl _) | (with_reducible apply Mr.drew) | (with_reducible apply Mr.alloc) | (with_reducible apply Mr.ext) | (with_reducible refine Mr.setCell ?_ (by first | (simp; done) | (simp; omega) | omega | (refine leOf0 ?_; (repeat (first | (with_reducible exact Mr.refl _) | (with_reducible apply Mr.drew) | (with_reducible apply Mr.alloc) | (with_reducible apply Mr.ext) | (with_reducible refine Mr.setCell ?_ (by first | (simp; done) | (simp; omega) | omega) _))); done) | (refine leOf ?_; (repeat (first | (with_reducible exact Mr.refl _) | (with_reducible apply Mr.drew) | (with_reducible apply Mr.alloc) | (with_reducible apply Mr.ext) | (with_reducible refine Mr.setCell ?_ (by first | (simp; done) | (simp; omega) | omega) _))); done)) _)))⟩
              case measure => simp [intOf]
            | 1, _ =>
              have v1 : decide (16 < T2 - A2 - B2) = false := decide_eq_false (by omega)
              have v2 : decide (T2 - A2 - B2 < -16) = false := decide_eq_false (by omega)
              go_wp2_with fail
              refine wp_region_ext (by kernel_rfl) (by kernel_rfl) ?_
              repeat (go_big_quiet_step (fail))
              refine wpQuiet_nil ?_
              rintro w1 ⟨x9, rfl⟩
              go_wp2_with fail
              go_roundw
              case rel => exact ⟨2, by omega, rfl, Mr.mk' (by repeat (first | (with_reducible exact Mr.refl _) | (with_reducible apply Mr.drew) | (with_reducible apply Mr.alloc) | (with_reducible apply Mr.ext) | (with_reducible refine Mr.setCell ?_ (by first | (simp; done) | (simp; omega) | omega | (refine leOf0 ?_; (repeat (first | (with_reducible exact Mr.refl _) | (with_reducible apply Mr.drew) | (with_reducible apply Mr.alloc) | (with_reducible apply Mr.ext) | (with_reducible refine Mr.setCell ?_ (by first | (simp; done) | (simp; omega) | omega) _))); done) | (refine leOf ?_; (repeat (first | (with_reducible exact Mr.refl _) | (with_reducible apply Mr.drew) | (with_reducible apply Mr.alloc) | (with_reducible apply Mr.ext) | (with_reducible refine Mr.setCell ?_ (by first | (simp; done) | (simp; omega) | omega) _))); done)) _)))⟩
              case measure => simp [intOf]
            | 2, _ =>
              have v1 : decide (16 < T3 - A3 - B3) = false := decide_eq_false (by omega)
              have v2 : decide (T3 - A3 - B3 < -16) = false := decide_eq_false (by omega)
              go_wp2_with fail
              refine wp_region_ext (by kernel_rfl) (by kernel_rfl) ?_
              repeat (go_big_quiet_step (fail))
              refine wpQuiet_nil ?_
              rintro w1 ⟨x9, rfl⟩
              go_wp2_with fail
              go_roundw
              case rel => exact ⟨3, by omega, rfl, Mr.mk' (by repeat (first | (with_reducible exact Mr.refl _) | (with_reducible apply Mr.drew) | (with_reducible apply Mr.alloc) | (with_reducible apply Mr.ext) | (with_reducible refine Mr.setCell ?_ (by first | (simp; done) | (simp; omega) | omega | (refine leOf0 ?_; (repeat (first | (with_reducible exact Mr.refl _) | (with_reducible apply Mr.drew) | (with_reducible apply Mr.alloc) | (with_reducible apply Mr.ext) | (with_reducible refine Mr.setCell ?_ (by first | (simp; done) | (simp; omega) | omega) _))); done) | (refine leOf ?_; (repeat (first | (with_reducible exact Mr.refl _) | (with_reducible apply Mr.drew) | (with_reducible apply Mr.alloc) | (with_reducible apply Mr.ext) | (with_reducible refine Mr.setCell ?_ (by first | (simp; done) | (simp; omega) | omega) _))); done)) _)))⟩
              case measure => simp [intOf]
            | 3, _ =>
              go_wp2_with fail
              go_ret; exact ⟨rfl, Mr.grown (by repeat (first | (with_reducible exact Mr.refl _) | (with_reducible apply Mr.drew) | (with_reducible apply Mr.alloc) | (with_reducible apply Mr.ext) | (with_reducible refine Mr.setCell ?_ (by first | (simp; done) | (simp; omega) | omega | (refine leOf0 ?_; (repeat (first | (with_reducible exact Mr.refl _) | (with_reducible apply Mr.drew) | (with_reducible apply Mr.alloc) | (with_reducible apply Mr.ext) | (with_reducible refine Mr.setCell ?_ (by first | (simp; done) | (simp; omega) | omega) _))); done) | (refine leOf ?_; (repeat (first | (with_reducible exact Mr.refl _) | (with_reducible apply Mr.drew) | (with_reducible apply Mr.alloc) | (with_reducible apply Mr.ext) | (with_reducible refine Mr.setCell ?_ (by first | (simp; done) | (simp; omega) | omega) _))); done)) _)))⟩

set_option maxRecDepth 100000 in
theorem lifted (os : Os) (started : os.Started) (H : Type) (enc : TypeId × Value → H) :
    ReturnsInHanded {} Try.checked os 9 .any (Rows.quatAddsSpec.pre6 enc Try.prog Try.f9 Rows.quatAddsRow.domain false) (Rows.quatAddsSpec.post enc Try.prog Try.f9 false true false false) := by
  refine returnsInHanded_of_change (C := Try.checked) own started (by kernel_rfl) Try.func9
    (ChangeSpec.witness6 (enc := enc) (C := Try.checked) false ⟨#[], #[.agg #[.int .i64 0, .int .i64 0, .int .i64 0, .int .i64 0], .agg #[.int .i64 0, .int .i64 0, .int .i64 0], .agg #[.int .i64 0, .int .i64 0, .int .i64 0]], []⟩ 8 (by kernel_rfl) (by kernel_rfl) (by kernel_rfl) (by kernel_rfl)) ?_
  intro W base args ds gs before hval0 hW hcnd _
  have hval : ∀ (j : Nat) t v, Try.f9.params[j]? = some t → args[j]? = some v → Value.okWide Try.prog W .any base t v := hval0
  have hW' := hW
  obtain ⟨p, q, hA0, hV, rfl, hfz, hnd⟩ := hW
  have hA : DataW.TrodAll enc Try.prog W 0 (fun _ => true) true Try.f9.params.toList args.toList ds p := hA0
  rw [Try.params9] at hA hval
  obtain ⟨v0, vs0, d0, ds0, p_0, q_0, hargs, rfl, rfl, h0, r0⟩ := trodAll_cons hA
  obtain ⟨v1, vs1, d1, ds1, p_1, q_1, rfl, rfl, rfl, h1, r1⟩ := trodAll_cons r0
  obtain ⟨v2, vs2, d2, ds2, p_2, q_2, rfl, rfl, rfl, h2, r2⟩ := trodAll_cons r1
  obtain ⟨rfl, rfl, rfl⟩ := trodAll_nil r2
  obtain rfl : args = #[v0, v1, v2] := by cases args; simp_all
  obtain ⟨rfl, rfl⟩ := trodVars_none hV
  obtain ⟨t0, x0, y0, z0, rfl, rfl, rfl, wt0, wx0, wy0, wz0⟩ := Qr.open_v4 (hval 0 22 v0 rfl rfl) h0
  obtain ⟨x1, y1, z1, rfl, rfl, rfl, wx1, wy1, wz1⟩ := Vr.open_v3 (hval 1 23 v1 rfl rfl) h1
  obtain ⟨x2, y2, z2, rfl, rfl, rfl, wx2, wy2, wz2⟩ := Vr.open_v3 (hval 2 23 v2 rfl rfl) h2
  clear hA0 hval0
  refine (walk t0 x0 y0 z0 x1 y1 z1 x2 y2 z2 W wt0 wx0 wy0 wz0 wx1 wy1 wz1 wx2 wy2 wz2).mono fun e W' ⟨he, bel⟩ => ?_
  subst he
  exact ⟨_, rfl, _, _, _, [], _, [], hW', trodAll_mk1 (shut_bool Try.underlying4 _), (trodAll_cons_mk (Qr.shut_v4 wt0 wx0 wy0 wz0) (trodAll_cons_mk (Vr.shut_v3 wx1 wy1 wz1) (trodAll_cons_mk (Vr.shut_v3 wx2 wy2 wz2) trodAll_mk0))), rfl, bel.frame _, fun h => by cases h⟩

theorem over : Rows.quatAddsRow.holds Try.pinned (OpenSpec.ofChange Rows.quatAddsSpec) :=
  OpenClaim.holds_of_wide 9 Try.f9 rfl rfl rfl rfl rfl rfl rfl ⟨rfl, rfl, rfl, rfl, rfl⟩ rfl rfl rfl rfl rfl (by kernel_rfl) Try.func9 (by kernel_rfl)
    (of_decide_eq_true (by kernel_rfl)) (by unfold Func.isWrapper; first | (rw [if_pos (by decide +kernel)]; kernel_rfl) | (rw [if_neg (by decide +kernel)]; exact ⟨rfl, rfl⟩))
    (fun os started H enc _ => lifted os started H enc)

theorem proved : Rows.QuatAddsSaid :=
  over
#print axioms proved
end Go.Proofs.Ytmhdpjdkcjdipaa.quatAdds
