/- The contracts of package vec (over the landed code). -/
import Derived.Test.YthogobmflinnpaaWideC3
import Derived.Shelf.Abstract
namespace Go.Proofs.Ythogobmflinnpaa
open Go.ChangeShapes Go.WideShapes Go.ChangeAt Go.RowKit Go.Shelf
open Go.Proofs.Ythogobmflinnpaa.Fx Go.Proofs.Ythogobmflinnpaa.Wd 
set_option linter.unusedVariables false
attribute [local go_sem] Ext.cell Ext.froz Ext.lt Ext.lt1 Ext.lt2 Ext.lt3 Ext.all Ext.set_u drew_heap setCell_size Ext.set_size
namespace Vc
theorem mr_set1 {V V' W : World} (X : Ext W) {a : Addr} {p : Value} (h : Mr V X.u) (e : V.setCell a p = V') : Mr V' (X.set a p).u := by
  rw [← e]
  exact h.both a p
/-- The memory of three numbers that are made one by one: the answer's box and their own. -/
abbrev mv3 (w : World) (x y z : Int) : World := (w.alloc (.cells #[.int .i64 0, .int .i64 0, .int .i64 0] 22)).alloc (.cells #[.int .i64 x, .int .i64 y, .int .i64 z] 22)
set_option maxRecDepth 100000 in
set_option maxHeartbeats 2000000 in
theorem each_c (g : Nat) (eg : ∀ args w, (callFunc g args).run Try.prog w = .ok (.enter g args) w) (lbg : Array Value) (f0 f1 f2 : Int) (b0 b1 b2 : Bool) (w : World)
    (h0 : ∀ W : World, Mr w W → Calls Try.prog g (#[.int .i64 0] ++ lbg) W fun e w' => e = .returned (.tuple #[.int .i64 f0, .bool b0]) ∧ ∃ x : Ext W, w' = x.u)
    (h1 : ∀ W : World, Mr w W → Calls Try.prog g (#[.int .i64 1] ++ lbg) W fun e w' => e = .returned (.tuple #[.int .i64 f1, .bool b1]) ∧ ∃ x : Ext W, w' = x.u)
    (h2 : ∀ W : World, Mr w W → Calls Try.prog g (#[.int .i64 2] ++ lbg) W fun e w' => e = .returned (.tuple #[.int .i64 f2, .bool b2]) ∧ ∃ x : Ext W, w' = x.u) :
    Calls Try.prog 25 #[.func (.func g) #[] lbg] w fun e w' => e = .returned (.tuple #[.agg #[.int .i64 f0, .int .i64 f1, .int .i64 f2], .bool (b0 || b1 || b2)]) ∧ ∃ x : Ext w, w' = x.u := by
  go_enter Try.func25, Try.ntmps25
  go_wp2
  go_loopw [5, 9] (fun c i wr => (c = .bool false ∧ i = .int .i64 0 ∧ ∃ y : Ext (mv3 w 0 0 0), wr = y.u) ∨ (c = .bool b0 ∧ i = .int .i64 1 ∧ ∃ y : Ext (mv3 w f0 0 0), wr = y.u) ∨ (c = .bool (b0 || b1) ∧ i = .int .i64 2 ∧ ∃ y : Ext (mv3 w f0 f1 0), wr = y.u) ∨ (c = .bool (b0 || b1 || b2) ∧ i = .int .i64 3 ∧ ∃ y : Ext (mv3 w f0 f1 f2), wr = y.u)) (fun _ i _ => (3 - intOf i).toNat)
  case atStart => exact .inl ⟨rfl, rfl, Mr.mk' (by repeat (first | (with_reducible exact Mr.refl _) | (with_reducible apply Mr.drew) | (with_reducible apply Mr.alloc) | (with_reducible apply Mr.ext) | (with_reducible refine Mr.setCell ?_ (by first | (simp; done) | (simp; omega) | omega | (refine leOf0 ?_; (repeat (first | (with_reducible exact Mr.refl _) | (with_reducible apply Mr.drew) | (with_reducible apply Mr.alloc) | (with_reducible apply Mr.ext) | (with_reducible refine Mr.setCell ?_ (by first | (simp; done) | (simp; omega) | omega) _))); done) | (refine leOf ?_; (repeat (first | (with_reducible exact Mr.refl _) | (with_reducible apply Mr.drew) | (with_reducible apply Mr.alloc) | (with_reducible apply Mr.ext) | (with_reducible refine Mr.setCell ?_ (by first | (simp; done) | (simp; omega) | omega) _))); done)) _)))⟩
  case round =>
    rcases hrel with ⟨rfl, rfl, y, rfl⟩ | ⟨rfl, rfl, y, rfl⟩ | ⟨rfl, rfl, y, rfl⟩ | ⟨rfl, rfl, y, rfl⟩
    · have hcall := h0 y.u (by repeat (first | (with_reducible exact Mr.refl _) | (with_reducible apply Mr.drew) | (with_reducible apply Mr.alloc) | (with_reducible apply Mr.ext) | (with_reducible refine Mr.setCell ?_ (by first | (simp; done) | (simp; omega) | omega | (refine leOf0 ?_; (repeat (first | (with_reducible exact Mr.refl _) | (with_reducible apply Mr.drew) | (with_reducible apply Mr.alloc) | (with_reducible apply Mr.ext) | (with_reducible refine Mr.setCell ?_ (by first | (simp; done) | (simp; omega) | omega) _))); done) | (refine leOf ?_; (repeat (first | (with_reducible exact Mr.refl _) | (with_reducible apply Mr.drew) | (with_reducible apply Mr.alloc) | (with_reducible apply Mr.ext) | (with_reducible refine Mr.setCell ?_ (by first | (simp; done) | (simp; omega) | omega) _))); done)) _)))
      clear h0 h1 h2
      go_wp2_with (go_at_fn g; refine hcall.mono ?_; rintro e w' ⟨rfl, x, rfl⟩)
      go_roundw
      case rel => exact .inr (.inl ⟨by first | rfl | simp, rfl, Mr.mk' (mr_set1 (V := mv3 w 0 0 0) _ (by repeat (first | (with_reducible exact Mr.refl _) | (with_reducible apply Mr.drew) | (with_reducible apply Mr.alloc) | (with_reducible apply Mr.ext) | (with_reducible refine Mr.setCell ?_ (by first | (simp; done) | (simp; omega) | omega | (refine leOf0 ?_; (repeat (first | (with_reducible exact Mr.refl _) | (with_reducible apply Mr.drew) | (with_reducible apply Mr.alloc) | (with_reducible apply Mr.ext) | (with_reducible refine Mr.setCell ?_ (by first | (simp; done) | (simp; omega) | omega) _))); done) | (refine leOf ?_; (repeat (first | (with_reducible exact Mr.refl _) | (with_reducible apply Mr.drew) | (with_reducible apply Mr.alloc) | (with_reducible apply Mr.ext) | (with_reducible refine Mr.setCell ?_ (by first | (simp; done) | (simp; omega) | omega) _))); done)) _))) (by simp [go_sem]))⟩)
      case measure => simp [intOf]
    · have hcall := h1 y.u (by repeat (first | (with_reducible exact Mr.refl _) | (with_reducible apply Mr.drew) | (with_reducible apply Mr.alloc) | (with_reducible apply Mr.ext) | (with_reducible refine Mr.setCell ?_ (by first | (simp; done) | (simp; omega) | omega | (refine leOf0 ?_; (repeat (first | (with_reducible exact Mr.refl _) | (with_reducible apply Mr.drew) | (with_reducible apply Mr.alloc) | (with_reducible apply Mr.ext) | (with_reducible refine Mr.setCell ?_ (by first | (simp; done) | (simp; omega) | omega) _))); done) | (refine leOf ?_; (repeat (first | (with_reducible exact Mr.refl _) | (with_reducible apply Mr.drew) | (with_reducible apply Mr.alloc) | (with_reducible apply Mr.ext) | (with_reducible refine Mr.setCell ?_ (by first | (simp; done) | (simp; omega) | omega) _))); done)) _)))
      clear h0 h1 h2
      cases b0
      all_goals
        go_wp2_with (go_at_fn g; refine hcall.mono ?_; rintro e w' ⟨rfl, x, rfl⟩)
        go_roundw
        case rel => exact .inr (.inr (.inl ⟨by first | rfl | simp, rfl, Mr.mk' (mr_set1 (V := mv3 w f0 0 0) _ (by repeat (first | (with_reducible exact Mr.refl _) | (with_reducible apply Mr.drew) | (with_reducible apply Mr.alloc) | (with_reducible apply Mr.ext) | (with_reducible refine Mr.setCell ?_ (by first | (simp; done) | (simp; omega) | omega | (refine leOf0 ?_; (repeat (first | (with_reducible exact Mr.refl _) | (with_reducible apply Mr.drew) | (with_reducible apply Mr.alloc) | (with_reducible apply Mr.ext) | (with_reducible refine Mr.setCell ?_ (by first | (simp; done) | (simp; omega) | omega) _))); done) | (refine leOf ?_; (repeat (first | (with_reducible exact Mr.refl _) | (with_reducible apply Mr.drew) | (with_reducible apply Mr.alloc) | (with_reducible apply Mr.ext) | (with_reducible refine Mr.setCell ?_ (by first | (simp; done) | (simp; omega) | omega) _))); done)) _))) (by simp [go_sem]))⟩))
        case measure => simp [intOf]
    · have hcall := h2 y.u (by repeat (first | (with_reducible exact Mr.refl _) | (with_reducible apply Mr.drew) | (with_reducible apply Mr.alloc) | (with_reducible apply Mr.ext) | (with_reducible refine Mr.setCell ?_ (by first | (simp; done) | (simp; omega) | omega | (refine leOf0 ?_; (repeat (first | (with_reducible exact Mr.refl _) | (with_reducible apply Mr.drew) | (with_reducible apply Mr.alloc) | (with_reducible apply Mr.ext) | (with_reducible refine Mr.setCell ?_ (by first | (simp; done) | (simp; omega) | omega) _))); done) | (refine leOf ?_; (repeat (first | (with_reducible exact Mr.refl _) | (with_reducible apply Mr.drew) | (with_reducible apply Mr.alloc) | (with_reducible apply Mr.ext) | (with_reducible refine Mr.setCell ?_ (by first | (simp; done) | (simp; omega) | omega) _))); done)) _)))
      clear h0 h1 h2
      cases hb : (b0 || b1)
      all_goals
        go_wp2_with (go_at_fn g; refine hcall.mono ?_; rintro e w' ⟨rfl, x, rfl⟩)
        go_roundw
        case rel => exact .inr (.inr (.inr ⟨by first | rfl | simp, rfl, Mr.mk' (mr_set1 (V := mv3 w f0 f1 0) _ (by repeat (first | (with_reducible exact Mr.refl _) | (with_reducible apply Mr.drew) | (with_reducible apply Mr.alloc) | (with_reducible apply Mr.ext) | (with_reducible refine Mr.setCell ?_ (by first | (simp; done) | (simp; omega) | omega | (refine leOf0 ?_; (repeat (first | (with_reducible exact Mr.refl _) | (with_reducible apply Mr.drew) | (with_reducible apply Mr.alloc) | (with_reducible apply Mr.ext) | (with_reducible refine Mr.setCell ?_ (by first | (simp; done) | (simp; omega) | omega) _))); done) | (refine leOf ?_; (repeat (first | (with_reducible exact Mr.refl _) | (with_reducible apply Mr.drew) | (with_reducible apply Mr.alloc) | (with_reducible apply Mr.ext) | (with_reducible refine Mr.setCell ?_ (by first | (simp; done) | (simp; omega) | omega) _))); done)) _))) (by simp [go_sem]))⟩))
        case measure => simp [intOf]
    · clear h0 h1 h2
      generalize hb : (b0 || b1 || b2) = bb
      go_wp2
      exact bodyPost_ret (v := .tuple #[.agg #[.int .i64 f0, .int .i64 f1, .int .i64 f2], .bool bb]) (by simp [results, Try.results25, go_sem]) rfl ⟨by rw [hb], Mr.mk' (by repeat (first | (with_reducible exact Mr.refl _) | (with_reducible apply Mr.drew) | (with_reducible apply Mr.alloc) | (with_reducible apply Mr.ext) | (with_reducible refine Mr.setCell ?_ (by first | (simp; done) | (simp; omega) | omega | (refine leOf0 ?_; (repeat (first | (with_reducible exact Mr.refl _) | (with_reducible apply Mr.drew) | (with_reducible apply Mr.alloc) | (with_reducible apply Mr.ext) | (with_reducible refine Mr.setCell ?_ (by first | (simp; done) | (simp; omega) | omega) _))); done) | (refine leOf ?_; (repeat (first | (with_reducible exact Mr.refl _) | (with_reducible apply Mr.drew) | (with_reducible apply Mr.alloc) | (with_reducible apply Mr.ext) | (with_reducible refine Mr.setCell ?_ (by first | (simp; done) | (simp; omega) | omega) _))); done)) _)))⟩
end Vc
end Go.Proofs.Ythogobmflinnpaa
