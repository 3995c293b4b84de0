/- The contracts of the document's own answers of layer 9. -/
import Derived.Test.YtmhdpjdkcjdipaaQuatS
import Derived.Test.YtmhdpjdkcjdipaaRefC11
import Derived.Test.YtmhdpjdkcjdipaaRefC8
import Derived.RegionTactic
import Derived.Deep.RegionHeld3
namespace Go.Proofs.Ytmhdpjdkcjdipaa
open Go.ChangeShapes Go.WideShapes Go.ChangeAt Go.RowKit
open Go.Proofs.Ytmhdpjdkcjdipaa.Fx Go.Proofs.Ytmhdpjdkcjdipaa.Wd Go.Proofs.Ytmhdpjdkcjdipaa.Sc Go.Proofs.Ytmhdpjdkcjdipaa.Rt Go.Proofs.Ytmhdpjdkcjdipaa.Sm Go.Proofs.Ytmhdpjdkcjdipaa.Vc
set_option linter.unusedVariables false
attribute [local go_sem] Ext.cell Ext.froz Ext.lt Ext.lt1 Ext.lt2 Ext.lt3 Ext.all Ext.set_u drew_heap setCell_size Ext.set_size
namespace Qa
open Sl
theorem rneg9_c (a : Int) (w : World) : Calls Try.prog 33 #[.int .i64 a] w fun e w' => e = .returned (.int .i64 (-cl a)) ∧ w' = w := by
  go_enter Try.func33, Try.ntmps33
  go_wp2_with (go_at_call 49; refine (rneg_c _ _).mono ?_; rintro e w' ⟨rfl, rfl⟩)
  go_ret
  exact ⟨rfl, rfl⟩
theorem rone9_c (w : World) : Calls Try.prog 24 #[] w fun e w' => e = .returned (.agg #[.int .i64 4294967296, .int .i64 0, .int .i64 0, .int .i64 0]) ∧ ∃ x : Ext w, w' = x.u := by
  go_enter Try.func24, Try.ntmps24
  go_wp2
  exact bodyPost_ret (by simp [results, Try.results24, go_sem]) rfl ⟨rfl, Mr.mk' (by repeat (first | (with_reducible exact Mr.refl _) | (with_reducible apply Mr.drew) | (with_reducible apply Mr.alloc) | (with_reducible apply Mr.ext) | (with_reducible refine Mr.setCell ?_ (by first | (simp; done) | (simp; omega) | omega | (refine leOf0 ?_; (repeat (first | (with_reducible exact Mr.refl _) | (with_reducible apply Mr.drew) | (with_reducible apply Mr.alloc) | (with_reducible apply Mr.ext) | (with_reducible refine Mr.setCell ?_ (by first | (simp; done) | (simp; omega) | omega) _))); done) | (refine leOf ?_; (repeat (first | (with_reducible exact Mr.refl _) | (with_reducible apply Mr.drew) | (with_reducible apply Mr.alloc) | (with_reducible apply Mr.ext) | (with_reducible refine Mr.setCell ?_ (by first | (simp; done) | (simp; omega) | omega) _))); done)) _)))⟩
set_option maxRecDepth 100000 in
theorem rback9_c {a0 a1 a2 a3 m0 m1 m2 m3 : Int} {w : World} (hM : back (⟨a0, a1, a2, a3⟩ : Q) = (⟨m0, m1, m2, m3⟩ : Q)) : Calls Try.prog 22 #[.agg #[.int .i64 a0, .int .i64 a1, .int .i64 a2, .int .i64 a3]] w fun e w' => e = .returned (.agg #[.int .i64 m0, .int .i64 m1, .int .i64 m2, .int .i64 m3]) ∧ ∃ x : Ext w, w' = x.u := by
  unfold back at hM
  simp only [Q.mk.injEq] at hM
  obtain ⟨rfl, rfl, rfl, rfl⟩ := hM
  go_enter Try.func22, Try.ntmps22
  go_wp2_with fail
  go_region_held3 (fun w' => w'.cell? ⟨w.heap.size, 0, none⟩ = some (.int .i64 a0) ∧ w'.cell? ⟨w.heap.size, 1, none⟩ = some (.int .i64 a1) ∧ w'.cell? ⟨w.heap.size, 2, none⟩ = some (.int .i64 a2) ∧ w'.cell? ⟨w.heap.size, 3, none⟩ = some (.int .i64 a3)) ((simp [go_sem]; done)) (first | (go_at_call 43; refine (ras_c _ _).mono ?_; rintro e w' ⟨rfl, rfl⟩) | (go_at_call 33; refine (rneg9_c _ _).mono ?_; rintro e w' ⟨rfl, rfl⟩))
  all_goals
    go_wp2_with fail
    exact bodyPost_ret (by simp [results, Try.results22, go_sem]) rfl ⟨rfl, Mr.mk' (by repeat (first | (with_reducible exact Mr.refl _) | (with_reducible apply Mr.drew) | (with_reducible apply Mr.alloc) | (with_reducible apply Mr.ext) | (with_reducible refine Mr.setCell ?_ (by first | (simp; done) | (simp; omega) | omega | (refine leOf0 ?_; (repeat (first | (with_reducible exact Mr.refl _) | (with_reducible apply Mr.drew) | (with_reducible apply Mr.alloc) | (with_reducible apply Mr.ext) | (with_reducible refine Mr.setCell ?_ (by first | (simp; done) | (simp; omega) | omega) _))); done) | (refine leOf ?_; (repeat (first | (with_reducible exact Mr.refl _) | (with_reducible apply Mr.drew) | (with_reducible apply Mr.alloc) | (with_reducible apply Mr.ext) | (with_reducible refine Mr.setCell ?_ (by first | (simp; done) | (simp; omega) | omega) _))); done)) _)))⟩
set_option maxRecDepth 100000 in
theorem rchanged9_c (a0 a1 a2 a3 : Int) (w : World) : Calls Try.prog 34 #[.agg #[.int .i64 a0, .int .i64 a1, .int .i64 a2, .int .i64 a3]] w fun e w' => e = .returned (.bool (cq (⟨a0, a1, a2, a3⟩ : Q))) ∧ ∃ x : Ext w, w' = x.u := by
  have hq : Hid (cq (⟨a0, a1, a2, a3⟩ : Q) = (co a0 || co a1 || co a2 || co a3)) := rfl
  go_enter Try.func34, Try.ntmps34
  go_wp2
  go_loopw [3, 4] (fun o i wr => (o = .bool false ∧ i = .int .i64 0 ∧ wr = w.alloc (.cells #[.int .i64 a0, .int .i64 a1, .int .i64 a2, .int .i64 a3] 22)) ∨ (o = .bool (co a0) ∧ i = .int .i64 1 ∧ wr = w.alloc (.cells #[.int .i64 a0, .int .i64 a1, .int .i64 a2, .int .i64 a3] 22)) ∨ (o = .bool (co a0 || co a1) ∧ i = .int .i64 2 ∧ wr = w.alloc (.cells #[.int .i64 a0, .int .i64 a1, .int .i64 a2, .int .i64 a3] 22)) ∨ (o = .bool (co a0 || co a1 || co a2) ∧ i = .int .i64 3 ∧ wr = w.alloc (.cells #[.int .i64 a0, .int .i64 a1, .int .i64 a2, .int .i64 a3] 22)) ∨ (o = .bool (co a0 || co a1 || co a2 || co a3) ∧ i = .int .i64 4 ∧ wr = w.alloc (.cells #[.int .i64 a0, .int .i64 a1, .int .i64 a2, .int .i64 a3] 22))) (fun _ i _ => (4 - intOf i).toNat)
  case atStart => exact .inl ⟨rfl, rfl, rfl⟩
  case round =>
    rcases hrel with ⟨rfl, rfl, rfl⟩ | ⟨rfl, rfl, rfl⟩ | ⟨rfl, rfl, rfl⟩ | ⟨rfl, rfl, rfl⟩ | ⟨rfl, rfl, rfl⟩
    · cases h : co a0
      all_goals
        go_wp2_with (go_at_call 50; refine (rclamp_c _ _).mono ?_; rintro e w' ⟨rfl, rfl⟩)
        go_roundw
        case rel => exact .inr (.inl ⟨by first | rfl | simp, rfl, by first | rfl | trivial⟩)
        case measure => simp [intOf]
    · generalize co a0 = f0 at *
      cases f0 <;> cases h : co a1
      all_goals
        go_wp2_with (go_at_call 50; refine (rclamp_c _ _).mono ?_; rintro e w' ⟨rfl, rfl⟩)
        go_roundw
        case rel => exact .inr (.inr (.inl ⟨by first | rfl | simp, rfl, by first | rfl | trivial⟩))
        case measure => simp [intOf]
    · generalize hf : (co a0 || co a1) = f0 at *
      cases f0 <;> cases h : co a2
      all_goals
        go_wp2_with (go_at_call 50; refine (rclamp_c _ _).mono ?_; rintro e w' ⟨rfl, rfl⟩)
        go_roundw
        case rel => exact .inr (.inr (.inr (.inl ⟨by first | rfl | simp [hf], rfl, by first | rfl | trivial⟩)))
        case measure => simp [intOf]
    · generalize hf : (co a0 || co a1 || co a2) = f0 at *
      cases f0 <;> cases h : co a3
      all_goals
        go_wp2_with (go_at_call 50; refine (rclamp_c _ _).mono ?_; rintro e w' ⟨rfl, rfl⟩)
        go_roundw
        case rel => exact .inr (.inr (.inr (.inr ⟨by first | rfl | simp [hf], rfl, by first | rfl | trivial⟩)))
        case measure => simp [intOf]
    · generalize hf : (co a0 || co a1 || co a2 || co a3) = f0 at *
      go_wp2
      go_ret
      exact ⟨by rw [hq.out]; rfl, Mr.mk' (by repeat (first | (with_reducible exact Mr.refl _) | (with_reducible apply Mr.drew) | (with_reducible apply Mr.alloc) | (with_reducible apply Mr.ext) | (with_reducible refine Mr.setCell ?_ (by first | (simp; done) | (simp; omega) | omega | (refine leOf0 ?_; (repeat (first | (with_reducible exact Mr.refl _) | (with_reducible apply Mr.drew) | (with_reducible apply Mr.alloc) | (with_reducible apply Mr.ext) | (with_reducible refine Mr.setCell ?_ (by first | (simp; done) | (simp; omega) | omega) _))); done) | (refine leOf ?_; (repeat (first | (with_reducible exact Mr.refl _) | (with_reducible apply Mr.drew) | (with_reducible apply Mr.alloc) | (with_reducible apply Mr.ext) | (with_reducible refine Mr.setCell ?_ (by first | (simp; done) | (simp; omega) | omega) _))); done)) _)))⟩
end Qa
end Go.Proofs.Ytmhdpjdkcjdipaa
