/- The statements' own example of layer 13; samples compared. -/
import Derived.Test.YthdjldbieajebaaDoorSampleC
namespace Go.Proofs.YthdjldbieajebaaDoor
open Go.ChangeShapes Go.WideShapes Go.ChangeAt Go.RowKit
set_option linter.unusedVariables false
set_option linter.unusedSimpArgs false
attribute [local go_sem] Ext.cell Ext.froz Ext.lt Ext.lt1 Ext.lt2 Ext.lt3 Ext.all Ext.set_u drew_heap setCell_size Ext.set_size
namespace Sp
open Wl
def es (a b : Smp) : Bool := decide (a = b)
theorem sizeI (w : World) : (Go.sizeOf 3).run Tryd.prog w = .ok 1 w := by
  have h : (Tryd.prog.info? 3).map (·.size) = some 1 := by kernel_rfl
  cases hq : Tryd.prog.info? 3 with
  | none => simp [hq] at h
  | some i => have : i.size = 1 := by simpa [hq] using h
              simp [Go.sizeOf, typeInfo, hq, this]
theorem eqI (d : Nat) (x y : Int) (W : World) : (Op.equalIn (d + 1) 3 (.int .i64 x) (.int .i64 y)).run Tryd.prog W = .ok (x == y) W := run_equalIn_int W d 3 .i64 .i64 x y Tryd.underlying3
def e3 (a b c d e f : Int) : Bool := decide (a = d ∧ b = e ∧ c = f)
theorem eq_v3 (a b c d e f : Int) (w : World) : (Op.equalIn 9999 22 (.agg #[.int .i64 a, .int .i64 b, .int .i64 c]) (.agg #[.int .i64 d, .int .i64 e, .int .i64 f])).run Tryd.prog w = .ok (e3 a b c d e f) w := by
  have p0 : ∀ (x y z : Int) (W : World), (part 3 #[.int .i64 x, .int .i64 y, .int .i64 z] 0).run Tryd.prog W = .ok (.int .i64 x) W := fun x y z W => by simp [go_sem]
  have p1 : ∀ (x y z : Int) (W : World), (part 3 #[.int .i64 x, .int .i64 y, .int .i64 z] 1).run Tryd.prog W = .ok (.int .i64 y) W := fun x y z W => by simp [go_sem]
  have p2 : ∀ (x y z : Int) (W : World), (part 3 #[.int .i64 x, .int .i64 y, .int .i64 z] 2).run Tryd.prog W = .ok (.int .i64 z) W := fun x y z W => by simp [go_sem]
  have hI : ∀ x y W, (Op.equalIn 9998 3 (.int .i64 x) (.int .i64 y)).run Tryd.prog W = .ok (x == y) W := fun x y W => eqI 9997 x y W
  unfold Op.equalIn
  by_cases h : a = d
  · by_cases k : b = e
    · by_cases m : c = f <;> simp [run_underlying Tryd.underlying22, Sem.run_bind, sizeI, List.range', hI, p0, p1, p2, e3, h, k, m]
    · simp [run_underlying Tryd.underlying22, Sem.run_bind, sizeI, List.range', hI, p0, p1, p2, e3, h, k]
  · simp [run_underlying Tryd.underlying22, Sem.run_bind, sizeI, List.range', hI, p0, p1, p2, e3, h]
theorem eq_smp (a b : Smp) (w : World) : (Op.equalIn 10000 24 (.agg #[.int .i64 a.t, .int .i64 a.s, .int .i64 a.x, .int .i64 a.y, .int .i64 a.z]) (.agg #[.int .i64 b.t, .int .i64 b.s, .int .i64 b.x, .int .i64 b.y, .int .i64 b.z])).run Tryd.prog w = .ok (es a b) w := by
  have he : es a b = (decide (a.t = b.t) && decide (a.s = b.s) && e3 a.x a.y a.z b.x b.y b.z) := by
    unfold es e3
    rw [Bool.eq_iff_iff]
    simp only [Bool.and_eq_true, decide_eq_true_eq]
    cases a; cases b; simp; exact ⟨fun h => ⟨⟨h.1, h.2.1⟩, h.2.2⟩, fun h => ⟨h.1.1, h.1.2, h.2⟩⟩
  rw [he]
  have hv := eq_v3 a.x a.y a.z b.x b.y b.z
  by_cases h1 : a.t = b.t
  · by_cases h2 : a.s = b.s
    · simp [go_sem, h1, h2, hv]
      cases e3 a.x a.y a.z b.x b.y b.z <;> rfl
    · simp [go_sem, h1, h2]
  · simp [go_sem, h1]
theorem eq_five (a b c d e a' b' c' d' e' : Int) (w : World) : (Op.equalIn 10000 24 (.agg #[.int .i64 a, .int .i64 b, .int .i64 c, .int .i64 d, .int .i64 e]) (.agg #[.int .i64 a', .int .i64 b', .int .i64 c', .int .i64 d', .int .i64 e'])).run Tryd.prog w = .ok (es ⟨a, b, c, d, e⟩ ⟨a', b', c', d', e'⟩) w := eq_smp ⟨a, b, c, d, e⟩ ⟨a', b', c', d', e'⟩ w
theorem es_self (a : Smp) : es a a = true := by simp [es]
attribute [local go_sem ↓] eq_five
def q13 : Smp := ⟨5, 3, 1, -2, 3⟩
theorem ok13 : q13.ok := by unfold Smp.ok q13 i64; decide
theorem sane13 : saneS q13 = true := by decide
theorem ok6 : Smp.ok ⟨6, 0, 0, 0, 0⟩ := by unfold Smp.ok i64; decide
theorem es13 : es ⟨5, 3, 1, -2, 3⟩ ⟨5, 3, 1, -2, 3⟩ = true := rfl
set_option maxRecDepth 100000 in
set_option maxHeartbeats 1000000 in
theorem awake13_c (w : World) (hTb : Tb w) : Calls Tryd.prog 9 #[] w fun e w' => e = .returned (.bool true) ∧ ∃ x : Ext w, w' = x.u := by
  have t1 : Unit := ()
  have h13 := es13
  go_enter Tryd.func9, Tryd.ntmps9
  go_wp2_with (first | (go_at_call 17; refine (swords_c q13 _ ok13 (hTb.mr (by repeat (first | (with_reducible exact Mr.refl _) | (with_reducible apply Mr.drew) | (with_reducible apply Mr.alloc) | (with_reducible apply Mr.ext) | (with_reducible refine Mr.setCell ?_ (by first | (simp; done) | (simp; omega) | omega | (refine leOf0 ?_; (repeat (first | (with_reducible exact Mr.refl _) | (with_reducible apply Mr.drew) | (with_reducible apply Mr.alloc) | (with_reducible apply Mr.ext) | (with_reducible refine Mr.setCell ?_ (by first | (simp; done) | (simp; omega) | omega) _))); done) | (refine leOf ?_; (repeat (first | (with_reducible exact Mr.refl _) | (with_reducible apply Mr.drew) | (with_reducible apply Mr.alloc) | (with_reducible apply Mr.ext) | (with_reducible refine Mr.setCell ?_ (by first | (simp; done) | (simp; omega) | omega) _))); done)) _))))).mono ?_; rw [words_len sane13]; rintro e w' ⟨a1, c1, rfl, x1, rfl, hW⟩) | (go_at_call 10; (have := t1; clear this t1); refine (sread_c _ (hW.mr (by repeat (first | (with_reducible exact Mr.refl _) | (with_reducible apply Mr.drew) | (with_reducible apply Mr.alloc) | (with_reducible apply Mr.ext) | (with_reducible refine Mr.setCell ?_ (by first | (simp; done) | (simp; omega) | omega | (refine leOf0 ?_; (repeat (first | (with_reducible exact Mr.refl _) | (with_reducible apply Mr.drew) | (with_reducible apply Mr.alloc) | (with_reducible apply Mr.ext) | (with_reducible refine Mr.setCell ?_ (by first | (simp; done) | (simp; omega) | omega) _))); done) | (refine leOf ?_; (repeat (first | (with_reducible exact Mr.refl _) | (with_reducible apply Mr.drew) | (with_reducible apply Mr.alloc) | (with_reducible apply Mr.ext) | (with_reducible refine Mr.setCell ?_ (by first | (simp; done) | (simp; omega) | omega) _))); done)) _)))) (words_len sane13) (hTb.mr (by repeat (first | (with_reducible exact Mr.refl _) | (with_reducible apply Mr.drew) | (with_reducible apply Mr.alloc) | (with_reducible apply Mr.ext) | (with_reducible refine Mr.setCell ?_ (by first | (simp; done) | (simp; omega) | omega | (refine leOf0 ?_; (repeat (first | (with_reducible exact Mr.refl _) | (with_reducible apply Mr.drew) | (with_reducible apply Mr.alloc) | (with_reducible apply Mr.ext) | (with_reducible refine Mr.setCell ?_ (by first | (simp; done) | (simp; omega) | omega) _))); done) | (refine leOf ?_; (repeat (first | (with_reducible exact Mr.refl _) | (with_reducible apply Mr.drew) | (with_reducible apply Mr.alloc) | (with_reducible apply Mr.ext) | (with_reducible refine Mr.setCell ?_ (by first | (simp; done) | (simp; omega) | omega) _))); done)) _))))).mono ?_; rw [read_words sane13]; dsimp only [vS, q13]; rintro e w' ⟨rfl, x2, rfl⟩) | (go_at_call 10; refine (sread_c _ (Ce.lit_is _ (by simp) [1] 1 rfl (by decide +kernel) (by decide) _ rfl) rfl (hTb.mr (by repeat (first | (with_reducible exact Mr.refl _) | (with_reducible apply Mr.drew) | (with_reducible apply Mr.alloc) | (with_reducible apply Mr.ext) | (with_reducible refine Mr.setCell ?_ (by first | (simp; done) | (simp; omega) | omega | (refine leOf0 ?_; (repeat (first | (with_reducible exact Mr.refl _) | (with_reducible apply Mr.drew) | (with_reducible apply Mr.alloc) | (with_reducible apply Mr.ext) | (with_reducible refine Mr.setCell ?_ (by first | (simp; done) | (simp; omega) | omega) _))); done) | (refine leOf ?_; (repeat (first | (with_reducible exact Mr.refl _) | (with_reducible apply Mr.drew) | (with_reducible apply Mr.alloc) | (with_reducible apply Mr.ext) | (with_reducible refine Mr.setCell ?_ (by first | (simp; done) | (simp; omega) | omega) _))); done)) _))))).mono ?_; rw [show readS [1] = (zero, 5) from rfl]; dsimp only [vS, zero]; rintro e w' ⟨rfl, x3, rfl⟩) | (go_at_call 12; refine (ssum_c (l := []) _ (Wl.is_nil none (by simp [maxLen]) (fun _ => rfl)) rfl).mono ?_; rw [show sm [] = 14695981039346656037 from rfl]; rintro e w' ⟨rfl, x4, rfl⟩) | (go_at_call 14; refine (ssane_c q13 _ ok13 (hTb.mr (by repeat (first | (with_reducible exact Mr.refl _) | (with_reducible apply Mr.drew) | (with_reducible apply Mr.alloc) | (with_reducible apply Mr.ext) | (with_reducible refine Mr.setCell ?_ (by first | (simp; done) | (simp; omega) | omega | (refine leOf0 ?_; (repeat (first | (with_reducible exact Mr.refl _) | (with_reducible apply Mr.drew) | (with_reducible apply Mr.alloc) | (with_reducible apply Mr.ext) | (with_reducible refine Mr.setCell ?_ (by first | (simp; done) | (simp; omega) | omega) _))); done) | (refine leOf ?_; (repeat (first | (with_reducible exact Mr.refl _) | (with_reducible apply Mr.drew) | (with_reducible apply Mr.alloc) | (with_reducible apply Mr.ext) | (with_reducible refine Mr.setCell ?_ (by first | (simp; done) | (simp; omega) | omega) _))); done)) _))))).mono ?_; rw [sane13]; rintro e w' ⟨rfl, x5, rfl⟩) | (go_at_call 19; refine (sbefore_c q13 ⟨6, 0, 0, 0, 0⟩ _ ok13 ok6).mono ?_; rw [show before q13 ⟨6, 0, 0, 0, 0⟩ = true from rfl]; rintro e w' ⟨rfl, x6, rfl⟩))
  go_ret
  exact ⟨rfl, Mr.mk' (by repeat (first | (with_reducible exact Mr.refl _) | (with_reducible apply Mr.drew) | (with_reducible apply Mr.alloc) | (with_reducible apply Mr.ext) | (with_reducible refine Mr.setCell ?_ (by first | (simp; done) | (simp; omega) | omega | (refine leOf0 ?_; (repeat (first | (with_reducible exact Mr.refl _) | (with_reducible apply Mr.drew) | (with_reducible apply Mr.alloc) | (with_reducible apply Mr.ext) | (with_reducible refine Mr.setCell ?_ (by first | (simp; done) | (simp; omega) | omega) _))); done) | (refine leOf ?_; (repeat (first | (with_reducible exact Mr.refl _) | (with_reducible apply Mr.drew) | (with_reducible apply Mr.alloc) | (with_reducible apply Mr.ext) | (with_reducible refine Mr.setCell ?_ (by first | (simp; done) | (simp; omega) | omega) _))); done)) _)))⟩
end Sp
end Go.Proofs.YthdjldbieajebaaDoor
