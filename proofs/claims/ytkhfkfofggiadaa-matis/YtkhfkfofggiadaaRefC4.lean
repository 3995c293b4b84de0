/- The contracts of the document's own answers of layer 2, third part. -/
import Derived.Test.YtkhfkfofggiadaaRefC3
namespace Go.Proofs.Ytkhfkfofggiadaa
open Go.ChangeShapes Go.WideShapes Go.ChangeAt Go.RowKit
open Go.Proofs.Ytkhfkfofggiadaa.Fx
set_option linter.unusedVariables false
attribute [local go_sem] Ext.cell Ext.froz Ext.lt Ext.lt1 Ext.lt2 Ext.lt3 Ext.all Ext.set_u drew_heap setCell_size Ext.set_size
namespace Wd
attribute [local go_sem ↓] eq_wide eqw_self
attribute [local go_sem] and62 and1 sgn64
theorem mul_parts31 (x1 x0 y1 y0 : Int) : (x1 * 2147483648 + x0) * (y1 * 2147483648 + y0) = x1 * y1 * 4611686018427387904 + (x1 * y0 + x0 * y1) * 2147483648 + x0 * y0 := by grind
theorem rmul_math (x y : Int) (hx : 0 ≤ x ∧ x ≤ 288230376151711744) (hy : 0 ≤ y ∧ y ≤ 288230376151711744) : ∃ A B C D : Int,
    x / 2147483648 * (y / 2147483648) = A ∧ x / 2147483648 * (y % 2147483648) = B ∧ x % 2147483648 * (y / 2147483648) = C ∧ x % 2147483648 * (y % 2147483648) = D ∧
    (0 ≤ A ∧ A ≤ 18014398509481984) ∧ (0 ≤ B ∧ B ≤ 288230376017494016) ∧ (0 ≤ C ∧ C ≤ 288230376017494016) ∧ (0 ≤ D ∧ D ≤ 4611686014132420609) ∧ x * y = A * 4611686018427387904 + (B + C) * 2147483648 + D := by
  have e := mul_parts31 (x / 2147483648) (x % 2147483648) (y / 2147483648) (y % 2147483648)
  rw [show x / 2147483648 * 2147483648 + x % 2147483648 = x by omega, show y / 2147483648 * 2147483648 + y % 2147483648 = y by omega] at e
  have hA := mul_le' (a := x / 2147483648) (b := y / 2147483648) (c := 134217728) (d := 134217728) (by omega) (by omega) (by omega) (by omega)
  have hB := mul_le' (a := x / 2147483648) (b := y % 2147483648) (c := 134217728) (d := 2147483647) (by omega) (by omega) (by omega) (by omega)
  have hC := mul_le' (a := x % 2147483648) (b := y / 2147483648) (c := 2147483647) (d := 134217728) (by omega) (by omega) (by omega) (by omega)
  have hD := mul_le' (a := x % 2147483648) (b := y % 2147483648) (c := 2147483647) (d := 2147483647) (by omega) (by omega) (by omega) (by omega)
  exact ⟨_, _, _, _, rfl, rfl, rfl, rfl, hA, hB, hC, hD, e⟩
set_option maxHeartbeats 2000000 in
theorem rmul2_c (a b : Int) (w : World) :
    Calls Try.prog 62 #[.int .i64 a, .int .i64 b] w fun e w' => e = .returned (.agg #[.int .i64 (hi (ml a b)), .int .i64 (lo (ml a b))]) ∧ ∃ x : Ext w, w' = x.u := by
  have ha := ab_bd a
  have hb := ab_bd b
  have hm := (mul_inr ha hb).1
  have M1 : Hid (∀ (h1 : a < 0) (h2 : b < 0), ml a b = ab a * ab b) := fun h1 h2 => by unfold ml; rw [ab_neg h1, ab_neg h2, Int.neg_mul_neg]
  have M2 : Hid (∀ (h1 : a < 0) (h2 : ¬ b < 0), ml a b = -(ab a * ab b)) := fun h1 h2 => by unfold ml; rw [ab_neg h1, ab_pos h2, Int.neg_mul]
  have M3 : Hid (∀ (h1 : ¬ a < 0) (h2 : b < 0), ml a b = -(ab a * ab b)) := fun h1 h2 => by unfold ml; rw [ab_pos h1, ab_neg h2, Int.mul_neg]
  have M4 : Hid (∀ (h1 : ¬ a < 0) (h2 : ¬ b < 0), ml a b = ab a * ab b) := fun h1 h2 => by unfold ml; rw [ab_pos h1, ab_pos h2]
  generalize hx : ab a = x at *
  generalize hy : ab b = y at *
  obtain ⟨A, B, C, D, eA, eB, eC, eD, bA, bB, bC, bD, e⟩ := rmul_math x y ha hb
  generalize hz : x * y = z at *
  have big : (4611686018427387904 ≤ D + (B + C) % 2147483648 * 2147483648 ∧ hi z = A + (B + C) / 2147483648 + 1 ∧ lo z = D + (B + C) % 2147483648 * 2147483648 - 4611686018427387904) ∨ (D + (B + C) % 2147483648 * 2147483648 < 4611686018427387904 ∧ hi z = A + (B + C) / 2147483648 ∧ lo z = D + (B + C) % 2147483648 * 2147483648) := by
    unfold hi lo; omega
  clear e hz
  rcases big with ⟨g1, g2, g3⟩ | ⟨g1, g2, g3⟩
  · have g4 : A + (B + C) / 2147483648 + 1 = hi z := g2.symm
    have g5 : D + (B + C) % 2147483648 * 2147483648 - 4611686018427387904 = lo z := g3.symm
    clear g2 g3
    by_cases h1 : a < 0 <;> by_cases h2 : b < 0
    · have M : Hid (ml a b = z) := M1.out h1 h2
      have d1 : decide (a < 0) = true := by simpa using h1
      have d2 : decide (b < 0) = true := by simpa using h2
      clear h1 h2 M1 M2 M3 M4
      go_enter Try.func62, Try.ntmps62; go_wp2_with (first | (go_at_call 82; refine (rabs_c _ _).mono ?_; rintro e w' ⟨rfl, rfl⟩) | (go_at_call 83; refine (turn_c _ _ ?_).mono ?_; assumption; rintro e w' ⟨rfl, x, rfl⟩))
      exact bodyPost_ret (v := .agg #[.int .i64 (hi z), .int .i64 (lo z)]) (by simp [results, Try.results62, go_sem]) rfl ⟨by rw [M.out], Mr.mk' (by repeat (first | (with_reducible exact Mr.refl _) | (with_reducible apply Mr.drew) | (with_reducible apply Mr.alloc) | (with_reducible apply Mr.ext) | (with_reducible refine Mr.setCell ?_ (by first | (simp; done) | (simp; omega) | omega | (refine leOf0 ?_; (repeat (first | (with_reducible exact Mr.refl _) | (with_reducible apply Mr.drew) | (with_reducible apply Mr.alloc) | (with_reducible apply Mr.ext) | (with_reducible refine Mr.setCell ?_ (by first | (simp; done) | (simp; omega) | omega) _))); done) | (refine leOf ?_; (repeat (first | (with_reducible exact Mr.refl _) | (with_reducible apply Mr.drew) | (with_reducible apply Mr.alloc) | (with_reducible apply Mr.ext) | (with_reducible refine Mr.setCell ?_ (by first | (simp; done) | (simp; omega) | omega) _))); done)) _)))⟩
    · have M : Hid (ml a b = -z) := M2.out h1 h2
      have d1 : decide (a < 0) = true := by simpa using h1
      have d2 : decide (b < 0) = false := by simpa using h2
      clear h1 h2 M1 M2 M3 M4
      go_enter Try.func62, Try.ntmps62; go_wp2_with (first | (go_at_call 82; refine (rabs_c _ _).mono ?_; rintro e w' ⟨rfl, rfl⟩) | (go_at_call 83; refine (turn_c _ _ ?_).mono ?_; assumption; rintro e w' ⟨rfl, x, rfl⟩))
      exact bodyPost_ret (v := .agg #[.int .i64 (hi (-z)), .int .i64 (lo (-z))]) (by simp [results, Try.results62, go_sem]) rfl ⟨by rw [M.out], Mr.mk' (by repeat (first | (with_reducible exact Mr.refl _) | (with_reducible apply Mr.drew) | (with_reducible apply Mr.alloc) | (with_reducible apply Mr.ext) | (with_reducible refine Mr.setCell ?_ (by first | (simp; done) | (simp; omega) | omega | (refine leOf0 ?_; (repeat (first | (with_reducible exact Mr.refl _) | (with_reducible apply Mr.drew) | (with_reducible apply Mr.alloc) | (with_reducible apply Mr.ext) | (with_reducible refine Mr.setCell ?_ (by first | (simp; done) | (simp; omega) | omega) _))); done) | (refine leOf ?_; (repeat (first | (with_reducible exact Mr.refl _) | (with_reducible apply Mr.drew) | (with_reducible apply Mr.alloc) | (with_reducible apply Mr.ext) | (with_reducible refine Mr.setCell ?_ (by first | (simp; done) | (simp; omega) | omega) _))); done)) _)))⟩
    · have M : Hid (ml a b = -z) := M3.out h1 h2
      have d1 : decide (a < 0) = false := by simpa using h1
      have d2 : decide (b < 0) = true := by simpa using h2
      clear h1 h2 M1 M2 M3 M4
      go_enter Try.func62, Try.ntmps62; go_wp2_with (first | (go_at_call 82; refine (rabs_c _ _).mono ?_; rintro e w' ⟨rfl, rfl⟩) | (go_at_call 83; refine (turn_c _ _ ?_).mono ?_; assumption; rintro e w' ⟨rfl, x, rfl⟩))
      exact bodyPost_ret (v := .agg #[.int .i64 (hi (-z)), .int .i64 (lo (-z))]) (by simp [results, Try.results62, go_sem]) rfl ⟨by rw [M.out], Mr.mk' (by repeat (first | (with_reducible exact Mr.refl _) | (with_reducible apply Mr.drew) | (with_reducible apply Mr.alloc) | (with_reducible apply Mr.ext) | (with_reducible refine Mr.setCell ?_ (by first | (simp; done) | (simp; omega) | omega | (refine leOf0 ?_; (repeat (first | (with_reducible exact Mr.refl _) | (with_reducible apply Mr.drew) | (with_reducible apply Mr.alloc) | (with_reducible apply Mr.ext) | (with_reducible refine Mr.setCell ?_ (by first | (simp; done) | (simp; omega) | omega) _))); done) | (refine leOf ?_; (repeat (first | (with_reducible exact Mr.refl _) | (with_reducible apply Mr.drew) | (with_reducible apply Mr.alloc) | (with_reducible apply Mr.ext) | (with_reducible refine Mr.setCell ?_ (by first | (simp; done) | (simp; omega) | omega) _))); done)) _)))⟩
    · have M : Hid (ml a b = z) := M4.out h1 h2
      have d1 : decide (a < 0) = false := by simpa using h1
      have d2 : decide (b < 0) = false := by simpa using h2
      clear h1 h2 M1 M2 M3 M4
      go_enter Try.func62, Try.ntmps62; go_wp2_with (first | (go_at_call 82; refine (rabs_c _ _).mono ?_; rintro e w' ⟨rfl, rfl⟩) | (go_at_call 83; refine (turn_c _ _ ?_).mono ?_; assumption; rintro e w' ⟨rfl, x, rfl⟩))
      exact bodyPost_ret (v := .agg #[.int .i64 (hi z), .int .i64 (lo z)]) (by simp [results, Try.results62, go_sem]) rfl ⟨by rw [M.out], Mr.mk' (by repeat (first | (with_reducible exact Mr.refl _) | (with_reducible apply Mr.drew) | (with_reducible apply Mr.alloc) | (with_reducible apply Mr.ext) | (with_reducible refine Mr.setCell ?_ (by first | (simp; done) | (simp; omega) | omega | (refine leOf0 ?_; (repeat (first | (with_reducible exact Mr.refl _) | (with_reducible apply Mr.drew) | (with_reducible apply Mr.alloc) | (with_reducible apply Mr.ext) | (with_reducible refine Mr.setCell ?_ (by first | (simp; done) | (simp; omega) | omega) _))); done) | (refine leOf ?_; (repeat (first | (with_reducible exact Mr.refl _) | (with_reducible apply Mr.drew) | (with_reducible apply Mr.alloc) | (with_reducible apply Mr.ext) | (with_reducible refine Mr.setCell ?_ (by first | (simp; done) | (simp; omega) | omega) _))); done)) _)))⟩
  · have g4 : A + (B + C) / 2147483648 = hi z := g2.symm
    have g5 : D + (B + C) % 2147483648 * 2147483648 = lo z := g3.symm
    have g6 := lo_bd z
    clear g2 g3
    by_cases h1 : a < 0 <;> by_cases h2 : b < 0
    · have M : Hid (ml a b = z) := M1.out h1 h2
      have d1 : decide (a < 0) = true := by simpa using h1
      have d2 : decide (b < 0) = true := by simpa using h2
      clear h1 h2 M1 M2 M3 M4
      go_enter Try.func62, Try.ntmps62; go_wp2_with (first | (go_at_call 82; refine (rabs_c _ _).mono ?_; rintro e w' ⟨rfl, rfl⟩) | (go_at_call 83; refine (turn_c _ _ ?_).mono ?_; assumption; rintro e w' ⟨rfl, x, rfl⟩))
      exact bodyPost_ret (v := .agg #[.int .i64 (hi z), .int .i64 (lo z)]) (by simp [results, Try.results62, go_sem]) rfl ⟨by rw [M.out], Mr.mk' (by repeat (first | (with_reducible exact Mr.refl _) | (with_reducible apply Mr.drew) | (with_reducible apply Mr.alloc) | (with_reducible apply Mr.ext) | (with_reducible refine Mr.setCell ?_ (by first | (simp; done) | (simp; omega) | omega | (refine leOf0 ?_; (repeat (first | (with_reducible exact Mr.refl _) | (with_reducible apply Mr.drew) | (with_reducible apply Mr.alloc) | (with_reducible apply Mr.ext) | (with_reducible refine Mr.setCell ?_ (by first | (simp; done) | (simp; omega) | omega) _))); done) | (refine leOf ?_; (repeat (first | (with_reducible exact Mr.refl _) | (with_reducible apply Mr.drew) | (with_reducible apply Mr.alloc) | (with_reducible apply Mr.ext) | (with_reducible refine Mr.setCell ?_ (by first | (simp; done) | (simp; omega) | omega) _))); done)) _)))⟩
    · have M : Hid (ml a b = -z) := M2.out h1 h2
      have d1 : decide (a < 0) = true := by simpa using h1
      have d2 : decide (b < 0) = false := by simpa using h2
      clear h1 h2 M1 M2 M3 M4
      go_enter Try.func62, Try.ntmps62; go_wp2_with (first | (go_at_call 82; refine (rabs_c _ _).mono ?_; rintro e w' ⟨rfl, rfl⟩) | (go_at_call 83; refine (turn_c _ _ ?_).mono ?_; assumption; rintro e w' ⟨rfl, x, rfl⟩))
      exact bodyPost_ret (v := .agg #[.int .i64 (hi (-z)), .int .i64 (lo (-z))]) (by simp [results, Try.results62, go_sem]) rfl ⟨by rw [M.out], Mr.mk' (by repeat (first | (with_reducible exact Mr.refl _) | (with_reducible apply Mr.drew) | (with_reducible apply Mr.alloc) | (with_reducible apply Mr.ext) | (with_reducible refine Mr.setCell ?_ (by first | (simp; done) | (simp; omega) | omega | (refine leOf0 ?_; (repeat (first | (with_reducible exact Mr.refl _) | (with_reducible apply Mr.drew) | (with_reducible apply Mr.alloc) | (with_reducible apply Mr.ext) | (with_reducible refine Mr.setCell ?_ (by first | (simp; done) | (simp; omega) | omega) _))); done) | (refine leOf ?_; (repeat (first | (with_reducible exact Mr.refl _) | (with_reducible apply Mr.drew) | (with_reducible apply Mr.alloc) | (with_reducible apply Mr.ext) | (with_reducible refine Mr.setCell ?_ (by first | (simp; done) | (simp; omega) | omega) _))); done)) _)))⟩
    · have M : Hid (ml a b = -z) := M3.out h1 h2
      have d1 : decide (a < 0) = false := by simpa using h1
      have d2 : decide (b < 0) = true := by simpa using h2
      clear h1 h2 M1 M2 M3 M4
      go_enter Try.func62, Try.ntmps62; go_wp2_with (first | (go_at_call 82; refine (rabs_c _ _).mono ?_; rintro e w' ⟨rfl, rfl⟩) | (go_at_call 83; refine (turn_c _ _ ?_).mono ?_; assumption; rintro e w' ⟨rfl, x, rfl⟩))
      exact bodyPost_ret (v := .agg #[.int .i64 (hi (-z)), .int .i64 (lo (-z))]) (by simp [results, Try.results62, go_sem]) rfl ⟨by rw [M.out], Mr.mk' (by repeat (first | (with_reducible exact Mr.refl _) | (with_reducible apply Mr.drew) | (with_reducible apply Mr.alloc) | (with_reducible apply Mr.ext) | (with_reducible refine Mr.setCell ?_ (by first | (simp; done) | (simp; omega) | omega | (refine leOf0 ?_; (repeat (first | (with_reducible exact Mr.refl _) | (with_reducible apply Mr.drew) | (with_reducible apply Mr.alloc) | (with_reducible apply Mr.ext) | (with_reducible refine Mr.setCell ?_ (by first | (simp; done) | (simp; omega) | omega) _))); done) | (refine leOf ?_; (repeat (first | (with_reducible exact Mr.refl _) | (with_reducible apply Mr.drew) | (with_reducible apply Mr.alloc) | (with_reducible apply Mr.ext) | (with_reducible refine Mr.setCell ?_ (by first | (simp; done) | (simp; omega) | omega) _))); done)) _)))⟩
    · have M : Hid (ml a b = z) := M4.out h1 h2
      have d1 : decide (a < 0) = false := by simpa using h1
      have d2 : decide (b < 0) = false := by simpa using h2
      clear h1 h2 M1 M2 M3 M4
      go_enter Try.func62, Try.ntmps62; go_wp2_with (first | (go_at_call 82; refine (rabs_c _ _).mono ?_; rintro e w' ⟨rfl, rfl⟩) | (go_at_call 83; refine (turn_c _ _ ?_).mono ?_; assumption; rintro e w' ⟨rfl, x, rfl⟩))
      exact bodyPost_ret (v := .agg #[.int .i64 (hi z), .int .i64 (lo z)]) (by simp [results, Try.results62, go_sem]) rfl ⟨by rw [M.out], Mr.mk' (by repeat (first | (with_reducible exact Mr.refl _) | (with_reducible apply Mr.drew) | (with_reducible apply Mr.alloc) | (with_reducible apply Mr.ext) | (with_reducible refine Mr.setCell ?_ (by first | (simp; done) | (simp; omega) | omega | (refine leOf0 ?_; (repeat (first | (with_reducible exact Mr.refl _) | (with_reducible apply Mr.drew) | (with_reducible apply Mr.alloc) | (with_reducible apply Mr.ext) | (with_reducible refine Mr.setCell ?_ (by first | (simp; done) | (simp; omega) | omega) _))); done) | (refine leOf ?_; (repeat (first | (with_reducible exact Mr.refl _) | (with_reducible apply Mr.drew) | (with_reducible apply Mr.alloc) | (with_reducible apply Mr.ext) | (with_reducible refine Mr.setCell ?_ (by first | (simp; done) | (simp; omega) | omega) _))); done)) _)))⟩
end Wd
end Go.Proofs.Ytkhfkfofggiadaa
