/- The contracts of package wide, third part: products. -/
import Derived.Test.YtkhfkfofggiadaaWideC2
namespace Go.Proofs.Ytkhfkfofggiadaa
open Go.ChangeShapes Go.WideShapes Go.ChangeAt Go.RowKit
open Go.Proofs.Ytkhfkfofggiadaa.Fx
set_option linter.unusedVariables false
attribute [local go_sem] Ext.cell Ext.froz Ext.lt Ext.lt1 Ext.lt2 Ext.lt3 Ext.all Ext.set_u drew_heap setCell_size Ext.set_size
namespace Wd
attribute [local go_sem ↓] eq_wide eqw_self
attribute [local go_sem] and62 and1 sgn64 not64 wrap_and
theorem and32u (n : Int) : bits .and .u64 n 4294967295 = n % 4294967296 := andu 32 (by decide) n
theorem and62u (n : Int) : bits .and .u64 n 4611686018427387903 = n % 4611686018427387904 := andu 62 (by decide) n
attribute [local go_sem] and32u and62u
theorem mul_parts (x1 x0 y1 y0 : Int) : (x1 * 4294967296 + x0) * (y1 * 4294967296 + y0) = x1 * y1 * 18446744073709551616 + (x1 * y0 + x0 * y1) * 4294967296 + x0 * y0 := by grind
theorem mul_le' {a b c d : Int} (h0 : 0 ≤ a) (h1 : a ≤ c) (h2 : 0 ≤ b) (h3 : b ≤ d) : 0 ≤ a * b ∧ a * b ≤ c * d :=
  ⟨Int.mul_nonneg h0 h2, Int.mul_le_mul h1 h3 h2 (by omega)⟩
theorem mul_hi (x y : Int) (hx : 0 ≤ x ∧ x ≤ 288230376151711744) (hy : 0 ≤ y ∧ y ≤ 288230376151711744) :
    x / 4294967296 * (y / 4294967296) + (x / 4294967296 * (y % 4294967296) + x % 4294967296 * (y % 4294967296) / 4294967296) / 4294967296 + ((x / 4294967296 * (y % 4294967296) + x % 4294967296 * (y % 4294967296) / 4294967296) % 4294967296 + x % 4294967296 * (y / 4294967296)) / 4294967296 = x * y / 18446744073709551616 ∧
    (0 ≤ x / 4294967296 * (y / 4294967296) ∧ x / 4294967296 * (y / 4294967296) ≤ 4503599627370496) ∧ (0 ≤ x / 4294967296 * (y % 4294967296) ∧ x / 4294967296 * (y % 4294967296) ≤ 288230376151711744) ∧ (0 ≤ x % 4294967296 * (y % 4294967296) ∧ x % 4294967296 * (y % 4294967296) ≤ 18446744065119617025) ∧ (0 ≤ x % 4294967296 * (y / 4294967296) ∧ x % 4294967296 * (y / 4294967296) ≤ 288230376151711744) ∧ (0 ≤ x * y ∧ x * y ≤ 83076749736557242056487941267521536) := by
  have e := mul_parts (x / 4294967296) (x % 4294967296) (y / 4294967296) (y % 4294967296)
  rw [show x / 4294967296 * 4294967296 + x % 4294967296 = x by omega, show y / 4294967296 * 4294967296 + y % 4294967296 = y by omega] at e
  have hA := mul_le' (a := x / 4294967296) (b := y / 4294967296) (c := 67108864) (d := 67108864) (by omega) (by omega) (by omega) (by omega)
  have hB := mul_le' (a := x / 4294967296) (b := y % 4294967296) (c := 67108864) (d := 4294967295) (by omega) (by omega) (by omega) (by omega)
  have hC := mul_le' (a := x % 4294967296) (b := y / 4294967296) (c := 4294967295) (d := 67108864) (by omega) (by omega) (by omega) (by omega)
  have hD := mul_le' (a := x % 4294967296) (b := y % 4294967296) (c := 4294967295) (d := 4294967295) (by omega) (by omega) (by omega) (by omega)
  have hE := mul_le' (a := x) (b := y) (c := 288230376151711744) (d := 288230376151711744) (by omega) (by omega) (by omega) (by omega)
  rw [e] at hE ⊢
  generalize x / 4294967296 * (y / 4294967296) = A at *
  generalize x / 4294967296 * (y % 4294967296) = B at *
  generalize x % 4294967296 * (y / 4294967296) = C at *
  generalize x % 4294967296 * (y % 4294967296) = D at *
  refine ⟨by omega, by omega, by omega, by omega, by omega, by omega⟩
theorem ret_uu {a b c d : Int} (h : a = c) (g : b = d) : Ending.returned (.tuple #[.int .u64 a, .int .u64 b]) = .returned (.tuple #[.int .u64 c, .int .u64 d]) := by rw [h, g]
set_option maxHeartbeats 2000000 in
theorem mul64_c (x y : Int) (w : World) (hx : 0 ≤ x ∧ x ≤ 288230376151711744) (hy : 0 ≤ y ∧ y ≤ 288230376151711744) :
    Calls Try.prog 97 #[.int .u64 x, .int .u64 y] w fun e w' => e = .returned (.tuple #[.int .u64 (x * y / 18446744073709551616), .int .u64 (x * y % 18446744073709551616)]) ∧ w' = w := by
  obtain ⟨e, hA, hB, hD, hC, hE⟩ := mul_hi x y hx hy
  have E := Hid.out e
  have HE : Hid (x / 4294967296 * (y / 4294967296) + (x / 4294967296 * (y % 4294967296) + x % 4294967296 * (y % 4294967296) / 4294967296) / 4294967296 + ((x / 4294967296 * (y % 4294967296) + x % 4294967296 * (y % 4294967296) / 4294967296) % 4294967296 + x % 4294967296 * (y / 4294967296)) / 4294967296 = x * y / 18446744073709551616) := e
  clear e E
  go_enter Try.func97, Try.ntmps97
  go_wp2
  go_ret2
  exact ⟨ret_uu (by rw [← HE.out]) (by rw [IntKind.wrap_u64]), rfl⟩
theorem sizes_math (z : Int) (h0 : 0 ≤ z) (h1 : z ≤ 83076749736557242056487941267521536) :
    bits .or .u64 (z / 18446744073709551616 * 4) (z % 18446744073709551616 / 4611686018427387904) = hi z ∧ z % 18446744073709551616 % 4611686018427387904 = lo z ∧ 0 ≤ hi z ∧ hi z ≤ 18014398509481984 ∧ 0 ≤ z / 18446744073709551616 ∧ z / 18446744073709551616 ≤ 4503599627370496 := by
  refine ⟨?_, by unfold lo; omega, by unfold hi; omega, by unfold hi; omega, by omega, by omega⟩
  rw [oru 2 _ _ (by omega) (by omega) (by omega) (by omega) (by omega) (by omega)]
  unfold hi; omega
set_option maxHeartbeats 2000000 in
theorem sizes_c (x y : Int) (w : World) (hx : 0 ≤ x ∧ x ≤ 288230376151711744) (hy : 0 ≤ y ∧ y ≤ 288230376151711744) :
    Calls Try.prog 94 #[.int .u64 x, .int .u64 y] w fun e w' => e = .returned (.agg #[.int .i64 (hi (x * y)), .int .i64 (lo (x * y))]) ∧ ∃ z : Ext w, w' = z.u := by
  have hE := mul_le' (a := x) (b := y) (c := 288230376151711744) (d := 288230376151711744) hx.1 hx.2 hy.1 hy.2
  generalize hz : x * y = z at *
  obtain ⟨o1, o2, o3, o4, o5, o6⟩ := sizes_math z hE.1 (by omega)
  have o7 := lo_bd z
  go_enter Try.func94, Try.ntmps94
  go_wp2_with (go_at_call 97; refine (mul64_c _ _ _ ?_ ?_).mono ?_; (first | omega | exact ⟨by omega, by omega⟩); (first | omega | exact ⟨by omega, by omega⟩); rintro e w' ⟨rfl, rfl⟩)
  exact bodyPost_ret (v := .agg #[.int .i64 (hi z), .int .i64 (lo z)]) (by simp [results, Try.results94, go_sem]) rfl ⟨rfl, Mr.mk' (by repeat (first | (with_reducible exact Mr.refl _) | (with_reducible apply Mr.drew) | (with_reducible apply Mr.alloc) | (with_reducible apply Mr.ext) | (with_reducible refine Mr.setCell ?_ (by first | (simp; done) | (simp; omega) | omega | (refine leOf0 ?_; (repeat (first | (with_reducible exact Mr.refl _) | (with_reducible apply Mr.drew) | (with_reducible apply Mr.alloc) | (with_reducible apply Mr.ext) | (with_reducible refine Mr.setCell ?_ (by first | (simp; done) | (simp; omega) | omega) _))); done) | (refine leOf ?_; (repeat (first | (with_reducible exact Mr.refl _) | (with_reducible apply Mr.drew) | (with_reducible apply Mr.alloc) | (with_reducible apply Mr.ext) | (with_reducible refine Mr.setCell ?_ (by first | (simp; done) | (simp; omega) | omega) _))); done)) _)))⟩
theorem ab_bd (a : Int) : 0 ≤ ab a ∧ ab a ≤ 288230376151711744 := by have := cl_bd a; unfold ab; omega
theorem ab_neg {a : Int} (h : a < 0) : cl a = -ab a := by unfold ab cl wv; repeat' split
                                                          all_goals omega
theorem ab_pos {a : Int} (h : ¬ a < 0) : cl a = ab a := by unfold ab cl wv; repeat' split
                                                           all_goals omega
theorem mul_inr {a b : Int} (ha : 0 ≤ a ∧ a ≤ 288230376151711744) (hb : 0 ≤ b ∧ b ≤ 288230376151711744) : inr (a * b) = true ∧ inr (-(a * b)) = true := by
  have h := mul_le' (a := a) (b := b) (c := 288230376151711744) (d := 288230376151711744) ha.1 ha.2 hb.1 hb.2
  rw [inr_iff, inr_iff]; omega
/-- The product of what two numbers count as. -/
def ml (a b : Int) : Int := cl a * cl b
theorem ml_inr (a b : Int) : inr (ml a b) = true := by
  have h := mul_inr (ab_bd a) (ab_bd b)
  unfold ml
  by_cases ha : a < 0 <;> by_cases hb : b < 0
  · rw [ab_neg ha, ab_neg hb, Int.neg_mul_neg]; exact h.1
  · rw [ab_neg ha, ab_pos hb, Int.neg_mul]; exact h.2
  · rw [ab_pos ha, ab_neg hb, Int.mul_neg]; exact h.2
  · rw [ab_pos ha, ab_pos hb]; exact h.1
set_option maxHeartbeats 2000000 in
theorem wmul_c (a b : Int) (w : World) :
    Calls Try.prog 87 #[.int .i64 a, .int .i64 b] w fun e w' => e = .returned (.agg #[.int .i64 (hi (ml a b)), .int .i64 (lo (ml a b))]) ∧ ∃ x : Ext w, w' = x.u := by
  have ha := ab_bd a
  have hb := ab_bd b
  have hm := mul_inr ha hb
  have hv := vw_hl hm.1
  have hc := cut_of hm.2
  by_cases h1 : a < 0 <;> by_cases h2 : b < 0
  · have M : Hid (ml a b = ab a * ab b) := by unfold ml; rw [ab_neg h1, ab_neg h2, Int.neg_mul_neg]; trivial
    clear hm hc
    have d1 : decide (a < 0) = true := by simpa using h1
    have d2 : decide (b < 0) = true := by simpa using h2
    clear h1 h2
    go_enter Try.func87, Try.ntmps87
    go_wp2_with (first | (go_at_call 78; refine (abs_c _ _).mono ?_; rintro e w' ⟨rfl, rfl⟩) | (go_at_call 94; refine (sizes_c _ _ _ ?_ ?_).mono ?_; (first | assumption | omega); (first | assumption | omega); rintro e w' ⟨rfl, x, rfl⟩) | (go_at_call 95; refine (wneg_c _ _ _).mono ?_; rintro e w' ⟨rfl, x, rfl⟩))
    exact bodyPost_ret (v := .agg #[.int .i64 (hi (ab a * ab b)), .int .i64 (lo (ab a * ab b))]) (by simp [results, Try.results87, go_sem]) rfl ⟨by rw [M.out], Mr.mk' (by repeat (first | (with_reducible exact Mr.refl _) | (with_reducible apply Mr.drew) | (with_reducible apply Mr.alloc) | (with_reducible apply Mr.ext) | (with_reducible refine Mr.setCell ?_ (by first | (simp; done) | (simp; omega) | omega | (refine leOf0 ?_; (repeat (first | (with_reducible exact Mr.refl _) | (with_reducible apply Mr.drew) | (with_reducible apply Mr.alloc) | (with_reducible apply Mr.ext) | (with_reducible refine Mr.setCell ?_ (by first | (simp; done) | (simp; omega) | omega) _))); done) | (refine leOf ?_; (repeat (first | (with_reducible exact Mr.refl _) | (with_reducible apply Mr.drew) | (with_reducible apply Mr.alloc) | (with_reducible apply Mr.ext) | (with_reducible refine Mr.setCell ?_ (by first | (simp; done) | (simp; omega) | omega) _))); done)) _)))⟩
  · have M : Hid (ml a b = -(ab a * ab b)) := by unfold ml; rw [ab_neg h1, ab_pos h2, Int.neg_mul]; trivial
    clear hm
    have d1 : decide (a < 0) = true := by simpa using h1
    have d2 : decide (b < 0) = false := by simpa using h2
    clear h1 h2
    go_enter Try.func87, Try.ntmps87
    go_wp2_with (first | (go_at_call 78; refine (abs_c _ _).mono ?_; rintro e w' ⟨rfl, rfl⟩) | (go_at_call 94; refine (sizes_c _ _ _ ?_ ?_).mono ?_; (first | assumption | omega); (first | assumption | omega); rintro e w' ⟨rfl, x, rfl⟩) | (go_at_call 95; refine (wneg_c _ _ _).mono ?_; rintro e w' ⟨rfl, x, rfl⟩))
    exact bodyPost_ret (v := .agg #[.int .i64 (hi (-(ab a * ab b))), .int .i64 (lo (-(ab a * ab b)))]) (by simp [results, Try.results87, go_sem]) rfl ⟨by rw [M.out], Mr.mk' (by repeat (first | (with_reducible exact Mr.refl _) | (with_reducible apply Mr.drew) | (with_reducible apply Mr.alloc) | (with_reducible apply Mr.ext) | (with_reducible refine Mr.setCell ?_ (by first | (simp; done) | (simp; omega) | omega | (refine leOf0 ?_; (repeat (first | (with_reducible exact Mr.refl _) | (with_reducible apply Mr.drew) | (with_reducible apply Mr.alloc) | (with_reducible apply Mr.ext) | (with_reducible refine Mr.setCell ?_ (by first | (simp; done) | (simp; omega) | omega) _))); done) | (refine leOf ?_; (repeat (first | (with_reducible exact Mr.refl _) | (with_reducible apply Mr.drew) | (with_reducible apply Mr.alloc) | (with_reducible apply Mr.ext) | (with_reducible refine Mr.setCell ?_ (by first | (simp; done) | (simp; omega) | omega) _))); done)) _)))⟩
  · have M : Hid (ml a b = -(ab a * ab b)) := by unfold ml; rw [ab_pos h1, ab_neg h2, Int.mul_neg]; trivial
    clear hm
    have d1 : decide (a < 0) = false := by simpa using h1
    have d2 : decide (b < 0) = true := by simpa using h2
    clear h1 h2
    go_enter Try.func87, Try.ntmps87
    go_wp2_with (first | (go_at_call 78; refine (abs_c _ _).mono ?_; rintro e w' ⟨rfl, rfl⟩) | (go_at_call 94; refine (sizes_c _ _ _ ?_ ?_).mono ?_; (first | assumption | omega); (first | assumption | omega); rintro e w' ⟨rfl, x, rfl⟩) | (go_at_call 95; refine (wneg_c _ _ _).mono ?_; rintro e w' ⟨rfl, x, rfl⟩))
    exact bodyPost_ret (v := .agg #[.int .i64 (hi (-(ab a * ab b))), .int .i64 (lo (-(ab a * ab b)))]) (by simp [results, Try.results87, go_sem]) rfl ⟨by rw [M.out], Mr.mk' (by repeat (first | (with_reducible exact Mr.refl _) | (with_reducible apply Mr.drew) | (with_reducible apply Mr.alloc) | (with_reducible apply Mr.ext) | (with_reducible refine Mr.setCell ?_ (by first | (simp; done) | (simp; omega) | omega | (refine leOf0 ?_; (repeat (first | (with_reducible exact Mr.refl _) | (with_reducible apply Mr.drew) | (with_reducible apply Mr.alloc) | (with_reducible apply Mr.ext) | (with_reducible refine Mr.setCell ?_ (by first | (simp; done) | (simp; omega) | omega) _))); done) | (refine leOf ?_; (repeat (first | (with_reducible exact Mr.refl _) | (with_reducible apply Mr.drew) | (with_reducible apply Mr.alloc) | (with_reducible apply Mr.ext) | (with_reducible refine Mr.setCell ?_ (by first | (simp; done) | (simp; omega) | omega) _))); done)) _)))⟩
  · have M : Hid (ml a b = ab a * ab b) := by unfold ml; rw [ab_pos h1, ab_pos h2]; trivial
    clear hm hc
    have d1 : decide (a < 0) = false := by simpa using h1
    have d2 : decide (b < 0) = false := by simpa using h2
    clear h1 h2
    go_enter Try.func87, Try.ntmps87
    go_wp2_with (first | (go_at_call 78; refine (abs_c _ _).mono ?_; rintro e w' ⟨rfl, rfl⟩) | (go_at_call 94; refine (sizes_c _ _ _ ?_ ?_).mono ?_; (first | assumption | omega); (first | assumption | omega); rintro e w' ⟨rfl, x, rfl⟩) | (go_at_call 95; refine (wneg_c _ _ _).mono ?_; rintro e w' ⟨rfl, x, rfl⟩))
    exact bodyPost_ret (v := .agg #[.int .i64 (hi (ab a * ab b)), .int .i64 (lo (ab a * ab b))]) (by simp [results, Try.results87, go_sem]) rfl ⟨by rw [M.out], Mr.mk' (by repeat (first | (with_reducible exact Mr.refl _) | (with_reducible apply Mr.drew) | (with_reducible apply Mr.alloc) | (with_reducible apply Mr.ext) | (with_reducible refine Mr.setCell ?_ (by first | (simp; done) | (simp; omega) | omega | (refine leOf0 ?_; (repeat (first | (with_reducible exact Mr.refl _) | (with_reducible apply Mr.drew) | (with_reducible apply Mr.alloc) | (with_reducible apply Mr.ext) | (with_reducible refine Mr.setCell ?_ (by first | (simp; done) | (simp; omega) | omega) _))); done) | (refine leOf ?_; (repeat (first | (with_reducible exact Mr.refl _) | (with_reducible apply Mr.drew) | (with_reducible apply Mr.alloc) | (with_reducible apply Mr.ext) | (with_reducible refine Mr.setCell ?_ (by first | (simp; done) | (simp; omega) | omega) _))); done)) _)))⟩
end Wd
end Go.Proofs.Ytkhfkfofggiadaa
