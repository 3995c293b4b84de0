/- Square roots as plain integers: what the statements need of them. -/
import Derived.Test.YtkhfkfofggiadaaRootM
namespace Go.Proofs.Ytkhfkfofggiadaa
open Go.RowKit
open Go.Proofs.Ytkhfkfofggiadaa.Fx Go.Proofs.Ytkhfkfofggiadaa.Wd
namespace Rt
theorem ro_iff (z : Int) : ro z = true ↔ (z < 0 ∨ 83076749736557242632948693570945025 ≤ z) := by simp [ro]
theorem ro_f {z : Int} (h : ro z = false) : 0 ≤ z ∧ z < 83076749736557242632948693570945025 := by
  have := ro_iff z; rw [h] at this; simp at this; omega
theorem ro_of {z : Int} (h : 0 ≤ z) (g : z < 83076749736557242632948693570945025) : ro z = false := by
  cases e : ro z
  · rfl
  · rw [ro_iff] at e; omega
theorem ro_lim {z : Int} (h : ro z = true) (g : 0 ≤ z) : sr z = 288230376151711744 := by
  have := lim1; have := lim0
  rw [ro_iff] at h
  exact sr_of ⟨by omega, by omega, .inr (by omega), .inl rfl⟩
theorem sr_sq {z : Int} (h : 0 ≤ z) : sr z * sr z ≤ z := by
  have hi := sr_is z
  generalize sr z = n at *
  obtain ⟨h0, h1, h2, h3⟩ := hi
  rcases h2 with rfl | h2
  · omega
  · exact h2
theorem sr_next {z : Int} (h : ro z = false) : z < (sr z + 1) * (sr z + 1) := by
  have := next_iff (ro_f h).1
  rw [h] at this
  have := of_decide_eq_false this
  omega
theorem sr_mono {y z : Int} (h : y ≤ z) : sr y ≤ sr z := by
  obtain ⟨h0, h1, h2, h3⟩ := sr_is y
  obtain ⟨g0, g1, g2, g3⟩ := sr_is z
  generalize sr y = n at *
  generalize sr z = m at *
  rcases g3 with rfl | g3
  · exact h1
  · rcases h2 with rfl | h2
    · exact g0
    · have := lt_of_sq (a := n) (b := m + 1) (by omega) (by omega)
      omega
theorem ml_ab (a : Int) : ml a a = ab a * ab a := by
  unfold ml
  by_cases h : a < 0
  · rw [ab_neg h, Int.neg_mul_neg]
  · rw [ab_pos h]
theorem ml_nn (a : Int) : 0 ≤ ml a a := sq_nn _
theorem sr_back {x m : Int} (h0 : 0 ≤ x) (h1 : x ≤ 288230376151711744) (h2 : 0 ≤ m) (h3 : m ≤ 2 * x) : sr (x * x + m) = x ∧ ro (x * x + m) = false := by
  have e : (x + 1) * (x + 1) = x * x + (2 * x + 1) := by grind
  have := lim1
  have := sq_le (a := x + 1) (b := 288230376151711744 + 1) (by omega) (by omega)
  have := sq_nn x
  exact ⟨sr_of ⟨h0, h1, .inr (by omega), .inr (by omega)⟩, ro_of (by omega) (by omega)⟩
theorem cl_ab (a : Int) : cl (ab a) = ab a := (cl_in (by have := ab_bd a; omega) (ab_bd a).2).1
theorem hyp_ge (a b : Int) : ab a ≤ sr (ml a a + ml b b) ∧ ab b ≤ sr (ml a a + ml b b) := by
  have ha := ab_bd a
  have hb := ab_bd b
  have e := ml_ab a; have e' := ml_ab b
  have h1 : sr (ab a * ab a) = ab a := in_hit ha.1 ha.2 rfl
  have h2 : sr (ab b * ab b) = ab b := in_hit hb.1 hb.2 rfl
  have n1 := ml_nn a; have n2 := ml_nn b
  have m1 := sr_mono (y := ab a * ab a) (z := ml a a + ml b b) (by omega)
  have m2 := sr_mono (y := ab b * ab b) (z := ml a a + ml b b) (by omega)
  omega
theorem hyp_le (a b : Int) : sr (ml a a + ml b b) ≤ cl (ab a + ab b) := by
  have ha := ab_bd a
  have hb := ab_bd b
  have hs := sr_bd (ml a a + ml b b)
  have e : (ab a + ab b) * (ab a + ab b) = ab a * ab a + ab b * ab b + 2 * (ab a * ab b) := by grind
  have hn := Int.mul_nonneg ha.1 hb.1
  have hq := sr_sq (z := ml a a + ml b b) (by have := ml_nn a; have := ml_nn b; omega)
  have e1 := ml_ab a; have e2 := ml_ab b
  have hl := le_of_sq (a := sr (ml a a + ml b b)) (b := ab a + ab b) (by omega) (by omega)
  generalize ab a + ab b = t at *
  rcases Int.lt_or_le 288230376151711744 t with h | h
  · rw [(cl_hi h).1]; omega
  · rw [(cl_in (by omega) h).1]; omega
theorem four {z : Int} (h0 : 0 ≤ z) (h1 : ro (4 * z) = false) : ro z = false ∧ (sr (4 * z) = 2 * sr z ∨ sr (4 * z) = 2 * sr z + 1) := by
  have r0 := ro_f h1
  have r1 : ro z = false := ro_of h0 (by omega)
  have a1 := sr_sq h0
  have a2 := sr_next r1
  have b1 := sr_sq (z := 4 * z) (by omega)
  have b2 := sr_next h1
  have s0 := sr_bd z
  have s1 := sr_bd (4 * z)
  generalize sr z = s at *
  generalize sr (4 * z) = t at *
  have e1 : (2 * s) * (2 * s) = 4 * (s * s) := by grind
  have e2 : (2 * s + 2) * (2 * s + 2) = 4 * ((s + 1) * (s + 1)) := by grind
  have c1 := lt_of_sq (a := 2 * s) (b := t + 1) (by omega) (by omega)
  have c2 := lt_of_sq (a := t) (b := 2 * s + 2) (by omega) (by omega)
  exact ⟨r1, by omega⟩
theorem cm_le (a b : Int) (h : a ≤ b) : cm a b ≤ 0 := by have := cm_cases a b; omega
theorem cm_gt (a b : Int) (h : b < a) : 0 < cm a b := by have := cm_cases a b; omega
theorem cm_lt' (a b : Int) (h : a < b) : cm a b < 0 := by have := cm_cases a b; omega
theorem and57 (n : Int) : bits .and .i64 n 144115188075855871 = n % 144115188075855872 := by
  have h : (BitVec.ofInt 64 144115188075855871).toNat = 2 ^ 57 - 1 := by decide
  have key : (BitVec.ofInt 64 n &&& BitVec.ofInt 64 144115188075855871).toNat = (n % ((2 ^ 64 : Nat) : Int)).toNat % 2 ^ 57 := by
    rw [BitVec.toNat_and, BitVec.toNat_ofInt, h, Nat.and_two_pow_sub_one_eq_mod]
  show IntKind.i64.wrap ((BitVec.ofInt 64 n &&& BitVec.ofInt 64 144115188075855871).toNat : Nat) = _
  rw [key, IntKind.wrap_i64]
  omega
end Rt
end Go.Proofs.Ytkhfkfofggiadaa
