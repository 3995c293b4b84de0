/- The mathematics of a quotient of two words by one (the trial quotient), plain integers alone. -/
import Derived.Test.YtkhfkfofggiadaaMemC
namespace Go.Proofs.Ytkhfkfofggiadaa
set_option linter.unusedVariables false
namespace Dv
/-! Knuth's trial quotient, two words by one and a half. -/
structure Inv (U D u v q r : Int) : Prop where
  e : q * u + r = U
  r0 : 0 ≤ r
  q0 : 0 ≤ q
  q1 : q ≤ 4294967297
  n : U * 4294967296 + D < q * (u * 4294967296 + v) + (u * 4294967296 + v)
theorem split (q u v : Int) : q * (u * 4294967296 + v) = q * u * 4294967296 + q * v := by grind
theorem inv_start {U D u v : Int} (hU0 : 0 ≤ U) (hU : U < u * 4294967296 + v) (hD0 : 0 ≤ D) (hD : D < 4294967296) (hu : 2147483648 ≤ u) (hu1 : u < 4294967296) (hv0 : 0 ≤ v) (hv : v < 4294967296) :
    Inv U D u v (U / u) (U - U / u * u) ∧ U - U / u * u < 4294967296 ∧ 0 ≤ U - U / u * u ∧ 0 ≤ U / u ∧ U / u ≤ 4294967297 ∧ 0 ≤ U / u * u ∧ U / u * u ≤ U := by
  have h1 : U / u * u + U % u = U := Int.ediv_mul_add_emod U u
  have h2 : 0 ≤ U % u := Int.emod_nonneg _ (by omega)
  have h3 : U % u < u := Int.emod_lt_of_pos _ (by omega)
  have h0 : 0 ≤ U / u := Int.ediv_nonneg hU0 (by omega)
  have h5 : U / u ≤ 4294967297 := by
    have : U / u < 4294967298 := Int.ediv_lt_of_lt_mul (by omega) (by omega)
    omega
  have h6 : 0 ≤ U / u * v := Int.mul_nonneg h0 hv0
  have h7 : 0 ≤ U / u * u := Int.mul_nonneg h0 (by omega)
  refine ⟨⟨by omega, by omega, h0, h5, ?_⟩, by omega, by omega, h0, h5, h7, by omega⟩
  rw [split]
  generalize U / u * u = P at *
  generalize U / u * v = R at *
  omega
/-- The quotient is too great: one less. -/
theorem inv_step {U D u v q r : Int} (h : Inv U D u v q r) (hU : U < u * 4294967296 + v) (hD : D < 4294967296) (hD0 : 0 ≤ D) (hu : 2147483648 ≤ u) (hv0 : 0 ≤ v)
    (c : 4294967296 ≤ q ∨ 4294967296 * r + D < q * v) : Inv U D u v (q - 1) (r + u) ∧ 1 ≤ q := by
  have k : U * 4294967296 + D < q * (u * 4294967296 + v) := by
    rcases c with c | c
    · have h1 : 4294967296 * (u * 4294967296 + v) ≤ q * (u * 4294967296 + v) := Int.mul_le_mul_of_nonneg_right c (by omega)
      omega
    · have e := h.e
      rw [split]
      generalize q * u = P at *
      generalize q * v = R at *
      omega
  have hq : 1 ≤ q := by
    rcases Int.lt_or_le 0 q with g | g
    · omega
    · have g0 : q = 0 := by have := h.q0; omega
      subst g0
      have e := h.e
      have := h.r0
      omega
  refine ⟨⟨?_, by have := h.r0; omega, by omega, by have := h.q1; omega, ?_⟩, hq⟩
  · have e := h.e
    rw [Int.sub_mul]; omega
  · have e : (q - 1) * (u * 4294967296 + v) + (u * 4294967296 + v) = q * (u * 4294967296 + v) := by rw [Int.sub_mul]; omega
    rw [e]; exact k
/-- Where the loop is left it is the quotient. -/
theorem inv_end {U D u v q r : Int} (h : Inv U D u v q r) (hD : D < 4294967296) (hD0 : 0 ≤ D) (hv0 : 0 ≤ v) (hv : v < 4294967296)
    (c : q * v ≤ 4294967296 * r + D ∨ (4294967296 ≤ r ∧ q ≤ 4294967296)) :
    q * (u * 4294967296 + v) ≤ U * 4294967296 + D ∧ U * 4294967296 + D < q * (u * 4294967296 + v) + (u * 4294967296 + v) := by
  refine ⟨?_, h.n⟩
  have e := h.e
  rw [split]
  rcases c with c | ⟨c, c1⟩
  · generalize q * u = P at *
    generalize q * v = R at *
    omega
  · have h1 : q * v ≤ 4294967296 * v := Int.mul_le_mul_of_nonneg_right c1 hv0
    generalize q * u = P at *
    generalize q * v = R at *
    omega
theorem quot_of {N y q : Int} (h0 : q * y ≤ N) (h1 : N < q * y + y) : q = N / y ∧ N - q * y = N % y := by
  have hy : 0 < y := by omega
  have e : N / y = q := by
    have h2 : q ≤ N / y := (Int.le_ediv_iff_mul_le hy).2 h0
    have h3 : N / y < q + 1 := (Int.ediv_lt_iff_lt_mul hy).2 (by rw [Int.add_mul]; omega)
    omega
  refine ⟨e.symm, ?_⟩
  have := Int.ediv_mul_add_emod N y
  rw [e] at this
  omega
/-- Two digits of the quotient, one behind the other. -/
theorem two_digits {U un10 y q1 q0 : Int} (h0 : 0 ≤ un10) (h1 : un10 < 18446744073709551616)
    (a : q1 * y ≤ U * 4294967296 + un10 / 4294967296) (b : U * 4294967296 + un10 / 4294967296 < q1 * y + y)
    (c : q0 * y ≤ (U * 4294967296 + un10 / 4294967296 - q1 * y) * 4294967296 + un10 % 4294967296) (d : (U * 4294967296 + un10 / 4294967296 - q1 * y) * 4294967296 + un10 % 4294967296 < q0 * y + y) :
    q1 * 4294967296 + q0 = (U * 18446744073709551616 + un10) / y ∧ (U * 4294967296 + un10 / 4294967296 - q1 * y) * 4294967296 + un10 % 4294967296 - q0 * y = (U * 18446744073709551616 + un10) % y := by
  have e : (q1 * 4294967296 + q0) * y = q1 * y * 4294967296 + q0 * y := by grind
  have := quot_of (N := U * 18446744073709551616 + un10) (y := y) (q := q1 * 4294967296 + q0) (by rw [e]; omega) (by rw [e]; omega)
  refine ⟨this.1, ?_⟩
  rw [← this.2, e]; omega
/-- What was turned up by a power of two comes down again. -/
theorem scaled (X y : Int) (s : Nat) : X * 2 ^ s / (y * 2 ^ s) = X / y ∧ X * 2 ^ s % (y * 2 ^ s) / 2 ^ s = X % y := by
  have hp : (0 : Int) < 2 ^ s := Int.pow_pos (by decide)
  refine ⟨Int.mul_ediv_mul_of_pos_left _ _ hp, ?_⟩
  rw [Int.mul_comm X, Int.mul_comm y, Int.mul_emod_mul_of_pos _ _ hp, Int.mul_ediv_cancel_left _ (by omega)]
end Dv
end Go.Proofs.Ytkhfkfofggiadaa
