/- Products and quotients of values as plain integers: the mathematics alone. -/
import Derived.Test.YtkhfkfofggiadaaWideC3
namespace Go.Proofs.Ytkhfkfofggiadaa
open Go.RowKit
open Go.Proofs.Ytkhfkfofggiadaa.Fx Go.Proofs.Ytkhfkfofggiadaa.Wd
set_option linter.unusedVariables false
namespace Sc
/-- Divided by 2^32, rounded. -/
def rn (z : Int) : Int := (z + 2147483648) / 4294967296
/-- Round: the value, and whether it was clamped. -/
def rv (p q : Int) : Int := cl (rn (vw p q))
def rb (p q : Int) : Bool := co (rn (vw p q)) || !sn p q
/-- Times. -/
def tv (a b : Int) : Int := cl (rn (ml a b))
def tb (a b : Int) : Bool := co (rn (ml a b)) || co a || co b
/-- The quotient of two sizes, rounded: a half upwards, or (below 0) downwards. -/
def mg (x y : Int) (below : Bool) : Int := if below then (2 * (x * 4294967296) + y - 1) / (2 * y) else (2 * (x * 4294967296) + y) / (2 * y)
def bl (a b : Int) : Bool := decide (a < 0) != decide (b < 0)
/-- Over. -/
def qv (a b : Int) : Int := if b = 0 then cm a 0 * 288230376151711744 else if bl a b then -cl (mg (ab a) (ab b) true) else cl (mg (ab a) (ab b) false)
def qb (a b : Int) : Bool := if b = 0 then true else co (mg (ab a) (ab b) (bl a b)) || co a || co b
/-- Mix. -/
def mv (a b t : Int) : Int := av a (tv (sv b a) t)
def mb (a b t : Int) : Bool := so b a || tb (sv b a) t || ao a (tv (sv b a) t)
/-- Half of a quotient's rest decides. -/
theorem mg_eq {x y : Int} (h0 : 0 ≤ x) (hy : 0 < y) (below : Bool) : mg x y below = x * 4294967296 / y + (if y < 2 * (x * 4294967296 % y) ∨ (y = 2 * (x * 4294967296 % y) ∧ below = false) then 1 else 0) := by
  have e := Int.ediv_mul_add_emod (x * 4294967296) y
  have r0 := Int.emod_nonneg (x * 4294967296) (show y ≠ 0 by omega)
  have r1 := Int.emod_lt_of_pos (x * 4294967296) hy
  generalize hq : x * 4294967296 / y = q at *
  generalize hr : x * 4294967296 % y = r at *
  have key : ∀ {n k : Int}, k * (2 * y) ≤ n → n < k * (2 * y) + 2 * y → n / (2 * y) = k := by
    intro n k a b
    have h2 : k ≤ n / (2 * y) := (Int.le_ediv_iff_mul_le (by omega)).2 a
    have h3 : n / (2 * y) < k + 1 := (Int.ediv_lt_iff_lt_mul (by omega)).2 (by rw [Int.add_mul]; omega)
    omega
  have d1 : q * (2 * y) = 2 * (q * y) := by grind
  have d2 : (q + 1) * (2 * y) = 2 * (q * y) + 2 * y := by grind
  generalize q * y = P at *
  unfold mg
  cases below
  · simp only [and_true, Bool.false_eq_true, if_false]
    split
    · exact key (by rw [d2]; omega) (by rw [d2]; omega)
    · rw [Int.add_zero]; exact key (by rw [d1]; omega) (by rw [d1]; omega)
  · simp only [Bool.true_eq_false, and_false, or_false, if_true]
    split
    · exact key (by rw [d2]; omega) (by rw [d2]; omega)
    · rw [Int.add_zero]; exact key (by rw [d1]; omega) (by rw [d1]; omega)
theorem mg_part {x y : Int} (h0 : 0 ≤ x) (hy : x < y) (below : Bool) : 0 ≤ mg x y below ∧ mg x y below ≤ 4294967296 := by
  rw [mg_eq h0 (by omega)]
  have q0 : 0 ≤ x * 4294967296 / y := Int.ediv_nonneg (by omega) (by omega)
  have q1 : x * 4294967296 / y < 4294967296 := Int.ediv_lt_of_lt_mul (by omega) (by omega)
  split <;> omega
theorem mg_whole {x y : Int} (h0 : 0 ≤ x) (hy : 0 < y) (below : Bool) : mg x y below = x / y * 4294967296 + mg (x % y) y below := by
  have e := Int.ediv_mul_add_emod x y
  have r0 := Int.emod_nonneg x (show y ≠ 0 by omega)
  rw [mg_eq h0 hy, mg_eq r0 hy]
  have e2 : x * 4294967296 = x % y * 4294967296 + x / y * 4294967296 * y := by
    have : x / y * 4294967296 * y = x / y * y * 4294967296 := by grind
    rw [this]; omega
  have e3 : x * 4294967296 / y = x % y * 4294967296 / y + x / y * 4294967296 := by
    conv => lhs; rw [e2]
    exact Int.add_mul_ediv_right _ _ (by omega)
  have e4 : x * 4294967296 % y = x % y * 4294967296 % y := by
    conv => lhs; rw [e2]
    exact Int.add_mul_emod_self_right ..
  rw [e3, e4]; omega
theorem ov_small {q : Int} (h0 : 0 ≤ q) (h1 : q ≤ 67108864) : ov q = q * 4294967296 ∧ ob q = false := by
  unfold ov ob wv wb
  rw [if_neg (by omega), if_neg (by omega)]
  exact ⟨rfl, by simp; omega⟩
theorem ov_big {q : Int} (h1 : 67108864 < q) : ov q = 288230376151711744 ∧ ob q = true := by
  unfold ov ob wv wb
  rw [if_neg (by omega), if_pos h1]
  exact ⟨rfl, by simp; omega⟩
theorem sizes_math {x y : Int} (h0 : 0 ≤ x) (hy : 0 < y) (below : Bool) : av (ov (x / y)) (mg (x % y) y below) = cl (mg x y below) ∧ (ob (x / y) || ao (ov (x / y)) (mg (x % y) y below)) = co (mg x y below) := by
  have q0 : 0 ≤ x / y := Int.ediv_nonneg h0 (by omega)
  have p := mg_part (Int.emod_nonneg x (show y ≠ 0 by omega)) (Int.emod_lt_of_pos x hy) below
  rw [mg_whole h0 hy]
  generalize mg (x % y) y below = P at *
  generalize x / y = Q at *
  have cP := cl_in (a := P) (by omega) (by omega)
  by_cases h : Q ≤ 67108864
  · obtain ⟨e1, e2⟩ := ov_small q0 h
    rw [e1, e2]
    have cQ := cl_in (a := Q * 4294967296) (by omega) (by omega)
    unfold av ao
    rw [cQ.1, cQ.2, cP.1, cP.2]
    simp
  · obtain ⟨e1, e2⟩ := ov_big (q := Q) (by omega)
    rw [e1, e2]
    obtain ⟨c1, c2⟩ := cl_hi (a := Q * 4294967296 + P) (by omega)
    unfold av
    rw [c1, c2, cP.1, (cl_in (a := 288230376151711744) (by omega) (by omega)).1]
    refine ⟨?_, by simp⟩
    rcases Int.lt_or_le 0 P with hp | hp
    · exact (cl_hi (by omega)).1
    · rw [(cl_in (by omega) (by omega)).1]; omega
theorem ab_one {b : Int} (h : b ≠ 0) : 1 ≤ ab b := by
  unfold ab cl wv
  repeat' split
  all_goals omega
end Sc
end Go.Proofs.Ytkhfkfofggiadaa
