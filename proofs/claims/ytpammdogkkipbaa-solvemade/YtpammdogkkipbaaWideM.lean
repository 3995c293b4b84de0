/- Wide numbers as plain integers: the mathematics alone. -/
import Derived.Test.YtpammdogkkipbaaMemC
namespace Go.Proofs.Ytpammdogkkipbaa
open Go.RowKit
namespace Wd
/-- The number's upper part, and its lower part. -/
def hi (z : Int) : Int := z / 4611686018427387904
def lo (z : Int) : Int := z % 4611686018427387904
/-- Whether a wide number is one. -/
def sn (p q : Int) : Bool := decide (-2305843009213693952 ≤ p ∧ p ≤ 2305843009213693951 ∧ 0 ≤ q ∧ q ≤ 4611686018427387903)
/-- As what one counts. -/
def vw (p q : Int) : Int := if sn p q then p * 4611686018427387904 + q else 0
/-- Whether a number lies within. -/
def inr (z : Int) : Bool := decide (-10633823966279326983230456482242756608 ≤ z ∧ z < 10633823966279326983230456482242756608)
/-- A number if it lies within, else 0. -/
def cut (z : Int) : Int := if inr z then z else 0
def cm (a b : Int) : Int := if a < b then -1 else if b < a then 1 else 0
def eqw (a b c d : Int) : Bool := decide (a = c ∧ b = d)
theorem eqw_self (a b : Int) : eqw a b a b = true := by simp [eqw]
theorem lo_bd (z : Int) : 0 ≤ lo z ∧ lo z ≤ 4611686018427387903 := by unfold lo; omega
theorem hi_lo (z : Int) : hi z * 4611686018427387904 + lo z = z := by unfold hi lo; omega
theorem inr_iff (z : Int) : inr z = true ↔ (-10633823966279326983230456482242756608 ≤ z ∧ z < 10633823966279326983230456482242756608) := by simp [inr]
theorem sn_iff (p q : Int) : sn p q = true ↔ (-2305843009213693952 ≤ p ∧ p ≤ 2305843009213693951 ∧ 0 ≤ q ∧ q ≤ 4611686018427387903) := by simp [sn]
theorem sn_niff (p q : Int) : sn p q = false ↔ ¬ (-2305843009213693952 ≤ p ∧ p ≤ 2305843009213693951 ∧ 0 ≤ q ∧ q ≤ 4611686018427387903) := by rw [← sn_iff]; simp
theorem hi_bd {z : Int} (h : inr z = true) : -2305843009213693952 ≤ hi z ∧ hi z ≤ 2305843009213693951 := by
  rw [inr_iff] at h; unfold hi; omega
theorem uniq {p q z : Int} (h : p * 4611686018427387904 + q = z) (h0 : 0 ≤ q) (h1 : q ≤ 4611686018427387903) : p = hi z ∧ q = lo z := by
  unfold hi lo; omega
theorem hl_inj {y z : Int} (h : hi y = hi z ∧ lo y = lo z) : y = z := by
  have := hi_lo y; have := hi_lo z; rw [h.1, h.2] at *; omega
theorem vw_sn {p q : Int} (h : sn p q = true) : vw p q = p * 4611686018427387904 + q := by simp [vw, h]
theorem vw_nsn {p q : Int} (h : sn p q = false) : vw p q = 0 := by simp [vw, h]
theorem vw_inr (p q : Int) : inr (vw p q) = true := by
  rw [inr_iff]
  cases h : sn p q
  · rw [vw_nsn h]; omega
  · rw [vw_sn h]; rw [sn_iff] at h; omega
theorem sn_hl {z : Int} (h : inr z = true) : sn (hi z) (lo z) = true := by
  rw [sn_iff]; have := hi_bd h; have := lo_bd z; omega
theorem sn_hlf {z : Int} (h : inr z = false) : sn (hi z) (lo z) = false := by
  rw [sn_niff]; have h2 := inr_iff z; rw [h] at h2; have := lo_bd z; have := hi_lo z; simp at h2; omega
theorem sn_hl_eq (z : Int) : sn (hi z) (lo z) = inr z := by
  cases h : inr z
  · exact sn_hlf h
  · exact sn_hl h
theorem vw_hl {z : Int} (h : inr z = true) : vw (hi z) (lo z) = z := by rw [vw_sn (sn_hl h), hi_lo]
theorem hl_vw {p q : Int} (h : sn p q = true) : p = hi (vw p q) ∧ q = lo (vw p q) := by
  rw [vw_sn h]; rw [sn_iff] at h; exact uniq rfl h.2.2.1 h.2.2.2
theorem hl_zero : hi 0 = 0 ∧ lo 0 = 0 := by decide
theorem cut_inr (z : Int) : inr (cut z) = true := by
  unfold cut; split
  · assumption
  · decide
theorem cut_of {z : Int} (h : inr z = true) : cut z = z := by simp [cut, h]
theorem cut_no {z : Int} (h : inr z = false) : cut z = 0 := by simp [cut, h]
theorem vw_cut (z : Int) : vw (hi (cut z)) (lo (cut z)) = cut z := vw_hl (cut_inr z)
theorem vw_vw (p q : Int) : vw (hi (vw p q)) (lo (vw p q)) = vw p q := vw_hl (vw_inr p q)
/-! Bits. -/
theorem and62 (n : Int) : bits .and .i64 n 4611686018427387903 = n % 4611686018427387904 := by
  have h : (BitVec.ofInt 64 4611686018427387903).toNat = 2 ^ 62 - 1 := by decide
  have key : (BitVec.ofInt 64 n &&& BitVec.ofInt 64 4611686018427387903).toNat = (n % ((2 ^ 64 : Nat) : Int)).toNat % 2 ^ 62 := by
    rw [BitVec.toNat_and, BitVec.toNat_ofInt, h, Nat.and_two_pow_sub_one_eq_mod]
  show IntKind.i64.wrap ((BitVec.ofInt 64 n &&& BitVec.ofInt 64 4611686018427387903).toNat : Nat) = _
  rw [key, IntKind.wrap_i64]
  omega
theorem and1 (n : Int) : bits .and .i64 n 1 = n % 2 := by
  have h : (BitVec.ofInt 64 1).toNat = 2 ^ 1 - 1 := by decide
  have key : (BitVec.ofInt 64 n &&& BitVec.ofInt 64 1).toNat = (n % ((2 ^ 64 : Nat) : Int)).toNat % 2 ^ 1 := by
    rw [BitVec.toNat_and, BitVec.toNat_ofInt, h, Nat.and_two_pow_sub_one_eq_mod]
  show IntKind.i64.wrap ((BitVec.ofInt 64 n &&& BitVec.ofInt 64 1).toNat : Nat) = _
  rw [key, IntKind.wrap_i64]
  omega
theorem not64 (n : Int) (h0 : -9223372036854775808 ≤ n) (h1 : n ≤ 9223372036854775807) : bits .xor .i64 (-1) n = -1 - n := by
  show IntKind.i64.wrap ((BitVec.ofInt 64 (-1) ^^^ BitVec.ofInt 64 n).toNat : Int) = _
  have e : BitVec.ofInt 64 (-1) = BitVec.allOnes 64 := by decide
  rw [e, BitVec.allOnes_xor, BitVec.toNat_not, BitVec.toNat_ofInt, IntKind.wrap_i64]
  omega
theorem wraps64 (n : Int) (h₀ : 0 ≤ n) (h₁ : n < 2 ^ 63) : IntKind.i64.wrap n = n := by rw [IntKind.wrap_i64]; omega
theorem or64 (i : Nat) (x y : Int) (h0 : 0 ≤ x) (h1 : x % 2 ^ i = 0) (h2 : x < 2 ^ 63) (h3 : 0 ≤ y) (h4 : y < 2 ^ i) (h5 : y < 2 ^ 63) : bits .or .i64 x y = x + y :=
  bits_join .i64 63 (by decide) wraps64 i x y h0 h1 h2 h3 h4 h5
theorem wrapsu (n : Int) (h₀ : 0 ≤ n) (h₁ : n < 2 ^ 64) : IntKind.u64.wrap n = n := by rw [IntKind.wrap_u64]; omega
theorem oru (i : Nat) (x y : Int) (h0 : 0 ≤ x) (h1 : x % 2 ^ i = 0) (h2 : x < 2 ^ 64) (h3 : 0 ≤ y) (h4 : y < 2 ^ i) (h5 : y < 2 ^ 64) : bits .or .u64 x y = x + y :=
  bits_join .u64 64 (by decide) wrapsu i x y h0 h1 h2 h3 h4 h5
theorem andu (m : Nat) (hm : m < 64) (n : Int) : bits .and .u64 n (2 ^ m - 1) = n % 2 ^ m := by
  have e : (2 : Int) ^ m - 1 = ((2 ^ m - 1 : Nat) : Int) := by
    have : 1 ≤ 2 ^ m := Nat.one_le_two_pow
    rw [Int.natCast_sub this]; simp
  have hl : 2 ^ m - 1 < 2 ^ 64 := by
    have : 2 ^ m < 2 ^ 64 := Nat.pow_lt_pow_right (by decide) hm
    omega
  have h : (BitVec.ofInt 64 ((2 ^ m - 1 : Nat) : Int)).toNat = 2 ^ m - 1 := by
    rw [BitVec.toNat_ofInt]
    omega
  rw [e]
  have key : (BitVec.ofInt 64 n &&& BitVec.ofInt 64 ((2 ^ m - 1 : Nat) : Int)).toNat = (n % ((2 ^ 64 : Nat) : Int)).toNat % 2 ^ m := by
    rw [BitVec.toNat_and, BitVec.toNat_ofInt, h, Nat.and_two_pow_sub_one_eq_mod]
  show IntKind.u64.wrap ((BitVec.ofInt 64 n &&& BitVec.ofInt 64 ((2 ^ m - 1 : Nat) : Int)).toNat : Nat) = _
  rw [key, IntKind.wrap_u64]
  have h1 : ((n % ((2 ^ 64 : Nat) : Int)).toNat % 2 ^ m : Nat) < 2 ^ m := Nat.mod_lt _ (Nat.two_pow_pos m)
  have h2 : 2 ^ m < 2 ^ 64 := Nat.pow_lt_pow_right (by decide) hm
  have h3 : (((n % ((2 ^ 64 : Nat) : Int)).toNat % 2 ^ m : Nat) : Int) = n % 2 ^ m := by
    rw [Int.natCast_emod, Int.toNat_of_nonneg (by omega)]
    have hd : ((2 ^ m : Nat) : Int) ∣ ((2 ^ 64 : Nat) : Int) := Int.natCast_dvd_natCast.2 (Nat.pow_dvd_pow 2 (by omega))
    rw [Int.emod_emod_of_dvd _ hd]
    simp
  rw [h3]
  have h4 : (0 : Int) ≤ n % 2 ^ m := by omega
  have h5 : n % (2 : Int) ^ m < 18446744073709551616 := by omega
  omega
/-! Divided by a power of two. -/
def dn (a k : Int) : Int := a / 2 ^ (min (max k 0) 200).toNat
theorem pow_split {j : Nat} (hj : j ≤ 62) : (4611686018427387904 : Int) = 2 ^ (62 - j) * 2 ^ j := by
  rw [← Int.pow_add, Nat.sub_add_cancel hj]; decide
theorem down_math (H l : Int) (j : Nat) (hj : j ≤ 62) (h0 : 0 ≤ l) (h1 : l < 4611686018427387904) :
    hi ((H * 4611686018427387904 + l) / 2 ^ j) = H / 2 ^ j ∧ lo ((H * 4611686018427387904 + l) / 2 ^ j) = (H * 2 ^ (62 - j)) % 4611686018427387904 + l / 2 ^ j ∧ 0 ≤ l / 2 ^ j ∧ l / 2 ^ j < 2 ^ (62 - j) ∧ (H * 2 ^ (62 - j)) % 4611686018427387904 % 2 ^ (62 - j) = 0 := by
  have hp : (0 : Int) < 2 ^ j := Int.pow_pos (by decide)
  have hm : (0 : Int) < 2 ^ (62 - j) := Int.pow_pos (by decide)
  have hs := pow_split hj
  have e1 : (H * 4611686018427387904 + l) / 2 ^ j = H * 2 ^ (62 - j) + l / 2 ^ j := by
    rw [hs, ← Int.mul_assoc, Int.add_comm, Int.add_mul_ediv_right _ _ (by omega), Int.add_comm]
  have l0 : 0 ≤ l / 2 ^ j := Int.ediv_nonneg h0 (by omega)
  have l1 : l / 2 ^ j < 2 ^ (62 - j) := by
    apply Int.ediv_lt_of_lt_mul hp
    rw [← hs]; exact h1
  have e2 : (H * 2 ^ (62 - j) + l / 2 ^ j) / 4611686018427387904 = H / 2 ^ j := by
    rw [hs, ← Int.ediv_ediv_of_nonneg (by omega), Int.add_comm, Int.add_mul_ediv_right _ _ (by omega), Int.ediv_eq_zero_of_lt l0 l1]
    simp
  have e3 : (H * 2 ^ (62 - j)) / 4611686018427387904 = H / 2 ^ j := by
    rw [hs, ← Int.ediv_ediv_of_nonneg (by omega), Int.mul_ediv_cancel _ (by omega)]
  have d1 : (2 : Int) ^ (62 - j) ∣ 4611686018427387904 := ⟨2 ^ j, hs⟩
  refine ⟨?_, ?_, l0, l1, ?_⟩
  · unfold hi; rw [e1, e2]
  · unfold lo; rw [e1, Int.emod_def, Int.emod_def, e2, e3]; omega
  · rw [Int.emod_emod_of_dvd _ d1]; exact Int.mul_emod_left _ _
theorem shr_cap {H : Int} (h0 : -9223372036854775808 ≤ H) (h1 : H ≤ 9223372036854775807) (n : Nat) : H / 2 ^ min n 64 = H / 2 ^ n := by
  by_cases hn : n ≤ 64
  · rw [Nat.min_eq_left hn]
  · rw [Nat.min_eq_right (by omega)]
    have hp : (18446744073709551616 : Int) ≤ 2 ^ n := by
      have h : (2 : Nat) ^ 64 ≤ 2 ^ n := Nat.pow_le_pow_right (by decide) (by omega)
      have h2 : ((2 ^ 64 : Nat) : Int) ≤ ((2 ^ n : Nat) : Int) := Int.ofNat_le.2 h
      simpa using h2
    have key : ∀ m : Int, 18446744073709551616 ≤ m → H / m = if H < 0 then -1 else 0 := by
      intro m hm
      split
      · rename_i hH
        have e : H = (H + m) + -1 * m := by omega
        rw [e, Int.add_mul_ediv_right _ _ (by omega), Int.ediv_eq_zero_of_lt (by omega) (by omega)]
        rfl
      · exact Int.ediv_eq_zero_of_lt (by omega) (by omega)
    rw [key _ hp, key _ (by decide)]
theorem div_pow_bd {H T : Int} (hT : 0 ≤ T) (h0 : -T - 1 ≤ H) (h1 : H ≤ T) (n : Nat) : -T - 1 ≤ H / 2 ^ n ∧ H / 2 ^ n ≤ T := by
  have hp : (0 : Int) < 2 ^ n := Int.pow_pos (by decide)
  constructor
  · rw [Int.le_ediv_iff_mul_le hp]
    have : (-T - 1) * 2 ^ n ≤ (-T - 1) * 1 := Int.mul_le_mul_of_nonpos_left (by omega) (by omega)
    omega
  · rcases Int.lt_or_le H 0 with h | h
    · have : H / 2 ^ n < 0 := Int.ediv_neg_of_neg_of_pos h hp
      omega
    · exact Int.le_trans (Int.ediv_le_self _ h) h1
/-- Down, high. -/
theorem dn_high (a : Int) (j : Nat) (hj : 62 ≤ j) : a / 2 ^ j = hi a / 2 ^ (j - 62) := by
  unfold hi
  have e : (2 : Int) ^ j = 4611686018427387904 * 2 ^ (j - 62) := by
    have : j = 62 + (j - 62) := by omega
    rw [show (4611686018427387904 : Int) = 2 ^ 62 by decide, ← Int.pow_add, ← this]
  rw [e, ← Int.ediv_ediv_of_nonneg (by decide)]
theorem wrap_and (X : Int) : wrap64 X % 4611686018427387904 = X % 4611686018427387904 := by unfold wrap64; omega
theorem down_all (a : Int) (j : Nat) (hj : j ≤ 61) : bits .or .i64 ((hi a * 2 ^ (62 - j)) % 4611686018427387904) (lo a / 2 ^ j) = lo (a / 2 ^ j) ∧ hi a / 2 ^ j = hi (a / 2 ^ j) := by
  have hb := lo_bd a
  obtain ⟨e1, e2, e3, e4, e5⟩ := down_math (hi a) (lo a) j (by omega) hb.1 (by omega)
  rw [hi_lo] at e1 e2
  refine ⟨?_, e1.symm⟩
  have e6 : (2 : Int) ^ (62 - j) ≤ 4611686018427387904 := by
    have h : (2 : Nat) ^ (62 - j) ≤ 2 ^ 62 := Nat.pow_le_pow_right (by decide) (by omega)
    have h2 : ((2 ^ (62 - j) : Nat) : Int) ≤ ((2 ^ 62 : Nat) : Int) := Int.ofNat_le.2 h
    simpa using h2
  rw [or64 (62 - j) _ _ (by omega) e5 (by omega) e3 e4 (by omega), e2]
end Wd
end Go.Proofs.Ytpammdogkkipbaa
