/- The mathematics of a quotient of two words by one (the trial quotient), plain integers alone. -/
import Derived.Test.YtpammdogkkipbaaMemC
import Derived.Test.YtpammdogkkipbaaWideM
import Derived.Deep.DeepCutAuto
import Derived.Deep.CutBlock
import Derived.RegionTactic
namespace Go.Proofs.Ytpammdogkkipbaa
set_option linter.unusedVariables false
namespace Dv
/-! Knuth's trial quotient, two words by one and a half. -/
structure Inv (U D u v q r : Int) : Prop where
  e : q * u + r = U
  r0 : 0 ≤ r
  q0 : 0 ≤ q
  q1 : q ≤ 4294967297
  n : U * 4294967296 + D < q * (u * 4294967296 + v) + (u * 4294967296 + v)
theorem split (q u v : Int) : q * (u * 4294967296 + v) = q * u * 4294967296 + q * v := by grind
theorem inv_start {U D u v : Int} (hU0 : 0 ≤ U) (hU : U < u * 4294967296 + v) (hD0 : 0 ≤ D) (hD : D < 4294967296) (hu : 2147483648 ≤ u) (hu1 : u < 4294967296) (hv0 : 0 ≤ v) (hv : v < 4294967296) :
    Inv U D u v (U / u) (U - U / u * u) ∧ U - U / u * u < 4294967296 ∧ 0 ≤ U - U / u * u ∧ 0 ≤ U / u ∧ U / u ≤ 4294967297 ∧ 0 ≤ U / u * u ∧ U / u * u ≤ U := by
  have h1 : U / u * u + U % u = U := Int.ediv_mul_add_emod U u
  have h2 : 0 ≤ U % u := Int.emod_nonneg _ (by omega)
  have h3 : U % u < u := Int.emod_lt_of_pos _ (by omega)
  have h0 : 0 ≤ U / u := Int.ediv_nonneg hU0 (by omega)
  have h5 : U / u ≤ 4294967297 := by
    have : U / u < 4294967298 := Int.ediv_lt_of_lt_mul (by omega) (by omega)
    omega
  have h6 : 0 ≤ U / u * v := Int.mul_nonneg h0 hv0
  have h7 : 0 ≤ U / u * u := Int.mul_nonneg h0 (by omega)
  refine ⟨⟨by omega, by omega, h0, h5, ?_⟩, by omega, by omega, h0, h5, h7, by omega⟩
  rw [split]
  generalize U / u * u = P at *
  generalize U / u * v = R at *
  omega
/-- The quotient is too great: one less. -/
theorem inv_step {U D u v q r : Int} (h : Inv U D u v q r) (hU : U < u * 4294967296 + v) (hD : D < 4294967296) (hD0 : 0 ≤ D) (hu : 2147483648 ≤ u) (hv0 : 0 ≤ v)
    (c : 4294967296 ≤ q ∨ 4294967296 * r + D < q * v) : Inv U D u v (q - 1) (r + u) ∧ 1 ≤ q := by
  have k : U * 4294967296 + D < q * (u * 4294967296 + v) := by
    rcases c with c | c
    · have h1 : 4294967296 * (u * 4294967296 + v) ≤ q * (u * 4294967296 + v) := Int.mul_le_mul_of_nonneg_right c (by omega)
      omega
    · have e := h.e
      rw [split]
      generalize q * u = P at *
      generalize q * v = R at *
      omega
  have hq : 1 ≤ q := by
    rcases Int.lt_or_le 0 q with g | g
    · omega
    · have g0 : q = 0 := by have := h.q0; omega
      subst g0
      have e := h.e
      have := h.r0
      omega
  refine ⟨⟨?_, by have := h.r0; omega, by omega, by have := h.q1; omega, ?_⟩, hq⟩
  · have e := h.e
    rw [Int.sub_mul]; omega
  · have e : (q - 1) * (u * 4294967296 + v) + (u * 4294967296 + v) = q * (u * 4294967296 + v) := by rw [Int.sub_mul]; omega
    rw [e]; exact k
/-- Where the loop is left it is the quotient. -/
theorem inv_end {U D u v q r : Int} (h : Inv U D u v q r) (hD : D < 4294967296) (hD0 : 0 ≤ D) (hv0 : 0 ≤ v) (hv : v < 4294967296)
    (c : q * v ≤ 4294967296 * r + D ∨ (4294967296 ≤ r ∧ q ≤ 4294967296)) :
    q * (u * 4294967296 + v) ≤ U * 4294967296 + D ∧ U * 4294967296 + D < q * (u * 4294967296 + v) + (u * 4294967296 + v) := by
  refine ⟨?_, h.n⟩
  have e := h.e
  rw [split]
  rcases c with c | ⟨c, c1⟩
  · generalize q * u = P at *
    generalize q * v = R at *
    omega
  · have h1 : q * v ≤ 4294967296 * v := Int.mul_le_mul_of_nonneg_right c1 hv0
    generalize q * u = P at *
    generalize q * v = R at *
    omega
theorem quot_of {N y q : Int} (h0 : q * y ≤ N) (h1 : N < q * y + y) : q = N / y ∧ N - q * y = N % y := by
  have hy : 0 < y := by omega
  have e : N / y = q := by
    have h2 : q ≤ N / y := (Int.le_ediv_iff_mul_le hy).2 h0
    have h3 : N / y < q + 1 := (Int.ediv_lt_iff_lt_mul hy).2 (by rw [Int.add_mul]; omega)
    omega
  refine ⟨e.symm, ?_⟩
  have := Int.ediv_mul_add_emod N y
  rw [e] at this
  omega
/-- Two digits of the quotient, one behind the other. -/
theorem two_digits {U un10 y q1 q0 : Int} (h0 : 0 ≤ un10) (h1 : un10 < 18446744073709551616)
    (a : q1 * y ≤ U * 4294967296 + un10 / 4294967296) (b : U * 4294967296 + un10 / 4294967296 < q1 * y + y)
    (c : q0 * y ≤ (U * 4294967296 + un10 / 4294967296 - q1 * y) * 4294967296 + un10 % 4294967296) (d : (U * 4294967296 + un10 / 4294967296 - q1 * y) * 4294967296 + un10 % 4294967296 < q0 * y + y) :
    q1 * 4294967296 + q0 = (U * 18446744073709551616 + un10) / y ∧ (U * 4294967296 + un10 / 4294967296 - q1 * y) * 4294967296 + un10 % 4294967296 - q0 * y = (U * 18446744073709551616 + un10) % y := by
  have e : (q1 * 4294967296 + q0) * y = q1 * y * 4294967296 + q0 * y := by grind
  have := quot_of (N := U * 18446744073709551616 + un10) (y := y) (q := q1 * 4294967296 + q0) (by rw [e]; omega) (by rw [e]; omega)
  refine ⟨this.1, ?_⟩
  rw [← this.2, e]; omega
/-- What was turned up by a power of two comes down again. -/
theorem scaled (X y : Int) (s : Nat) : X * 2 ^ s / (y * 2 ^ s) = X / y ∧ X * 2 ^ s % (y * 2 ^ s) / 2 ^ s = X % y := by
  have hp : (0 : Int) < 2 ^ s := Int.pow_pos (by decide)
  refine ⟨Int.mul_ediv_mul_of_pos_left _ _ hp, ?_⟩
  rw [Int.mul_comm X, Int.mul_comm y, Int.mul_emod_mul_of_pos _ _ hp, Int.mul_ediv_cancel_left _ (by omega)]
end Dv
end Go.Proofs.Ytpammdogkkipbaa
/- The contracts of math/bits.Len64, LeadingZeros64, Div64. -/
namespace Go.Proofs.Ytpammdogkkipbaa
open Go.ChangeShapes Go.WideShapes Go.ChangeAt Go.RowKit
set_option linter.unusedVariables false
namespace Dv
/-- How many binary digits a number below 256 has. -/
def sz8 (n : Nat) : Nat := if n = 0 then 0 else Nat.log2 n + 1
theorem sz8_bd (k : Nat) (h0 : 0 < k) (h1 : k < 256) : 1 ≤ sz8 k ∧ sz8 k ≤ 8 ∧ 2 ^ (sz8 k - 1) ≤ k ∧ k < 2 ^ sz8 k := by
  have key : ∀ j : Fin 256, 0 < j.val → 1 ≤ sz8 j.val ∧ sz8 j.val ≤ 8 ∧ 2 ^ (sz8 j.val - 1) ≤ j.val ∧ j.val < 2 ^ sz8 j.val := by decide +kernel
  exact key ⟨k, h1⟩ h0
theorem tab_of (T : ByteArray) (hT : T.data.toList.map UInt8.toNat = (List.range 256).map sz8) (k : Nat) (h : k < T.size) : T[k].toNat = sz8 k := by
  have h2 : k < T.data.toList.length := by simpa using h
  have e : (T.data.toList.map UInt8.toNat)[k]'(by simpa using h) = T[k].toNat := by simp; rfl
  rw [← e]
  simp only [hT]
  simp
theorem wr8 {b s : Nat} (hb : b ≤ 56) (hs : s ≤ 8) : wrap64 ((b : Int) + wrap64 (s : Int)) = ((b + s : Nat) : Int) := by unfold wrap64; omega
theorem len_end {x y B : Int} (b : Nat) (hB : B = b) (hb : b ≤ 56) (hy : x / 2 ^ b = y) (h0 : 0 < y) (h1 : y < 256) (T : ByteArray) (hT : T.data.toList.map UInt8.toNat = (List.range 256).map sz8) (hk : y.toNat < T.size) (w : World) :
    ∃ n : Nat, 1 ≤ n ∧ n ≤ 64 ∧ (2 : Int) ^ (n - 1) ≤ x ∧ x < 2 ^ n ∧ Ending.returned (.int .i64 (wrap64 (B + wrap64 (T[y.toNat].toNat : Int)))) = .returned (.int .i64 n) ∧ w = w := by
  rw [tab_of T hT y.toNat hk, hB]
  obtain ⟨a1, a2, a3, a4⟩ := sz8_bd y.toNat (by omega) (by omega)
  generalize sz8 y.toNat = s at *
  have hp : (0 : Int) < 2 ^ b := Int.pow_pos (by decide)
  have d1 : x / 2 ^ b * 2 ^ b ≤ x := Int.ediv_mul_le _ (by omega)
  have d2 : x < (x / 2 ^ b + 1) * 2 ^ b := Int.lt_ediv_add_one_mul_self _ hp
  rw [hy] at d1 d2
  have e3 : (2 : Int) ^ (s - 1) ≤ y := by
    have h : ((2 ^ (s - 1) : Nat) : Int) ≤ (y.toNat : Int) := Int.ofNat_le.2 a3
    have e : ((2 ^ (s - 1) : Nat) : Int) = (2 : Int) ^ (s - 1) := by simp
    rw [e, Int.toNat_of_nonneg (by omega)] at h
    exact h
  have e4 : y + 1 ≤ (2 : Int) ^ s := by
    have h : (y.toNat : Int) < ((2 ^ s : Nat) : Int) := Int.ofNat_lt.2 a4
    have e : ((2 ^ s : Nat) : Int) = (2 : Int) ^ s := by simp
    rw [e, Int.toNat_of_nonneg (by omega)] at h
    exact h
  refine ⟨b + s, by omega, by omega, ?_, ?_, ?_, rfl⟩
  · have : b + s - 1 = (s - 1) + b := by omega
    rw [this, Int.pow_add]
    exact Int.le_trans (Int.mul_le_mul_of_nonneg_right e3 (Int.le_of_lt hp)) d1
  · rw [Nat.add_comm, Int.pow_add]
    exact Int.lt_of_lt_of_le d2 (Int.mul_le_mul_of_nonneg_right e4 (Int.le_of_lt hp))
  · rw [wr8 hb a2]
theorem len_end0 {x : Int} (h0 : 0 < x) (h1 : x < 256) (T : ByteArray) (hT : T.data.toList.map UInt8.toNat = (List.range 256).map sz8) (hk : x.toNat < T.size) (w : World) :
    ∃ n : Nat, 1 ≤ n ∧ n ≤ 64 ∧ (2 : Int) ^ (n - 1) ≤ x ∧ x < 2 ^ n ∧ Ending.returned (.int .i64 (wrap64 (wrap64 (T[x.toNat].toNat : Int)))) = .returned (.int .i64 n) ∧ w = w := by
  have h := len_end (B := 0) (y := x) (x := x) 0 rfl (by decide) (by simp) h0 h1 T hT hk w
  rwa [Int.zero_add] at h
set_option maxHeartbeats 1000000 in
set_option maxRecDepth 100000 in
theorem len64_c (x : Int) (w : World) (h0 : 0 < x) (h1 : x < 18446744073709551616) :
    Calls Try.prog 96 #[.int .u64 x] w fun e w' => ∃ n : Nat, 1 ≤ n ∧ n ≤ 64 ∧ (2 : Int) ^ (n - 1) ≤ x ∧ x < 2 ^ n ∧ e = .returned (.int .i64 n) ∧ w' = w := by
  go_enter Try.func96, Try.ntmps96
  go_wp2
  all_goals go_ret
  · exact len_end (B := 56) (y := x / 4294967296 / 65536 / 256) 56 rfl (by decide) (by first | (simp only [Int.reducePow]; done) | (simp only [Int.reducePow]; omega)) (by omega) (by omega) _ (by decide +kernel) _ _
  · exact len_end (B := 48) (y := x / 4294967296 / 65536) 48 rfl (by decide) (by first | (simp only [Int.reducePow]; done) | (simp only [Int.reducePow]; omega)) (by omega) (by omega) _ (by decide +kernel) _ _
  · exact len_end (B := 40) (y := x / 4294967296 / 256) 40 rfl (by decide) (by first | (simp only [Int.reducePow]; done) | (simp only [Int.reducePow]; omega)) (by omega) (by omega) _ (by decide +kernel) _ _
  · exact len_end (B := 32) (y := x / 4294967296) 32 rfl (by decide) (by first | (simp only [Int.reducePow]; done) | (simp only [Int.reducePow]; omega)) (by omega) (by omega) _ (by decide +kernel) _ _
  · exact len_end (B := 24) (y := x / 65536 / 256) 24 rfl (by decide) (by first | (simp only [Int.reducePow]; done) | (simp only [Int.reducePow]; omega)) (by omega) (by omega) _ (by decide +kernel) _ _
  · exact len_end (B := 16) (y := x / 65536) 16 rfl (by decide) (by first | (simp only [Int.reducePow]; done) | (simp only [Int.reducePow]; omega)) (by omega) (by omega) _ (by decide +kernel) _ _
  · exact len_end (B := 8) (y := x / 256) 8 rfl (by decide) (by first | (simp only [Int.reducePow]; done) | (simp only [Int.reducePow]; omega)) (by omega) (by omega) _ (by decide +kernel) _ _
  · exact len_end0 (by omega) (by omega) _ (by decide +kernel) _ _
theorem lz_math {x : Int} {n : Nat} (h1 : 1 ≤ n) (h2 : n ≤ 64) (h3 : (2 : Int) ^ (n - 1) ≤ x) (h4 : x < 2 ^ n) : 9223372036854775808 ≤ x * 2 ^ (64 - n) ∧ x * 2 ^ (64 - n) < 18446744073709551616 := by
  have hp : (0 : Int) < 2 ^ (64 - n) := Int.pow_pos (by decide)
  have e1 : (2 : Int) ^ (n - 1) * 2 ^ (64 - n) = 9223372036854775808 := by
    rw [← Int.pow_add, show n - 1 + (64 - n) = 63 by omega]; decide
  have e2 : (2 : Int) ^ n * 2 ^ (64 - n) = 18446744073709551616 := by
    rw [← Int.pow_add, show n + (64 - n) = 64 by omega]; decide
  refine ⟨?_, ?_⟩
  · rw [← e1]; exact Int.mul_le_mul_of_nonneg_right h3 (Int.le_of_lt hp)
  · rw [← e2]; exact Int.mul_lt_mul_of_pos_right h4 hp
set_option maxHeartbeats 400000 in
theorem lz_c (x : Int) (w : World) (h0 : 0 < x) (h1 : x < 18446744073709551616) :
    Calls Try.prog 85 #[.int .u64 x] w fun e w' => ∃ s : Nat, s ≤ 63 ∧ 9223372036854775808 ≤ x * 2 ^ s ∧ x * 2 ^ s < 18446744073709551616 ∧ e = .returned (.int .i64 s) ∧ w' = w := by
  go_enter Try.func85, Try.ntmps85
  go_wp2_with (go_at_call 96; refine (len64_c _ _ h0 h1).mono ?_; rintro e w' ⟨n, a1, a2, a3, a4, rfl, rfl⟩)
  go_ret
  have h := lz_math a1 a2 a3 a4
  exact ⟨64 - n, by omega, h.1, h.2, by rw [show ((64 - n : Nat) : Int) = 64 - (n : Int) by omega]; rfl, rfl⟩
end Dv
end Go.Proofs.Ytpammdogkkipbaa
/- The contract of math/bits.Div64: the quotient and the rest of two words by one. -/
namespace Go.Proofs.Ytpammdogkkipbaa
open Go.ChangeShapes Go.WideShapes Go.ChangeAt Go.RowKit
open Go.Proofs.Ytpammdogkkipbaa.Wd
set_option linter.unusedVariables false
namespace Dv
theorem and32u' (n : Int) : bits .and .u64 n 4294967295 = n % 4294967296 := andu 32 (by decide) n
attribute [local go_sem] and32u'
theorem start_math (h l y : Int) (s : Nat) (h0 : 0 < h) (hl0 : 0 ≤ l) (hl : l < 18446744073709551616) (hy : h < y) (hs : s ≤ 63) (hy1 : 9223372036854775808 ≤ y * 2 ^ s) (hy2 : y * 2 ^ s < 18446744073709551616) :
    ∃ U L u v : Int, bits .or .u64 (IntKind.u64.wrap (h * 2 ^ s)) (l / 2 ^ (64 - s)) = U ∧ IntKind.u64.wrap (l * 2 ^ s) = L ∧ y * 2 ^ s / 4294967296 = u ∧ y * 2 ^ s % 4294967296 = v ∧
      Hid (y * 2 ^ s = u * 4294967296 + v) ∧ Hid (U * 18446744073709551616 + L = (h * 18446744073709551616 + l) * 2 ^ s) ∧ 0 ≤ U ∧ U < u * 4294967296 + v ∧ 0 ≤ L ∧ L < 18446744073709551616 ∧ 2147483648 ≤ u ∧ u < 4294967296 ∧ 0 ≤ v ∧ v < 4294967296 := by
  have hp : (0 : Int) < 2 ^ s := Int.pow_pos (by decide)
  have hq : (0 : Int) < 2 ^ (64 - s) := Int.pow_pos (by decide)
  have e64 : (2 : Int) ^ (64 - s) * 2 ^ s = 18446744073709551616 := by
    rw [← Int.pow_add, show 64 - s + s = 64 by omega]; decide
  have a1 : h * 2 ^ s + 2 ^ s ≤ y * 2 ^ s := by
    have : (h + 1) * 2 ^ s ≤ y * 2 ^ s := Int.mul_le_mul_of_nonneg_right (by omega) (Int.le_of_lt hp)
    rw [Int.add_mul, Int.one_mul] at this; exact this
  have a0 : 0 ≤ h * 2 ^ s := Int.mul_nonneg (by omega) (Int.le_of_lt hp)
  have b0 : 0 ≤ l / 2 ^ (64 - s) := Int.ediv_nonneg hl0 (Int.le_of_lt hq)
  have b1 : l / 2 ^ (64 - s) < 2 ^ s := by
    apply Int.ediv_lt_of_lt_mul hq
    rw [Int.mul_comm, e64]; exact hl
  have c1 : l * 2 ^ s / 18446744073709551616 = l / 2 ^ (64 - s) := by
    rw [← e64]; exact Int.mul_ediv_mul_of_pos_left _ _ hp
  have m0 : h * 2 ^ s % 2 ^ s = 0 := Int.mul_emod_left _ _
  have hsum : (h * 18446744073709551616 + l) * 2 ^ s = h * 2 ^ s * 18446744073709551616 + l * 2 ^ s := by grind
  have w1 : IntKind.u64.wrap (h * 2 ^ s) = h * 2 ^ s := by
    rw [IntKind.wrap_u64]
    generalize h * 2 ^ s = A at *
    generalize y * 2 ^ s = Y at *
    generalize (2 : Int) ^ s = p at *
    omega
  have o1 : bits .or .u64 (h * 2 ^ s) (l / 2 ^ (64 - s)) = h * 2 ^ s + l / 2 ^ (64 - s) := by
    refine oru s _ _ a0 m0 ?_ b0 b1 ?_
    · generalize h * 2 ^ s = A at *
      generalize y * 2 ^ s = Y at *
      generalize (2 : Int) ^ s = p at *
      omega
    · generalize l / 2 ^ (64 - s) = A at *
      generalize h * 2 ^ s = H at *
      generalize y * 2 ^ s = Y at *
      generalize (2 : Int) ^ s = p at *
      omega
  refine ⟨h * 2 ^ s + l / 2 ^ (64 - s), l * 2 ^ s % 18446744073709551616, _, _, by rw [w1, o1], by rw [IntKind.wrap_u64], rfl, rfl, ?_⟩
  rw [Hid, Hid, hsum]
  generalize l / 2 ^ (64 - s) = A at *
  generalize l * 2 ^ s = B at *
  generalize h * 2 ^ s = H at *
  generalize y * 2 ^ s = Y at *
  generalize (2 : Int) ^ s = p at *
  omega
theorem mul_bd {a v : Int} (h0 : 0 ≤ a) (h1 : a ≤ 4294967295) (h2 : 0 ≤ v) (h3 : v < 4294967296) : 0 ≤ a * v ∧ a * v ≤ 18446744065119617025 :=
  ⟨Int.mul_nonneg h0 h2, Int.mul_le_mul (c := 4294967295) (d := 4294967295) h1 (by omega) h2 (by omega)⟩
theorem ret_uu {a b c d : Int} (h : a = c) (g : b = d) : Ending.returned (.tuple #[.int .u64 a, .int .u64 b]) = .returned (.tuple #[.int .u64 c, .int .u64 d]) := by rw [h, g]
/-- What the loop leaves. -/
def Left (U D u v Q : Int) : Prop := Q * (u * 4294967296 + v) ≤ U * 4294967296 + D ∧ U * 4294967296 + D < Q * (u * 4294967296 + v) + (u * 4294967296 + v)
theorem left_bd {U D u v Q : Int} (h : Left U D u v Q) (hU0 : 0 ≤ U) (hU : U < u * 4294967296 + v) (hD0 : 0 ≤ D) (hD : D < 4294967296) : 0 ≤ Q ∧ Q ≤ 4294967295 := by
  obtain ⟨h1, h2⟩ := h
  have hy : 0 < u * 4294967296 + v := by omega
  generalize u * 4294967296 + v = Y at *
  constructor
  · rcases Int.lt_or_le Q 0 with c | c
    · have : (Q + 1) * Y ≤ 0 * Y := Int.mul_le_mul_of_nonneg_right (by omega) (by omega)
      rw [Int.add_mul] at this; omega
    · exact c
  · rcases Int.lt_or_le 4294967295 Q with c | c
    · have : 4294967296 * Y ≤ Q * Y := Int.mul_le_mul_of_nonneg_right (by omega) (by omega)
      omega
    · exact c
theorem wr3 {A D B V : Int} (h : A + D - B = V) (h0 : 0 ≤ V) (h1 : V < 18446744073709551616) : IntKind.u64.wrap (IntKind.u64.wrap (IntKind.u64.wrap A + D) - IntKind.u64.wrap B) = V := by
  simp only [IntKind.wrap_u64]; omega
set_option maxHeartbeats 1000000 in
theorem div64_c (h l y : Int) (w : World) (h0 : 0 < h) (hl0 : 0 ≤ l) (hl : l < 18446744073709551616) (hy : h < y) (hy1 : y < 18446744073709551616) :
    Calls Try.prog 75 #[.int .u64 h, .int .u64 l, .int .u64 y] w fun e w' => e = .returned (.tuple #[.int .u64 ((h * 18446744073709551616 + l) / y), .int .u64 ((h * 18446744073709551616 + l) % y)]) ∧ w' = w := by
  go_enter Try.func75, Try.ntmps75
  go_upto_block 0 with (go_at_call 85; refine (lz_c _ _ ?_ ?_).mono ?_; omega; omega; rintro e w' ⟨s, hs, hy1, hy2, rfl, rfl⟩; obtain ⟨U, L, u, v, g1, g2, g3, g4, G5, G6, g7, g8, g9, g10, g11, g12, g13, g14⟩ := start_math h l y s h0 hl0 hl hy hs hy1 hy2; obtain ⟨I1, g15, g16, g17, g18, g19, g20⟩ := inv_start (D := L / 4294967296) g7 g8 (by omega) (by omega) g11 g12 g13 g14)
  go_cut [15, 16] (fun q r wx => w' = wx ∧ ∃ Q R : Int, q = .int .u64 Q ∧ r = .int .u64 R ∧ 0 ≤ Q ∧ Q ≤ 4294967295 ∧ Left U (L / 4294967296) u v Q)
  case first =>
    have d0 : 0 ≤ L / 4294967296 := by omega
    have d1 : L / 4294967296 < 4294967296 := by omega
    generalize hD : L / 4294967296 = D at *
    go_wp2_with fail
    go_loop [15, 16] (fun q r => ∃ a b : Int, q = .int .u64 a ∧ r = .int .u64 b ∧ 0 ≤ a ∧ a ≤ 4294967297 ∧ 0 ≤ b ∧ b < 4294967296 ∧ Inv U D u v a b) (fun q _ => (intOf q).toNat)
    case atStart => exact ⟨_, _, rfl, rfl, g17, g18, g16, g15, I1⟩
    case round =>
      obtain ⟨a, b, rfl, rfl, a0, a1, b0, b1, I⟩ := hrel
      by_cases c : 4294967296 ≤ a ∨ 4294967296 * b + D < a * v
      · obtain ⟨J, a2⟩ := inv_step I g8 d1 d0 g11 g13 c
        by_cases c1 : 4294967296 ≤ a
        · by_cases c2 : 4294967296 ≤ b + u
          · have E := inv_end J d1 d0 g13 g14 (.inr ⟨c2, by omega⟩)
            go_wp2
            go_meet
            have F := left_bd E g7 g8 d0 d1
            exact ⟨rfl, _, _, rfl, rfl, F.1, F.2, E⟩
          · go_wp2
            go_round
            case rel => exact ⟨_, _, rfl, rfl, by omega, by omega, by omega, by omega, J⟩
            case measure => simp [intOf]; omega
        · have c3 : 4294967296 * b + D < a * v := by omega
          obtain ⟨m0, m1⟩ := mul_bd a0 (by omega) g13 g14
          by_cases c2 : 4294967296 ≤ b + u
          · have E := inv_end J d1 d0 g13 g14 (.inr ⟨c2, by omega⟩)
            go_wp2
            go_meet
            have F := left_bd E g7 g8 d0 d1
            exact ⟨rfl, _, _, rfl, rfl, F.1, F.2, E⟩
          · go_wp2
            go_round
            case rel => exact ⟨_, _, rfl, rfl, by omega, by omega, by omega, by omega, J⟩
            case measure => simp [intOf]; omega
      · have c1 : a < 4294967296 := by omega
        have c3 : a * v ≤ 4294967296 * b + D := by omega
        obtain ⟨m0, m1⟩ := mul_bd a0 (by omega) g13 g14
        have E := inv_end I d1 d0 g13 g14 (.inl c3)
        clear c
        go_wp2
        go_meet
        have F := left_bd E g7 g8 d0 d1
        exact ⟨rfl, _, _, rfl, rfl, F.1, F.2, E⟩
  case rest =>
    obtain ⟨rfl, Q, R, rfl, rfl, b1, b2, HQ⟩ := hcut
    have K : ∃ V : Int, IntKind.u64.wrap (IntKind.u64.wrap (IntKind.u64.wrap (U * 4294967296) + L / 4294967296) - IntKind.u64.wrap (Q * (y * 2 ^ s))) = V ∧ 0 ≤ V ∧ V < u * 4294967296 + v ∧ Hid (U * 4294967296 + L / 4294967296 - Q * (y * 2 ^ s) = V) := by
      obtain ⟨k1, k2⟩ := HQ
      rw [G5.out]
      refine ⟨_, wr3 rfl ?_ ?_, ?_, ?_, rfl⟩ <;> omega
    obtain ⟨V, k1, k2, k3, K4⟩ := K
    clear I1 g15 g16 g17 g18 g19 g20
    obtain ⟨I1, g15, g16, g17, g18, g19, g20⟩ := inv_start (D := L % 4294967296) k2 k3 (by omega) (by omega) g11 g12 g13 g14
    go_upto_block 2 with fail
    go_cut [16, 18] (fun r q wx => w' = wx ∧ ∃ Q R : Int, q = .int .u64 Q ∧ r = .int .u64 R ∧ 0 ≤ Q ∧ Q ≤ 4294967295 ∧ Left V (L % 4294967296) u v Q)
    case first =>
      have d0 : 0 ≤ L % 4294967296 := by omega
      have d1 : L % 4294967296 < 4294967296 := by omega
      generalize hD : L % 4294967296 = D at *
      go_wp2_with fail
      go_loop [16, 18] (fun r q => ∃ a b : Int, q = .int .u64 a ∧ r = .int .u64 b ∧ 0 ≤ a ∧ a ≤ 4294967297 ∧ 0 ≤ b ∧ b < 4294967296 ∧ Inv V D u v a b) (fun _ q => (intOf q).toNat)
      case atStart => exact ⟨_, _, rfl, rfl, g17, g18, g16, g15, I1⟩
      case round =>
        obtain ⟨a, b, rfl, rfl, a0, a1, b0, b1, I⟩ := hrel
        by_cases c : 4294967296 ≤ a ∨ 4294967296 * b + D < a * v
        · obtain ⟨J, a2⟩ := inv_step I k3 d1 d0 g11 g13 c
          by_cases c1 : 4294967296 ≤ a
          · by_cases c2 : 4294967296 ≤ b + u
            · have E := inv_end J d1 d0 g13 g14 (.inr ⟨c2, by omega⟩)
              go_wp2
              go_meet
              have F := left_bd E k2 k3 d0 d1
              exact ⟨rfl, _, _, rfl, rfl, F.1, F.2, E⟩
            · go_wp2
              go_round
              case rel => exact ⟨_, _, rfl, rfl, by omega, by omega, by omega, by omega, J⟩
              case measure => simp [intOf]; omega
          · have c3 : 4294967296 * b + D < a * v := by omega
            obtain ⟨m0, m1⟩ := mul_bd a0 (by omega) g13 g14
            by_cases c2 : 4294967296 ≤ b + u
            · have E := inv_end J d1 d0 g13 g14 (.inr ⟨c2, by omega⟩)
              go_wp2
              go_meet
              have F := left_bd E k2 k3 d0 d1
              exact ⟨rfl, _, _, rfl, rfl, F.1, F.2, E⟩
            · go_wp2
              go_round
              case rel => exact ⟨_, _, rfl, rfl, by omega, by omega, by omega, by omega, J⟩
              case measure => simp [intOf]; omega
        · have c1 : a < 4294967296 := by omega
          have c3 : a * v ≤ 4294967296 * b + D := by omega
          obtain ⟨m0, m1⟩ := mul_bd a0 (by omega) g13 g14
          have E := inv_end I d1 d0 g13 g14 (.inl c3)
          clear c
          go_wp2
          go_meet
          have F := left_bd E k2 k3 d0 d1
          exact ⟨rfl, _, _, rfl, rfl, F.1, F.2, E⟩
    case rest =>
      obtain ⟨rfl, P, R2, rfl, rfl, p1, p2, HP⟩ := hcut
      have K2 : ∃ Z : Int, IntKind.u64.wrap (IntKind.u64.wrap (IntKind.u64.wrap (V * 4294967296) + L % 4294967296) - IntKind.u64.wrap (P * (y * 2 ^ s))) = Z ∧ 0 ≤ Z ∧ Z < u * 4294967296 + v ∧ Hid (Z / 2 ^ s = (h * 18446744073709551616 + l) % y) ∧ Hid (Q * 4294967296 + P = (h * 18446744073709551616 + l) / y) := by
        obtain ⟨k1, k2⟩ := HP
        obtain ⟨k3, k4⟩ := HQ
        have g5 := G5.out
        have k5 := K4.out
        rw [g5] at k5
        have t := two_digits (U := U) (un10 := L) (y := u * 4294967296 + v) (q1 := Q) (q0 := P) (by omega) (by omega) k3 k4 (by rw [k5]; exact k1) (by rw [k5]; exact k2)
        rw [k5, G6.out, ← g5] at t
        obtain ⟨t1, t2⟩ := t
        obtain ⟨s1, s2⟩ := scaled (h * 18446744073709551616 + l) y s
        rw [g5] at t2
        refine ⟨V * 4294967296 + L % 4294967296 - P * (y * 2 ^ s), wr3 rfl ?_ ?_, ?_, ?_, ?_, ?_⟩
        · rw [g5]; omega
        · rw [g5]; omega
        · rw [g5]; omega
        · rw [g5]; omega
        · rw [Hid, g5, t2, ← g5, s2]
        · rw [Hid, t1, s1]
      obtain ⟨Z, z1, z2, z3, Z4, Z5⟩ := K2
      go_wp2
      go_ret2
      exact ⟨ret_uu Z5.out Z4.out, rfl⟩
end Dv
end Go.Proofs.Ytpammdogkkipbaa
/- The contract of math/bits.Div64: both ways. -/
namespace Go.Proofs.Ytpammdogkkipbaa
open Go.ChangeShapes Go.WideShapes Go.ChangeAt Go.RowKit
open Go.Proofs.Ytpammdogkkipbaa.Wd
set_option linter.unusedVariables false
namespace Dv
set_option maxHeartbeats 1000000 in
theorem div64_0 (l y : Int) (w : World) (hl0 : 0 ≤ l) (hl : l < 18446744073709551616) (hy : 0 < y) (hy1 : y < 18446744073709551616) :
    Calls Try.prog 75 #[.int .u64 0, .int .u64 l, .int .u64 y] w fun e w' => e = .returned (.tuple #[.int .u64 (l / y), .int .u64 (l % y)]) ∧ ∃ x : Ext w, w' = x.u := by
  have q0 : 0 ≤ l / y := Int.ediv_nonneg hl0 (by omega)
  have q1 : l / y ≤ l := Int.ediv_le_self _ hl0
  have r0 : 0 ≤ l % y := Int.emod_nonneg _ (by omega)
  have r1 : l % y < y := Int.emod_lt_of_pos _ hy
  have n0 : (y == 0) = false := by simp; omega
  go_enter Try.func75, Try.ntmps75
  go_wp2
  go_region


  go_wp2
  go_ret2
  exact ⟨ret_uu rfl rfl, Mr.mk' (Mr.refl w).drew⟩
/-- Both ways: the quotient of a word turned up by 2^32, by a greater one. -/
theorem div_c (a y : Int) (w : World) (h0 : 0 ≤ a) (hy : a < y) (hy1 : y < 18446744073709551616) :
    Calls Try.prog 75 #[.int .u64 (a / 4294967296), .int .u64 (IntKind.u64.wrap (a * 4294967296)), .int .u64 y] w fun e w' => e = .returned (.tuple #[.int .u64 (a * 4294967296 / y), .int .u64 (a * 4294967296 % y)]) ∧ ∃ x : Ext w, w' = x.u := by
  rw [IntKind.wrap_u64]
  by_cases h : a / 4294967296 = 0
  · have e : a * 4294967296 % 18446744073709551616 = a * 4294967296 := by omega
    rw [h, e]
    exact div64_0 _ _ _ (by omega) (by omega) (by omega) hy1
  · have e : a / 4294967296 * 18446744073709551616 + a * 4294967296 % 18446744073709551616 = a * 4294967296 := by omega
    have c := div64_c (a / 4294967296) (a * 4294967296 % 18446744073709551616) y w (by omega) (by omega) (by omega) (by omega) hy1
    rw [e] at c
    exact c.mono fun _ _ ⟨he, hw⟩ => ⟨he, ⟨w, Mr.refl w⟩, hw⟩
end Dv
end Go.Proofs.Ytpammdogkkipbaa
