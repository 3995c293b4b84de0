/- The contracts of math/bits.Len64, LeadingZeros64, Div64. -/
import Derived.Test.YtkhfkfofggiadaaMemC
import Derived.Test.YtkhfkfofggiadaaWideM
import Derived.Test.YtkhfkfofggiadaaDivM
import Derived.Deep.DeepCutAuto
import Derived.Deep.CutBlock
namespace Go.Proofs.Ytkhfkfofggiadaa
open Go.ChangeShapes Go.WideShapes Go.ChangeAt Go.RowKit
set_option linter.unusedVariables false
namespace Dv
/-- How many binary digits a number below 256 has. -/
def sz8 (n : Nat) : Nat := if n = 0 then 0 else Nat.log2 n + 1
theorem sz8_bd (k : Nat) (h0 : 0 < k) (h1 : k < 256) : 1 ≤ sz8 k ∧ sz8 k ≤ 8 ∧ 2 ^ (sz8 k - 1) ≤ k ∧ k < 2 ^ sz8 k := by
  have key : ∀ j : Fin 256, 0 < j.val → 1 ≤ sz8 j.val ∧ sz8 j.val ≤ 8 ∧ 2 ^ (sz8 j.val - 1) ≤ j.val ∧ j.val < 2 ^ sz8 j.val := by decide +kernel
  exact key ⟨k, h1⟩ h0
theorem tab_of (T : ByteArray) (hT : T.data.toList.map UInt8.toNat = (List.range 256).map sz8) (k : Nat) (h : k < T.size) : T[k].toNat = sz8 k := by
  have h2 : k < T.data.toList.length := by simpa using h
  have e : (T.data.toList.map UInt8.toNat)[k]'(by simpa using h) = T[k].toNat := by simp; rfl
  rw [← e]
  simp only [hT]
  simp
theorem wr8 {b s : Nat} (hb : b ≤ 56) (hs : s ≤ 8) : wrap64 ((b : Int) + wrap64 (s : Int)) = ((b + s : Nat) : Int) := by unfold wrap64; omega
theorem len_end {x y B : Int} (b : Nat) (hB : B = b) (hb : b ≤ 56) (hy : x / 2 ^ b = y) (h0 : 0 < y) (h1 : y < 256) (T : ByteArray) (hT : T.data.toList.map UInt8.toNat = (List.range 256).map sz8) (hk : y.toNat < T.size) (w : World) :
    ∃ n : Nat, 1 ≤ n ∧ n ≤ 64 ∧ (2 : Int) ^ (n - 1) ≤ x ∧ x < 2 ^ n ∧ Ending.returned (.int .i64 (wrap64 (B + wrap64 (T[y.toNat].toNat : Int)))) = .returned (.int .i64 n) ∧ w = w := by
  rw [tab_of T hT y.toNat hk, hB]
  obtain ⟨a1, a2, a3, a4⟩ := sz8_bd y.toNat (by omega) (by omega)
  generalize sz8 y.toNat = s at *
  have hp : (0 : Int) < 2 ^ b := Int.pow_pos (by decide)
  have d1 : x / 2 ^ b * 2 ^ b ≤ x := Int.ediv_mul_le _ (by omega)
  have d2 : x < (x / 2 ^ b + 1) * 2 ^ b := Int.lt_ediv_add_one_mul_self _ hp
  rw [hy] at d1 d2
  have e3 : (2 : Int) ^ (s - 1) ≤ y := by
    have h : ((2 ^ (s - 1) : Nat) : Int) ≤ (y.toNat : Int) := Int.ofNat_le.2 a3
    have e : ((2 ^ (s - 1) : Nat) : Int) = (2 : Int) ^ (s - 1) := by simp
    rw [e, Int.toNat_of_nonneg (by omega)] at h
    exact h
  have e4 : y + 1 ≤ (2 : Int) ^ s := by
    have h : (y.toNat : Int) < ((2 ^ s : Nat) : Int) := Int.ofNat_lt.2 a4
    have e : ((2 ^ s : Nat) : Int) = (2 : Int) ^ s := by simp
    rw [e, Int.toNat_of_nonneg (by omega)] at h
    exact h
  refine ⟨b + s, by omega, by omega, ?_, ?_, ?_, rfl⟩
  · have : b + s - 1 = (s - 1) + b := by omega
    rw [this, Int.pow_add]
    exact Int.le_trans (Int.mul_le_mul_of_nonneg_right e3 (Int.le_of_lt hp)) d1
  · rw [Nat.add_comm, Int.pow_add]
    exact Int.lt_of_lt_of_le d2 (Int.mul_le_mul_of_nonneg_right e4 (Int.le_of_lt hp))
  · rw [wr8 hb a2]
theorem len_end0 {x : Int} (h0 : 0 < x) (h1 : x < 256) (T : ByteArray) (hT : T.data.toList.map UInt8.toNat = (List.range 256).map sz8) (hk : x.toNat < T.size) (w : World) :
    ∃ n : Nat, 1 ≤ n ∧ n ≤ 64 ∧ (2 : Int) ^ (n - 1) ≤ x ∧ x < 2 ^ n ∧ Ending.returned (.int .i64 (wrap64 (wrap64 (T[x.toNat].toNat : Int)))) = .returned (.int .i64 n) ∧ w = w := by
  have h := len_end (B := 0) (y := x) (x := x) 0 rfl (by decide) (by simp) h0 h1 T hT hk w
  rwa [Int.zero_add] at h
set_option maxHeartbeats 1000000 in
set_option maxRecDepth 100000 in
theorem len64_c (x : Int) (w : World) (h0 : 0 < x) (h1 : x < 18446744073709551616) :
    Calls Try.prog 99 #[.int .u64 x] w fun e w' => ∃ n : Nat, 1 ≤ n ∧ n ≤ 64 ∧ (2 : Int) ^ (n - 1) ≤ x ∧ x < 2 ^ n ∧ e = .returned (.int .i64 n) ∧ w' = w := by
  go_enter Try.func99, Try.ntmps99
  go_wp2
  all_goals go_ret
  · exact len_end (B := 56) (y := x / 4294967296 / 65536 / 256) 56 rfl (by decide) (by first | (simp only [Int.reducePow]; done) | (simp only [Int.reducePow]; omega)) (by omega) (by omega) _ (by decide +kernel) _ _
  · exact len_end (B := 48) (y := x / 4294967296 / 65536) 48 rfl (by decide) (by first | (simp only [Int.reducePow]; done) | (simp only [Int.reducePow]; omega)) (by omega) (by omega) _ (by decide +kernel) _ _
  · exact len_end (B := 40) (y := x / 4294967296 / 256) 40 rfl (by decide) (by first | (simp only [Int.reducePow]; done) | (simp only [Int.reducePow]; omega)) (by omega) (by omega) _ (by decide +kernel) _ _
  · exact len_end (B := 32) (y := x / 4294967296) 32 rfl (by decide) (by first | (simp only [Int.reducePow]; done) | (simp only [Int.reducePow]; omega)) (by omega) (by omega) _ (by decide +kernel) _ _
  · exact len_end (B := 24) (y := x / 65536 / 256) 24 rfl (by decide) (by first | (simp only [Int.reducePow]; done) | (simp only [Int.reducePow]; omega)) (by omega) (by omega) _ (by decide +kernel) _ _
  · exact len_end (B := 16) (y := x / 65536) 16 rfl (by decide) (by first | (simp only [Int.reducePow]; done) | (simp only [Int.reducePow]; omega)) (by omega) (by omega) _ (by decide +kernel) _ _
  · exact len_end (B := 8) (y := x / 256) 8 rfl (by decide) (by first | (simp only [Int.reducePow]; done) | (simp only [Int.reducePow]; omega)) (by omega) (by omega) _ (by decide +kernel) _ _
  · exact len_end0 (by omega) (by omega) _ (by decide +kernel) _ _
theorem lz_math {x : Int} {n : Nat} (h1 : 1 ≤ n) (h2 : n ≤ 64) (h3 : (2 : Int) ^ (n - 1) ≤ x) (h4 : x < 2 ^ n) : 9223372036854775808 ≤ x * 2 ^ (64 - n) ∧ x * 2 ^ (64 - n) < 18446744073709551616 := by
  have hp : (0 : Int) < 2 ^ (64 - n) := Int.pow_pos (by decide)
  have e1 : (2 : Int) ^ (n - 1) * 2 ^ (64 - n) = 9223372036854775808 := by
    rw [← Int.pow_add, show n - 1 + (64 - n) = 63 by omega]; decide
  have e2 : (2 : Int) ^ n * 2 ^ (64 - n) = 18446744073709551616 := by
    rw [← Int.pow_add, show n + (64 - n) = 64 by omega]; decide
  refine ⟨?_, ?_⟩
  · rw [← e1]; exact Int.mul_le_mul_of_nonneg_right h3 (Int.le_of_lt hp)
  · rw [← e2]; exact Int.mul_lt_mul_of_pos_right h4 hp
set_option maxHeartbeats 400000 in
theorem lz_c (x : Int) (w : World) (h0 : 0 < x) (h1 : x < 18446744073709551616) :
    Calls Try.prog 98 #[.int .u64 x] w fun e w' => ∃ s : Nat, s ≤ 63 ∧ 9223372036854775808 ≤ x * 2 ^ s ∧ x * 2 ^ s < 18446744073709551616 ∧ e = .returned (.int .i64 s) ∧ w' = w := by
  go_enter Try.func98, Try.ntmps98
  go_wp2_with (go_at_call 99; refine (len64_c _ _ h0 h1).mono ?_; rintro e w' ⟨n, a1, a2, a3, a4, rfl, rfl⟩)
  go_ret
  have h := lz_math a1 a2 a3 a4
  exact ⟨64 - n, by omega, h.1, h.2, by rw [show ((64 - n : Nat) : Int) = 64 - (n : Int) by omega]; rfl, rfl⟩
end Dv
end Go.Proofs.Ytkhfkfofggiadaa
