/- Bounds of the steps, and halves (eighth part). -/
import Derived.Test.YtdedfnogaonphaaDoorTrigM6
namespace Go.Proofs.YtdedfnogaonphaaDoor
open Go.Proofs.YtdedfnogaonphaaDoor.Fx
namespace Tg
/-- How great the numbers become. -/
def mb (m : Int) : Nat → Int
  | 0 => m
  | n + 1 => mb m n + (mb m n / 2 ^ n + 1)
theorem mb_fw : ∀ n < 33, mb 170926505739102 n ≤ 1125899906842624 := by decide +kernel
theorem mb_bw : ∀ n < 33, mb 288230376151711744 n ≤ 2305843009213693952 := by decide +kernel
theorem div_abs {y M : Int} (n : Nat) (h0 : -M ≤ y) (h1 : y ≤ M) : -(M / 2 ^ n + 1) ≤ y / 2 ^ n ∧ y / 2 ^ n ≤ M / 2 ^ n + 1 := by
  have p := pow_pos' n
  obtain ⟨q1, q2, q3⟩ := qr M n
  have e : 2 ^ n * (M / 2 ^ n + 1) = 2 ^ n * (M / 2 ^ n) + 2 ^ n := by rw [Int.mul_add, Int.mul_one]
  constructor
  · rw [Int.le_ediv_iff_mul_le p, Int.neg_mul, Int.mul_comm]; omega
  · have := Int.ediv_le_ediv p h1; omega
theorem an_bd : ∀ n < 32, 0 < an n ∧ an n ≤ 35184372088832 := by decide +kernel
theorem fw_bd (z : Int) (n : Nat) : (-mb 170926505739102 n ≤ (fw z n).1 ∧ (fw z n).1 ≤ mb 170926505739102 n) ∧ (-mb 170926505739102 n ≤ (fw z n).2.1 ∧ (fw z n).2.1 ≤ mb 170926505739102 n) := by
  induction n with
  | zero => simp only [fw, mb]; omega
  | succ n ih =>
    obtain ⟨⟨a0, a1⟩, ⟨b0, b1⟩⟩ := ih
    have p := div_abs n a0 a1
    have q := div_abs n b0 b1
    simp only [fw, stp, mb]
    split <;> (simp only; omega)
theorem fw_ok {z : Int} (h0 : -35184372088832 ≤ z) (h1 : z ≤ 35184372088832) {n : Nat} (hn : n ≤ 32) : (-1125899906842624 ≤ (fw z n).1 ∧ (fw z n).1 ≤ 1125899906842624) ∧ (-1125899906842624 ≤ (fw z n).2.1 ∧ (fw z n).2.1 ≤ 1125899906842624) ∧ (-35184372088832 ≤ (fw z n).2.2 ∧ (fw z n).2.2 ≤ 35184372088832) := by
  have h := fw_bd z n
  have m := mb_fw n (by omega)
  have i := (fw_inv z h0 h1 n hn).1
  have b : bz n ≤ 35184372088832 := by
    rcases Nat.lt_or_ge n 32 with g | g
    · exact bz_le n g
    · obtain rfl : n = 32 := by omega
      have := bz_end; omega
  omega
theorem bw_bd {a b : Int} (a0 : 0 ≤ a) (a1 : a ≤ 288230376151711744) (b0 : 0 ≤ b) (b1 : b ≤ 288230376151711744) (n : Nat) (hn : n ≤ 32) : (-mb 288230376151711744 n ≤ (bw a b n).1 ∧ (bw a b n).1 ≤ mb 288230376151711744 n) ∧ (-mb 288230376151711744 n ≤ (bw a b n).2.1 ∧ (bw a b n).2.1 ≤ mb 288230376151711744 n) ∧ (-(n * 35184372088832) ≤ (bw a b n).2.2 ∧ (bw a b n).2.2 ≤ n * 35184372088832) := by
  induction n with
  | zero => simp only [bw, mb]; omega
  | succ n ih =>
    obtain ⟨⟨a0, a1⟩, ⟨b0, b1⟩, ⟨c0, c1⟩⟩ := ih (by omega)
    have p := div_abs n a0 a1
    have q := div_abs n b0 b1
    have := an_bd n (by omega)
    simp only [bw, bst, mb]
    split <;> (simp only; omega)
theorem bw_ok {a b : Int} (a0 : 0 ≤ a) (a1 : a ≤ 288230376151711744) (b0 : 0 ≤ b) (b1 : b ≤ 288230376151711744) {n : Nat} (hn : n ≤ 32) : (-2305843009213693952 ≤ (bw a b n).1 ∧ (bw a b n).1 ≤ 2305843009213693952) ∧ (-2305843009213693952 ≤ (bw a b n).2.1 ∧ (bw a b n).2.1 ≤ 2305843009213693952) ∧ (-1125899906842624 ≤ (bw a b n).2.2 ∧ (bw a b n).2.2 ≤ 1125899906842624) := by
  have h := bw_bd a0 a1 b0 b1 n hn
  have m := mb_bw n (by omega)
  omega
/-- A half, as Go takes it. -/
theorem half (n : Int) (k : Nat) : (n / 2 ^ k < 0 ∧ (n / 2 ^ k).tmod 2 ≠ 0 ∧ (n / 2 ^ k - 1).tdiv 2 = n / 2 ^ (k + 1)) ∨ (¬ (n / 2 ^ k < 0 ∧ (n / 2 ^ k).tmod 2 ≠ 0) ∧ (n / 2 ^ k).tdiv 2 = n / 2 ^ (k + 1)) := by
  have e : n / 2 ^ (k + 1) = n / 2 ^ k / 2 := by rw [Int.pow_succ, Int.ediv_ediv_of_nonneg (Int.le_of_lt (pow_pos' k))]
  rw [e]
  generalize n / 2 ^ k = m
  rcases Int.lt_or_le m 0 with h | h
  · have t : m.tmod 2 = -((-m) % 2) := by
      have := Int.neg_tmod (a := -m) (b := 2)
      rw [Int.neg_neg] at this
      rw [this, Int.tmod_eq_emod_of_nonneg (by omega)]
    have d : ∀ x : Int, x < 0 → x.tdiv 2 = -((-x) / 2) := fun x hx => by
      have := Int.neg_tdiv (a := -x) (b := 2)
      rw [Int.neg_neg] at this
      rw [this, Int.tdiv_eq_ediv_of_nonneg (by omega)]
    rcases (show m % 2 = 0 ∨ m % 2 = 1 by omega) with g | g
    · right
      refine ⟨by rw [t]; omega, ?_⟩
      rw [d m h]; omega
    · left
      refine ⟨h, by rw [t]; omega, ?_⟩
      rw [d (m - 1) (by omega)]; omega
  · right
    exact ⟨by omega, by rw [Int.tdiv_eq_ediv_of_nonneg h]⟩
theorem dn_bd {n M : Int} (k : Nat) (hM : 0 ≤ M) (h0 : -M ≤ n) (h1 : n ≤ M) : -M ≤ n / 2 ^ k ∧ n / 2 ^ k ≤ M := by
  have p := pow_pos' k
  constructor
  · rw [Int.le_ediv_iff_mul_le p]
    have : -M * 2 ^ k ≤ -M * 1 := Int.mul_le_mul_of_nonpos_left (by omega) (by omega)
    omega
  · rcases Int.lt_or_le n 0 with h | h
    · have : n / 2 ^ k < 0 := Int.ediv_neg_of_neg_of_pos h p
      omega
    · exact Int.le_trans (Int.ediv_le_self _ h) h1
end Tg
end Go.Proofs.YtdedfnogaonphaaDoor
