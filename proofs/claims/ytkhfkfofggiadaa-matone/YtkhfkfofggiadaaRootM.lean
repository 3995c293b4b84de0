/- Square roots as plain integers: the mathematics alone. -/
import Derived.Test.YtkhfkfofggiadaaWideC3
namespace Go.Proofs.Ytkhfkfofggiadaa
open Go.RowKit
open Go.Proofs.Ytkhfkfofggiadaa.Fx Go.Proofs.Ytkhfkfofggiadaa.Wd
namespace Rt
/-- That a value is the root of a number (0 of one below 0; the greatest value if there is none). -/
def Is (z n : Int) : Prop := 0 ≤ n ∧ n ≤ 288230376151711744 ∧ (n = 0 ∨ n * n ≤ z) ∧ (n = 288230376151711744 ∨ z < (n + 1) * (n + 1))
theorem sq_lt {a b : Int} (h0 : 0 ≤ a) (h : a < b) : a * a < b * b := Int.mul_lt_mul' (by omega) h h0 (by omega)
theorem sq_le {a b : Int} (h0 : 0 ≤ a) (h : a ≤ b) : a * a ≤ b * b := Int.mul_le_mul h h h0 (by omega)
theorem sq_nn (a : Int) : 0 ≤ a * a := by
  rcases Int.le_total 0 a with h | h
  · exact Int.mul_nonneg h h
  · have := Int.mul_nonneg (a := -a) (b := -a) (by omega) (by omega)
    rwa [Int.neg_mul_neg] at this
theorem lt_of_sq {a b : Int} (h0 : 0 ≤ b) (h : a * a < b * b) : a < b := by
  rcases Int.lt_or_le a b with g | g
  · exact g
  · have := sq_le h0 g; omega
theorem le_of_sq {a b : Int} (h0 : 0 ≤ b) (h : a * a ≤ b * b) : a ≤ b := by
  rcases Int.lt_or_le b a with g | g
  · have := sq_lt h0 g; omega
  · exact g
theorem one_way {z n m : Int} (h : Is z n) (g : Is z m) : n ≤ m := by
  obtain ⟨h0, h1, h2, h3⟩ := h
  obtain ⟨g0, g1, g2, g3⟩ := g
  rcases g3 with rfl | g3
  · exact h1
  · rcases h2 with rfl | h2
    · exact g0
    · have := lt_of_sq (a := n) (b := m + 1) (by omega) (by omega)
      omega
theorem uniq {z n m : Int} (h : Is z n) (g : Is z m) : n = m := by
  have := one_way h g; have := one_way g h; omega
theorem ex_from (z : Int) (j : Nat) : ∀ k : Int, 0 ≤ k → k + j = 288230376151711744 → (k = 0 ∨ k * k ≤ z) → ∃ n, Is z n := by
  induction j with
  | zero => intro k h0 h1 h2; exact ⟨k, h0, by omega, h2, .inl (by omega)⟩
  | succ j ih =>
    intro k h0 h1 h2
    rcases Int.lt_or_le z ((k + 1) * (k + 1)) with h | h
    · exact ⟨k, h0, by omega, h2, .inr h⟩
    · exact ih (k + 1) (by omega) (by omega) (.inr h)
theorem ex (z : Int) : ∃ n, Is z n := ex_from z 288230376151711744 0 (by omega) (by omega) (.inl rfl)
/-- The root, and whether there is none. -/
noncomputable def sr (z : Int) : Int := Classical.choose (ex z)
def ro (z : Int) : Bool := decide (z < 0 ∨ 83076749736557242632948693570945025 ≤ z)
theorem sr_is (z : Int) : Is z (sr z) := Classical.choose_spec (ex z)
theorem sr_of {z n : Int} (h : Is z n) : sr z = n := uniq (sr_is z) h
theorem sr_bd (z : Int) : 0 ≤ sr z ∧ sr z ≤ 288230376151711744 := ⟨(sr_is z).1, (sr_is z).2.1⟩
/-- The search: both ends closed in. -/
def In (z L H : Int) : Prop := 0 ≤ L ∧ L < H ∧ H ≤ 288230376151711745 ∧ (L = 0 ∨ L * L ≤ z) ∧ (H = 288230376151711745 ∨ z < H * H)
theorem in_end {z L H : Int} (h : In z L H) (e : H = L + 1) : sr z = L := by
  obtain ⟨h0, h1, h2, h3, h4⟩ := h
  subst e
  exact sr_of ⟨h0, by omega, h3, by rcases h4 with h4 | h4; exact .inl (by omega); exact .inr h4⟩
theorem in_hit {z m : Int} (h0 : 0 ≤ m) (h1 : m ≤ 288230376151711744) (e : m * m = z) : sr z = m :=
  sr_of ⟨h0, h1, .inr (by omega), .inr (by have := sq_lt h0 (show m < m + 1 by omega); omega)⟩
theorem ro_neg {z : Int} (h : z < 0) : ro z = true := by simp [ro]; exact .inl h
theorem sr_neg {z : Int} (h : z < 0) : sr z = 0 := sr_of ⟨by omega, by omega, .inl rfl, .inr (by omega)⟩
theorem lim1 : (288230376151711744 + 1 : Int) * (288230376151711744 + 1) = 83076749736557242632948693570945025 := by decide
theorem lim0 : (288230376151711744 : Int) * 288230376151711744 = 83076749736557242056487941267521536 := by decide
/-- The next square is no greater: nothing but the greatest value's. -/
theorem next_iff {z : Int} (h : 0 ≤ z) : decide ((sr z + 1) * (sr z + 1) ≤ z) = ro z := by
  have hi := sr_is z
  have hb := sr_bd z
  generalize sr z = n at *
  obtain ⟨h0, h1, h2, h3⟩ := hi
  have := lim1
  rw [ro, decide_eq_decide]
  rcases h3 with rfl | h3
  · omega
  · have := sq_le (a := n + 1) (b := 288230376151711744 + 1) (by omega) (by omega)
    omega
theorem ml_self {m : Int} (h0 : -288230376151711744 ≤ m) (h1 : m ≤ 288230376151711744) : ml m m = m * m := by
  unfold ml; rw [(cl_in h0 h1).1]
theorem ml_in {m n : Int} (h0 : -288230376151711744 ≤ m) (h1 : m ≤ 288230376151711744) (g0 : -288230376151711744 ≤ n) (g1 : n ≤ 288230376151711744) : ml m n = m * n := by
  unfold ml; rw [(cl_in h0 h1).1, (cl_in g0 g1).1]
theorem cm_cases (a b : Int) : (a = b ∧ cm a b = 0) ∨ (a < b ∧ cm a b = -1) ∨ (b < a ∧ cm a b = 1) := by
  unfold cm
  rcases Int.lt_trichotomy a b with h | h | h
  · right; left; rw [if_pos h]; exact ⟨h, rfl⟩
  · left; rw [if_neg (by omega), if_neg (by omega)]; exact ⟨h, rfl⟩
  · right; right; rw [if_neg (by omega), if_pos h]; exact ⟨h, rfl⟩
end Rt
end Go.Proofs.Ytkhfkfofggiadaa
