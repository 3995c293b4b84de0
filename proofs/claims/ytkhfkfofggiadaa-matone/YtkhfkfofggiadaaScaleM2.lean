/- What products and quotients of values keep: the mathematics of the laws of layer 3. -/
import Derived.Test.YtkhfkfofggiadaaScaleM
namespace Go.Proofs.Ytkhfkfofggiadaa
open Go.RowKit
open Go.Proofs.Ytkhfkfofggiadaa.Fx Go.Proofs.Ytkhfkfofggiadaa.Wd
set_option linter.unusedVariables false
namespace Sc
theorem co_false {n : Int} (h : co n = false) : -288230376151711744 ≤ n ∧ n ≤ 288230376151711744 ∧ cl n = n := by
  have h2 : -288230376151711744 ≤ n ∧ n ≤ 288230376151711744 := by unfold co wb at h; simp at h; omega
  exact ⟨h2.1, h2.2, (cl_in h2.1 h2.2).1⟩
theorem clcl (a : Int) : cl (cl a) = cl a ∧ co (cl a) = false := cl_in (cl_bd a).1 (cl_bd a).2
theorem rn_in (z : Int) : 4294967296 * rn z ≤ z + 2147483648 ∧ z + 2147483648 < 4294967296 * rn z + 4294967296 := by unfold rn; omega
theorem tv_bd (a b : Int) : -288230376151711744 ≤ tv a b ∧ tv a b ≤ 288230376151711744 := cl_bd _
theorem tv_ok {a b : Int} (h : tb a b = false) : cl a = a ∧ cl b = b ∧ tv a b = rn (a * b) ∧ (-288230376151711744 ≤ a ∧ a ≤ 288230376151711744) ∧ (-288230376151711744 ≤ b ∧ b ≤ 288230376151711744) := by
  unfold tb at h
  simp only [Bool.or_eq_false_iff] at h
  obtain ⟨⟨h1, h2⟩, h3⟩ := h
  have ha := co_false h2
  have hb := co_false h3
  have hr := co_false h1
  refine ⟨ha.2.2, hb.2.2, ?_, ⟨ha.1, ha.2.1⟩, hb.1, hb.2.1⟩
  unfold tv
  rw [hr.2.2]
  unfold ml
  rw [ha.2.2, hb.2.2]
theorem ab_eq {b : Int} (h : cl b = b) : (0 ≤ b ∧ ab b = b) ∨ (b < 0 ∧ ab b = -b) := by
  unfold ab; rw [h]; omega
theorem mg_near {x y : Int} (h0 : 0 ≤ x) (hy : 0 < y) (below : Bool) : 2 * (x * 4294967296 - mg x y below * y) ≤ y ∧ -y ≤ 2 * (x * 4294967296 - mg x y below * y) := by
  have e := Int.ediv_mul_add_emod (x * 4294967296) y
  have r0 := Int.emod_nonneg (x * 4294967296) (show y ≠ 0 by omega)
  have r1 := Int.emod_lt_of_pos (x * 4294967296) hy
  rw [mg_eq h0 hy]
  generalize x * 4294967296 / y = q at *
  generalize x * 4294967296 % y = r at *
  have d : (q + 1) * y = q * y + y := by rw [Int.add_mul, Int.one_mul]
  split
  · rw [d]; omega
  · rw [Int.add_zero]; omega
theorem qv_bd (a b : Int) : -288230376151711744 ≤ qv a b ∧ qv a b ≤ 288230376151711744 := by
  unfold qv
  split
  · unfold cm; split <;> (try split) <;> omega
  · have h1 := cl_bd (mg (ab a) (ab b) true)
    have h2 := cl_bd (mg (ab a) (ab b) false)
    split <;> omega
theorem qb_false {a b : Int} (h : qb a b = false) : b ≠ 0 ∧ co a = false ∧ co b = false ∧ co (mg (ab a) (ab b) (bl a b)) = false := by
  unfold qb at h
  by_cases hb : b = 0
  · rw [if_pos hb] at h; cases h
  · rw [if_neg hb] at h
    simp only [Bool.or_eq_false_iff] at h
    exact ⟨hb, h.1.2, h.2, h.1.1⟩
theorem bl_iff (a b : Int) : bl a b = true ↔ ¬ (a < 0 ↔ b < 0) := by
  unfold bl; simp
theorem qv_ok {a b : Int} (h : qb a b = false) : b ≠ 0 ∧ cl a = a ∧ cl b = b ∧ 2 * (a * 4294967296 - qv a b * b) ≤ ab b ∧ -ab b ≤ 2 * (a * 4294967296 - qv a b * b) := by
  obtain ⟨hb, h2, h3, h1⟩ := qb_false h
  have ha := (co_false h2).2.2
  have hb2 := (co_false h3).2.2
  have hm := (co_false h1).2.2
  refine ⟨hb, ha, hb2, ?_⟩
  have a0 := ab_bd a
  have b1 := ab_one hb
  have ea := ab_eq ha
  have eb := ab_eq hb2
  have near := mg_near a0.1 (show 0 < ab b by omega) (bl a b)
  unfold qv
  rw [if_neg hb]
  have hbl := bl_iff a b
  cases hr : bl a b
  · rw [hr] at near hm hbl
    rw [if_neg Bool.false_ne_true, hm]
    generalize hM : mg (ab a) (ab b) false = M at *
    have e : M * b = M * ab b ∨ M * b = -(M * ab b) := by
      rcases eb with ⟨_, e⟩ | ⟨_, e⟩
      · left; rw [e]
      · right; rw [e, Int.mul_neg]; omega
    simp at hbl
    rcases ea with ⟨ha0, ea⟩ | ⟨ha0, ea⟩
    · rcases eb with ⟨hb0, eb⟩ | ⟨hb0, eb⟩
      · rw [ea, eb] at near; rw [eb]; exact near
      · omega
    · rcases eb with ⟨hb0, eb⟩ | ⟨hb0, eb⟩
      · omega
      · rw [ea, eb, Int.mul_neg] at near; rw [eb]; omega
  · rw [hr] at near hm hbl
    rw [if_pos rfl, hm]
    generalize hM : mg (ab a) (ab b) true = M at *
    simp at hbl
    rw [Int.neg_mul]
    rcases ea with ⟨ha0, ea⟩ | ⟨ha0, ea⟩
    · rcases eb with ⟨hb0, eb⟩ | ⟨hb0, eb⟩
      · omega
      · rw [ea, eb, Int.mul_neg] at near; rw [eb]; omega
    · rcases eb with ⟨hb0, eb⟩ | ⟨hb0, eb⟩
      · rw [ea, eb] at near; rw [eb]; omega
      · omega
/-- Multiplied, and divided by the same. -/
theorem back_math {a b : Int} (h : tb a b = false) (g : qb (tv a b) b = false) (h1 : 4294967296 ≤ ab b) : qv (tv a b) b - a ≤ 1 ∧ a - qv (tv a b) b ≤ 1 := by
  obtain ⟨ha, hb, e, _, _⟩ := tv_ok h
  obtain ⟨_, _, _, n1, n2⟩ := qv_ok g
  have r := rn_in (a * b)
  rw [← e] at r
  generalize qv (tv a b) b = q at *
  generalize tv a b = p at *
  have k : (a - q) * b = a * b - q * b := Int.sub_mul ..
  have eb := ab_eq hb
  generalize ab b = B at *
  rcases eb with ⟨hb0, eb⟩ | ⟨hb0, eb⟩
  · constructor
    · rcases Int.lt_or_le (a - q) (-1) with c | c
      · have : (a - q) * b ≤ -2 * b := Int.mul_le_mul_of_nonneg_right (by omega) (by omega)
        omega
      · omega
    · rcases Int.lt_or_le 1 (a - q) with c | c
      · have : 2 * b ≤ (a - q) * b := Int.mul_le_mul_of_nonneg_right (by omega) (by omega)
        omega
      · omega
  · constructor
    · rcases Int.lt_or_le (a - q) (-1) with c | c
      · have : -2 * b ≤ (a - q) * b := Int.mul_le_mul_of_nonpos_right (by omega) (by omega)
        omega
      · omega
    · rcases Int.lt_or_le 1 (a - q) with c | c
      · have : (a - q) * b ≤ 2 * b := Int.mul_le_mul_of_nonpos_right (by omega) (by omega)
        omega
      · omega
end Sc
end Go.Proofs.Ytkhfkfofggiadaa
