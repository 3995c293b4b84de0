/- Quarters further, mirrored points: what is exact (seventh part). -/
import Derived.Test.YtdedfnogaonphaaDoorTrigM5
namespace Go.Proofs.YtdedfnogaonphaaDoor
open Go.Proofs.YtdedfnogaonphaaDoor.Fx
namespace Tg
theorem bs_agl (t : Int) : bs (agl t) = bs t ∧ bc (agl t) = bc t := by unfold bs bc; rw [agl_agl]; exact ⟨rfl, rfl⟩
theorem agl_turn (t k : Int) : agl (t + k * 4294967296) = agl t := by unfold agl; omega
theorem bs_turn (t k : Int) : bs (t + k * 4294967296) = bs t ∧ bc (t + k * 4294967296) = bc t := by unfold bs bc; rw [agl_turn]; exact ⟨rfl, rfl⟩
theorem qd_next (t : Int) : zq (agl (t + 1073741824)) = zq (agl t) ∧ ((qd (agl (t + 1073741824)) = qd (agl t) + 1 ∧ qd (agl t) ≤ 3) ∨ (qd (agl t) = 3 ∧ qd (agl (t + 1073741824)) = 0) ∨ (qd (agl t) = 4 ∧ qd (agl (t + 1073741824)) = 1)) := by
  unfold zq qd agl; omega
theorem bs_next (t : Int) : bs (t + 1073741824) = bc t ∧ bc (t + 1073741824) = -bs t := by
  have hb := agl_bd t
  have hb' := agl_bd (t + 1073741824)
  obtain ⟨h0, h1, _, _, _⟩ := qz hb.1 hb.2
  obtain ⟨g0, g1, _, _, _⟩ := qz hb'.1 hb'.2
  obtain ⟨e, k⟩ := qd_next t
  unfold bs bc
  rw [e]
  generalize zq (agl t) = z at *
  generalize qd (agl t) = q at *
  generalize qd (agl (t + 1073741824)) = r at *
  rcases q_cases q z h0 h1 with ⟨k1, a1, b1⟩ | ⟨k1, a1, b1⟩ | ⟨k1, a1, b1⟩ | ⟨k1, a1, b1⟩
  all_goals
    rcases q_cases r z g0 g1 with ⟨k2, a2, b2⟩ | ⟨k2, a2, b2⟩ | ⟨k2, a2, b2⟩ | ⟨k2, a2, b2⟩
    all_goals
      rw [a1, a2, b1, b2]
      generalize fs z = s at *
      generalize fc z = c at *
      omega
theorem bs_half (t : Int) : bs (t + 2147483648) = -bs t ∧ bc (t + 2147483648) = -bc t := by
  have h1 := bs_next t
  have h2 := bs_next (t + 1073741824)
  rw [show t + 1073741824 + 1073741824 = t + 2147483648 by omega] at h2
  omega
theorem bs_prev (t : Int) : bc (t - 1073741824) = bs t := by
  have h := bs_next (t - 1073741824)
  rw [show t - 1073741824 + 1073741824 = t by omega] at h
  exact h.1.symm
/-! Mirrored points. -/
theorem at_sides {y x : Int} (y0 : 0 < y) (x0 : 0 < x) (y1 : y ≤ 144115188075855872) (x1 : x ≤ 144115188075855872) :
    agl (at' (-y) x + at' y x) = 0 ∧ agl (at' y (-x) + at' y x) = 2147483648 ∧ agl (at' (-y) (-x) - at' y x) = 2147483648 := by
  unfold at'
  simp only [ab_in (a := x) (by omega) (by omega), ab_in (a := -x) (by omega) (by omega), ab_in (a := y) (by omega) (by omega), ab_in (a := -y) (by omega) (by omega)]
  simp only [show max (-x) (- -x) = x by omega, show max (-y) (- -y) = y by omega, show max x (-x) = x by omega, show max y (-y) = y by omega]
  generalize va x y = v
  unfold agl
  refine ⟨?_, ?_, ?_⟩
  all_goals
    repeat' split
    all_goals omega
theorem va_twice {a b : Int} (h0 : 0 < max a b) (h1 : max a b < 72057594037927936) : va (2 * a) (2 * b) = va a b := by
  have e : dbl 64 a b = dbl 64 (2 * a) (2 * b) := by
    rw [show (64 : Nat) = 63 + 1 by rfl, dbl, if_pos (by omega)]
    refine (dbl_more 63 (2 * a) (2 * b) (by omega) ?_).symm
    have : (2 : Int) ^ 63 = 9223372036854775808 := by decide
    rw [this]; omega
  unfold va; rw [e]
theorem at_twice {y x : Int} (y0 : 0 < y) (x0 : 0 < x) (h : max x y < 72057594037927936) : at' (2 * y) (2 * x) = at' y x := by
  unfold at'
  simp only [ab_in (a := x) (by omega) (by omega), ab_in (a := 2 * x) (by omega) (by omega), ab_in (a := y) (by omega) (by omega), ab_in (a := 2 * y) (by omega) (by omega)]
  simp only [show max (2 * x) (-(2 * x)) = 2 * x by omega, show max (2 * y) (-(2 * y)) = 2 * y by omega, show max x (-x) = x by omega, show max y (-y) = y by omega]
  rw [va_twice (by omega) (by omega)]
  generalize va x y = v
  clear h
  repeat' split
  all_goals first | rfl | omega
/-! The examples. -/
theorem aw5_num : (4294967288 ≤ bs 1073741824 ∧ bs 1073741824 ≤ 4294967304) ∧ (-8 ≤ bc 1073741824 ∧ bc 1073741824 ≤ 8) ∧ (536870904 ≤ at' 4294967296 4294967296 ∧ at' 4294967296 4294967296 ≤ 536870920) ∧ agl (-1) = 4294967295 ∧ at' 0 0 = 0 ∧ (-8 ≤ bs 0 ∧ bs 0 ≤ 8) ∧ (4294967288 ≤ bc 0 ∧ bc 0 ≤ 4294967304) := by
  decide +kernel
end Tg
end Go.Proofs.YtdedfnogaonphaaDoor
