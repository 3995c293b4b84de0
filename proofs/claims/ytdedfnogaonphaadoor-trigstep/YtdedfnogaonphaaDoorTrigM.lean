/- Turning step by step: the mathematics alone (second part). -/
import Derived.Test.YtdedfnogaonphaaDoorTrigP
namespace Go.Proofs.YtdedfnogaonphaaDoor
namespace Tg
theorem P_pos : 0 < P := Int.pow_pos (by decide)
theorem chk_at {n : Nat} (hn : n < 32) : chk n = true := by
  have h := chk_all
  rw [List.all_eq_true] at h
  exact h n (List.mem_range.2 hn)
theorem chk_d {n : Nat} (hn : n < 32) {g : Int} (hg : g = 1 ∨ g = -1) : bd (d1 n g) R ≤ 2 ^ n * (147573952589676412928 * P) ∧ bd (d2 n g) R ≤ 2 ^ n * (147573952589676412928 * P) := by
  have h := chk_at hn
  unfold chk at h
  simp only [Bool.and_eq_true, decide_eq_true_eq] at h
  rcases hg with rfl | rfl
  · exact ⟨h.1.1.1, h.1.1.2⟩
  · exact ⟨h.1.2, h.2⟩
theorem div_up {N v k e : Int} (hN : 0 < N) (h : N * v ≤ N * k + e) : v ≤ k + e / N := by
  have : v - k ≤ e / N := by
    rw [Int.le_ediv_iff_mul_le hN, Int.sub_mul, Int.mul_comm v, Int.mul_comm k]; omega
  omega
theorem pow_pos' (n : Nat) : (0 : Int) < 2 ^ n := Int.pow_pos (by decide)
/-- One step, of one of both numbers. -/
theorem rot1 {N g x y q r W A B Ct St Cn e d D : Int} (hN : 0 < N) (hg : g = 1 ∨ g = -1) (hq : y = N * q + r) (r0 : 0 ≤ r) (r1 : r < N) (hW : 0 ≤ W)
    (hD : D = A * N * Ct + (-(g * A) * St + -(N * B) * Cn)) (D0 : -(N * d) ≤ D) (D1 : D ≤ N * d)
    (x0 : -e ≤ x * W - A * Ct) (x1 : x * W - A * Ct ≤ e) (y0 : -e ≤ y * W - A * St) (y1 : y * W - A * St ≤ e) :
    -(e + W + d + e / N) ≤ (x - g * q) * W - B * Cn ∧ (x - g * q) * W - B * Cn ≤ e + W + d + e / N := by
  have key : N * ((x - g * q) * W - B * Cn) = N * (x * W - A * Ct) - g * (y * W - A * St) + g * (r * W) + D := by
    rw [hD, hq]; grind
  have a0 : N * (x * W - A * Ct) ≤ N * e := Int.mul_le_mul_of_nonneg_left x1 (by omega)
  have a1 : N * -e ≤ N * (x * W - A * Ct) := Int.mul_le_mul_of_nonneg_left x0 (by omega)
  have b0 : 0 ≤ r * W := Int.mul_nonneg r0 hW
  have b1 : r * W ≤ N * W := Int.mul_le_mul_of_nonneg_right (by omega) hW
  have e1 : N * (e + W + d) = N * e + N * W + N * d := by grind
  have e2 : N * -e = -(N * e) := by grind
  have e3 : N * -((x - g * q) * W - B * Cn) = -(N * ((x - g * q) * W - B * Cn)) := by grind
  constructor
  · have : -((x - g * q) * W - B * Cn) ≤ e + W + d + e / N := by
      refine div_up hN ?_
      rw [e3, key, e1]
      rcases hg with rfl | rfl <;> omega
    omega
  · refine div_up hN ?_
    rw [key, e1]
    rcases hg with rfl | rfl <;> omega
theorem qr (y : Int) (n : Nat) : y = 2 ^ n * (y / 2 ^ n) + y % 2 ^ n ∧ 0 ≤ y % 2 ^ n ∧ y % 2 ^ n < 2 ^ n :=
  ⟨(Int.mul_ediv_add_emod y (2 ^ n)).symm, Int.emod_nonneg _ (by have := pow_pos' n; omega), Int.emod_lt_of_pos _ (pow_pos' n)⟩
/-- That two numbers are nearly the cosine and the sine, of an amplitude. -/
def Nr (A W e x y t : Int) : Prop := (-e ≤ x * W - A * ev C t ∧ x * W - A * ev C t ≤ e) ∧ (-e ≤ y * W - A * ev S t ∧ y * W - A * ev S t ≤ e)
theorem rot {n : Nat} (hn : n < 32) {g : Int} (hg : g = 1 ∨ g = -1) {x y t e W : Int} (hW : 0 ≤ W) (t0 : -R ≤ t) (t1 : t ≤ R) (h : Nr (am n) W e x y t) :
    Nr (am (n + 1)) W (e + W + 147573952589676412928 * P + e / 2 ^ n) (x - g * (y / 2 ^ n)) (y + g * (x / 2 ^ n)) (t + g * an n) := by
  obtain ⟨⟨x0, x1⟩, ⟨y0, y1⟩⟩ := h
  obtain ⟨c1, c2⟩ := chk_d hn hg
  obtain ⟨q1, q2, q3⟩ := qr y n
  obtain ⟨p1, p2, p3⟩ := qr x n
  have b1 := ev_bd t0 t1 (d1 n g)
  have b2 := ev_bd t0 t1 (d2 n g)
  have v1 : ev (d1 n g) t = am n * 2 ^ n * ev C t + (-(g * am n) * ev S t + -(2 ^ n * am (n + 1)) * ev C (t + g * an n)) := by
    unfold d1; rw [ev_ad, ev_ad, ev_sm, ev_sm, ev_sm, ev_sh]
  have v2 : ev (d2 n g) t = am n * 2 ^ n * ev S t + (-(-g * am n) * ev C t + -(2 ^ n * am (n + 1)) * ev S (t + g * an n)) := by
    unfold d2; rw [ev_ad, ev_ad, ev_sm, ev_sm, ev_sm, ev_sh]; grind
  refine ⟨?_, ?_⟩
  · exact rot1 (pow_pos' n) hg q1 q2 q3 hW v1 (by omega) (by omega) x0 x1 y0 y1
  · have := rot1 (g := -g) (d := 147573952589676412928 * P) (pow_pos' n) (by omega) p1 p2 p3 hW v2 (by omega) (by omega) y0 y1 x0 x1
    rw [show y + g * (x / 2 ^ n) = y - -g * (x / 2 ^ n) by grind]
    exact this
/-- The errors, in units of P. -/
def eh (w e0 : Int) : Nat → Int
  | 0 => e0
  | n + 1 => eh w e0 n + w + 147573952589676412928 + (eh w e0 n / 2 ^ n + 1)
theorem eh_step (h : Int) (n : Nat) : h * P / 2 ^ n ≤ (h / 2 ^ n + 1) * P := by
  apply Int.ediv_le_of_le_mul (pow_pos' n)
  obtain ⟨q1, q2, q3⟩ := qr h n
  have : h * P ≤ (2 ^ n * (h / 2 ^ n + 1)) * P := Int.mul_le_mul_of_nonneg_right (by rw [Int.mul_add]; omega) (by have := P_pos; omega)
  have e : (2 ^ n * (h / 2 ^ n + 1)) * P = (h / 2 ^ n + 1) * P * 2 ^ n := by grind
  omega
theorem Nr.le {A W e e' x y t : Int} (h : Nr A W e x y t) (g : e ≤ e') : Nr A W e' x y t := by
  obtain ⟨⟨x0, x1⟩, ⟨y0, y1⟩⟩ := h
  exact ⟨⟨by omega, by omega⟩, ⟨by omega, by omega⟩⟩
theorem rot_h {n : Nat} (hn : n < 32) {g : Int} (hg : g = 1 ∨ g = -1) {x y t w e0 : Int} (hw : 0 ≤ w) (t0 : -R ≤ t) (t1 : t ≤ R) (h : Nr (am n) (w * P) (eh w e0 n * P) x y t) :
    Nr (am (n + 1)) (w * P) (eh w e0 (n + 1) * P) (x - g * (y / 2 ^ n)) (y + g * (x / 2 ^ n)) (t + g * an n) := by
  refine (rot hn hg (Int.mul_nonneg hw (Int.le_of_lt P_pos)) t0 t1 h).le ?_
  have := eh_step (eh w e0 n) n
  simp only [eh]
  have e : (eh w e0 n + w + 147573952589676412928 + (eh w e0 n / 2 ^ n + 1)) * P = eh w e0 n * P + w * P + 147573952589676412928 * P + (eh w e0 n / 2 ^ n + 1) * P := by grind
  omega
/-- The steps by which z comes to 0. -/
def stp (n : Nat) (s : Int × Int × Int) : Int × Int × Int :=
  if 0 ≤ s.2.2 then (s.1 - s.2.1 / 2 ^ n, s.2.1 + s.1 / 2 ^ n, s.2.2 - an n) else (s.1 + s.2.1 / 2 ^ n, s.2.1 - s.1 / 2 ^ n, s.2.2 + an n)
def fw (z : Int) : Nat → Int × Int × Int
  | 0 => (170926505739102, 0, z)
  | n + 1 => stp n (fw z n)
def bz : Nat → Int
  | 0 => 35184372088832
  | n + 1 => max (bz n - an n) (an n)
theorem bz_le : ∀ n < 32, bz n ≤ 35184372088832 := by decide +kernel
theorem bz_end : bz 32 ≤ 20864 := by decide +kernel
theorem start : ev C 0 = P ∧ ev S 0 = 0 ∧ am 0 = 170926505739102 * 18446744073709551616 := by decide +kernel
theorem fw_inv (z0 : Int) (h0 : -35184372088832 ≤ z0) (h1 : z0 ≤ 35184372088832) (n : Nat) (hn : n ≤ 32) :
    (-bz n ≤ (fw z0 n).2.2 ∧ (fw z0 n).2.2 ≤ bz n) ∧ Nr (am n) (18446744073709551616 * P) (eh 18446744073709551616 0 n * P) (fw z0 n).1 (fw z0 n).2.1 (z0 - (fw z0 n).2.2) := by
  induction n with
  | zero =>
    obtain ⟨s1, s2, s3⟩ := start
    refine ⟨by simp only [bz, fw]; omega, ?_⟩
    simp only [fw, eh, Nr, Int.sub_self, s1, s2, s3]
    refine ⟨?_, ?_⟩ <;> (constructor <;> grind)
  | succ n ih =>
    obtain ⟨⟨i1, i2⟩, i3⟩ := ih (by omega)
    have hb := bz_le n (by omega)
    have hR : R = 70368746274816 := rfl
    generalize hs : fw z0 n = s at *
    obtain ⟨x, y, z⟩ := s
    simp only [fw, hs, stp, bz]
    simp only at i1 i2 i3
    split
    · have := rot_h (by omega) (g := 1) (.inl rfl) (by decide) (by omega) (by omega) i3
      refine ⟨by simp only; omega, ?_⟩
      simp only [Int.one_mul] at this
      simp only
      rw [show z0 - (z - an n) = z0 - z + an n by omega]
      exact this
    · have := rot_h (by omega) (g := -1) (.inr rfl) (by decide) (by omega) (by omega) i3
      refine ⟨by simp only; omega, ?_⟩
      simp only
      rw [show z0 - (z + an n) = z0 - z + -1 * an n by omega, show x + y / 2 ^ n = x - -1 * (y / 2 ^ n) by omega, show y - x / 2 ^ n = y + -1 * (x / 2 ^ n) by omega]
      exact this
theorem eh_end : eh 18446744073709551616 0 32 ≤ 311 * 18446744073709551616 := by decide +kernel
end Tg
end Go.Proofs.YtdedfnogaonphaaDoor
