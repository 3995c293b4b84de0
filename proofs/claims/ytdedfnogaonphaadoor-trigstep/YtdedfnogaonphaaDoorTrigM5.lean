/- The angle of two numbers, step by step (sixth part). -/
import Derived.Test.YtdedfnogaonphaaDoorTrigM4
namespace Go.Proofs.YtdedfnogaonphaaDoor
open Go.Proofs.YtdedfnogaonphaaDoor.Fx
namespace Tg
/-- The steps by which b comes to 0. -/
def bst (n : Nat) (s : Int × Int × Int) : Int × Int × Int :=
  if 0 < s.2.1 then (s.1 + s.2.1 / 2 ^ n, s.2.1 - s.1 / 2 ^ n, s.2.2 + an n) else (s.1 - s.2.1 / 2 ^ n, s.2.1 + s.1 / 2 ^ n, s.2.2 - an n)
def bw (a b : Int) : Nat → Int × Int × Int
  | 0 => (a, b, 0)
  | n + 1 => bst n (bw a b n)
def bk (a b : Int) : Int := (bw a b 32).2.2
def pb : Nat → Int
  | 0 => 70368745226240
  | n + 1 => max (pb n - an n) (an n + 65536)
theorem pb_le : ∀ n < 32, pb n ≤ 70368745226240 := by decide +kernel
theorem pb_end : pb 32 ≤ 86500 := by decide +kernel
def e0 : Int := 370792088631378922831872
theorem e0_is : e0 = 170926505739102 * 65536 * 33101 := by decide +kernel
theorem eb_le1 : ∀ n < 33, eh (170926505739102 * 64) e0 n * 281474976710656 < 3 * 65536 * am n := by decide +kernel
theorem eb_le2 : ∀ n < 33, eh (170926505739102 * 128) e0 n * 281474976710656 < 3 * 65536 * am n := by decide +kernel
/-- A number whose product is nearly the sine is above 0 only where the angle is nearly. -/
theorem sgn {A E w a b t : Int} (hw : 0 ≤ w) (t0 : -R ≤ t) (t1 : t ≤ R) (hE : E * 281474976710656 < 3 * 65536 * A) (hA : 0 < A) (h : Nr A (w * P) (E * P) a b t) : (0 < b → -65536 ≤ t) ∧ (¬ 0 < b → t ≤ 65536) := by
  obtain ⟨_, n1, n2⟩ := h
  have hP := P_pos
  obtain ⟨k, k1, k2, k3⟩ := S_at t t0 t1
  rw [k1] at n1 n2
  have hb : 0 ≤ w * P := Int.mul_nonneg hw (by omega)
  constructor
  · intro g
    rcases Int.lt_or_le t (-65536) with c | c
    · exfalso
      have f1 : 0 ≤ b * (w * P) := Int.mul_nonneg (by omega) hb
      have f2 : A * (t * k) = -(A * (-t * k)) := by grind
      have f3 : 65536 * k ≤ -t * k := Int.mul_le_mul_of_nonneg_right (by omega) (by omega)
      have f4 : A * (65536 * k) ≤ A * (-t * k) := Int.mul_le_mul_of_nonneg_left f3 (by omega)
      have f5 : A * (65536 * k) ≤ E * P := by omega
      have f6 : A * (65536 * k) * 281474976710656 = 65536 * A * (k * 281474976710656) := by grind
      have f7 : 65536 * A * (3 * P) ≤ 65536 * A * (k * 281474976710656) := Int.mul_le_mul_of_nonneg_left k2 (by omega)
      have f8 : (E * 281474976710656) * P < (3 * 65536 * A) * P := Int.mul_lt_mul_of_pos_right hE hP
      have f9 : (E * 281474976710656) * P = E * P * 281474976710656 := by grind
      have f10 : 65536 * A * (3 * P) = (3 * 65536 * A) * P := by grind
      omega
    · exact c
  · intro g
    rcases Int.lt_or_le 65536 t with c | c
    · exfalso
      have f1 : b * (w * P) ≤ 0 := by
        have := Int.mul_nonneg (a := -b) (by omega) hb
        rw [Int.neg_mul] at this; omega
      have f3 : 65536 * k ≤ t * k := Int.mul_le_mul_of_nonneg_right (by omega) (by omega)
      have f4 : A * (65536 * k) ≤ A * (t * k) := Int.mul_le_mul_of_nonneg_left f3 (by omega)
      have f5 : A * (65536 * k) ≤ E * P := by omega
      have f6 : A * (65536 * k) * 281474976710656 = 65536 * A * (k * 281474976710656) := by grind
      have f7 : 65536 * A * (3 * P) ≤ 65536 * A * (k * 281474976710656) := Int.mul_le_mul_of_nonneg_left k2 (by omega)
      have f8 : (E * 281474976710656) * P < (3 * 65536 * A) * P := Int.mul_lt_mul_of_pos_right hE hP
      have f9 : (E * 281474976710656) * P = E * P * 281474976710656 := by grind
      have f10 : 65536 * A * (3 * P) = (3 * 65536 * A) * P := by grind
      omega
    · exact c
theorem am_pos : ∀ n < 33, 0 < am n := by decide +kernel
theorem bw_inv {w a b f : Int} (hw : 0 ≤ w) (he : ∀ n < 33, eh w e0 n * 281474976710656 < 3 * 65536 * am n) (f0 : -70368745226240 ≤ f) (f1 : f ≤ 70368745226240) (h : Nr (am 0) (w * P) (e0 * P) a b f) (n : Nat) (hn : n ≤ 32) :
    (-pb n ≤ f - (bw a b n).2.2 ∧ f - (bw a b n).2.2 ≤ pb n) ∧ Nr (am n) (w * P) (eh w e0 n * P) (bw a b n).1 (bw a b n).2.1 (f - (bw a b n).2.2) := by
  induction n with
  | zero =>
    refine ⟨by simp only [pb, bw]; omega, ?_⟩
    simp only [bw, eh, Int.sub_zero]
    exact h
  | succ n ih =>
    obtain ⟨⟨i1, i2⟩, i3⟩ := ih (by omega)
    have hb := pb_le n (by omega)
    have hR : R = 70368746274816 := rfl
    have sg := sgn hw (t := f - (bw a b n).2.2) (by omega) (by omega) (he n (by omega)) (am_pos n (by omega)) i3
    generalize hs : bw a b n = s at *
    obtain ⟨x, y, z⟩ := s
    simp only [bw, hs, bst, pb]
    simp only at i1 i2 i3 sg
    split
    · rename_i g
      have := rot_h (by omega) (g := -1) (.inr rfl) hw (by omega) (by omega) i3
      have := sg.1 g
      refine ⟨by simp only; omega, ?_⟩
      simp only
      rw [show f - (z + an n) = f - z + -1 * an n by omega, show x + y / 2 ^ n = x - -1 * (y / 2 ^ n) by omega, show y - x / 2 ^ n = y + -1 * (x / 2 ^ n) by omega]
      assumption
    · rename_i g
      have q := rot_h (by omega) (g := 1) (.inl rfl) hw (by omega) (by omega) i3
      have := sg.2 g
      refine ⟨by simp only; omega, ?_⟩
      simp only [Int.one_mul] at q
      simp only
      rw [show f - (z - an n) = f - z + an n by omega]
      exact q
/-- Doubled, until one is great. -/
def dbl : Nat → Int → Int → Int × Int
  | 0, a, b => (a, b)
  | f + 1, a, b => if max a b < 144115188075855872 then dbl f (2 * a) (2 * b) else (a, b)
theorem dbl_k (k : Nat) : ∀ (f : Nat) (a b : Int), 0 ≤ max a b → max a b * 2 ^ k < 288230376151711744 → dbl (f + k) a b = dbl f (2 ^ k * a) (2 ^ k * b) := by
  induction k with
  | zero => intro f a b _ _; simp
  | succ k ih =>
    intro f a b h0 h
    have hk := pow_pos' k
    have e : max a b * 2 ^ (k + 1) = max (2 * a) (2 * b) * 2 ^ k := by
      rw [show max (2 * a) (2 * b) = max a b * 2 by omega, Int.pow_succ]; grind
    have h2 : max a b * 2 ≤ max a b * 2 ^ (k + 1) := by
      apply Int.mul_le_mul_of_nonneg_left _ h0
      rw [Int.pow_succ]; omega
    have h1 : max a b < 144115188075855872 := by omega
    rw [← Nat.add_assoc, dbl, if_pos h1, ih f (2 * a) (2 * b) (by omega) (by rw [← e]; exact h)]
    rw [show 2 ^ k * (2 * a) = 2 ^ (k + 1) * a by rw [Int.pow_succ]; grind, show 2 ^ k * (2 * b) = 2 ^ (k + 1) * b by rw [Int.pow_succ]; grind]
theorem dbl_stop (f : Nat) (a b : Int) (h : 144115188075855872 ≤ max a b) : dbl f a b = (a, b) := by
  cases f with
  | zero => rfl
  | succ f => rw [dbl, if_neg (by omega)]
theorem dbl_more (f : Nat) : ∀ (a b : Int), 0 ≤ max a b → 144115188075855872 ≤ max a b * 2 ^ f → dbl (f + 1) a b = dbl f a b := by
  induction f with
  | zero => intro a b _ h; rw [dbl_stop _ _ _ (by simpa using h), dbl_stop _ _ _ (by simpa using h)]
  | succ f ih =>
    intro a b h0 h
    have e : max a b * 2 ^ (f + 1) = max (2 * a) (2 * b) * 2 ^ f := by
      rw [show max (2 * a) (2 * b) = max a b * 2 by omega, Int.pow_succ]; grind
    rcases Int.lt_or_le (max a b) 144115188075855872 with g | g
    · rw [dbl, if_pos g, ih _ _ (by omega) (by rw [← e]; exact h)]
      rw [dbl, if_pos g]
    · rw [dbl_stop _ _ _ g, dbl_stop _ _ _ g]
/-- Of two numbers that are nearly the cosine and the sine of an angle: the angle is nearly found. -/
theorem bk_near {c s f : Int} (hc : (-(33101 * P) ≤ c * P * 65536 - ev C f * 281474976710656 ∧ c * P * 65536 - ev C f * 281474976710656 ≤ 33101 * P)) (hs : (-(33101 * P) ≤ s * P * 65536 - ev S f * 281474976710656 ∧ s * P * 65536 - ev S f * 281474976710656 ≤ 33101 * P))
    (f0 : -70368745226240 ≤ f) (f1 : f ≤ 70368745226240) {w k : Int} (hw : 0 ≤ w) (hk : w * k = 170926505739102 * 4294967296) (he : ∀ n < 33, eh w e0 n * 281474976710656 < 3 * 65536 * am n) :
    -86500 ≤ f - bk (k * c) (k * s) ∧ f - bk (k * c) (k * s) ≤ 86500 := by
  have g : ∀ x V : Int, (-(33101 * P) ≤ x * P * 65536 - V * 281474976710656 ∧ x * P * 65536 - V * 281474976710656 ≤ 33101 * P) → -(e0 * P) ≤ k * x * (w * P) - am 0 * V ∧ k * x * (w * P) - am 0 * V ≤ e0 * P := by
    intro x V h
    have e : k * x * (w * P) - am 0 * V = 170926505739102 * 65536 * (x * P * 65536 - V * 281474976710656) := by
      rw [start.2.2, show k * x * (w * P) = (w * k) * (x * P) by grind, hk]; grind
    have e1 : e0 * P = 170926505739102 * 65536 * (33101 * P) := by rw [e0_is]; grind
    rw [e, e1]
    omega
  have := (bw_inv (a := k * c) (b := k * s) hw he f0 f1 ⟨g _ _ hc, g _ _ hs⟩ 32 (by omega)).1
  have := pb_end
  unfold bk
  omega
/-- What two numbers without their signs have as an angle, in 2^-32 turns. -/
def va (a b : Int) : Int := (bk (dbl 64 a b).1 (dbl 64 a b).2 + 32768) / 65536
theorem va_near {c s f : Int} (hc : (-(33101 * P) ≤ c * P * 65536 - ev C f * 281474976710656 ∧ c * P * 65536 - ev C f * 281474976710656 ≤ 33101 * P)) (hs : (-(33101 * P) ≤ s * P * 65536 - ev S f * 281474976710656 ∧ s * P * 65536 - ev S f * 281474976710656 ≤ 33101 * P))
    (f0 : -70368745226240 ≤ f) (f1 : f ≤ 70368745226240) (m0 : 2147483648 ≤ max c s) (m1 : max c s < 8589934592) : -120000 ≤ f - va c s * 65536 ∧ f - va c s * 65536 ≤ 120000 := by
  rcases Int.lt_or_le (max c s) 4294967296 with g | g
  · have h := bk_near hc hs f0 f1 (w := 170926505739102 * 64) (k := 67108864) (by decide) (by decide) eb_le1
    have e : dbl 64 c s = (67108864 * c, 67108864 * s) := by
      rw [show (64 : Nat) = 38 + 26 by rfl, dbl_k 26 38 c s (by omega) (by omega)]
      exact dbl_stop _ _ _ (by omega)
    unfold va
    rw [e]
    simp only
    omega
  · have h := bk_near hc hs f0 f1 (w := 170926505739102 * 128) (k := 33554432) (by decide) (by decide) eb_le2
    have e : dbl 64 c s = (33554432 * c, 33554432 * s) := by
      rw [show (64 : Nat) = 39 + 25 by rfl, dbl_k 25 39 c s (by omega) (by omega)]
      exact dbl_stop _ _ _ (by omega)
    unfold va
    rw [e]
    simp only
    omega
/-- Of the steps' own sine and cosine: t for an angle with the sine's sign off. -/
theorem fs_abs {z : Int} (h0 : -35184372088832 ≤ z) (h1 : z ≤ 35184372088832) : (0 ≤ fs z → ∃ t : Int, -20864 ≤ t - z ∧ t - z ≤ 20864 ∧ Nb (fc z) (max (fs z) (-fs z)) t) ∧ (fs z ≤ 0 → ∃ t : Int, -20864 ≤ -t - z ∧ -t - z ≤ 20864 ∧ Nb (fc z) (max (fs z) (-fs z)) t) := by
  obtain ⟨t, t0, t1, hc, hs⟩ := near h0 h1
  constructor
  · intro g
    refine ⟨t, by omega, by omega, hc, ?_⟩
    rw [show max (fs z) (-fs z) = fs z by omega]
    exact hs
  · intro g
    refine ⟨-t, by omega, by omega, ?_, ?_⟩
    · rw [C_even]; exact hc
    · rw [S_odd, show max (fs z) (-fs z) = -fs z by omega, show -fs z * P * 65536 - -ev S t * 281474976710656 = -(fs z * P * 65536 - ev S t * 281474976710656) by grind]
      omega
theorem fc_big {z : Int} (h0 : -35184372088832 ≤ z) (h1 : z ≤ 35184372088832) : 2147483648 ≤ fc z ∧ fc z ≤ 4294967300 ∧ -4294967300 ≤ fs z ∧ fs z ≤ 4294967300 := by
  obtain ⟨t, t0, t1, ⟨n1, n2⟩, _⟩ := near h0 h1
  have hR : R2 = 35184374185984 := rfl
  have hP := P_pos
  have := C_low (t := t) (by omega) (by omega)
  have hc := circ h0 h1
  have a := le_of_circle (a := fc z) (b := fs z) (by omega)
  have b := le_of_circle (a := fs z) (b := fc z) (by omega)
  have : 2147483648 * P ≤ fc z * P := by omega
  have := of_P this
  omega
theorem t_low {s t : Int} (h : 0 ≤ s) (t0 : -R ≤ t) (t1 : t ≤ R) (hs : (-(33100 * P) ≤ s * P * 65536 - ev S t * 281474976710656 ∧ s * P * 65536 - ev S t * 281474976710656 ≤ 33100 * P)) : -12000 ≤ t := by
  rcases Int.lt_or_le t (-12000) with g | g
  · exfalso
    have hP := P_pos
    obtain ⟨k, k1, k2, k3⟩ := S_at t t0 t1
    rw [k1] at hs
    have f1 : 0 ≤ s * P := Int.mul_nonneg h (by omega)
    have f2 : 12000 * k ≤ -t * k := Int.mul_le_mul_of_nonneg_right (by omega) (by omega)
    rw [Int.neg_mul] at f2
    omega
  · exact g
/-- Beside the line, and across it. -/
theorem va_e {z t : Int} (h0 : -35184372088832 ≤ z) (h1 : z ≤ 35184372088832) (t0 : -36000000000000 ≤ t) (t1 : t ≤ 36000000000000) (h : Nb (fc z) (max (fs z) (-fs z)) t) : -120000 ≤ t - va (fc z) (max (fs z) (-fs z)) * 65536 ∧ t - va (fc z) (max (fs z) (-fs z)) * 65536 ≤ 120000 := by
  obtain ⟨hc, hs⟩ := h
  have hb := fc_big h0 h1
  have hP := P_pos
  exact va_near (c := fc z) (s := max (fs z) (-fs z)) (f := t) (by omega) (by omega) (by omega) (by omega) (by omega) (by omega)
theorem va_o {z t : Int} (h0 : -35184372088832 ≤ z) (h1 : z ≤ 35184372088832) (t0 : -36000000000000 ≤ t) (t1 : t ≤ 36000000000000) (h : Nb (fc z) (max (fs z) (-fs z)) t) : -120000 ≤ 70368744177664 - t - va (max (fs z) (-fs z)) (fc z) * 65536 ∧ 70368744177664 - t - va (max (fs z) (-fs z)) (fc z) * 65536 ≤ 120000 := by
  obtain ⟨hc, hs⟩ := h
  have hb := fc_big h0 h1
  have hP := P_pos
  have hR : R = 70368746274816 := rfl
  have q := quarter (t := t) (by omega) (by omega)
  have e1 : ev C (70368744177664 - t) = ev C (t - 70368744177664) := by rw [← C_even, show -(70368744177664 - t) = t - 70368744177664 by omega]
  have e2 : ev S (70368744177664 - t) = -ev S (t - 70368744177664) := by rw [show 70368744177664 - t = -(t - 70368744177664) by omega, S_odd]
  have hl := t_low (s := max (fs z) (-fs z)) (by omega) (by omega) (by omega) hs
  exact va_near (c := max (fs z) (-fs z)) (s := fc z) (f := 70368744177664 - t) (by rw [e1]; omega) (by rw [e2]; omega) (by omega) (by omega) (by omega) (by omega)
theorem va_even {z : Int} (h0 : -35184372088832 ≤ z) (h1 : z ≤ 35184372088832) : (0 ≤ fs z → -140864 ≤ z - va (fc z) (max (fs z) (-fs z)) * 65536 ∧ z - va (fc z) (max (fs z) (-fs z)) * 65536 ≤ 140864) ∧ (fs z ≤ 0 → -140864 ≤ -z - va (fc z) (max (fs z) (-fs z)) * 65536 ∧ -z - va (fc z) (max (fs z) (-fs z)) * 65536 ≤ 140864) := by
  obtain ⟨p, n⟩ := fs_abs h0 h1
  constructor
  · intro g; obtain ⟨t, t0, t1, h⟩ := p g; have := va_e h0 h1 (by omega) (by omega) h; omega
  · intro g; obtain ⟨t, t0, t1, h⟩ := n g; have := va_e h0 h1 (by omega) (by omega) h; omega
theorem va_odd {z : Int} (h0 : -35184372088832 ≤ z) (h1 : z ≤ 35184372088832) : (0 ≤ fs z → -140864 ≤ 70368744177664 - z - va (max (fs z) (-fs z)) (fc z) * 65536 ∧ 70368744177664 - z - va (max (fs z) (-fs z)) (fc z) * 65536 ≤ 140864) ∧ (fs z ≤ 0 → -140864 ≤ 70368744177664 + z - va (max (fs z) (-fs z)) (fc z) * 65536 ∧ 70368744177664 + z - va (max (fs z) (-fs z)) (fc z) * 65536 ≤ 140864) := by
  obtain ⟨p, n⟩ := fs_abs h0 h1
  constructor
  · intro g; obtain ⟨t, t0, t1, h⟩ := p g; have := va_o h0 h1 (by omega) (by omega) h; omega
  · intro g; obtain ⟨t, t0, t1, h⟩ := n g; have := va_o h0 h1 (by omega) (by omega) h; omega
/-- The document's angle of two numbers. -/
def at' (y x : Int) : Int :=
  if ab x = 0 ∧ ab y = 0 then 0
  else if 0 ≤ x ∧ 0 ≤ y then agl (va (ab x) (ab y))
  else if x < 0 ∧ 0 ≤ y then agl (2147483648 - va (ab x) (ab y))
  else if x < 0 then agl (2147483648 + va (ab x) (ab y))
  else agl (-va (ab x) (ab y))
theorem ab_in {a : Int} (h0 : -288230376151711744 ≤ a) (h1 : a ≤ 288230376151711744) : ab a = max a (-a) := by
  unfold ab cl wv; rw [if_neg (by omega), if_neg (by omega)]
theorem back (t : Int) : agl (at' (bs t) (bc t) - agl t) ≤ 8 ∨ 4294967288 ≤ agl (at' (bs t) (bc t) - agl t) := by
  have hb := agl_bd t
  obtain ⟨h0, h1, h2, h3, h4⟩ := qz hb.1 hb.2
  have hf := fc_big h2 (by omega)
  have ve := va_even h2 (by omega)
  have vo := va_odd h2 (by omega)
  unfold bs bc
  generalize zq (agl t) = z at *
  generalize agl t = u at *
  rcases q_cases (qd u) z h0 h1 with ⟨k, a1, b1⟩ | ⟨k, a1, b1⟩ | ⟨k, a1, b1⟩ | ⟨k, a1, b1⟩
  all_goals
    rw [a1, b1]
    unfold at'
    simp only [ab_in (a := fs z) (by omega) (by omega), ab_in (a := -fs z) (by omega) (by omega), ab_in (a := fc z) (by omega) (by omega), ab_in (a := -fc z) (by omega) (by omega)]
    simp only [show max (-fs z) (- -fs z) = max (fs z) (-fs z) by omega, show max (-fc z) (- -fc z) = fc z by omega, show max (fc z) (-fc z) = fc z by omega]
    generalize va (fc z) (max (fs z) (-fs z)) = v at *
    generalize va (max (fs z) (-fs z)) (fc z) = v' at *
    generalize qd u = q at *
    generalize fs z = s at *
    generalize fc z = c at *
    unfold agl
    repeat' split
    all_goals omega
end Tg
end Go.Proofs.YtdedfnogaonphaaDoor
