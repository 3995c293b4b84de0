/- Sines and cosines as whole polynomials: slopes, the circle, a quarter turn (third part). -/
import Derived.Test.YtdedfnogaonphaaDoorTrigM
namespace Go.Proofs.YtdedfnogaonphaaDoor
namespace Tg
def R2 : Int := 35184374185984
def ml' : List Int → List Int → List Int
  | [], _ => []
  | a :: p, q => ad (sm a q) (0 :: ml' p q)
theorem ev_ml (p q : List Int) (t : Int) : ev (ml' p q) t = ev p t * ev q t := by
  induction p with
  | nil => simp [ml', ev]
  | cons a p ih => simp only [ml', ev_ad, ev_sm, ev, ih]; grind
def alt : List Int → List Int
  | [] => []
  | c :: p => c :: sm (-1) (alt p)
theorem ev_alt (p : List Int) (t : Int) : ev (alt p) t = ev p (-t) := by
  induction p with
  | nil => simp [alt, ev]
  | cons a p ih => simp only [alt, ev_sm, ev, ih]; grind
theorem alt_C : alt C = C := by decide +kernel
theorem alt_S : alt S = sm (-1) S := by decide +kernel
theorem C_even (t : Int) : ev C (-t) = ev C t := by rw [← ev_alt, alt_C]
theorem S_odd (t : Int) : ev S (-t) = -ev S t := by rw [← ev_alt, alt_S, ev_sm]; omega
/-- The circle. -/
def crc : List Int := ad (ml' C C) (ad (ml' S S) [-(P * P)])
theorem crc_bd : bd crc R * 35184372088832 ≤ P * P := by decide +kernel
theorem circle {t : Int} (h0 : -R ≤ t) (h1 : t ≤ R) : ∃ d : Int, ev C t * ev C t + ev S t * ev S t = P * P + d ∧ -(P * P) ≤ d * 35184372088832 ∧ d * 35184372088832 ≤ P * P := by
  refine ⟨ev crc t, ?_, ?_⟩
  · unfold crc; rw [ev_ad, ev_ad, ev_ml, ev_ml]; simp only [ev]; omega
  · have := ev_bd h0 h1 crc; have := crc_bd; omega
theorem C_bd : bd C R ≤ 3 * P ∧ bd S R ≤ 3 * P ∧ 10 * bd C R + 10 * bd S R ≤ 49 * P := by decide +kernel
/-- A quarter turn back. -/
theorem qt_bd : bd (ad (sh (-70368744177664) C) (sm (-1) S)) R * 281474976710656 ≤ P ∧ bd (ad (sh (-70368744177664) S) C) R * 281474976710656 ≤ P := by decide +kernel
theorem quarter {t : Int} (h0 : -R ≤ t) (h1 : t ≤ R) : (-P ≤ (ev C (t - 70368744177664) - ev S t) * 281474976710656 ∧ (ev C (t - 70368744177664) - ev S t) * 281474976710656 ≤ P) ∧ (-P ≤ (ev S (t - 70368744177664) + ev C t) * 281474976710656 ∧ (ev S (t - 70368744177664) + ev C t) * 281474976710656 ≤ P) := by
  obtain ⟨q1, q2⟩ := qt_bd
  have b1 := ev_bd h0 h1 (ad (sh (-70368744177664) C) (sm (-1) S))
  have b2 := ev_bd h0 h1 (ad (sh (-70368744177664) S) C)
  rw [ev_ad, ev_sh, ev_sm] at b1
  rw [ev_ad, ev_sh] at b2
  rw [show t - 70368744177664 = t + -70368744177664 by omega]
  omega
/-- Slopes. -/
def dd : List Int → Int → Int → Int
  | [], _, _ => 0
  | _ :: p, t, u => ev p u + t * dd p t u
def b1 : List Int → Int → Int
  | [], _ => 0
  | _ :: p, r => bd p r + r * b1 p r
theorem ev_dd (p : List Int) (t u : Int) : ev p u - ev p t = (u - t) * dd p t u := by
  induction p with
  | nil => simp [ev, dd]
  | cons c p ih =>
    simp only [ev, dd]
    have : ev p t = ev p u - (u - t) * dd p t u := by omega
    rw [this]; grind
theorem dd_bd {r t u : Int} (t0 : -r ≤ t) (t1 : t ≤ r) (u0 : -r ≤ u) (u1 : u ≤ r) (p : List Int) : -b1 p r ≤ dd p t u ∧ dd p t u ≤ b1 p r := by
  induction p with
  | nil => simp [b1, dd]
  | cons c p ih =>
    have := ev_bd u0 u1 p
    have := mul_abs t0 t1 ih.1 ih.2
    simp only [b1, dd]; omega
theorem C_b1 : b1 C R2 * 281474976710656 ≤ 7 * P := by decide +kernel
theorem C_slope {t u h : Int} (t0 : -R2 ≤ t) (t1 : t ≤ R2) (u0 : -R2 ≤ u) (u1 : u ≤ R2) (g0 : -h ≤ u - t) (g1 : u - t ≤ h) : -(h * (7 * P)) ≤ (ev C u - ev C t) * 281474976710656 ∧ (ev C u - ev C t) * 281474976710656 ≤ h * (7 * P) := by
  rw [ev_dd, Int.mul_assoc]
  have := dd_bd t0 t1 u0 u1 C
  have := C_b1
  exact mul_abs g0 g1 (by omega) (by omega)
def s1 : Int := S.getD 1 0
def s3 : Int := S.getD 3 0
def p4 : List Int := S.drop 4
theorem S_is : S = 0 :: s1 :: 0 :: s3 :: p4 := by decide +kernel
theorem s_num : s1 * 281474976710656 ≤ 6 * P + P / 3 ∧ 6 * P ≤ s1 * 281474976710656 ∧ s3 ≤ 0 ∧ (R2 * R2 * 3) * -s3 * 281474976710656 ≤ 2 * P ∧ ((4 * R2 * R2 * R2) * bd p4 R2 + R2 * R2 * R2 * R2 * b1 p4 R2) * 281474976710656 ≤ P / 3 := by decide +kernel
theorem dd_S (t u : Int) : dd S t u = s1 + s3 * (u * u + t * u + t * t) + (u * u * u + t * u * u + t * t * u + t * t * t) * ev p4 u + t * t * t * t * dd p4 t u := by
  rw [S_is]; simp only [dd, ev]; grind
theorem sq3 (t u : Int) : 0 ≤ u * u + t * u + t * t := by
  have h : ∀ a : Int, 0 ≤ a * a := fun a => by
    rcases Int.le_total 0 a with h | h
    · exact Int.mul_nonneg h h
    · have := Int.mul_nonneg (a := -a) (b := -a) (by omega) (by omega)
      rwa [Int.neg_mul_neg] at this
  have h1 := h (u + t)
  have h2 := h u
  have h3 := h t
  have e : (u + t) * (u + t) = u * u + 2 * (t * u) + t * t := by grind
  omega
theorem S_dd {t u : Int} (t0 : -R2 ≤ t) (t1 : t ≤ R2) (u0 : -R2 ≤ u) (u1 : u ≤ R2) : 3 * P ≤ dd S t u * 281474976710656 ∧ dd S t u * 281474976710656 ≤ 7 * P := by
  obtain ⟨n1, n2, n3, n4, n5⟩ := s_num
  have hP := P_pos
  have q := sq3 t u
  have uu := mul_abs u0 u1 u0 u1
  have tu := mul_abs t0 t1 u0 u1
  have tt := mul_abs t0 t1 t0 t1
  have uuu := mul_abs uu.1 uu.2 u0 u1
  have tuu := mul_abs tu.1 tu.2 u0 u1
  have ttu := mul_abs tt.1 tt.2 u0 u1
  have ttt := mul_abs tt.1 tt.2 t0 t1
  have tttt := mul_abs ttt.1 ttt.2 t0 t1
  have e4 := ev_bd u0 u1 p4
  have d4 := dd_bd t0 t1 u0 u1 p4
  have m1 := mul_abs (a := u * u * u + t * u * u + t * t * u + t * t * t) (A := 4 * R2 * R2 * R2) (by rw [show 4 * R2 * R2 * R2 = 4 * (R2 * R2 * R2) by grind]; omega) (by rw [show 4 * R2 * R2 * R2 = 4 * (R2 * R2 * R2) by grind]; omega) e4.1 e4.2
  have m2 := mul_abs tttt.1 tttt.2 d4.1 d4.2
  have k0 : s3 * (u * u + t * u + t * t) ≤ 0 := by
    have := Int.mul_nonneg (a := -s3) (by omega) q
    rw [Int.neg_mul] at this; omega
  have k1 : -((R2 * R2 * 3) * -s3) ≤ s3 * (u * u + t * u + t * t) := by
    have := Int.mul_le_mul_of_nonneg_right (c := -s3) (show u * u + t * u + t * t ≤ R2 * R2 * 3 by omega) (by omega)
    have e : (u * u + t * u + t * t) * -s3 = -(s3 * (u * u + t * u + t * t)) := by grind
    omega
  rw [dd_S]
  omega
theorem S_slope {t u h : Int} (t0 : -R2 ≤ t) (t1 : t ≤ R2) (u0 : -R2 ≤ u) (u1 : u ≤ R2) (g0 : -h ≤ u - t) (g1 : u - t ≤ h) : -(h * (7 * P)) ≤ (ev S u - ev S t) * 281474976710656 ∧ (ev S u - ev S t) * 281474976710656 ≤ h * (7 * P) := by
  rw [ev_dd, Int.mul_assoc]
  have := S_dd t0 t1 u0 u1
  have := P_pos
  exact mul_abs g0 g1 (by omega) (by omega)
/-- Where cosines are above 0. -/
theorem C_low_num : 3 * P ≤ 5 * (P - R2 * bd C.tail R2) := by decide +kernel
theorem C_low {t : Int} (t0 : -R2 ≤ t) (t1 : t ≤ R2) : 3 * P ≤ 5 * ev C t := by
  have h := C_low_num
  have e : ev C t = P + t * ev C.tail t := by
    have : C = P :: C.tail := by decide +kernel
    conv => lhs; rw [this]
    rfl
  have b := ev_bd t0 t1 C.tail
  have := mul_abs t0 t1 b.1 b.2
  omega
/-- Where sines are above 0, and how steep they are. -/
theorem S_sign_num : 3 * P ≤ (s1 - R * bd (S.drop 2) R) * 281474976710656 ∧ (s1 + R * bd (S.drop 2) R) * 281474976710656 ≤ 10 * P := by decide +kernel
theorem S_at (t : Int) (t0 : -R ≤ t) (t1 : t ≤ R) : ∃ k : Int, ev S t = t * k ∧ 3 * P ≤ k * 281474976710656 ∧ k * 281474976710656 ≤ 10 * P := by
  have h := S_sign_num
  have b := ev_bd t0 t1 (S.drop 2)
  have := mul_abs t0 t1 b.1 b.2
  refine ⟨s1 + t * ev (S.drop 2) t, ?_, by omega, by omega⟩
  have : S = 0 :: s1 :: S.drop 2 := by decide +kernel
  conv => lhs; rw [this]
  simp only [ev]; omega
end Tg
end Go.Proofs.YtdedfnogaonphaaDoor
