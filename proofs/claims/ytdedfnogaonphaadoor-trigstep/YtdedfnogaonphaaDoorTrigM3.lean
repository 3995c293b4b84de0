/- Sine and cosine of the steps: how near they are (fourth part). -/
import Derived.Test.YtdedfnogaonphaaDoorTrigM2
namespace Go.Proofs.YtdedfnogaonphaaDoor
namespace Tg
def fc (z : Int) : Int := ((fw z 32).1 + 32768) / 65536
def fs (z : Int) : Int := ((fw z 32).2.1 + 32768) / 65536
theorem am_end : am 32 = 5192296858534827628530496329220096 - 10727918156332650078 := by decide +kernel
theorem near1 {x c V E : Int} (hc : c = (x + 32768) / 65536) (hE : E ≤ 311 * 18446744073709551616) (hV : -(3 * P) ≤ V ∧ V ≤ 3 * P)
    (h : -(E * P) ≤ x * (18446744073709551616 * P) - am 32 * V ∧ x * (18446744073709551616 * P) - am 32 * V ≤ E * P) :
    -(33100 * P) ≤ c * P * 65536 - V * 281474976710656 ∧ c * P * 65536 - V * 281474976710656 ≤ 33100 * P := by
  have hP := P_pos
  rw [am_end] at h
  have e0 : E * P ≤ 311 * 18446744073709551616 * P := Int.mul_le_mul_of_nonneg_right hE (by omega)
  have e1 : x * (18446744073709551616 * P) = 18446744073709551616 * (x * P) := by grind
  rw [e1] at h
  have h1 : -(313 * P) ≤ x * P - V * 281474976710656 ∧ x * P - V * 281474976710656 ≤ 313 * P := by omega
  have r : ∃ r : Int, 65536 * c = x + 32768 - r ∧ 0 ≤ r ∧ r < 65536 := ⟨(x + 32768) % 65536, by omega, by omega, by omega⟩
  obtain ⟨r, r1, r2, r3⟩ := r
  have e2 : c * P * 65536 = (65536 * c) * P := by grind
  rw [e2, r1]
  have e3 : (x + 32768 - r) * P = x * P + 32768 * P - r * P := by grind
  have e4 : 0 ≤ r * P := Int.mul_nonneg r2 (by omega)
  have e5 : r * P ≤ 65536 * P := Int.mul_le_mul_of_nonneg_right (by omega) (by omega)
  rw [e3]
  omega
/-- Nearly the cosine and the sine of an angle. -/
def Nb (c s t : Int) : Prop := (-(33100 * P) ≤ c * P * 65536 - ev C t * 281474976710656 ∧ c * P * 65536 - ev C t * 281474976710656 ≤ 33100 * P) ∧ (-(33100 * P) ≤ s * P * 65536 - ev S t * 281474976710656 ∧ s * P * 65536 - ev S t * 281474976710656 ≤ 33100 * P)
theorem near {z : Int} (h0 : -35184372088832 ≤ z) (h1 : z ≤ 35184372088832) : ∃ t : Int, -20864 ≤ t - z ∧ t - z ≤ 20864 ∧ Nb (fc z) (fs z) t := by
  obtain ⟨⟨i1, i2⟩, i3, i4⟩ := fw_inv z h0 h1 32 (by omega)
  have hb := bz_end
  have hR : R = 70368746274816 := rfl
  have cb := C_bd
  refine ⟨z - (fw z 32).2.2, by omega, by omega, ?_, ?_⟩
  · have := ev_bd (R := R) (t := z - (fw z 32).2.2) (by omega) (by omega) C
    exact near1 rfl eh_end ⟨by omega, by omega⟩ i3
  · have := ev_bd (R := R) (t := z - (fw z 32).2.2) (by omega) (by omega) S
    exact near1 rfl eh_end ⟨by omega, by omega⟩ i4
/-- From products with P to numbers. -/
theorem of_P {a b : Int} (h : a * P ≤ b * P) : a ≤ b := Int.le_of_mul_le_mul_right h P_pos
theorem c_pos {z : Int} (h0 : -35184372088832 ≤ z) (h1 : z ≤ 35184372088832) : 1 ≤ fc z := by
  obtain ⟨t, t0, t1, ⟨n1, n2⟩, _⟩ := near h0 h1
  have hR : R2 = 35184374185984 := rfl
  have hP := P_pos
  have := C_low (t := t) (by omega) (by omega)
  have : 0 * P < fc z * P := by omega
  have := Int.lt_of_mul_lt_mul_right this (by omega)
  omega
theorem s_nonneg {z : Int} (h0 : 0 ≤ z) (h1 : z ≤ 35184372088832) : -4 ≤ fs z := by
  obtain ⟨t, t0, t1, _, ⟨n1, n2⟩⟩ := near (z := z) (by omega) h1
  have hR : R = 70368746274816 := rfl
  have hP := P_pos
  obtain ⟨k, k1, k2, k3⟩ := S_at t (by omega) (by omega)
  have a : -(20864 * (10 * P)) ≤ (t * k) * 281474976710656 := by
    rcases Int.le_total 0 t with g | g
    · have := Int.mul_nonneg g (show 0 ≤ k by omega); omega
    · have e : (t * k) * 281474976710656 = -(-t * (k * 281474976710656)) := by grind
      rw [e]
      have := (mul_abs (a := -t) (b := k * 281474976710656) (A := 20864) (B := 10 * P) (by omega) (by omega) (by omega) k3).2
      omega
  rw [k1] at n1
  refine of_P ?_
  omega
theorem s_nonpos {z : Int} (h0 : -35184372088832 ≤ z) (h1 : z ≤ 0) : fs z ≤ 4 := by
  obtain ⟨t, t0, t1, _, ⟨n1, n2⟩⟩ := near (z := z) h0 (by omega)
  have hR : R = 70368746274816 := rfl
  have hP := P_pos
  obtain ⟨k, k1, k2, k3⟩ := S_at t (by omega) (by omega)
  have a : (t * k) * 281474976710656 ≤ 20864 * (10 * P) := by
    rcases Int.le_total t 0 with g | g
    · have := Int.mul_nonneg (show 0 ≤ -t by omega) (show 0 ≤ k by omega); rw [Int.neg_mul] at this; omega
    · have e : (t * k) * 281474976710656 = t * (k * 281474976710656) := by grind
      rw [e]
      have := (mul_abs (a := t) (b := k * 281474976710656) (A := 20864) (B := 10 * P) (by omega) (by omega) (by omega) k3).2
      omega
  rw [k1] at n2
  refine of_P ?_
  omega
theorem circ_math {u v a b d Q : Int} (hP : 0 < Q) (hu : -(33100 * Q) ≤ u ∧ u ≤ 33100 * Q) (hv : -(33100 * Q) ≤ v ∧ v ≤ 33100 * Q) (ha : ∃ A B : Int, (-A ≤ a ∧ a ≤ A) ∧ (-B ≤ b ∧ b ≤ B) ∧ 10 * A + 10 * B ≤ 49 * Q)
    (hc : a * a + b * b = Q * Q + d) (d0 : -(Q * Q) ≤ d * 35184372088832) (d1 : d * 35184372088832 ≤ Q * Q) :
    ∃ w : Int, (a * 281474976710656 + u) * (a * 281474976710656 + u) + (b * 281474976710656 + v) * (b * 281474976710656 + v) = (79228162514264337593543950336 * (Q * Q)) + w ∧ -(147573952589676412928 * (Q * Q)) ≤ w ∧ w ≤ 147573952589676412928 * (Q * Q) := by
  obtain ⟨A, B, hA, hB, hAB⟩ := ha
  have m1 := mul_abs hA.1 hA.2 hu.1 hu.2
  have m2 := mul_abs hB.1 hB.2 hv.1 hv.2
  have m3 := mul_abs hu.1 hu.2 hu.1 hu.2
  have m4 := mul_abs hv.1 hv.2 hv.1 hv.2
  have e1 : A * (33100 * Q) + B * (33100 * Q) = 3310 * ((10 * A + 10 * B) * Q) := by grind
  have e2 : (10 * A + 10 * B) * Q ≤ 49 * Q * Q := Int.mul_le_mul_of_nonneg_right hAB (by omega)
  have e3 : 49 * Q * Q = 49 * (Q * Q) := by grind
  have e4 : (33100 * Q) * (33100 * Q) = 1095610000 * (Q * Q) := by grind
  have e5 : (a * 281474976710656 + u) * (a * 281474976710656 + u) + (b * 281474976710656 + v) * (b * 281474976710656 + v) = 79228162514264337593543950336 * (a * a + b * b) + 562949953421312 * (a * u + b * v) + (u * u + v * v) := by grind
  refine ⟨79228162514264337593543950336 * d + 562949953421312 * (a * u + b * v) + (u * u + v * v), ?_, ?_, ?_⟩
  · rw [e5, hc]; omega
  · have : 0 ≤ Q * Q := Int.mul_nonneg (by omega) (by omega)
    omega
  · have : 0 ≤ Q * Q := Int.mul_nonneg (by omega) (by omega)
    omega
theorem circ {z : Int} (h0 : -35184372088832 ≤ z) (h1 : z ≤ 35184372088832) : -34359738368 ≤ fs z * fs z + fc z * fc z - 18446744073709551616 ∧ fs z * fs z + fc z * fc z - 18446744073709551616 ≤ 34359738368 := by
  obtain ⟨t, t0, t1, hc, hs⟩ := near h0 h1
  have hR : R = 70368746274816 := rfl
  have hP := P_pos
  obtain ⟨d, d0, d1, d2⟩ := circle (t := t) (by omega) (by omega)
  have c1 := ev_bd (R := R) (t := t) (by omega) (by omega) C
  have c2 := ev_bd (R := R) (t := t) (by omega) (by omega) S
  obtain ⟨w, w0, w1, w2⟩ := circ_math hP hc hs ⟨_, _, c1, c2, C_bd.2.2⟩ d0 d1 d2
  have e : (ev C t * 281474976710656 + (fc z * P * 65536 - ev C t * 281474976710656)) * (ev C t * 281474976710656 + (fc z * P * 65536 - ev C t * 281474976710656)) + (ev S t * 281474976710656 + (fs z * P * 65536 - ev S t * 281474976710656)) * (ev S t * 281474976710656 + (fs z * P * 65536 - ev S t * 281474976710656)) = (fs z * fs z + fc z * fc z) * (P * P) * 4294967296 := by grind
  rw [e] at w0
  have pp : 0 < P * P := Int.mul_pos hP hP
  generalize fs z * fs z + fc z * fc z = q at *
  have f1 : q * (P * P) ≤ (18446744073709551616 + 34359738368) * (P * P) := by omega
  have f2 : (18446744073709551616 - 34359738368) * (P * P) ≤ q * (P * P) := by omega
  have g1 := Int.le_of_mul_le_mul_right f1 pp
  have g2 := Int.le_of_mul_le_mul_right f2 pp
  omega
end Tg
end Go.Proofs.YtdedfnogaonphaaDoor
