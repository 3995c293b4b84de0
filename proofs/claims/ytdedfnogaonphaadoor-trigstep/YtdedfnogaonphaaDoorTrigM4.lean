/- Sine and cosine of any angle: the document's quarters (fifth part). -/
import Derived.Test.YtdedfnogaonphaaDoorTrigM3
namespace Go.Proofs.YtdedfnogaonphaaDoor
namespace Tg
theorem diff_le {a b A B h e : Int} (ha : -(33100 * P) ≤ a * P * 65536 - A * 281474976710656 ∧ a * P * 65536 - A * 281474976710656 ≤ 33100 * P) (hb : -(33100 * P) ≤ b * P * 65536 - B * 281474976710656 ∧ b * P * 65536 - B * 281474976710656 ≤ 33100 * P)
    (hs : -(h * (7 * P)) - e ≤ (A - B) * 281474976710656 ∧ (A - B) * 281474976710656 ≤ h * (7 * P) + e) (he : e ≤ P) : -(66201 + 7 * h) ≤ (a - b) * 65536 ∧ (a - b) * 65536 ≤ 66201 + 7 * h := by
  have e1 : ((a - b) * 65536) * P = a * P * 65536 - b * P * 65536 := by grind
  have e2 : (66201 + 7 * h) * P = 66201 * P + h * (7 * P) := by grind
  have e3 : -(66201 + 7 * h) * P = -((66201 + 7 * h) * P) := by grind
  constructor
  · refine of_P ?_; omega
  · refine of_P ?_; omega
theorem step_same {z z' d : Int} (h0 : -35184372088832 ≤ z) (h1 : z ≤ 35184372088832) (g0 : -35184372088832 ≤ z') (g1 : z' ≤ 35184372088832) (d0 : 0 ≤ d) (d1 : d ≤ 15) (e : z' = z + d * 65536) :
    (-(7 * d + 16) ≤ fs z - fs z' ∧ fs z - fs z' ≤ 7 * d + 16) ∧ (-(7 * d + 16) ≤ fc z - fc z' ∧ fc z - fc z' ≤ 7 * d + 16) := by
  obtain ⟨t, t0, t1, c1, s1⟩ := near h0 h1
  obtain ⟨u, u0, u1, c2, s2⟩ := near g0 g1
  have hR : R2 = 35184374185984 := rfl
  have hP := P_pos
  have ms := S_slope (t := u) (u := t) (h := d * 65536 + 41728) (by omega) (by omega) (by omega) (by omega) (by omega) (by omega)
  have mc := C_slope (t := u) (u := t) (h := d * 65536 + 41728) (by omega) (by omega) (by omega) (by omega) (by omega) (by omega)
  have f1 := diff_le (h := d * 65536 + 41728) (e := 0) s1 s2 (by omega) (by omega)
  have f2 := diff_le (h := d * 65536 + 41728) (e := 0) c1 c2 (by omega) (by omega)
  omega
theorem step_over {z z' d : Int} (h0 : -35184372088832 ≤ z) (h1 : z ≤ 35184372088832) (g0 : -35184372088832 ≤ z') (g1 : z' ≤ 35184372088832) (d0 : 0 ≤ d) (d1 : d ≤ 15) (e : z' = z + d * 65536 - 70368744177664) :
    (-(7 * d + 16) ≤ fs z - fc z' ∧ fs z - fc z' ≤ 7 * d + 16) ∧ (-(7 * d + 16) ≤ fc z + fs z' ∧ fc z + fs z' ≤ 7 * d + 16) := by
  obtain ⟨t, t0, t1, c1, s1⟩ := near h0 h1
  obtain ⟨u, u0, u1, c2, s2⟩ := near g0 g1
  have hR2 : R2 = 35184374185984 := rfl
  have hR : R = 70368746274816 := rfl
  have hP := P_pos
  have q := quarter (t := u + 70368744177664) (by omega) (by omega)
  rw [show u + 70368744177664 - 70368744177664 = u by omega] at q
  have ms := S_slope (t := u + 70368744177664) (u := t) (h := d * 65536 + 41728) (by omega) (by omega) (by omega) (by omega) (by omega) (by omega)
  have mc := C_slope (t := u + 70368744177664) (u := t) (h := d * 65536 + 41728) (by omega) (by omega) (by omega) (by omega) (by omega) (by omega)
  have f1 := diff_le (h := d * 65536 + 41728) (e := P) s1 c2 (by omega) (by omega)
  have s3 : -(33100 * P) ≤ (-fs z') * P * 65536 - (-ev S u) * 281474976710656 ∧ (-fs z') * P * 65536 - (-ev S u) * 281474976710656 ≤ 33100 * P := by
    rw [show -fs z' * P * 65536 - -ev S u * 281474976710656 = -(fs z' * P * 65536 - ev S u * 281474976710656) by grind]
    omega
  have f2 := diff_le (h := d * 65536 + 41728) (e := P) c1 s3 (by omega) (by omega)
  omega
/-! The document's angle, quarters, sine and cosine. -/
def agl (t : Int) : Int := t % 4294967296
def qd (u : Int) : Int := (u + 536870912) / 1073741824
def zq (u : Int) : Int := (u - qd u * 1073741824) * 65536
def sq (q z : Int) : Int := if q = 1 then fc z else if q = 2 then -fs z else if q = 3 then -fc z else fs z
def cq (q z : Int) : Int := if q = 1 then -fs z else if q = 2 then -fc z else if q = 3 then fs z else fc z
def bs (t : Int) : Int := sq (qd (agl t)) (zq (agl t))
def bc (t : Int) : Int := cq (qd (agl t)) (zq (agl t))
theorem agl_bd (t : Int) : 0 ≤ agl t ∧ agl t < 4294967296 := by unfold agl; omega
theorem agl_agl (t : Int) : agl (agl t) = agl t := by unfold agl; omega
theorem qz {u : Int} (h0 : 0 ≤ u) (h1 : u < 4294967296) : 0 ≤ qd u ∧ qd u ≤ 4 ∧ -35184372088832 ≤ zq u ∧ zq u < 35184372088832 ∧ zq u = (u - qd u * 1073741824) * 65536 := by
  unfold zq qd; omega
theorem q_cases (q z : Int) (h0 : 0 ≤ q) (h1 : q ≤ 4) : ((q = 0 ∨ q = 4) ∧ sq q z = fs z ∧ cq q z = fc z) ∨ (q = 1 ∧ sq q z = fc z ∧ cq q z = -fs z) ∨ (q = 2 ∧ sq q z = -fs z ∧ cq q z = -fc z) ∨ (q = 3 ∧ sq q z = -fc z ∧ cq q z = fs z) := by
  obtain rfl | rfl | rfl | rfl | rfl : q = 0 ∨ q = 1 ∨ q = 2 ∨ q = 3 ∨ q = 4 := by omega
  all_goals simp [sq, cq]
theorem sq_neg (a : Int) : -a * -a = a * a := Int.neg_mul_neg a a
theorem bs_circle (t : Int) : -34359738368 ≤ bs t * bs t + bc t * bc t - 18446744073709551616 ∧ bs t * bs t + bc t * bc t - 18446744073709551616 ≤ 34359738368 := by
  have hb := agl_bd t
  obtain ⟨h0, h1, h2, h3, _⟩ := qz hb.1 hb.2
  have := circ h2 (by omega)
  unfold bs bc
  rcases q_cases (qd (agl t)) (zq (agl t)) h0 h1 with ⟨_, e1, e2⟩ | ⟨_, e1, e2⟩ | ⟨_, e1, e2⟩ | ⟨_, e1, e2⟩
  all_goals
    rw [e1, e2]
    try simp only [sq_neg]
    omega
theorem le_of_circle {a b : Int} (h : a * a + b * b - 18446744073709551616 ≤ 34359738368) : -4294967300 ≤ a ∧ a ≤ 4294967300 := by
  have hb : 0 ≤ b * b := by
    rcases Int.le_total 0 b with g | g
    · exact Int.mul_nonneg g g
    · rw [← sq_neg]; exact Int.mul_nonneg (by omega) (by omega)
  constructor
  · rcases Int.lt_or_le a (-4294967300) with g | g
    · have := Int.mul_le_mul (a := 4294967301) (b := 4294967301) (c := -a) (d := -a) (by omega) (by omega) (by omega) (by omega)
      rw [sq_neg] at this; omega
    · exact g
  · rcases Int.lt_or_le 4294967300 a with g | g
    · have := Int.mul_le_mul (a := 4294967301) (b := 4294967301) (c := a) (d := a) (by omega) (by omega) (by omega) (by omega)
      omega
    · exact g
theorem bs_bd (t : Int) : (-4294967300 ≤ bs t ∧ bs t ≤ 4294967300) ∧ (-4294967300 ≤ bc t ∧ bc t ≤ 4294967300) := by
  have h := bs_circle t
  exact ⟨le_of_circle (b := bc t) h.2, le_of_circle (b := bs t) (by omega)⟩
theorem bs_sign (t : Int) : (agl t < 2147483648 → -8 ≤ bs t) ∧ (¬ agl t < 2147483648 → bs t ≤ 8) := by
  have hb := agl_bd t
  obtain ⟨h0, h1, h2, h3, h4⟩ := qz hb.1 hb.2
  have hc := c_pos h2 (by omega)
  have hp : 0 ≤ zq (agl t) → -4 ≤ fs (zq (agl t)) := fun g => s_nonneg g (by omega)
  have hn : zq (agl t) ≤ 0 → fs (zq (agl t)) ≤ 4 := fun g => s_nonpos h2 g
  unfold bs
  generalize zq (agl t) = z at *
  generalize agl t = u at *
  rcases q_cases (qd u) z h0 h1 with ⟨k, e1, _⟩ | ⟨k, e1, _⟩ | ⟨k, e1, _⟩ | ⟨k, e1, _⟩
  all_goals
    rw [e1]
    generalize qd u = q at *
    generalize fs z = s at *
    generalize fc z = c at *
    omega
theorem bs_step (t d : Int) (d0 : 0 ≤ d) (d1 : d ≤ 15) : (-(7 * d + 16) ≤ bs (agl t) - bs (agl t + d) ∧ bs (agl t) - bs (agl t + d) ≤ 7 * d + 16) ∧ (-(7 * d + 16) ≤ bc (agl t) - bc (agl t + d) ∧ bc (agl t) - bc (agl t + d) ≤ 7 * d + 16) := by
  have hb := agl_bd t
  have hb' := agl_bd (agl t + d)
  have ha := agl_agl t
  have hu : (agl (agl t + d) = agl t + d) ∨ (agl (agl t + d) = agl t + d - 4294967296 ∧ 4294967296 ≤ agl t + d) := by
    have e : agl (agl t + d) = (agl t + d) % 4294967296 := rfl
    omega
  unfold bs bc
  rw [ha]
  generalize agl (agl t + d) = v at *
  generalize agl t = u at *
  obtain ⟨h0, h1, h2, h3, h4⟩ := qz hb.1 hb.2
  obtain ⟨g0, g1, g2, g3, g4⟩ := qz hb'.1 hb'.2
  have S1 : zq v = zq u + d * 65536 → _ := step_same h2 (by omega) g2 (by omega) d0 d1
  have S2 : zq v = zq u + d * 65536 - 70368744177664 → _ := step_over h2 (by omega) g2 (by omega) d0 d1
  have hq : (zq v = zq u + d * 65536 ∧ (qd v = qd u ∨ (qd v = 0 ∧ qd u = 4))) ∨ (zq v = zq u + d * 65536 - 70368744177664 ∧ (qd v = qd u + 1 ∨ (qd v = 0 ∧ qd u = 3))) := by
    have e1 : qd u = (u + 536870912) / 1073741824 := rfl
    have e2 : qd v = (v + 536870912) / 1073741824 := rfl
    omega
  clear h4 g4 hu hb hb' ha
  rcases hq with ⟨e, k⟩ | ⟨e, k⟩
  · have f := S1 e
    clear S1 S2 e
    rcases q_cases (qd u) (zq u) h0 h1 with ⟨k1, a1, b1⟩ | ⟨k1, a1, b1⟩ | ⟨k1, a1, b1⟩ | ⟨k1, a1, b1⟩
    all_goals
      rcases q_cases (qd v) (zq v) g0 g1 with ⟨k2, a2, b2⟩ | ⟨k2, a2, b2⟩ | ⟨k2, a2, b2⟩ | ⟨k2, a2, b2⟩
      all_goals
        rw [a1, a2, b1, b2]
        generalize fs (zq u) = x1 at *
        generalize fs (zq v) = x2 at *
        generalize fc (zq u) = y1 at *
        generalize fc (zq v) = y2 at *
        omega
  · have f := S2 e
    clear S1 S2 e
    rcases q_cases (qd u) (zq u) h0 h1 with ⟨k1, a1, b1⟩ | ⟨k1, a1, b1⟩ | ⟨k1, a1, b1⟩ | ⟨k1, a1, b1⟩
    all_goals
      rcases q_cases (qd v) (zq v) g0 g1 with ⟨k2, a2, b2⟩ | ⟨k2, a2, b2⟩ | ⟨k2, a2, b2⟩ | ⟨k2, a2, b2⟩
      all_goals
        rw [a1, a2, b1, b2]
        generalize fs (zq u) = x1 at *
        generalize fs (zq v) = x2 at *
        generalize fc (zq u) = y1 at *
        generalize fc (zq v) = y2 at *
        omega
end Tg
end Go.Proofs.YtdedfnogaonphaaDoor
