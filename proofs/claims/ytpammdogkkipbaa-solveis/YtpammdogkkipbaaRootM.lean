/- Square roots as plain integers: the mathematics alone. -/
import Derived.Test.YtpammdogkkipbaaWideC
import Derived.WalkMore
import Derived.ScopeJumps
namespace Go.Proofs.Ytpammdogkkipbaa
open Go.RowKit
open Go.Proofs.Ytpammdogkkipbaa.Fx Go.Proofs.Ytpammdogkkipbaa.Wd
namespace Rt
/-- That a value is the root of a number (0 of one below 0; the greatest value if there is none). -/
def Is (z n : Int) : Prop := 0 ≤ n ∧ n ≤ 288230376151711744 ∧ (n = 0 ∨ n * n ≤ z) ∧ (n = 288230376151711744 ∨ z < (n + 1) * (n + 1))
theorem sq_lt {a b : Int} (h0 : 0 ≤ a) (h : a < b) : a * a < b * b := Int.mul_lt_mul' (by omega) h h0 (by omega)
theorem sq_le {a b : Int} (h0 : 0 ≤ a) (h : a ≤ b) : a * a ≤ b * b := Int.mul_le_mul h h h0 (by omega)
theorem sq_nn (a : Int) : 0 ≤ a * a := by
  rcases Int.le_total 0 a with h | h
  · exact Int.mul_nonneg h h
  · have := Int.mul_nonneg (a := -a) (b := -a) (by omega) (by omega)
    rwa [Int.neg_mul_neg] at this
theorem lt_of_sq {a b : Int} (h0 : 0 ≤ b) (h : a * a < b * b) : a < b := by
  rcases Int.lt_or_le a b with g | g
  · exact g
  · have := sq_le h0 g; omega
theorem le_of_sq {a b : Int} (h0 : 0 ≤ b) (h : a * a ≤ b * b) : a ≤ b := by
  rcases Int.lt_or_le b a with g | g
  · have := sq_lt h0 g; omega
  · exact g
theorem one_way {z n m : Int} (h : Is z n) (g : Is z m) : n ≤ m := by
  obtain ⟨h0, h1, h2, h3⟩ := h
  obtain ⟨g0, g1, g2, g3⟩ := g
  rcases g3 with rfl | g3
  · exact h1
  · rcases h2 with rfl | h2
    · exact g0
    · have := lt_of_sq (a := n) (b := m + 1) (by omega) (by omega)
      omega
theorem uniq {z n m : Int} (h : Is z n) (g : Is z m) : n = m := by
  have := one_way h g; have := one_way g h; omega
theorem ex_from (z : Int) (j : Nat) : ∀ k : Int, 0 ≤ k → k + j = 288230376151711744 → (k = 0 ∨ k * k ≤ z) → ∃ n, Is z n := by
  induction j with
  | zero => intro k h0 h1 h2; exact ⟨k, h0, by omega, h2, .inl (by omega)⟩
  | succ j ih =>
    intro k h0 h1 h2
    rcases Int.lt_or_le z ((k + 1) * (k + 1)) with h | h
    · exact ⟨k, h0, by omega, h2, .inr h⟩
    · exact ih (k + 1) (by omega) (by omega) (.inr h)
theorem ex (z : Int) : ∃ n, Is z n := ex_from z 288230376151711744 0 (by omega) (by omega) (.inl rfl)
/-- The root, and whether there is none. -/
noncomputable def sr (z : Int) : Int := Classical.choose (ex z)
def ro (z : Int) : Bool := decide (z < 0 ∨ 83076749736557242632948693570945025 ≤ z)
theorem sr_is (z : Int) : Is z (sr z) := Classical.choose_spec (ex z)
theorem sr_of {z n : Int} (h : Is z n) : sr z = n := uniq (sr_is z) h
theorem sr_bd (z : Int) : 0 ≤ sr z ∧ sr z ≤ 288230376151711744 := ⟨(sr_is z).1, (sr_is z).2.1⟩
/-- The search: both ends closed in. -/
def In (z L H : Int) : Prop := 0 ≤ L ∧ L < H ∧ H ≤ 288230376151711745 ∧ (L = 0 ∨ L * L ≤ z) ∧ (H = 288230376151711745 ∨ z < H * H)
theorem in_end {z L H : Int} (h : In z L H) (e : H = L + 1) : sr z = L := by
  obtain ⟨h0, h1, h2, h3, h4⟩ := h
  subst e
  exact sr_of ⟨h0, by omega, h3, by rcases h4 with h4 | h4; exact .inl (by omega); exact .inr h4⟩
theorem in_hit {z m : Int} (h0 : 0 ≤ m) (h1 : m ≤ 288230376151711744) (e : m * m = z) : sr z = m :=
  sr_of ⟨h0, h1, .inr (by omega), .inr (by have := sq_lt h0 (show m < m + 1 by omega); omega)⟩
theorem ro_neg {z : Int} (h : z < 0) : ro z = true := by simp [ro]; exact .inl h
theorem sr_neg {z : Int} (h : z < 0) : sr z = 0 := sr_of ⟨by omega, by omega, .inl rfl, .inr (by omega)⟩
theorem lim1 : (288230376151711744 + 1 : Int) * (288230376151711744 + 1) = 83076749736557242632948693570945025 := by decide
theorem lim0 : (288230376151711744 : Int) * 288230376151711744 = 83076749736557242056487941267521536 := by decide
/-- The next square is no greater: nothing but the greatest value's. -/
theorem next_iff {z : Int} (h : 0 ≤ z) : decide ((sr z + 1) * (sr z + 1) ≤ z) = ro z := by
  have hi := sr_is z
  have hb := sr_bd z
  generalize sr z = n at *
  obtain ⟨h0, h1, h2, h3⟩ := hi
  have := lim1
  rw [ro, decide_eq_decide]
  rcases h3 with rfl | h3
  · omega
  · have := sq_le (a := n + 1) (b := 288230376151711744 + 1) (by omega) (by omega)
    omega
theorem ml_self {m : Int} (h0 : -288230376151711744 ≤ m) (h1 : m ≤ 288230376151711744) : ml m m = m * m := by
  unfold ml; rw [(cl_in h0 h1).1]
theorem ml_in {m n : Int} (h0 : -288230376151711744 ≤ m) (h1 : m ≤ 288230376151711744) (g0 : -288230376151711744 ≤ n) (g1 : n ≤ 288230376151711744) : ml m n = m * n := by
  unfold ml; rw [(cl_in h0 h1).1, (cl_in g0 g1).1]
theorem cm_cases (a b : Int) : (a = b ∧ cm a b = 0) ∨ (a < b ∧ cm a b = -1) ∨ (b < a ∧ cm a b = 1) := by
  unfold cm
  rcases Int.lt_trichotomy a b with h | h | h
  · right; left; rw [if_pos h]; exact ⟨h, rfl⟩
  · left; rw [if_neg (by omega), if_neg (by omega)]; exact ⟨h, rfl⟩
  · right; right; rw [if_neg (by omega), if_pos h]; exact ⟨h, rfl⟩
end Rt
end Go.Proofs.Ytpammdogkkipbaa
/- Square roots as plain integers: what the statements need of them. -/
namespace Go.Proofs.Ytpammdogkkipbaa
open Go.RowKit
open Go.Proofs.Ytpammdogkkipbaa.Fx Go.Proofs.Ytpammdogkkipbaa.Wd
namespace Rt
theorem ro_iff (z : Int) : ro z = true ↔ (z < 0 ∨ 83076749736557242632948693570945025 ≤ z) := by simp [ro]
theorem ro_f {z : Int} (h : ro z = false) : 0 ≤ z ∧ z < 83076749736557242632948693570945025 := by
  have := ro_iff z; rw [h] at this; simp at this; omega
theorem ro_of {z : Int} (h : 0 ≤ z) (g : z < 83076749736557242632948693570945025) : ro z = false := by
  cases e : ro z
  · rfl
  · rw [ro_iff] at e; omega
theorem ro_lim {z : Int} (h : ro z = true) (g : 0 ≤ z) : sr z = 288230376151711744 := by
  have := lim1; have := lim0
  rw [ro_iff] at h
  exact sr_of ⟨by omega, by omega, .inr (by omega), .inl rfl⟩
theorem sr_sq {z : Int} (h : 0 ≤ z) : sr z * sr z ≤ z := by
  have hi := sr_is z
  generalize sr z = n at *
  obtain ⟨h0, h1, h2, h3⟩ := hi
  rcases h2 with rfl | h2
  · omega
  · exact h2
theorem sr_next {z : Int} (h : ro z = false) : z < (sr z + 1) * (sr z + 1) := by
  have := next_iff (ro_f h).1
  rw [h] at this
  have := of_decide_eq_false this
  omega
theorem sr_mono {y z : Int} (h : y ≤ z) : sr y ≤ sr z := by
  obtain ⟨h0, h1, h2, h3⟩ := sr_is y
  obtain ⟨g0, g1, g2, g3⟩ := sr_is z
  generalize sr y = n at *
  generalize sr z = m at *
  rcases g3 with rfl | g3
  · exact h1
  · rcases h2 with rfl | h2
    · exact g0
    · have := lt_of_sq (a := n) (b := m + 1) (by omega) (by omega)
      omega
theorem ml_ab (a : Int) : ml a a = ab a * ab a := by
  unfold ml
  by_cases h : a < 0
  · rw [ab_neg h, Int.neg_mul_neg]
  · rw [ab_pos h]
theorem ml_nn (a : Int) : 0 ≤ ml a a := sq_nn _
theorem sr_back {x m : Int} (h0 : 0 ≤ x) (h1 : x ≤ 288230376151711744) (h2 : 0 ≤ m) (h3 : m ≤ 2 * x) : sr (x * x + m) = x ∧ ro (x * x + m) = false := by
  have e : (x + 1) * (x + 1) = x * x + (2 * x + 1) := by grind
  have := lim1
  have := sq_le (a := x + 1) (b := 288230376151711744 + 1) (by omega) (by omega)
  have := sq_nn x
  exact ⟨sr_of ⟨h0, h1, .inr (by omega), .inr (by omega)⟩, ro_of (by omega) (by omega)⟩
theorem cl_ab (a : Int) : cl (ab a) = ab a := (cl_in (by have := ab_bd a; omega) (ab_bd a).2).1
theorem hyp_ge (a b : Int) : ab a ≤ sr (ml a a + ml b b) ∧ ab b ≤ sr (ml a a + ml b b) := by
  have ha := ab_bd a
  have hb := ab_bd b
  have e := ml_ab a; have e' := ml_ab b
  have h1 : sr (ab a * ab a) = ab a := in_hit ha.1 ha.2 rfl
  have h2 : sr (ab b * ab b) = ab b := in_hit hb.1 hb.2 rfl
  have n1 := ml_nn a; have n2 := ml_nn b
  have m1 := sr_mono (y := ab a * ab a) (z := ml a a + ml b b) (by omega)
  have m2 := sr_mono (y := ab b * ab b) (z := ml a a + ml b b) (by omega)
  omega
theorem hyp_le (a b : Int) : sr (ml a a + ml b b) ≤ cl (ab a + ab b) := by
  have ha := ab_bd a
  have hb := ab_bd b
  have hs := sr_bd (ml a a + ml b b)
  have e : (ab a + ab b) * (ab a + ab b) = ab a * ab a + ab b * ab b + 2 * (ab a * ab b) := by grind
  have hn := Int.mul_nonneg ha.1 hb.1
  have hq := sr_sq (z := ml a a + ml b b) (by have := ml_nn a; have := ml_nn b; omega)
  have e1 := ml_ab a; have e2 := ml_ab b
  have hl := le_of_sq (a := sr (ml a a + ml b b)) (b := ab a + ab b) (by omega) (by omega)
  generalize ab a + ab b = t at *
  rcases Int.lt_or_le 288230376151711744 t with h | h
  · rw [(cl_hi h).1]; omega
  · rw [(cl_in (by omega) h).1]; omega
theorem four {z : Int} (h0 : 0 ≤ z) (h1 : ro (4 * z) = false) : ro z = false ∧ (sr (4 * z) = 2 * sr z ∨ sr (4 * z) = 2 * sr z + 1) := by
  have r0 := ro_f h1
  have r1 : ro z = false := ro_of h0 (by omega)
  have a1 := sr_sq h0
  have a2 := sr_next r1
  have b1 := sr_sq (z := 4 * z) (by omega)
  have b2 := sr_next h1
  have s0 := sr_bd z
  have s1 := sr_bd (4 * z)
  generalize sr z = s at *
  generalize sr (4 * z) = t at *
  have e1 : (2 * s) * (2 * s) = 4 * (s * s) := by grind
  have e2 : (2 * s + 2) * (2 * s + 2) = 4 * ((s + 1) * (s + 1)) := by grind
  have c1 := lt_of_sq (a := 2 * s) (b := t + 1) (by omega) (by omega)
  have c2 := lt_of_sq (a := t) (b := 2 * s + 2) (by omega) (by omega)
  exact ⟨r1, by omega⟩
theorem cm_le (a b : Int) (h : a ≤ b) : cm a b ≤ 0 := by have := cm_cases a b; omega
theorem cm_gt (a b : Int) (h : b < a) : 0 < cm a b := by have := cm_cases a b; omega
theorem cm_lt' (a b : Int) (h : a < b) : cm a b < 0 := by have := cm_cases a b; omega
theorem and57 (n : Int) : bits .and .i64 n 144115188075855871 = n % 144115188075855872 := by
  have h : (BitVec.ofInt 64 144115188075855871).toNat = 2 ^ 57 - 1 := by decide
  have key : (BitVec.ofInt 64 n &&& BitVec.ofInt 64 144115188075855871).toNat = (n % ((2 ^ 64 : Nat) : Int)).toNat % 2 ^ 57 := by
    rw [BitVec.toNat_and, BitVec.toNat_ofInt, h, Nat.and_two_pow_sub_one_eq_mod]
  show IntKind.i64.wrap ((BitVec.ofInt 64 n &&& BitVec.ofInt 64 144115188075855871).toNat : Nat) = _
  rw [key, IntKind.wrap_i64]
  omega
end Rt
end Go.Proofs.Ytpammdogkkipbaa
/- The contracts of package root. -/
namespace Go.Proofs.Ytpammdogkkipbaa
open Go.ChangeShapes Go.WideShapes Go.ChangeAt Go.RowKit
open Go.Proofs.Ytpammdogkkipbaa.Fx Go.Proofs.Ytpammdogkkipbaa.Wd
set_option linter.unusedVariables false
attribute [local go_sem] Ext.cell Ext.froz Ext.lt Ext.lt1 Ext.lt2 Ext.lt3 Ext.all Ext.set_u drew_heap setCell_size Ext.set_size
namespace Rt
attribute [local go_sem ↓] eq_wide eqw_self
attribute [local go_sem] and62 and1 sgn64 not64 wrap_and
theorem in_bd {z L H : Int} (h : In z L H) : 0 ≤ L ∧ L < H ∧ H ≤ 288230376151711745 := ⟨h.1, h.2.1, h.2.2.1⟩
theorem mid_ex {z L H : Int} (h : In z L H) : ∃ M : Int, (L + H).tdiv 2 = M ∧ 0 ≤ M ∧ L ≤ M ∧ M < H := by
  obtain ⟨h0, h1, h2⟩ := in_bd h
  exact ⟨(L + H) / 2, by rw [Int.tdiv_eq_ediv_of_nonneg (by omega)], by omega, by omega, by omega⟩
theorem mid_end {z L H M : Int} (h : In z L H) (e : (L + H).tdiv 2 = M) (g : M = L) : L = sr z := by
  obtain ⟨h0, h1, h2⟩ := in_bd h
  rw [Int.tdiv_eq_ediv_of_nonneg (by omega)] at e
  exact (in_end h (by omega)).symm
theorem in_low {z L H M : Int} (h : In z L H) (h0 : L < M) (h1 : M < H) (g : M * M < z) : In z M H :=
  ⟨by have := h.1; omega, h1, h.2.2.1, .inr (by omega), h.2.2.2.2⟩
theorem in_high {z L H M : Int} (h : In z L H) (h0 : L < M) (h1 : M < H) (g : z < M * M) : In z L M :=
  ⟨h.1, h0, by have := h.2.2.1; omega, h.2.2.2.1, .inr g⟩
theorem next_math {n : Int} (h0 : 0 ≤ n) (h1 : n ≤ 288230376151711744) : vw (hi (ml n n)) (lo (ml n n)) = n * n ∧ vw (hi (2 * n + 1)) (lo (2 * n + 1)) = 2 * n + 1 ∧ cut (n * n + (2 * n + 1)) = (n + 1) * (n + 1) ∧ inr ((n + 1) * (n + 1)) = true := by
  have e : n * n + (2 * n + 1) = (n + 1) * (n + 1) := by grind
  have b1 := sq_le h0 h1
  have i1 : inr (n * n + (2 * n + 1)) = true := by rw [inr_iff]; have := sq_nn n; have := lim0; omega
  refine ⟨by rw [vw_hl (ml_inr n n), ml_self (by omega) h1], vw_hl1 (by omega), ?_, ?_⟩
  · rw [cut_of i1, e]
  · rw [← e]; exact i1
theorem vw_zero : vw (hi 0) (lo 0) = 0 := by decide
theorem wd_false {z : Int} {s : Bool} (h : ¬ z < 0) (g : z < (sr z + 1) * (sr z + 1)) : (ro z || !s) = !s := by
  rw [← next_iff (by omega), decide_eq_false (by omega)]; rfl
theorem wd_true {z : Int} {s : Bool} (h : ¬ z < 0) (g : (sr z + 1) * (sr z + 1) ≤ z) : (ro z || !s) = true := by
  rw [← next_iff (by omega), decide_eq_true g]; rfl
theorem vw_ml (a b : Int) : vw (hi (ml a b)) (lo (ml a b)) = ml a b := vw_hl (ml_inr a b)
theorem sn_ml (a b : Int) : sn (hi (ml a b)) (lo (ml a b)) = true := sn_hl (ml_inr a b)
theorem sq2_inr (a b : Int) : inr (ml a a + ml b b) = true := by
  have ha := cl_bd a
  have hb := cl_bd b
  have h1 : ml a a ≤ 83076749736557242056487941267521536 := by
    have := sq_le (a := ab a) (b := 288230376151711744) (ab_bd a).1 (ab_bd a).2
    have e : ml a a = ab a * ab a := by
      unfold ml
      by_cases h : a < 0
      · rw [ab_neg h, Int.neg_mul_neg]
      · rw [ab_pos h]
    have := lim0
    omega
  have h2 : ml b b ≤ 83076749736557242056487941267521536 := by
    have := sq_le (a := ab b) (b := 288230376151711744) (ab_bd b).1 (ab_bd b).2
    have e : ml b b = ab b * ab b := by
      unfold ml
      by_cases h : b < 0
      · rw [ab_neg h, Int.neg_mul_neg]
      · rw [ab_pos h]
    have := lim0
    omega
  have h3 : 0 ≤ ml a a := sq_nn _
  have h4 : 0 ≤ ml b b := sq_nn _
  rw [inr_iff]; omega
end Rt
end Go.Proofs.Ytpammdogkkipbaa
