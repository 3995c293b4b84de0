/- Three numbers together: what the calls answer, as plain functions. -/
import Derived.Test.YtpammdogkkipbaaSumM
namespace Go.Proofs.Ytpammdogkkipbaa
open Go.Proofs.Ytpammdogkkipbaa.Fx Go.Proofs.Ytpammdogkkipbaa.Wd Go.Proofs.Ytpammdogkkipbaa.Sc Go.Proofs.Ytpammdogkkipbaa.Rt Go.Proofs.Ytpammdogkkipbaa.Sm
namespace Vc
open Sl
abbrev B64 (a : Int) : Prop := -9223372036854775808 ≤ a ∧ a ≤ 9223372036854775807
/-- The inner product, and whether something was clamped. -/
def dv (a b : List Int) : Int := cl (rn (dz a b))
def db (a b : List Int) : Bool := ck (a.take (kk a b)) 64 || ck (b.take (kk a b)) 64 || co (rn (dz a b))
/-- The length. -/
noncomputable def lv (a : List Int) : Int := sr (dp (vk a 64) (vk a 64))
def lb (a : List Int) : Bool := ck a 64 || ro (dp (vk a 64) (vk a 64))
/-- One number of an outer product. -/
def pv (p q r s : Int) : Int := dv [p, q] [r, -cl s]
def pb (p q r s : Int) : Bool := co s || db [p, q] [r, -cl s]
theorem gt3 {x y z : Int} (hx : B64 x) (hy : B64 y) (hz : B64 z) (j : Nat) : -9223372036854775808 ≤ gt [x, y, z] j ∧ gt [x, y, z] j ≤ 9223372036854775807 := by
  match j with
  | 0 => exact hx
  | 1 => exact hy
  | 2 => exact hz
  | j + 3 => simp [gt]
theorem gt2 {x y : Int} (hx : B64 x) (hy : B64 y) (j : Nat) : -9223372036854775808 ≤ gt [x, y] j ∧ gt [x, y] j ≤ 9223372036854775807 := by
  match j with
  | 0 => exact hx
  | 1 => exact hy
  | j + 2 => simp [gt]
theorem is3 {w : World} (B : Nat) (hB : w.heap.size = B) {x y z : Int} (hx : B64 x) (hy : B64 y) (hz : B64 z) : Is (w.alloc (.cells #[.int .i64 x, .int .i64 y, .int .i64 z] 3)) (some ⟨B, 0, none⟩) 3 [x, y, z] := by
  subst hB; exact of_cells [x, y, z] (gt3 hx hy hz) (by simp [maxLen]) _ rfl
theorem is2 {w : World} (B : Nat) (hB : w.heap.size = B) {x y : Int} (hx : B64 x) (hy : B64 y) : Is (w.alloc (.cells #[.int .i64 x, .int .i64 y] 3)) (some ⟨B, 0, none⟩) 2 [x, y] := by
  subst hB; exact of_cells [x, y] (gt2 hx hy) (by simp [maxLen]) _ rfl
end Vc
end Go.Proofs.Ytpammdogkkipbaa
/- Three numbers together: the mathematics of the laws. -/
namespace Go.Proofs.Ytpammdogkkipbaa
open Go.Proofs.Ytpammdogkkipbaa.Fx Go.Proofs.Ytpammdogkkipbaa.Wd Go.Proofs.Ytpammdogkkipbaa.Sc Go.Proofs.Ytpammdogkkipbaa.Rt Go.Proofs.Ytpammdogkkipbaa.Sm
namespace Vc
open Sl
theorem av_comm (a b : Int) : av a b = av b a := by unfold av; rw [Int.add_comm]
theorem ao_comm (a b : Int) : ao a b = ao b a := by unfold ao; rw [Int.add_comm, Bool.or_comm (co a)]
theorem ao_false {a b : Int} (h : ao a b = false) : (cl a = a ∧ cl b = b ∧ av a b = a + b) ∧ (-288230376151711744 ≤ a ∧ a ≤ 288230376151711744) ∧ (-288230376151711744 ≤ b ∧ b ≤ 288230376151711744) ∧ (-288230376151711744 ≤ a + b ∧ a + b ≤ 288230376151711744) := by
  unfold ao at h
  simp only [Bool.or_eq_false_iff] at h
  have h1 := co_false h.1.1
  have h2 := co_false h.1.2
  have h3 := co_false h.2
  rw [h1.2.2, h2.2.2] at h3
  refine ⟨⟨h1.2.2, h2.2.2, ?_⟩, by omega, by omega, by omega⟩
  unfold av
  rw [h1.2.2, h2.2.2, h3.2.2]
theorem turn_ok {a b : Int} (h : ao a b = false) : sv (av a b) b = a ∧ so (av a b) b = false := by
  obtain ⟨⟨h1, h2, h3⟩, h4, h5, h6⟩ := ao_false h
  have e1 := cl_in (a := a + b) h6.1 h6.2
  have e2 := cl_in h4.1 h4.2
  have e3 := cl_in h5.1 h5.2
  unfold sv so
  rw [h3, e1.1, h2, show a + b - b = a by omega, e1.2, e3.2, e2.1, e2.2]
  exact ⟨rfl, rfl⟩
theorem cl_cl' (a : Int) : cl (cl a) = cl a := by have := cl_bd a; exact (cl_in this.1 this.2).1
theorem tv_one (a : Int) : tv a 4294967296 = av a 0 := by
  unfold tv av ml
  rw [show cl 4294967296 = 4294967296 by decide, show cl 0 = 0 by decide]
  congr 1
  unfold rn; omega
theorem ck_any {l : List Int} (h : l.length ≤ 64) : ck l 64 = l.any co := by unfold ck; rw [List.take_of_length_le h]
theorem dz3 (a0 a1 a2 b0 b1 b2 : Int) : dz [a0, a1, a2] [b0, b1, b2] = ml a0 b0 + ml a1 b1 + ml a2 b2 := by
  rw [dz_eq]
  simp only [List.zipWith_cons_cons, List.zipWith_nil_left, List.take_succ_cons, List.take_nil, List.sum_cons, List.sum_nil]
  omega
theorem dz2 (a0 a1 b0 b1 : Int) : dz [a0, a1] [b0, b1] = ml a0 b0 + ml a1 b1 := by
  rw [dz_eq]
  simp only [List.zipWith_cons_cons, List.zipWith_nil_left, List.take_succ_cons, List.take_nil, List.sum_cons, List.sum_nil]
  omega
theorem db3 (a0 a1 a2 b0 b1 b2 : Int) : db [a0, a1, a2] [b0, b1, b2] = ((co a0 || co a1 || co a2) || (co b0 || co b1 || co b2) || co (rn (ml a0 b0 + ml a1 b1 + ml a2 b2))) := by
  unfold db
  rw [dz3, show kk [a0, a1, a2] [b0, b1, b2] = 3 from rfl]
  simp [ck, Bool.or_assoc]
theorem db2 (a0 a1 b0 b1 : Int) : db [a0, a1] [b0, b1] = ((co a0 || co a1) || (co b0 || co b1) || co (rn (ml a0 b0 + ml a1 b1))) := by
  unfold db
  rw [dz2, show kk [a0, a1] [b0, b1] = 2 from rfl]
  simp [ck, Bool.or_assoc]
theorem dv3 (a0 a1 a2 b0 b1 b2 : Int) : dv [a0, a1, a2] [b0, b1, b2] = cl (rn (ml a0 b0 + ml a1 b1 + ml a2 b2)) := by unfold dv; rw [dz3]
theorem dv_comm3 (a0 a1 a2 b0 b1 b2 : Int) : dv [b0, b1, b2] [a0, a1, a2] = dv [a0, a1, a2] [b0, b1, b2] ∧ db [b0, b1, b2] [a0, a1, a2] = db [a0, a1, a2] [b0, b1, b2] := by
  rw [dv3, dv3, db3, db3, ml_comm b0, ml_comm b1, ml_comm b2]
  exact ⟨rfl, by rw [Bool.or_comm (co b0 || co b1 || co b2)]⟩
theorem lv3 (x y z : Int) : lv [x, y, z] = sr (ml x x + ml y y + ml z z) ∧ lb [x, y, z] = ((co x || co y || co z) || ro (ml x x + ml y y + ml z z)) := by
  have e : dp (vk [x, y, z] 64) (vk [x, y, z] 64) = ml x x + ml y y + ml z z := by
    rw [dp_self]
    simp only [List.take_succ_cons, List.take_nil, List.map_cons, List.map_nil, List.sum_cons, List.sum_nil]
    omega
  unfold lv lb
  rw [e]
  exact ⟨rfl, by simp [ck, Bool.or_assoc]⟩
/-- One number of an outer product. -/
theorem pv_eq (p q r s : Int) : pv p q r s = cl (rn (ml p r - ml q s)) ∧ pb p q r s = (co s || ((co p || co q) || co r || co (rn (ml p r - ml q s)))) := by
  have e : ml p r + ml q (-cl s) = ml p r - ml q s := by
    unfold ml; rw [cl_neg, Int.mul_neg]; omega
  unfold pv pb dv
  rw [dz2, db2, e, co_neg]
  exact ⟨rfl, by simp [Bool.or_assoc]⟩
theorem rn_pair (z : Int) : -1 ≤ rn z + rn (-z) ∧ rn z + rn (-z) ≤ 1 := by unfold rn; omega
/-- The other order: the other way round. -/
theorem cross_ok {p q r s : Int} (h1 : pb p q r s = false) (h2 : pb s r q p = false) : (-1 ≤ av (pv p q r s) (pv s r q p) ∧ av (pv p q r s) (pv s r q p) ≤ 1) := by
  rw [(pv_eq _ _ _ _).2] at h1 h2
  rw [(pv_eq p q r s).1, (pv_eq s r q p).1]
  simp only [Bool.or_eq_false_iff] at h1 h2
  have e : ml s q - ml r p = -(ml p r - ml q s) := by rw [ml_comm s q, ml_comm r p]; omega
  rw [e] at h2 ⊢
  have c1 := co_false h1.2.2
  have c2 := co_false h2.2.2
  generalize ml p r - ml q s = z at *
  have := rn_pair z
  unfold av
  rw [cl_cl', cl_cl', c1.2.2, c2.2.2, (cl_in (by omega) (by omega)).1]
  exact this
theorem cross_self {p q : Int} (h1 : co p = false) (h2 : co q = false) : pv p q q p = 0 ∧ pb p q q p = false := by
  rw [(pv_eq _ _ _ _).1, (pv_eq _ _ _ _).2, ml_comm q p, Int.sub_self, h1, h2]
  decide
theorem rn_sum (a b : Int) : -1 ≤ rn (a + b) - rn a - rn b ∧ rn (a + b) - rn a - rn b ≤ 1 := by unfold rn; omega
/-- Products add up: outer ones. -/
theorem part_adds {a b p q r s : Int} (ha : ao a p = false) (hb : ao b q = false) (h1 : pb (av a p) (av b q) r s = false) (h2 : pb a b r s = false) (h3 : pb p q r s = false) :
    -1 ≤ pv (av a p) (av b q) r s - pv a b r s - pv p q r s ∧ pv (av a p) (av b q) r s - pv a b r s - pv p q r s ≤ 1 := by
  rw [(pv_eq _ _ _ _).2] at h1 h2 h3
  rw [(pv_eq _ _ _ _).1, (pv_eq _ _ _ _).1, (pv_eq _ _ _ _).1]
  simp only [Bool.or_eq_false_iff] at h1 h2 h3
  have c1 := co_false h1.2.2
  have c2 := co_false h2.2.2
  have c3 := co_false h3.2.2
  rw [c1.2.2, c2.2.2, c3.2.2]
  obtain ⟨⟨u1, u2, u3⟩, u4, u5, u6⟩ := ao_false ha
  obtain ⟨⟨v1, v2, v3⟩, v4, v5, v6⟩ := ao_false hb
  have e : ml (av a p) r - ml (av b q) s = (ml a r - ml b s) + (ml p r - ml q s) := by
    unfold ml
    rw [u3, v3, (cl_in u6.1 u6.2).1, (cl_in v6.1 v6.2).1, u1, u2, v1, v2, Int.add_mul, Int.add_mul]
    omega
  rw [e]
  exact rn_sum _ _
/-- Products add up: inner ones. -/
theorem dot_adds {a0 a1 a2 b0 b1 b2 c0 c1 c2 : Int} (h0 : ao a0 b0 = false) (h1 : ao a1 b1 = false) (h2 : ao a2 b2 = false)
    (g1 : db [av a0 b0, av a1 b1, av a2 b2] [c0, c1, c2] = false) (g2 : db [a0, a1, a2] [c0, c1, c2] = false) (g3 : db [b0, b1, b2] [c0, c1, c2] = false) (g4 : ao (dv [a0, a1, a2] [c0, c1, c2]) (dv [b0, b1, b2] [c0, c1, c2]) = false) :
    dv [av a0 b0, av a1 b1, av a2 b2] [c0, c1, c2] - av (dv [a0, a1, a2] [c0, c1, c2]) (dv [b0, b1, b2] [c0, c1, c2]) ≤ 1 ∧ av (dv [a0, a1, a2] [c0, c1, c2]) (dv [b0, b1, b2] [c0, c1, c2]) - dv [av a0 b0, av a1 b1, av a2 b2] [c0, c1, c2] ≤ 1 := by
  rw [(ao_false g4).1.2.2]
  rw [db3] at g1 g2 g3
  rw [dv3, dv3, dv3]
  simp only [Bool.or_eq_false_iff] at g1 g2 g3
  have k1 := co_false g1.2
  have k2 := co_false g2.2
  have k3 := co_false g3.2
  rw [k1.2.2, k2.2.2, k3.2.2]
  obtain ⟨⟨u1, u2, u3⟩, _, _, u6⟩ := ao_false h0
  obtain ⟨⟨v1, v2, v3⟩, _, _, v6⟩ := ao_false h1
  obtain ⟨⟨w1, w2, w3⟩, _, _, w6⟩ := ao_false h2
  have e : ml (av a0 b0) c0 + ml (av a1 b1) c1 + ml (av a2 b2) c2 = (ml a0 c0 + ml a1 c1 + ml a2 c2) + (ml b0 c0 + ml b1 c1 + ml b2 c2) := by
    unfold ml
    rw [u3, v3, w3, (cl_in u6.1 u6.2).1, (cl_in v6.1 v6.2).1, (cl_in w6.1 w6.2).1, u1, u2, v1, v2, w1, w2, Int.add_mul, Int.add_mul, Int.add_mul]
    omega
  rw [e]
  have := rn_sum (ml a0 c0 + ml a1 c1 + ml a2 c2) (ml b0 c0 + ml b1 c1 + ml b2 c2)
  omega
/-- Twice as much. -/
theorem two_ok {a : Int} (h : -17592186044416 ≤ a ∧ a ≤ 17592186044416) : tv a 8589934592 = 2 * a ∧ tb a 8589934592 = false ∧ av a a = 2 * a ∧ ao a a = false := by
  have c := cl_in (a := a) (by omega) (by omega)
  have e : rn (ml a 8589934592) = 2 * a := by
    unfold ml rn
    rw [c.1, show cl 8589934592 = 8589934592 by decide]
    omega
  have c2 := cl_in (a := 2 * a) (by omega) (by omega)
  unfold tv tb av ao
  rw [e, c2.1, c2.2, c.1, c.2, show a + a = 2 * a by omega, c2.1, c2.2]
  exact ⟨rfl, rfl, rfl, rfl⟩
theorem two_len {x y z : Int} (hx : -17592186044416 ≤ x ∧ x ≤ 17592186044416) (hy : -17592186044416 ≤ y ∧ y ≤ 17592186044416) (hz : -17592186044416 ≤ z ∧ z ≤ 17592186044416) : lb [x, y, z] = false ∧ lb [2 * x, 2 * y, 2 * z] = false ∧ (lv [2 * x, 2 * y, 2 * z] = 2 * lv [x, y, z] ∨ lv [2 * x, 2 * y, 2 * z] = 2 * lv [x, y, z] + 1) := by
  have s1 : ∀ a : Int, -17592186044416 ≤ a ∧ a ≤ 17592186044416 → ml a a = a * a ∧ ml (2 * a) (2 * a) = 4 * (a * a) ∧ 0 ≤ a * a ∧ a * a ≤ 309485009821345068724781056 ∧ co a = false ∧ co (2 * a) = false := by
    intro a h
    have c := cl_in (a := a) (by omega) (by omega)
    have c2 := cl_in (a := 2 * a) (by omega) (by omega)
    refine ⟨by unfold ml; rw [c.1], by unfold ml; rw [c2.1]; grind, Rt.sq_nn a, ?_, c.2, c2.2⟩
    have h1 : 0 ≤ (17592186044416 - a) * (17592186044416 + a) := Int.mul_nonneg (by omega) (by omega)
    have h2 : (17592186044416 - a) * (17592186044416 + a) = 309485009821345068724781056 - a * a := by grind
    omega
  obtain ⟨x1, x2, x3, x4, x5, x6⟩ := s1 x hx
  obtain ⟨y1, y2, y3, y4, y5, y6⟩ := s1 y hy
  obtain ⟨z1, z2, z3, z4, z5, z6⟩ := s1 z hz
  rw [(lv3 _ _ _).1, (lv3 _ _ _).1, (lv3 _ _ _).2, (lv3 _ _ _).2, x1, x2, y1, y2, z1, z2, x5, x6, y5, y6, z5, z6, show 4 * (x * x) + 4 * (y * y) + 4 * (z * z) = 4 * (x * x + y * y + z * z) by omega]
  generalize hS : x * x + y * y + z * z = S at *
  have r4 : ro (4 * S) = false := by
    unfold ro; rw [decide_eq_false_iff_not]; omega
  have f := four (z := S) (by omega) r4
  exact ⟨by rw [f.1]; rfl, by rw [r4]; rfl, f.2⟩
/-- A direction: one number of it. -/
theorem mg_ok {X n : Int} (below : Bool) (h0 : 0 ≤ X) (h1 : X ≤ n) (h2 : 0 < n) : (0 ≤ mg X n below ∧ mg X n below ≤ 4294967296) ∧ (-n ≤ 2 * (n * mg X n below - 4294967296 * X) ∧ 2 * (n * mg X n below - 4294967296 * X) ≤ n) := by
  have key : ∀ T M : Int, M = T / (2 * n) → 2 * n * M ≤ T ∧ T < 2 * n * M + 2 * n := fun T M e => by
    subst e
    have a1 := Int.mul_ediv_add_emod T (2 * n)
    have a2 := Int.emod_nonneg T (b := 2 * n) (by omega)
    have a3 := Int.emod_lt_of_pos T (b := 2 * n) (by omega)
    omega
  have fin : ∀ M : Int, -n ≤ 2 * (n * M - 4294967296 * X) → 2 * (n * M - 4294967296 * X) ≤ n → 0 ≤ M ∧ M ≤ 4294967296 := fun M g1 g2 => by
    constructor
    · rcases Int.lt_or_le M 0 with k | k
      · have : n * M ≤ n * (-1) := Int.mul_le_mul_of_nonneg_left (by omega) (by omega)
        omega
      · exact k
    · rcases Int.lt_or_le 4294967296 M with k | k
      · have : n * 4294967297 ≤ n * M := Int.mul_le_mul_of_nonneg_left (by omega) (by omega)
        omega
      · exact k
  have both : -n ≤ 2 * (n * mg X n below - 4294967296 * X) ∧ 2 * (n * mg X n below - 4294967296 * X) ≤ n := by
    cases below
    · have := key (2 * (X * 4294967296) + n) (mg X n false) rfl
      have e : 2 * n * mg X n false = 2 * (n * mg X n false) := Int.mul_assoc _ _ _
      omega
    · have := key (2 * (X * 4294967296) + n - 1) (mg X n true) rfl
      have e : 2 * n * mg X n true = 2 * (n * mg X n true) := Int.mul_assoc _ _ _
      omega
  exact ⟨fin _ both.1 both.2, both⟩
theorem unit_sq {X n M Q : Int} (hQ : n * n = Q) (h0 : 0 ≤ X) (h1 : X ≤ n) (h2 : 0 < n) (g : -n ≤ 2 * (n * M - 4294967296 * X) ∧ 2 * (n * M - 4294967296 * X) ≤ n) :
    18446744073709551616 * (X * X) - 4294967296 * Q ≤ Q * (M * M) ∧ Q * (M * M) ≤ 18446744073709551616 * (X * X) + 4294967296 * Q + Q := by
  obtain ⟨e, he⟩ : ∃ e, n * M - 4294967296 * X = e := ⟨_, rfl⟩
  rw [he] at g
  have e1 : Q * (M * M) = 18446744073709551616 * (X * X) + 4294967296 * (2 * (X * e)) + e * e := by
    rw [← hQ, show n * n * (M * M) = (n * M) * (n * M) by grind, show n * M = 4294967296 * X + e by omega]
    grind
  have e2 : 2 * (X * e) ≤ Q ∧ -Q ≤ 2 * (X * e) := by
    have p1 : 0 ≤ X * (n - 2 * e) := Int.mul_nonneg h0 (by omega)
    have p2 : 0 ≤ X * (n + 2 * e) := Int.mul_nonneg h0 (by omega)
    have p3 : 0 ≤ n * (n - X) := Int.mul_nonneg (by omega) (by omega)
    have q1 : X * (n - 2 * e) = X * n - 2 * (X * e) := by grind
    have q2 : X * (n + 2 * e) = X * n + 2 * (X * e) := by grind
    have q3 : n * (n - X) = n * n - X * n := by grind
    omega
  have e3 : 0 ≤ e * e ∧ e * e ≤ Q := by
    refine ⟨Rt.sq_nn e, ?_⟩
    have p1 : 0 ≤ (n - e) * (n + e) := Int.mul_nonneg (by omega) (by omega)
    have q1 : (n - e) * (n + e) = n * n - e * e := by grind
    omega
  omega
theorem unit_len {x y z p q r n S : Int} (hS : x * x + y * y + z * z = S) (n0 : 16777216 ≤ n) (s0 : n * n ≤ S) (s1 : S < (n + 1) * (n + 1))
    (hx : 0 ≤ x ∧ x ≤ n) (hy : 0 ≤ y ∧ y ≤ n) (hz : 0 ≤ z ∧ z ≤ n)
    (gx : -n ≤ 2 * (n * p - 4294967296 * x) ∧ 2 * (n * p - 4294967296 * x) ≤ n) (gy : -n ≤ 2 * (n * q - 4294967296 * y) ∧ 2 * (n * q - 4294967296 * y) ≤ n) (gz : -n ≤ 2 * (n * r - 4294967296 * z) ∧ 2 * (n * r - 4294967296 * z) ≤ n) :
    18446744060824649728 ≤ p * p + q * q + r * r ∧ p * p + q * q + r * r ≤ 18446746285617709059 := by
  obtain ⟨Q, hQ⟩ : ∃ Q, n * n = Q := ⟨_, rfl⟩
  have k1 := unit_sq hQ hx.1 hx.2 (by omega) gx
  have k2 := unit_sq hQ hy.1 hy.2 (by omega) gy
  have k3 := unit_sq hQ hz.1 hz.2 (by omega) gz
  have e1 : (n + 1) * (n + 1) = n * n + 2 * n + 1 := by grind
  have e2 : 16777216 * n ≤ Q := by rw [← hQ]; exact Int.mul_le_mul_of_nonneg_right n0 (by omega)
  obtain ⟨U, hU⟩ : ∃ U, p * p + q * q + r * r = U := ⟨_, rfl⟩
  have e3 : Q * U = Q * (p * p) + Q * (q * q) + Q * (r * r) := by rw [← hU]; grind
  rw [hU]
  have hQ0 : 0 < Q := by omega
  have l1 : Q * 18446744060824649728 ≤ Q * U := by omega
  have l2 : Q * U ≤ Q * 18446746285617709059 := by omega
  exact ⟨Int.le_of_mul_le_mul_left l1 hQ0, Int.le_of_mul_le_mul_left l2 hQ0⟩
theorem one_unit {x n : Int} (hx : co x = false) (hX : ab x ≤ n) (n0 : 0 < n) (n1 : n ≤ 4503599627370496) :
    ∃ M, qb x n = false ∧ ab (qv x n) = M ∧ co (qv x n) = false ∧ (0 ≤ M ∧ M ≤ 4294967296) ∧ (-n ≤ 2 * (n * M - 4294967296 * ab x) ∧ 2 * (n * M - 4294967296 * ab x) ≤ n) ∧ (0 ≤ x → 0 ≤ qv x n) ∧ (x ≤ 0 → qv x n ≤ 0) ∧ (-4294967296 ≤ qv x n ∧ qv x n ≤ 4294967296) := by
  have cn := cl_in (a := n) (by omega) (by omega)
  have an : ab n = n := by unfold ab; rw [cn.1]; omega
  have hx0 := co_false hx
  have ax := ab_bd x
  have bln : bl x n = decide (x < 0) := by
    unfold bl
    rw [decide_eq_false (show ¬ n < 0 by omega)]
    cases decide (x < 0) <;> rfl
  obtain ⟨M, hM⟩ : ∃ M, mg (ab x) n (decide (x < 0)) = M := ⟨_, rfl⟩
  have mk := mg_ok (decide (x < 0)) ax.1 hX n0
  rw [hM] at mk
  have cM := cl_in (a := M) (by omega) (by omega)
  have cM' := cl_in (a := -M) (by omega) (by omega)
  have hq : qb x n = false := by
    unfold qb
    rw [if_neg (by omega), bln, an, hM, cM.2, hx, cn.2]
    rfl
  by_cases g : x < 0
  · have hv : qv x n = -M := by
      unfold qv
      rw [if_neg (by omega), bln, decide_eq_true g, if_pos rfl, an, ← cM.1, ← hM, decide_eq_true g]
    refine ⟨M, hq, ?_, ?_, mk.1, mk.2, by omega, by omega, by omega⟩
    · rw [hv]; unfold ab; rw [cM'.1]; omega
    · rw [hv]; exact cM'.2
  · have hv : qv x n = M := by
      unfold qv
      rw [if_neg (by omega), bln, decide_eq_false g, if_neg (by decide), an, ← cM.1, ← hM, decide_eq_false g]
    refine ⟨M, hq, ?_, ?_, mk.1, mk.2, by omega, fun h => ?_, by omega⟩
    · rw [hv]; unfold ab; rw [cM.1]; omega
    · rw [hv]; exact cM.2
    · have : ab x = 0 := by unfold ab; rw [hx0.2.2]; omega
      rw [this] at mk
      rcases Int.lt_or_le 0 M with k | k
      · have : n * 1 ≤ n * M := Int.mul_le_mul_of_nonneg_left (by omega) (by omega)
        omega
      · omega
theorem ab_le {x n S : Int} (h : ab x * ab x ≤ S) (s1 : S < (n + 1) * (n + 1)) (n0 : 0 ≤ n) : ab x ≤ n := by
  rcases Int.lt_or_le n (ab x) with k | k
  · have : (n + 1) * (n + 1) ≤ ab x * ab x := Int.mul_le_mul (by omega) (by omega) (by omega) (by omega)
    omega
  · exact k
theorem unit_all {x y z n : Int} (hb : lb [x, y, z] = false) (hn : lv [x, y, z] = n) (n0 : 16777216 ≤ n) (n1 : n ≤ 4503599627370496) :
    (qb x n = false ∧ qb y n = false ∧ qb z n = false) ∧ lb [qv x n, qv y n, qv z n] = false ∧ (4294963200 ≤ lv [qv x n, qv y n, qv z n] ∧ lv [qv x n, qv y n, qv z n] ≤ 4294971392) ∧
    ((0 ≤ x → 0 ≤ qv x n) ∧ (x ≤ 0 → qv x n ≤ 0)) ∧ ((0 ≤ y → 0 ≤ qv y n) ∧ (y ≤ 0 → qv y n ≤ 0)) ∧ ((0 ≤ z → 0 ≤ qv z n) ∧ (z ≤ 0 → qv z n ≤ 0)) ∧ ((-4294967296 ≤ qv x n ∧ qv x n ≤ 4294967296) ∧ (-4294967296 ≤ qv y n ∧ qv y n ≤ 4294967296) ∧ (-4294967296 ≤ qv z n ∧ qv z n ≤ 4294967296)) := by
  rw [(lv3 _ _ _).2] at hb
  rw [(lv3 _ _ _).1] at hn
  simp only [Bool.or_eq_false_iff] at hb
  obtain ⟨⟨⟨c1, c2⟩, c3⟩, r⟩ := hb
  have q1 := sr_sq (z := ml x x + ml y y + ml z z) (by have := ml_nn x; have := ml_nn y; have := ml_nn z; omega)
  have q2 := sr_next r
  rw [hn] at q1 q2
  rw [ml_ab, ml_ab, ml_ab] at q1 q2
  have ax := ab_bd x
  have ay := ab_bd y
  have az := ab_bd z
  have sx := Rt.sq_nn (ab x)
  have sy := Rt.sq_nn (ab y)
  have sz := Rt.sq_nn (ab z)
  have hx := ab_le (x := x) (by omega) q2 (by omega)
  have hy := ab_le (x := y) (by omega) q2 (by omega)
  have hz := ab_le (x := z) (by omega) q2 (by omega)
  obtain ⟨P, p1, p2, p3, p4, p5, p6, p7, p8⟩ := one_unit c1 hx (by omega) n1
  obtain ⟨Q, u1, u2, u3, u4, u5, u6, u7, u8⟩ := one_unit c2 hy (by omega) n1
  obtain ⟨R, v1, v2, v3, v4, v5, v6, v7, v8⟩ := one_unit c3 hz (by omega) n1
  have U := unit_len (x := ab x) (y := ab y) (z := ab z) (p := P) (q := Q) (r := R) rfl n0 q1 q2 ⟨ax.1, hx⟩ ⟨ay.1, hy⟩ ⟨az.1, hz⟩ p5 u5 v5
  refine ⟨⟨p1, u1, v1⟩, ?_, ?_, ⟨p6, p7⟩, ⟨u6, u7⟩, ⟨v6, v7⟩, p8, u8, v8⟩
  · rw [(lv3 _ _ _).2, p3, u3, v3, ml_ab, ml_ab, ml_ab, p2, u2, v2]
    have : ro (P * P + Q * Q + R * R) = false := by unfold ro; rw [decide_eq_false_iff_not]; omega
    rw [this]; rfl
  · rw [(lv3 _ _ _).1, ml_ab, ml_ab, ml_ab, p2, u2, v2]
    generalize P * P + Q * Q + R * R = V at *
    constructor
    · have h1 : sr (4294963200 * 4294963200) = 4294963200 := in_hit (by omega) (by omega) rfl
      have h2 := sr_mono (y := 4294963200 * 4294963200) (z := V) (by omega)
      omega
    · have h1 := sr_sq (z := V) (by omega)
      exact le_of_sq (by omega) (by omega)
end Vc
end Go.Proofs.Ytpammdogkkipbaa
