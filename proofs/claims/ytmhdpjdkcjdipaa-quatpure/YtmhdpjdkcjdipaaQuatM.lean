/- Turns in space: what the calls answer, as plain functions, and the mathematics of the laws. -/
import Derived.Test.YtmhdpjdkcjdipaaVecM
namespace Go.Proofs.Ytmhdpjdkcjdipaa
open Go.Proofs.Ytmhdpjdkcjdipaa.Fx Go.Proofs.Ytmhdpjdkcjdipaa.Wd Go.Proofs.Ytmhdpjdkcjdipaa.Sc Go.Proofs.Ytmhdpjdkcjdipaa.Rt Go.Proofs.Ytmhdpjdkcjdipaa.Sm Go.Proofs.Ytmhdpjdkcjdipaa.Vc
namespace Qa
open Sl
/-- A turn. -/
structure Q where
  w : Int
  x : Int
  y : Int
  z : Int
/-- The four sums of a product. -/
def mw (p q : Q) : Int := ml p.w q.w - ml p.x q.x - ml p.y q.y - ml p.z q.z
def mx (p q : Q) : Int := ml p.w q.x + ml p.x q.w + ml p.y q.z - ml p.z q.y
def my (p q : Q) : Int := ml p.w q.y - ml p.x q.z + ml p.y q.w + ml p.z q.x
def mz (p q : Q) : Int := ml p.w q.z + ml p.x q.y - ml p.y q.x + ml p.z q.w
def mul (p q : Q) : Q := ⟨cl (rn (mw p q)), cl (rn (mx p q)), cl (rn (my p q)), cl (rn (mz p q))⟩
def cq (q : Q) : Bool := co q.w || co q.x || co q.y || co q.z
def mb (p q : Q) : Bool := cq p || cq q || co (rn (mw p q)) || co (rn (mx p q)) || co (rn (my p q)) || co (rn (mz p q))
def back (q : Q) : Q := ⟨cl q.w, -cl q.x, -cl q.y, -cl q.z⟩
def nz (q : Q) : Int := ml q.w q.w + ml q.x q.x + ml q.y q.y + ml q.z q.z
noncomputable def nv (q : Q) : Int := sr (nz q)
def nb (q : Q) : Bool := cq q || ro (nz q)
def one : Q := ⟨4294967296, 0, 0, 0⟩
noncomputable def unit (q : Q) : Q := if nv q = 0 then one else ⟨qv q.w (nv q), qv q.x (nv q), qv q.y (nv q), qv q.z (nv q)⟩
noncomputable def ub (q : Q) : Bool := if nv q = 0 then true else nb q || qb q.w (nv q) || qb q.x (nv q) || qb q.y (nv q) || qb q.z (nv q)
def sml (x y z : Int) : Q := ⟨4294967296, tv x 2147483648, tv y 2147483648, tv z 2147483648⟩
def pure (x y z : Int) : Q := ⟨0, x, y, z⟩
def half (q : Q) (x y z : Int) : Q := mul q (pure x y z)
def rot (q : Q) (x y z : Int) : Q := mul (half q x y z) (back q)
def rb (q : Q) (x y z : Int) : Bool := mb q (pure x y z) || mb (half q x y z) (back q)
/-- The sums of four products, and the lengths, as the lower layers tell them. -/
theorem dz4 (a0 a1 a2 a3 b0 b1 b2 b3 : Int) : dz [a0, a1, a2, a3] [b0, b1, b2, b3] = ml a0 b0 + ml a1 b1 + ml a2 b2 + ml a3 b3 := by
  rw [dz_eq]
  simp only [List.zipWith_cons_cons, List.zipWith_nil_left, List.take_succ_cons, List.take_nil, List.sum_cons, List.sum_nil]
  omega
theorem db4 (a0 a1 a2 a3 b0 b1 b2 b3 : Int) : db [a0, a1, a2, a3] [b0, b1, b2, b3] = ((co a0 || co a1 || co a2 || co a3) || (co b0 || co b1 || co b2 || co b3) || co (rn (ml a0 b0 + ml a1 b1 + ml a2 b2 + ml a3 b3))) := by
  unfold db
  rw [dz4, show kk [a0, a1, a2, a3] [b0, b1, b2, b3] = 4 from rfl]
  simp [ck, Bool.or_assoc]
theorem dv4 (a0 a1 a2 a3 b0 b1 b2 b3 : Int) : dv [a0, a1, a2, a3] [b0, b1, b2, b3] = cl (rn (ml a0 b0 + ml a1 b1 + ml a2 b2 + ml a3 b3)) := by unfold dv; rw [dz4]
theorem ml_neg (a b : Int) : ml a (-cl b) = -ml a b := by unfold ml; rw [cl_neg, Int.mul_neg]
theorem dv_w (p q : Q) : dv [p.w, p.x, p.y, p.z] [q.w, -cl q.x, -cl q.y, -cl q.z] = (mul p q).w := by
  rw [dv4, ml_neg, ml_neg, ml_neg]; unfold mul mw; congr 2
theorem dv_x (p q : Q) : dv [p.w, p.x, p.y, p.z] [q.x, q.w, q.z, -cl q.y] = (mul p q).x := by
  rw [dv4, ml_neg]; unfold mul mx; congr 2
theorem dv_y (p q : Q) : dv [p.w, p.x, p.y, p.z] [q.y, -cl q.z, q.w, q.x] = (mul p q).y := by
  rw [dv4, ml_neg]; unfold mul my; congr 2
theorem dv_z (p q : Q) : dv [p.w, p.x, p.y, p.z] [q.z, q.y, -cl q.x, q.w] = (mul p q).z := by
  rw [dv4, ml_neg]; unfold mul mz; congr 2
theorem db_all (p q : Q) : (cq p || cq q || db [p.w, p.x, p.y, p.z] [q.w, -cl q.x, -cl q.y, -cl q.z] || db [p.w, p.x, p.y, p.z] [q.x, q.w, q.z, -cl q.y] || db [p.w, p.x, p.y, p.z] [q.y, -cl q.z, q.w, q.x] || db [p.w, p.x, p.y, p.z] [q.z, q.y, -cl q.x, q.w]) = mb p q := by
  rw [db4, db4, db4, db4]
  simp only [ml_neg, co_neg]
  unfold mb cq mw mx my mz
  rw [show ml p.w q.w + -ml p.x q.x + -ml p.y q.y + -ml p.z q.z = ml p.w q.w - ml p.x q.x - ml p.y q.y - ml p.z q.z by omega, show ml p.w q.x + ml p.x q.w + ml p.y q.z + -ml p.z q.y = ml p.w q.x + ml p.x q.w + ml p.y q.z - ml p.z q.y by omega, show ml p.w q.y + -ml p.x q.z + ml p.y q.w + ml p.z q.x = ml p.w q.y - ml p.x q.z + ml p.y q.w + ml p.z q.x by omega, show ml p.w q.z + ml p.x q.y + -ml p.y q.x + ml p.z q.w = ml p.w q.z + ml p.x q.y - ml p.y q.x + ml p.z q.w by omega]
  cases co p.w <;> cases co p.x <;> cases co p.y <;> cases co p.z <;> simp
  cases co q.w <;> cases co q.x <;> cases co q.y <;> cases co q.z <;> simp
theorem lv4 (q : Q) : lv [q.w, q.x, q.y, q.z] = nv q ∧ lb [q.w, q.x, q.y, q.z] = nb q := by
  have e : dp (vk [q.w, q.x, q.y, q.z] 64) (vk [q.w, q.x, q.y, q.z] 64) = nz q := by
    rw [dp_self]
    simp only [List.take_succ_cons, List.take_nil, List.map_cons, List.map_nil, List.sum_cons, List.sum_nil]
    unfold nz
    omega
  unfold lv lb nv nb
  rw [e]
  exact ⟨rfl, by simp [ck, cq, Bool.or_assoc]⟩
/-- One turns nothing. -/
theorem rn_one' (z : Int) : rn (4294967296 * z) = z := by unfold rn; omega
theorem cl_one : cl 4294967296 = 4294967296 ∧ cl 0 = 0 ∧ co 4294967296 = false ∧ co 0 = false := by decide
def vals (q : Q) : Prop := (cl q.w = q.w ∧ cl q.x = q.x ∧ cl q.y = q.y ∧ cl q.z = q.z) ∧ cq q = false
theorem one_mul' {q : Q} (h : vals q) : mul one q = q ∧ mb one q = false := by
  obtain ⟨⟨h1, h2, h3, h4⟩, h5⟩ := h
  have e1 : mw one q = 4294967296 * q.w := by unfold mw ml one; simp only; rw [cl_one.1, cl_one.2.1, h1]; omega
  have e2 : mx one q = 4294967296 * q.x := by unfold mx ml one; simp only; rw [cl_one.1, cl_one.2.1, h2]; omega
  have e3 : my one q = 4294967296 * q.y := by unfold my ml one; simp only; rw [cl_one.1, cl_one.2.1, h3]; omega
  have e4 : mz one q = 4294967296 * q.z := by unfold mz ml one; simp only; rw [cl_one.1, cl_one.2.1, h4]; omega
  have h6 := h5
  unfold cq at h6
  simp only [Bool.or_eq_false_iff] at h6
  obtain ⟨⟨⟨g1, g2⟩, g3⟩, g4⟩ := h6
  unfold mul mb
  rw [e1, e2, e3, e4, rn_one', rn_one', rn_one', rn_one', h1, h2, h3, h4, h5, g1, g2, g3, g4]
  exact ⟨rfl, by decide⟩
theorem mul_one' {q : Q} (h : vals q) : mul q one = q ∧ mb q one = false := by
  obtain ⟨⟨h1, h2, h3, h4⟩, h5⟩ := h
  have e1 : mw q one = 4294967296 * q.w := by unfold mw ml one; simp only; rw [cl_one.1, cl_one.2.1, h1]; omega
  have e2 : mx q one = 4294967296 * q.x := by unfold mx ml one; simp only; rw [cl_one.1, cl_one.2.1, h2]; omega
  have e3 : my q one = 4294967296 * q.y := by unfold my ml one; simp only; rw [cl_one.1, cl_one.2.1, h3]; omega
  have e4 : mz q one = 4294967296 * q.z := by unfold mz ml one; simp only; rw [cl_one.1, cl_one.2.1, h4]; omega
  have h6 := h5
  unfold cq at h6
  simp only [Bool.or_eq_false_iff] at h6
  obtain ⟨⟨⟨g1, g2⟩, g3⟩, g4⟩ := h6
  unfold mul mb
  rw [e1, e2, e3, e4, rn_one', rn_one', rn_one', rn_one', h1, h2, h3, h4, h5, g1, g2, g3, g4]
  exact ⟨rfl, by decide⟩
theorem neg_val (a : Int) : cl (-cl a) = -cl a ∧ co (-cl a) = false := by
  have := cl_bd a
  exact cl_in (by omega) (by omega)
theorem val_cl (a : Int) : cl (cl a) = cl a ∧ co (cl a) = false := cl_in (cl_bd a).1 (cl_bd a).2
theorem back_one : back one = one := by
  unfold back one
  rw [cl_one.1, cl_one.2.1]; rfl
theorem back_vals (q : Q) : vals (back q) := by
  unfold vals back cq
  simp only [(neg_val _).1, (neg_val _).2, (val_cl _).1, (val_cl _).2]
  exact ⟨⟨trivial, trivial, trivial, trivial⟩, rfl⟩
theorem back_back (q : Q) : back (back q) = ⟨cl q.w, cl q.x, cl q.y, cl q.z⟩ := by
  unfold back
  simp only [(neg_val _).1, (val_cl _).1, Int.neg_neg]
theorem rot_one (x y z : Int) : rot one (cl x) (cl y) (cl z) = ⟨0, cl x, cl y, cl z⟩ ∧ rb one (cl x) (cl y) (cl z) = false := by
  have hv : vals (pure (cl x) (cl y) (cl z)) := by
    unfold vals pure cq
    simp only [(val_cl _).1, (val_cl _).2, cl_one.2.1, cl_one.2.2.2]
    exact ⟨⟨trivial, trivial, trivial, trivial⟩, rfl⟩
  have h1 := one_mul' hv
  have h2 := mul_one' hv
  unfold rot rb half
  rw [h1.1, h1.2, back_one, h2.1, h2.2]
  exact ⟨rfl, rfl⟩
/-- A turn and its way back. -/
theorem pure_w (q : Q) : mw q (back q) = nz q ∧ mw (back q) q = nz q := by
  unfold mw nz back ml
  simp only [(neg_val _).1, (val_cl _).1]
  grind
theorem pure_v (q : Q) : (mx q (back q) = 0 ∧ my q (back q) = 0 ∧ mz q (back q) = 0) ∧ (mx (back q) q = 0 ∧ my (back q) q = 0 ∧ mz (back q) q = 0) := by
  unfold mx my mz back ml
  simp only [(neg_val _).1, (val_cl _).1]
  grind
theorem nz_back (q : Q) : nz (back q) = nz q := by
  unfold nz back ml
  simp only [(neg_val _).1, (val_cl _).1]
  grind
theorem nz_nn (q : Q) : 0 ≤ nz q := by
  have := Rt.sq_nn (cl q.w); have := Rt.sq_nn (cl q.x); have := Rt.sq_nn (cl q.y); have := Rt.sq_nn (cl q.z)
  unfold nz ml; omega
theorem pure_ok (q : Q) : (0 ≤ (mul q (back q)).w ∧ (mul q (back q)).x = 0 ∧ (mul q (back q)).y = 0 ∧ (mul q (back q)).z = 0) ∧ mul (back q) q = mul q (back q) ∧ nv (back q) = nv q := by
  have h1 := pure_w q
  obtain ⟨⟨a1, a2, a3⟩, b1, b2, b3⟩ := pure_v q
  have h0 : 0 ≤ cl (rn (nz q)) := by
    have := nz_nn q
    have h : 0 ≤ rn (nz q) := by unfold rn; omega
    unfold cl wv; split <;> (try split) <;> omega
  refine ⟨?_, ?_, ?_⟩
  · unfold mul
    rw [h1.1, a1, a2, a3]
    exact ⟨h0, (show cl (rn 0) = 0 by decide), (show cl (rn 0) = 0 by decide), (show cl (rn 0) = 0 by decide)⟩
  · unfold mul
    rw [h1.1, h1.2, a1, a2, a3, b1, b2, b3]
  · unfold nv; rw [nz_back]
end Qa
end Go.Proofs.Ytmhdpjdkcjdipaa
/- Turns in space: the mathematics of products, of what adds up and of what is turned there and back. -/
namespace Go.Proofs.Ytmhdpjdkcjdipaa
open Go.Proofs.Ytmhdpjdkcjdipaa.Fx Go.Proofs.Ytmhdpjdkcjdipaa.Wd Go.Proofs.Ytmhdpjdkcjdipaa.Sc Go.Proofs.Ytmhdpjdkcjdipaa.Rt Go.Proofs.Ytmhdpjdkcjdipaa.Sm Go.Proofs.Ytmhdpjdkcjdipaa.Vc
namespace Qa
open Sl
theorem Q.eq {p q : Q} (h1 : p.w = q.w) (h2 : p.x = q.x) (h3 : p.y = q.y) (h4 : p.z = q.z) : p = q := by
  cases p; cases q; simp only at h1 h2 h3 h4; subst h1 h2 h3 h4; rfl
/-- Products, sums, multiples and the way back, of whole numbers without an end. -/
def em (p q : Q) : Q := ⟨p.w * q.w - p.x * q.x - p.y * q.y - p.z * q.z, p.w * q.x + p.x * q.w + p.y * q.z - p.z * q.y, p.w * q.y - p.x * q.z + p.y * q.w + p.z * q.x, p.w * q.z + p.x * q.y - p.y * q.x + p.z * q.w⟩
def cj (q : Q) : Q := ⟨q.w, -q.x, -q.y, -q.z⟩
def ad (p q : Q) : Q := ⟨p.w + q.w, p.x + q.x, p.y + q.y, p.z + q.z⟩
def sm (k : Int) (q : Q) : Q := ⟨k * q.w, k * q.x, k * q.y, k * q.z⟩
def nn (q : Q) : Int := q.w * q.w + q.x * q.x + q.y * q.y + q.z * q.z
theorem em_assoc (p q r : Q) : em (em p q) r = em p (em q r) := by
  apply Q.eq <;> simp only [em] <;> grind
theorem em_adl (p q r : Q) : em (ad p q) r = ad (em p r) (em q r) := by
  apply Q.eq <;> simp only [em, ad] <;> grind
theorem em_adr (p q r : Q) : em p (ad q r) = ad (em p q) (em p r) := by
  apply Q.eq <;> simp only [em, ad] <;> grind
theorem em_sml (k : Int) (p q : Q) : em (sm k p) q = sm k (em p q) := by
  apply Q.eq <;> simp only [em, sm] <;> grind
theorem em_smr (k : Int) (p q : Q) : em p (sm k q) = sm k (em p q) := by
  apply Q.eq <;> simp only [em, sm] <;> grind
theorem sm_ad (k : Int) (p q : Q) : sm k (ad p q) = ad (sm k p) (sm k q) := by
  apply Q.eq <;> simp only [ad, sm] <;> grind
theorem sm_sm (k l : Int) (p : Q) : sm k (sm l p) = sm (k * l) p := by
  apply Q.eq <;> simp only [sm] <;> grind
theorem ad_assoc (p q r : Q) : ad (ad p q) r = ad p (ad q r) := by
  apply Q.eq <;> simp only [ad] <;> omega
theorem em_cj (u : Q) : em (cj u) u = ⟨nn u, 0, 0, 0⟩ := by
  apply Q.eq <;> simp only [em, cj, nn] <;> grind
theorem em_num (k : Int) (v : Q) : em ⟨k, 0, 0, 0⟩ v = sm k v := by
  apply Q.eq <;> simp only [em, sm] <;> grind
theorem em_numr (k : Int) (v : Q) : em v ⟨k, 0, 0, 0⟩ = sm k v := by
  apply Q.eq <;> simp only [em, sm] <;> grind
theorem nn_em (p q : Q) : nn (em p q) = nn p * nn q := by
  simp only [nn, em]; grind
theorem nn_cj (p : Q) : nn (cj p) = nn p := by
  simp only [nn, cj]; grind
theorem cj_cj (p : Q) : cj (cj p) = p := by
  apply Q.eq <;> simp only [cj] <;> omega
/-- What a turn makes of a direction. -/
def R (u v : Q) : Q := em (em u v) (cj u)
theorem R_w (u : Q) {v : Q} (h : v.w = 0) : (R u v).w = 0 := by
  simp only [R, em, cj]; rw [h]; grind
theorem R_back (u v : Q) : R (cj u) (R u v) = sm (nn u * nn u) v := by
  unfold R
  rw [cj_cj, ← em_assoc, ← em_assoc, em_cj, em_num, em_sml, em_sml, em_assoc, em_cj, em_numr, sm_sm]
theorem R_ad (u v w : Q) : R u (ad v w) = ad (R u v) (R u w) := by
  unfold R; rw [em_adr, em_adl]
theorem R_sm (u : Q) (k : Int) (v : Q) : R u (sm k v) = sm k (R u v) := by
  unfold R; rw [em_smr, em_sml]
theorem nn_R (u v : Q) : nn (R u v) = nn u * nn u * nn v := by
  unfold R; rw [nn_em, nn_em, nn_cj]; grind
/-- Bounds. -/
def Bd (q : Q) (A : Int) : Prop := (-A ≤ q.w ∧ q.w ≤ A) ∧ (-A ≤ q.x ∧ q.x ≤ A) ∧ (-A ≤ q.y ∧ q.y ≤ A) ∧ (-A ≤ q.z ∧ q.z ≤ A)
theorem pr_bd {a b A B : Int} (ha : -A ≤ a ∧ a ≤ A) (hb : -B ≤ b ∧ b ≤ B) : -(A * B) ≤ a * b ∧ a * b ≤ A * B := by
  have h1 : 0 ≤ (A - a) * (B + b) := Int.mul_nonneg (by omega) (by omega)
  have h2 : 0 ≤ (A + a) * (B - b) := Int.mul_nonneg (by omega) (by omega)
  have h3 : 0 ≤ (A - a) * (B - b) := Int.mul_nonneg (by omega) (by omega)
  have h4 : 0 ≤ (A + a) * (B + b) := Int.mul_nonneg (by omega) (by omega)
  have e1 : (A - a) * (B + b) + (A + a) * (B - b) = 2 * (A * B) - 2 * (a * b) := by grind
  have e2 : (A - a) * (B - b) + (A + a) * (B + b) = 2 * (A * B) + 2 * (a * b) := by grind
  omega
theorem em_bd {p q : Q} {A B : Int} (hp : Bd p A) (hq : Bd q B) : Bd (em p q) (4 * (A * B)) := by
  obtain ⟨p1, p2, p3, p4⟩ := hp
  obtain ⟨q1, q2, q3, q4⟩ := hq
  have a11 := pr_bd p1 q1; have a12 := pr_bd p1 q2; have a13 := pr_bd p1 q3; have a14 := pr_bd p1 q4
  have a21 := pr_bd p2 q1; have a22 := pr_bd p2 q2; have a23 := pr_bd p2 q3; have a24 := pr_bd p2 q4
  have a31 := pr_bd p3 q1; have a32 := pr_bd p3 q2; have a33 := pr_bd p3 q3; have a34 := pr_bd p3 q4
  have a41 := pr_bd p4 q1; have a42 := pr_bd p4 q2; have a43 := pr_bd p4 q3; have a44 := pr_bd p4 q4
  unfold Bd em
  simp only
  refine ⟨⟨?_, ?_⟩, ⟨?_, ?_⟩, ⟨?_, ?_⟩, ⟨?_, ?_⟩⟩ <;> omega
theorem ad_bd {p q : Q} {A B : Int} (hp : Bd p A) (hq : Bd q B) : Bd (ad p q) (A + B) := by
  unfold Bd ad at *; simp only; omega
theorem sm_bd {q : Q} {A : Int} (k : Int) (hk : 0 ≤ k) (hq : Bd q A) : Bd (sm k q) (k * A) := by
  have f : ∀ a : Int, -A ≤ a ∧ a ≤ A → -(k * A) ≤ k * a ∧ k * a ≤ k * A := fun a h => by
    have h1 := Int.mul_le_mul_of_nonneg_left h.2 hk
    have h2 := Int.mul_le_mul_of_nonneg_left h.1 hk
    rw [Int.mul_neg] at h2
    exact ⟨h2, h1⟩
  exact ⟨f _ hq.1, f _ hq.2.1, f _ hq.2.2.1, f _ hq.2.2.2⟩
theorem cj_bd {q : Q} {A : Int} (hq : Bd q A) : Bd (cj q) A := by
  unfold Bd cj at *; simp only; omega
theorem Bd.le {q : Q} {A B : Int} (hq : Bd q A) (h : A ≤ B) : Bd q B := by
  unfold Bd at *; omega
theorem vals_of {q : Q} (h : Bd q 288230376151711744) : vals q := by
  obtain ⟨h1, h2, h3, h4⟩ := h
  have c1 := cl_in h1.1 h1.2; have c2 := cl_in h2.1 h2.2; have c3 := cl_in h3.1 h3.2; have c4 := cl_in h4.1 h4.2
  refine ⟨⟨c1.1, c2.1, c3.1, c4.1⟩, ?_⟩
  unfold cq; rw [c1.2, c2.2, c3.2, c4.2]; rfl
theorem back_cj {q : Q} (h : vals q) : back q = cj q := by
  obtain ⟨⟨h1, h2, h3, h4⟩, -⟩ := h
  unfold back cj; rw [h1, h2, h3, h4]
/-- What rounding leaves. -/
def rr (p : Q) : Q := ⟨4294967296 * rn p.w - p.w, 4294967296 * rn p.x - p.x, 4294967296 * rn p.y - p.y, 4294967296 * rn p.z - p.z⟩
theorem rr_bd (p : Q) : Bd (rr p) 2147483648 := by
  unfold Bd rr rn; simp only; omega
/-- A product that nothing clamps. -/
theorem mul_ok {p q : Q} {A B C : Int} (hp : Bd p A) (hq : Bd q B) (hA : A ≤ 288230376151711744) (hB : B ≤ 288230376151711744) (hC : A * B ≤ C) (hL : C ≤ 154742504910672534362390528) :
    mb p q = false ∧ mul p q = ⟨rn (em p q).w, rn (em p q).x, rn (em p q).y, rn (em p q).z⟩ ∧ Bd (em p q) (4 * C) := by
  have vp := vals_of (hp.le hA)
  have vq := vals_of (hq.le hB)
  have he := (em_bd hp hq).le (show 4 * (A * B) ≤ 4 * C by omega)
  obtain ⟨⟨a1, a2, a3, a4⟩, a5⟩ := vp
  obtain ⟨⟨b1, b2, b3, b4⟩, b5⟩ := vq
  have e1 : mw p q = (em p q).w := by unfold mw ml em; simp only; rw [a1, a2, a3, a4, b1, b2, b3, b4]
  have e2 : mx p q = (em p q).x := by unfold mx ml em; simp only; rw [a1, a2, a3, a4, b1, b2, b3, b4]
  have e3 : my p q = (em p q).y := by unfold my ml em; simp only; rw [a1, a2, a3, a4, b1, b2, b3, b4]
  have e4 : mz p q = (em p q).z := by unfold mz ml em; simp only; rw [a1, a2, a3, a4, b1, b2, b3, b4]
  have f : ∀ z : Int, -(4 * C) ≤ z ∧ z ≤ 4 * C → cl (rn z) = rn z ∧ co (rn z) = false := fun z h => by
    apply cl_in <;> (unfold rn; omega)
  have f1 := f _ he.1
  have f2 := f _ he.2.1
  have f3 := f _ he.2.2.1
  have f4 := f _ he.2.2.2
  refine ⟨?_, ?_, he⟩
  · unfold mb; rw [e1, e2, e3, e4, f1.2, f2.2, f3.2, f4.2, a5, b5]; rfl
  · unfold mul; rw [e1, e2, e3, e4, f1.1, f2.1, f3.1, f4.1]
theorem mul_rr {p q : Q} (h : mul p q = ⟨rn (em p q).w, rn (em p q).x, rn (em p q).y, rn (em p q).z⟩) : sm 4294967296 (mul p q) = ad (em p q) (rr (em p q)) := by
  rw [h]; apply Q.eq <;> simp only [sm, ad, rr] <;> omega
theorem rn_bd {z C : Int} (h : -(4294967296 * C) ≤ z ∧ z ≤ 4294967296 * C) : -C ≤ rn z ∧ rn z ≤ C := by unfold rn; omega
/-- What a turn makes of a direction, nearly. -/
theorem rot_near {u : Q} {x y z A : Int} (hu : Bd u 4294967296) (hv : Bd (pure x y z) A) (hA : 1 ≤ A ∧ A ≤ 1125899906842624) :
    rb u x y z = false ∧ Bd (rot u x y z) (16 * A) ∧ ∃ E : Q, Bd E 46116860184273879040 ∧ sm 18446744073709551616 (rot u x y z) = ad (R u (pure x y z)) E := by
  have h1 := mul_ok hu hv (by omega) (by omega) (C := 4294967296 * A) (by omega) (by omega)
  have hh : Bd (half u x y z) (4 * A) := by
    unfold half; rw [h1.2.1]
    obtain ⟨k1, k2, k3, k4⟩ := h1.2.2
    exact ⟨rn_bd (by omega), rn_bd (by omega), rn_bd (by omega), rn_bd (by omega)⟩
  have hb := back_cj (vals_of (hu.le (by omega)))
  have hc := cj_bd hu
  have h2 := mul_ok hh hc (by omega) (by omega) (C := 4294967296 * (4 * A)) (by omega) (by omega)
  have e1 := mul_rr h1.2.1
  have e2 := mul_rr h2.2.1
  have hr : rot u x y z = mul (half u x y z) (cj u) := by unfold rot; rw [hb]
  refine ⟨?_, ?_, ad (em (rr (em u (pure x y z))) (cj u)) (sm 4294967296 (rr (em (half u x y z) (cj u)))), ?_, ?_⟩
  · unfold rb; rw [h1.1, hb, h2.1]; rfl
  · rw [hr, h2.2.1]
    obtain ⟨k1, k2, k3, k4⟩ := h2.2.2
    exact ⟨rn_bd (by omega), rn_bd (by omega), rn_bd (by omega), rn_bd (by omega)⟩
  · exact (ad_bd (em_bd (rr_bd _) hc) (sm_bd 4294967296 (by omega) (rr_bd _))).le (by omega)
  · rw [hr, show (18446744073709551616 : Int) = 4294967296 * 4294967296 by decide, ← sm_sm, e2, sm_ad, ← em_sml]
    unfold half at e1 ⊢
    rw [e1, em_adl, ad_assoc]
    rfl
end Qa
end Go.Proofs.Ytmhdpjdkcjdipaa
/- Turns in space: the mathematics of the laws. -/
namespace Go.Proofs.Ytmhdpjdkcjdipaa
open Go.Proofs.Ytmhdpjdkcjdipaa.Fx Go.Proofs.Ytmhdpjdkcjdipaa.Wd Go.Proofs.Ytmhdpjdkcjdipaa.Sc Go.Proofs.Ytmhdpjdkcjdipaa.Rt Go.Proofs.Ytmhdpjdkcjdipaa.Sm Go.Proofs.Ytmhdpjdkcjdipaa.Vc
namespace Qa
open Sl
/-- What adds up turns as it adds up. -/
theorem rn_three {a b d : Int} (h : -17179869184 ≤ d ∧ d ≤ 17179869184) : -16 ≤ rn (a + b + d) - rn a - rn b ∧ rn (a + b + d) - rn a - rn b ≤ 16 := by unfold rn; omega
theorem adds_all {u : Q} {x y z a b c : Int} (hu : Bd u 4294967296) (hx : -17592186044416 ≤ x ∧ x ≤ 17592186044416) (hy : -17592186044416 ≤ y ∧ y ≤ 17592186044416) (hz : -17592186044416 ≤ z ∧ z ≤ 17592186044416)
    (ha : -17592186044416 ≤ a ∧ a ≤ 17592186044416) (hb : -17592186044416 ≤ b ∧ b ≤ 17592186044416) (hc : -17592186044416 ≤ c ∧ c ≤ 17592186044416) :
    (rb u x y z = false ∧ rb u a b c = false ∧ rb u (x + a) (y + b) (z + c) = false) ∧ (Bd (rot u x y z) 562949953421312 ∧ Bd (rot u a b c) 562949953421312 ∧ Bd (rot u (x + a) (y + b) (z + c)) 562949953421312) ∧
    (-16 ≤ (rot u (x + a) (y + b) (z + c)).x - (rot u x y z).x - (rot u a b c).x ∧ (rot u (x + a) (y + b) (z + c)).x - (rot u x y z).x - (rot u a b c).x ≤ 16) ∧
    (-16 ≤ (rot u (x + a) (y + b) (z + c)).y - (rot u x y z).y - (rot u a b c).y ∧ (rot u (x + a) (y + b) (z + c)).y - (rot u x y z).y - (rot u a b c).y ≤ 16) ∧
    (-16 ≤ (rot u (x + a) (y + b) (z + c)).z - (rot u x y z).z - (rot u a b c).z ∧ (rot u (x + a) (y + b) (z + c)).z - (rot u x y z).z - (rot u a b c).z ≤ 16) := by
  have bv : Bd (pure x y z) 35184372088832 := by unfold Bd pure; simp only; omega
  have bw : Bd (pure a b c) 35184372088832 := by unfold Bd pure; simp only; omega
  have bs : Bd (pure (x + a) (y + b) (z + c)) 35184372088832 := by unfold Bd pure; simp only; omega
  have kv := rot_near hu bv (by omega)
  have kw := rot_near hu bw (by omega)
  have ks := rot_near hu bs (by omega)
  refine ⟨⟨kv.1, kw.1, ks.1⟩, ⟨kv.2.1.le (by omega), kw.2.1.le (by omega), ks.2.1.le (by omega)⟩, ?_⟩
  have mv := mul_ok hu bv (by omega) (by omega) (C := 4294967296 * 35184372088832) (by omega) (by omega)
  have mw' := mul_ok hu bw (by omega) (by omega) (C := 4294967296 * 35184372088832) (by omega) (by omega)
  have ms := mul_ok hu bs (by omega) (by omega) (C := 4294967296 * 35184372088832) (by omega) (by omega)
  have hh : ∀ p : Q, mul u p = ⟨rn (em u p).w, rn (em u p).x, rn (em u p).y, rn (em u p).z⟩ → Bd (em u p) (4 * (4294967296 * 35184372088832)) → Bd (mul u p) (4 * 35184372088832) := fun p e h => by
    rw [e]
    obtain ⟨k1, k2, k3, k4⟩ := h
    exact ⟨rn_bd (by omega), rn_bd (by omega), rn_bd (by omega), rn_bd (by omega)⟩
  have hv := hh _ mv.2.1 mv.2.2
  have hw := hh _ mw'.2.1 mw'.2.2
  have hs := hh _ ms.2.1 ms.2.2
  have hcj := cj_bd hu
  have hbk := back_cj (vals_of (hu.le (by omega)))
  have nv' := mul_ok hv hcj (by omega) (by omega) (C := 4294967296 * (4 * 35184372088832)) (by omega) (by omega)
  have nw := mul_ok hw hcj (by omega) (by omega) (C := 4294967296 * (4 * 35184372088832)) (by omega) (by omega)
  have ns := mul_ok hs hcj (by omega) (by omega) (C := 4294967296 * (4 * 35184372088832)) (by omega) (by omega)
  obtain ⟨D, hD, eD⟩ : ∃ D : Q, Bd D 1 ∧ mul u (pure (x + a) (y + b) (z + c)) = ad (ad (mul u (pure x y z)) (mul u (pure a b c))) D := by
    have es : em u (pure (x + a) (y + b) (z + c)) = ad (em u (pure x y z)) (em u (pure a b c)) := by
      rw [← em_adr]; rfl
    have d1 := rn_sum (em u (pure x y z)).w (em u (pure a b c)).w
    have d2 := rn_sum (em u (pure x y z)).x (em u (pure a b c)).x
    have d3 := rn_sum (em u (pure x y z)).y (em u (pure a b c)).y
    have d4 := rn_sum (em u (pure x y z)).z (em u (pure a b c)).z
    rw [ms.2.1, mv.2.1, mw'.2.1, es]
    refine ⟨⟨rn ((em u (pure x y z)).w + (em u (pure a b c)).w) - rn (em u (pure x y z)).w - rn (em u (pure a b c)).w, rn ((em u (pure x y z)).x + (em u (pure a b c)).x) - rn (em u (pure x y z)).x - rn (em u (pure a b c)).x, rn ((em u (pure x y z)).y + (em u (pure a b c)).y) - rn (em u (pure x y z)).y - rn (em u (pure a b c)).y, rn ((em u (pure x y z)).z + (em u (pure a b c)).z) - rn (em u (pure x y z)).z - rn (em u (pure a b c)).z⟩, ⟨d1, d2, d3, d4⟩, ?_⟩
    apply Q.eq <;> simp only [ad] <;> omega
  have e2 : em (mul u (pure (x + a) (y + b) (z + c))) (cj u) = ad (ad (em (mul u (pure x y z)) (cj u)) (em (mul u (pure a b c)) (cj u))) (em D (cj u)) := by
    rw [eD, em_adl, em_adl]
  have bD := em_bd hD hcj
  obtain ⟨-, g2, g3, g4⟩ := bD
  have hr : ∀ x y z : Int, rot u x y z = mul (mul u (pure x y z)) (cj u) := fun x y z => by unfold rot half; rw [hbk]
  rw [hr, hr, hr, nv'.2.1, nw.2.1, ns.2.1, e2]
  exact ⟨rn_three (by omega), rn_three (by omega), rn_three (by omega)⟩
/-- Lengths that are near. -/
theorem near3 {a b c d e f M k : Int} (hM : 0 ≤ M) (hk : 0 ≤ k) (h : a * a + b * b + c * c ≤ M * M) (hd : -k ≤ d ∧ d ≤ k) (he : -k ≤ e ∧ e ≤ k) (hf : -k ≤ f ∧ f ≤ k) :
    (a + d) * (a + d) + (b + e) * (b + e) + (c + f) * (c + f) ≤ (M + 3 * k) * (M + 3 * k) := by
  have sa := Rt.sq_nn a; have sb := Rt.sq_nn b; have sc := Rt.sq_nn c
  have ab' : ∀ a : Int, a * a ≤ M * M → -M ≤ a ∧ a ≤ M := fun a h => by
    have h1 := le_of_sq (a := a) hM h
    have h2 := le_of_sq (a := -a) hM (by rw [Int.neg_mul_neg]; exact h)
    omega
  have p1 := pr_bd (ab' a (by omega)) hd
  have p2 := pr_bd (ab' b (by omega)) he
  have p3 := pr_bd (ab' c (by omega)) hf
  have q1 := pr_bd hd hd
  have q2 := pr_bd he he
  have q3 := pr_bd hf hf
  have kk := Rt.sq_nn k
  have mk := Int.mul_nonneg hM hk
  have e1 : (a + d) * (a + d) + (b + e) * (b + e) + (c + f) * (c + f) = a * a + b * b + c * c + 2 * (a * d) + 2 * (b * e) + 2 * (c * f) + d * d + e * e + f * f := by grind
  have e2 : (M + 3 * k) * (M + 3 * k) = M * M + 6 * (M * k) + 9 * (k * k) := by grind
  omega
/-- A number of a direction, with its sign. -/
theorem one_unit' {x n : Int} (hx : co x = false) (hX : ab x ≤ n) (n0 : 0 < n) (n1 : n ≤ 4503599627370496) :
    qb x n = false ∧ co (qv x n) = false ∧ (-n ≤ 2 * (n * qv x n - 4294967296 * x) ∧ 2 * (n * qv x n - 4294967296 * x) ≤ n) ∧ (0 ≤ x → 0 ≤ qv x n) ∧ (x ≤ 0 → qv x n ≤ 0) ∧ (-4294967296 ≤ qv x n ∧ qv x n ≤ 4294967296) := by
  obtain ⟨M, h1, h2, h3, h4, h5, h6, h7, h8⟩ := one_unit hx hX n0 n1
  refine ⟨h1, h3, ?_, h6, h7, h8⟩
  have cx := co_false hx
  have cq := co_false h3
  unfold ab at h2 h5
  rw [cx.2.2] at h5
  rw [cq.2.2] at h2
  by_cases g : 0 ≤ x
  · have e1 : qv x n = M := by have := h6 g; omega
    have e2 : (x.natAbs : Int) = x := by omega
    rw [e1]
    first | omega | (rw [e2] at h5; omega)
  · have e1 : qv x n = -M := by have := h7 (by omega); omega
    rw [e1, Int.mul_neg]
    omega
/-- The length of what is made of the length 1. -/
theorem unit_len4 {x y z t p q r s n S : Int} (hS : x * x + y * y + z * z + t * t = S) (n0 : 16777216 ≤ n) (s0 : n * n ≤ S) (s1 : S < (n + 1) * (n + 1))
    (hx : 0 ≤ x ∧ x ≤ n) (hy : 0 ≤ y ∧ y ≤ n) (hz : 0 ≤ z ∧ z ≤ n) (ht : 0 ≤ t ∧ t ≤ n)
    (gx : -n ≤ 2 * (n * p - 4294967296 * x) ∧ 2 * (n * p - 4294967296 * x) ≤ n) (gy : -n ≤ 2 * (n * q - 4294967296 * y) ∧ 2 * (n * q - 4294967296 * y) ≤ n) (gz : -n ≤ 2 * (n * r - 4294967296 * z) ∧ 2 * (n * r - 4294967296 * z) ≤ n) (gt : -n ≤ 2 * (n * s - 4294967296 * t) ∧ 2 * (n * s - 4294967296 * t) ≤ n) :
    18446744056529682432 ≤ p * p + q * q + r * r + s * s ∧ p * p + q * q + r * r + s * s ≤ 18446746289912676356 := by
  obtain ⟨Q, hQ⟩ : ∃ Q, n * n = Q := ⟨_, rfl⟩
  have k1 := unit_sq hQ hx.1 hx.2 (by omega) gx
  have k2 := unit_sq hQ hy.1 hy.2 (by omega) gy
  have k3 := unit_sq hQ hz.1 hz.2 (by omega) gz
  have k4 := unit_sq hQ ht.1 ht.2 (by omega) gt
  have e1 : (n + 1) * (n + 1) = n * n + 2 * n + 1 := by grind
  have e2 : 16777216 * n ≤ Q := by rw [← hQ]; exact Int.mul_le_mul_of_nonneg_right n0 (by omega)
  obtain ⟨U, hU⟩ : ∃ U, p * p + q * q + r * r + s * s = U := ⟨_, rfl⟩
  have e3 : Q * U = Q * (p * p) + Q * (q * q) + Q * (r * r) + Q * (s * s) := by rw [← hU]; grind
  rw [hU]
  have hQ0 : 0 < Q := by omega
  have l1 : Q * 18446744056529682432 ≤ Q * U := by omega
  have l2 : Q * U ≤ Q * 18446746289912676356 := by omega
  exact ⟨Int.le_of_mul_le_mul_left l1 hQ0, Int.le_of_mul_le_mul_left l2 hQ0⟩
/-- What is made of the length 1. -/
theorem unit_all4 {q : Q} {n : Int} (hb : nb q = false) (hn : nv q = n) (n0 : 16777216 ≤ n) (n1 : n ≤ 4503599627370496) :
    ub q = false ∧ unit q = ⟨qv q.w n, qv q.x n, qv q.y n, qv q.z n⟩ ∧ Bd (unit q) 4294967296 ∧ (18446744056529682432 ≤ nn (unit q) ∧ nn (unit q) ≤ 18446746289912676356) ∧
    ((-n ≤ 2 * (n * qv q.w n - 4294967296 * q.w) ∧ 2 * (n * qv q.w n - 4294967296 * q.w) ≤ n) ∧ (-n ≤ 2 * (n * qv q.x n - 4294967296 * q.x) ∧ 2 * (n * qv q.x n - 4294967296 * q.x) ≤ n) ∧ (-n ≤ 2 * (n * qv q.y n - 4294967296 * q.y) ∧ 2 * (n * qv q.y n - 4294967296 * q.y) ≤ n) ∧ (-n ≤ 2 * (n * qv q.z n - 4294967296 * q.z) ∧ 2 * (n * qv q.z n - 4294967296 * q.z) ≤ n)) ∧
    ((0 ≤ q.w → 0 ≤ qv q.w n) ∧ (q.w ≤ 0 → qv q.w n ≤ 0)) ∧ ((0 ≤ q.x → 0 ≤ qv q.x n) ∧ (q.x ≤ 0 → qv q.x n ≤ 0)) ∧ ((0 ≤ q.y → 0 ≤ qv q.y n) ∧ (q.y ≤ 0 → qv q.y n ≤ 0)) ∧ ((0 ≤ q.z → 0 ≤ qv q.z n) ∧ (q.z ≤ 0 → qv q.z n ≤ 0)) := by
  have hb' := hb
  unfold nb cq at hb'
  simp only [Bool.or_eq_false_iff] at hb'
  obtain ⟨⟨⟨⟨c1, c2⟩, c3⟩, c4⟩, r⟩ := hb'
  have q1 := sr_sq (z := nz q) (nz_nn q)
  have q2 := sr_next r
  have hn' := hn
  unfold nv at hn'
  rw [hn'] at q1 q2
  unfold nz at q1 q2
  rw [ml_ab, ml_ab, ml_ab, ml_ab] at q1 q2
  have aw := ab_bd q.w; have ax := ab_bd q.x; have ay := ab_bd q.y; have az := ab_bd q.z
  have sw := Rt.sq_nn (ab q.w); have sx := Rt.sq_nn (ab q.x); have sy := Rt.sq_nn (ab q.y); have sz := Rt.sq_nn (ab q.z)
  have hw := ab_le (x := q.w) (by omega) q2 (by omega)
  have hx := ab_le (x := q.x) (by omega) q2 (by omega)
  have hy := ab_le (x := q.y) (by omega) q2 (by omega)
  have hz := ab_le (x := q.z) (by omega) q2 (by omega)
  obtain ⟨P0, p1, p2, p3, p4, p5, p6, p7, p8⟩ := one_unit c1 hw (by omega) n1
  obtain ⟨P1, u1, u2, u3, u4, u5, u6, u7, u8⟩ := one_unit c2 hx (by omega) n1
  obtain ⟨P2, v1, v2, v3, v4, v5, v6, v7, v8⟩ := one_unit c3 hy (by omega) n1
  obtain ⟨P3, t1, t2, t3, t4, t5, t6, t7, t8⟩ := one_unit c4 hz (by omega) n1
  have U := unit_len4 (x := ab q.w) (y := ab q.x) (z := ab q.y) (t := ab q.z) (p := P0) (q := P1) (r := P2) (s := P3) rfl n0 q1 q2 ⟨aw.1, hw⟩ ⟨ax.1, hx⟩ ⟨ay.1, hy⟩ ⟨az.1, hz⟩ p5 u5 v5 t5
  have e : unit q = ⟨qv q.w n, qv q.x n, qv q.y n, qv q.z n⟩ := by unfold unit; rw [hn, if_neg (by omega)]
  have sq : ∀ {a M : Int}, ab (qv a n) = M → co (qv a n) = false → qv a n * qv a n = M * M := fun {a M} g1 g2 => by
    rw [← g1, ← ml_ab]; unfold ml; rw [(co_false g2).2.2]
  refine ⟨?_, e, ?_, ?_, ?_, ⟨p6, p7⟩, ⟨u6, u7⟩, ⟨v6, v7⟩, ⟨t6, t7⟩⟩
  · unfold ub; rw [hn, if_neg (by omega), hb, p1, u1, v1, t1]; rfl
  · rw [e]; exact ⟨p8, u8, v8, t8⟩
  · rw [e]; unfold nn; simp only; rw [sq p2 p3, sq u2 u3, sq v2 v3, sq t2 t3]; exact U
  · exact ⟨(one_unit' c1 hw (by omega) n1).2.2.1, (one_unit' c2 hx (by omega) n1).2.2.1, (one_unit' c3 hy (by omega) n1).2.2.1, (one_unit' c4 hz (by omega) n1).2.2.1⟩
/-- Its length is 1, nearly. -/
theorem nn_nz {q : Q} (h : vals q) : nz q = nn q := by
  obtain ⟨⟨h1, h2, h3, h4⟩, -⟩ := h
  unfold nz nn ml; rw [h1, h2, h3, h4]
theorem len_one {u : Q} (hB : Bd u 4294967296) (hU : 18446744056529682432 ≤ nn u ∧ nn u ≤ 18446746289912676356) : nb u = false ∧ (4294963200 ≤ nv u ∧ nv u ≤ 4294971392) := by
  have hv := vals_of (hB.le (by omega))
  unfold nb nv
  rw [nn_nz hv, hv.2]
  generalize nn u = V at *
  have : ro V = false := by unfold ro; rw [decide_eq_false_iff_not]; omega
  rw [this]
  refine ⟨rfl, ?_, ?_⟩
  · have h1 : sr (4294963200 * 4294963200) = 4294963200 := in_hit (by omega) (by omega) rfl
    have h2 := sr_mono (y := 4294963200 * 4294963200) (z := V) (by omega)
    omega
  · have h1 := sr_sq (z := V) (by omega)
    exact le_of_sq (by omega) (by omega)
/-- Lengths of what is turned. -/
theorem pure_len {x y z A : Int} (hA : A ≤ 70368744177664) (hx : -A ≤ x ∧ x ≤ A) (hy : -A ≤ y ∧ y ≤ A) (hz : -A ≤ z ∧ z ≤ A) :
    ∃ a : Int, nv (pure x y z) = a ∧ 0 ≤ a ∧ a * a ≤ x * x + y * y + z * z ∧ x * x + y * y + z * z < (a + 1) * (a + 1) ∧ x * x + y * y + z * z ≤ 3 * (A * A) := by
  have c0 := cl_one.2.1
  have c1 := cl_in (a := x) (by omega) (by omega)
  have c2 := cl_in (a := y) (by omega) (by omega)
  have c3 := cl_in (a := z) (by omega) (by omega)
  have e : nz (pure x y z) = x * x + y * y + z * z := by
    unfold nz pure ml; simp only; rw [c0, c1.1, c2.1, c3.1]; omega
  have q1 := pr_bd hx hx; have q2 := pr_bd hy hy; have q3 := pr_bd hz hz
  have q4 : A * A ≤ 70368744177664 * 70368744177664 := Int.mul_le_mul hA hA (by omega) (by omega)
  have s1 := Rt.sq_nn x; have s2 := Rt.sq_nn y; have s3 := Rt.sq_nn z
  refine ⟨_, rfl, ?_⟩
  unfold nv
  rw [e]
  have r : ro (x * x + y * y + z * z) = false := by unfold ro; rw [decide_eq_false_iff_not]; omega
  exact ⟨(sr_bd _).1, sr_sq (by omega), sr_next r, by omega⟩
/-- Turned there and back. -/
theorem back_all {u : Q} {x y z : Int} (hB : Bd u 4294967296) (hU : 18446744056529682432 ≤ nn u ∧ nn u ≤ 18446746289912676356)
    (hx : -4398046511104 ≤ x ∧ x ≤ 4398046511104) (hy : -4398046511104 ≤ y ∧ y ≤ 4398046511104) (hz : -4398046511104 ≤ z ∧ z ≤ 4398046511104) :
    ∃ t s : Q, rot u x y z = t ∧ rot (back u) t.x t.y t.z = s ∧ rb u x y z = false ∧ rb (back u) t.x t.y t.z = false ∧ Bd t 70368744177664 ∧ Bd s 1125899906842624 ∧
    (-16777216 ≤ s.x - x ∧ s.x - x ≤ 16777216) ∧ (-16777216 ≤ s.y - y ∧ s.y - y ≤ 16777216) ∧ (-16777216 ≤ s.z - z ∧ s.z - z ≤ 16777216) ∧
    (-16777216 ≤ nv (pure x y z) - nv (pure t.x t.y t.z) ∧ nv (pure x y z) - nv (pure t.x t.y t.z) ≤ 16777216) := by
  have hb := back_cj (vals_of (hB.le (by omega)))
  have hc := cj_bd hB
  have bv : Bd (pure x y z) 4398046511104 := by unfold Bd pure; simp only; omega
  obtain ⟨f1, bt, E, hE, eE⟩ := rot_near hB bv (by omega)
  rw [hb]
  generalize rot u x y z = t at *
  have bt' : Bd (pure t.x t.y t.z) 70368744177664 := by unfold Bd at bt; unfold Bd pure; simp only; omega
  obtain ⟨f2, bs, F, hF, eF⟩ := rot_near hc bt' (by omega)
  generalize hs : rot (cj u) t.x t.y t.z = s at *
  have hRw : (R u (pure x y z)).w = 0 := R_w u rfl
  have hE' : Bd ⟨0, E.x, E.y, E.z⟩ 46116860184273879040 := by unfold Bd at hE ⊢; simp only; omega
  have eT : sm 18446744073709551616 (pure t.x t.y t.z) = ad (R u (pure x y z)) ⟨0, E.x, E.y, E.z⟩ := by
    have e2 := congrArg Q.x eE; have e3 := congrArg Q.y eE; have e4 := congrArg Q.z eE
    simp only [sm, ad] at e2 e3 e4
    apply Q.eq <;> simp only [sm, ad, pure]
    · show 18446744073709551616 * 0 = (R u (pure x y z)).w + 0
      rw [hRw]; rfl
    · exact e2
    · exact e3
    · exact e4
  have eS : sm 18446744073709551616 (sm 18446744073709551616 s) = ad (ad (sm (nn u * nn u) (pure x y z)) (R (cj u) ⟨0, E.x, E.y, E.z⟩)) (sm 18446744073709551616 F) := by
    rw [eF, sm_ad, ← R_sm, eT, R_ad, R_back]
  have bG : Bd (R (cj u) ⟨0, E.x, E.y, E.z⟩) (4 * (4 * (4294967296 * 46116860184273879040) * 4294967296)) := em_bd (em_bd hc hE') (cj_bd hc)
  obtain ⟨d, hd⟩ : ∃ d, nn u = 18446744073709551616 + d := ⟨nn u - 18446744073709551616, by omega⟩
  have hdd : -4398046511104 ≤ d ∧ d ≤ 4398046511104 := by omega
  have eU : nn u * nn u = 340282366920938463463374607431768211456 + d * (d + 36893488147419103232) := by rw [hd]; grind
  have pd := pr_bd hdd (show -(36893488147419103232 + 4398046511104) ≤ d + 36893488147419103232 ∧ d + 36893488147419103232 ≤ 36893488147419103232 + 4398046511104 by omega)
  have k2 := congrArg Q.x eS; have k3 := congrArg Q.y eS; have k4 := congrArg Q.z eS
  simp only [sm, ad, pure] at k2 k3 k4
  rw [eU, Int.add_mul] at k2 k3 k4
  have px := pr_bd pd hx; have py := pr_bd pd hy; have pz := pr_bd pd hz
  obtain ⟨-, g2, g3, g4⟩ := bG
  obtain ⟨-, F2, F3, F4⟩ := hF
  refine ⟨t, s, rfl, hs, f1, f2, bt.le (by omega), bs.le (by omega), by omega, by omega, by omega, ?_⟩
  clear k2 k3 k4 px py pz g2 g3 g4 F2 F3 F4 eS eF bs f2
  obtain ⟨a, ea, a0, a1, a2, a3⟩ := pure_len (A := 4398046511104) (by omega) hx hy hz
  obtain ⟨-, t2, t3, t4⟩ := bt
  obtain ⟨b, eb, b0, b1, b2, b3⟩ := pure_len (x := t.x) (y := t.y) (z := t.z) (A := 70368744177664) (by omega) (by omega) (by omega) (by omega)
  rw [ea, eb]
  have nR := nn_R u (pure x y z)
  have nV : nn (pure x y z) = x * x + y * y + z * z := by unfold nn pure; simp only; omega
  rw [nV] at nR
  unfold nn at nR
  rw [hRw] at nR
  have l2 := congrArg Q.x eT; have l3 := congrArg Q.y eT; have l4 := congrArg Q.z eT
  simp only [sm, ad, pure] at l2 l3 l4
  obtain ⟨-, E2, E3, E4⟩ := hE
  change 0 * 0 + (R u (pure x y z)).x * (R u (pure x y z)).x + (R u (pure x y z)).y * (R u (pure x y z)).y + (R u (pure x y z)).z * (R u (pure x y z)).z = nn u * nn u * (x * x + y * y + z * z) at nR
  rw [show (⟨0, x, y, z⟩ : Q) = pure x y z from rfl] at l2 l3 l4
  generalize (R u (pure x y z)).x = X at *
  generalize (R u (pure x y z)).y = Y at *
  generalize (R u (pure x y z)).z = Z at *
  generalize hN : x * x + y * y + z * z = N at *
  generalize nn u = U at *
  have a9 : a ≤ 8796093022208 := le_of_sq (by omega) (by omega)
  have U0 : 0 ≤ U := by omega
  constructor
  · have h1 : X * X + Y * Y + Z * Z ≤ (U * (a + 1)) * (U * (a + 1)) := by
      have : U * U * N ≤ U * U * ((a + 1) * (a + 1)) := Int.mul_le_mul_of_nonneg_left (by omega) (Rt.sq_nn U)
      have e : U * U * ((a + 1) * (a + 1)) = (U * (a + 1)) * (U * (a + 1)) := by grind
      omega
    have h2 := near3 (k := 46116860184273879040) (Int.mul_nonneg U0 (by omega)) (by omega) h1 E2 E3 E4
    rw [← l2, ← l3, ← l4] at h2
    have h3 : (18446744073709551616 * b) * (18446744073709551616 * b) ≤ (U * (a + 1) + 3 * 46116860184273879040) * (U * (a + 1) + 3 * 46116860184273879040) := by
      have e : 18446744073709551616 * t.x * (18446744073709551616 * t.x) + 18446744073709551616 * t.y * (18446744073709551616 * t.y) + 18446744073709551616 * t.z * (18446744073709551616 * t.z) = 340282366920938463463374607431768211456 * (t.x * t.x + t.y * t.y + t.z * t.z) := by grind
      have e2 : (18446744073709551616 * b) * (18446744073709551616 * b) = 340282366920938463463374607431768211456 * (b * b) := by grind
      omega
    have h4 := le_of_sq (by have := Int.mul_nonneg U0 (show 0 ≤ a + 1 by omega); omega) h3
    have h5 : U * (a + 1) = 18446744073709551616 * (a + 1) + d * (a + 1) := by rw [hd]; grind
    have h6 := pr_bd hdd (show -8796093022209 ≤ a + 1 ∧ a + 1 ≤ 8796093022209 by omega)
    omega
  · have h1 : (18446744073709551616 * t.x) * (18446744073709551616 * t.x) + (18446744073709551616 * t.y) * (18446744073709551616 * t.y) + (18446744073709551616 * t.z) * (18446744073709551616 * t.z) ≤ (18446744073709551616 * (b + 1)) * (18446744073709551616 * (b + 1)) := by
      have e : 18446744073709551616 * t.x * (18446744073709551616 * t.x) + 18446744073709551616 * t.y * (18446744073709551616 * t.y) + 18446744073709551616 * t.z * (18446744073709551616 * t.z) = 340282366920938463463374607431768211456 * (t.x * t.x + t.y * t.y + t.z * t.z) := by grind
      have e2 : (18446744073709551616 * (b + 1)) * (18446744073709551616 * (b + 1)) = 340282366920938463463374607431768211456 * ((b + 1) * (b + 1)) := by grind
      omega
    have h2 := near3 (d := -E.x) (e := -E.y) (f := -E.z) (k := 46116860184273879040) (by omega) (by omega) h1 (by omega) (by omega) (by omega)
    rw [show 18446744073709551616 * t.x + -E.x = X by omega, show 18446744073709551616 * t.y + -E.y = Y by omega, show 18446744073709551616 * t.z + -E.z = Z by omega] at h2
    have h3 : (U * a) * (U * a) ≤ (18446744073709551616 * (b + 1) + 3 * 46116860184273879040) * (18446744073709551616 * (b + 1) + 3 * 46116860184273879040) := by
      have : U * U * (a * a) ≤ U * U * N := Int.mul_le_mul_of_nonneg_left (by omega) (Rt.sq_nn U)
      have e : U * U * (a * a) = (U * a) * (U * a) := by grind
      omega
    have h4 := le_of_sq (by omega) h3
    have h5 : U * a = 18446744073709551616 * a + d * a := by rw [hd]; grind
    have h6 := pr_bd hdd (show -8796093022208 ≤ a ∧ a ≤ 8796093022208 by omega)
    omega
end Qa
end Go.Proofs.Ytmhdpjdkcjdipaa
/- Turns in space: the mathematics of small turns. -/
namespace Go.Proofs.Ytmhdpjdkcjdipaa
open Go.Proofs.Ytmhdpjdkcjdipaa.Fx Go.Proofs.Ytmhdpjdkcjdipaa.Wd Go.Proofs.Ytmhdpjdkcjdipaa.Sc Go.Proofs.Ytmhdpjdkcjdipaa.Rt Go.Proofs.Ytmhdpjdkcjdipaa.Sm Go.Proofs.Ytmhdpjdkcjdipaa.Vc
set_option linter.unusedVariables false
namespace Qa
open Sl
/-- Half of a number. -/
theorem half_ok {x : Int} (h : -1099511627776 ≤ x ∧ x ≤ 1099511627776) : tv x 2147483648 = (x + 1) / 2 ∧ tb x 2147483648 = false := by
  have c := cl_in (a := x) (by omega) (by omega)
  have e : rn (ml x 2147483648) = (x + 1) / 2 := by
    unfold ml rn
    rw [c.1, show cl 2147483648 = 2147483648 by decide]
    omega
  have c2 := cl_in (a := (x + 1) / 2) (by omega) (by omega)
  unfold tv tb
  rw [e, c2.1, c2.2, c.2]
  exact ⟨rfl, by decide⟩
/-- The length of what a small turn is made of. -/
theorem sml_len {a b c : Int} (ha : -549755813889 ≤ a ∧ a ≤ 549755813889) (hb : -549755813889 ≤ b ∧ b ≤ 549755813889) (hc : -549755813889 ≤ c ∧ c ≤ 549755813889) :
    ∃ n, nv ⟨4294967296, a, b, c⟩ = n ∧ nb ⟨4294967296, a, b, c⟩ = false ∧ (4294967296 ≤ n ∧ n ≤ 2199023255552) ∧ n * n ≤ 18446744073709551616 + a * a + b * b + c * c ∧ 18446744073709551616 + a * a + b * b + c * c < (n + 1) * (n + 1) := by
  have hB : Bd ⟨4294967296, a, b, c⟩ 549755813889 := by unfold Bd; simp only; omega
  have hv := vals_of (hB.le (by omega))
  have e : nz ⟨4294967296, a, b, c⟩ = 18446744073709551616 + a * a + b * b + c * c := by
    rw [nn_nz hv]; unfold nn; simp only; omega
  have q1 := pr_bd ha ha; have q2 := pr_bd hb hb; have q3 := pr_bd hc hc
  have s1 := Rt.sq_nn a; have s2 := Rt.sq_nn b; have s3 := Rt.sq_nn c
  refine ⟨_, rfl, ?_⟩
  unfold nb nv
  rw [e, hv.2]
  have hS0 : 18446744073709551616 ≤ 18446744073709551616 + a * a + b * b + c * c ∧ 18446744073709551616 + a * a + b * b + c * c ≤ 1000000000000000000000000 := by omega
  generalize 18446744073709551616 + a * a + b * b + c * c = S at *
  have r : ro S = false := by unfold ro; rw [decide_eq_false_iff_not]; omega
  rw [r]
  have h1 := sr_sq (z := S) (by omega)
  have h0 := (sr_bd S).1
  refine ⟨rfl, ⟨?_, ?_⟩, h1, sr_next r⟩
  · have h2 : sr (4294967296 * 4294967296) = 4294967296 := in_hit (by omega) (by omega) rfl
    have h3 := sr_mono (y := 4294967296 * 4294967296) (z := S) (by omega)
    omega
  · exact le_of_sq (by omega) (by omega)
theorem sq_abs {a n S : Int} (h : a * a ≤ S) (s : S < (n + 1) * (n + 1)) (n0 : 0 ≤ n) : -n ≤ a ∧ a ≤ n := by
  have h1 : a < n + 1 := lt_of_sq (by omega) (by omega)
  have h2 : -a < n + 1 := lt_of_sq (by omega) (by rw [Int.neg_mul_neg]; omega)
  omega
theorem len_near {a b c p q r n m : Int} (n0 : 0 ≤ n) (m0 : 0 ≤ m) (ha : 0 ≤ a + p ∧ a + p ≤ 1) (hb : 0 ≤ b + q ∧ b + q ≤ 1) (hc : 0 ≤ c + r ∧ c + r ≤ 1)
    (h1 : n * n ≤ 18446744073709551616 + a * a + b * b + c * c) (h2 : 18446744073709551616 + a * a + b * b + c * c < (n + 1) * (n + 1))
    (g1 : m * m ≤ 18446744073709551616 + p * p + q * q + r * r) : m ≤ n + 3 := by
  have sa := Rt.sq_nn a; have sb := Rt.sq_nn b; have sc := Rt.sq_nn c
  have la := sq_abs (a := a) (by omega) h2 n0
  have lb' := sq_abs (a := b) (by omega) h2 n0
  have lc := sq_abs (a := c) (by omega) h2 n0
  have f : ∀ {a p : Int}, 0 ≤ a + p ∧ a + p ≤ 1 → -n ≤ a ∧ a ≤ n → p * p ≤ a * a + 2 * n + 1 := fun {a p} h l => by
    rcases (show p = -a ∨ p = 1 - a by omega) with e | e
    · rw [e, Int.neg_mul_neg]; omega
    · have : p * p = a * a - 2 * a + 1 := by rw [e]; grind
      omega
  have fa := f ha la; have fb := f hb lb'; have fc := f hc lc
  have e1 : (n + 1) * (n + 1) = n * n + 2 * n + 1 := by grind
  have e2 : (n + 4) * (n + 4) = n * n + 8 * n + 16 := by grind
  have := lt_of_sq (a := m) (b := n + 4) (by omega) (by omega)
  omega
/-- Numbers of both turns. -/
theorem two_near {h g n m A B : Int} (n0 : 4294967296 ≤ n) (m0 : 4294967296 ≤ m) (nm : m ≤ n + 3 ∧ n ≤ m + 3) (hs : 0 ≤ h + g ∧ h + g ≤ 1) (hB : -4294967296 ≤ B ∧ B ≤ 4294967296)
    (k1 : -n ≤ 2 * (n * A - 4294967296 * h) ∧ 2 * (n * A - 4294967296 * h) ≤ n) (k2 : -m ≤ 2 * (m * B - 4294967296 * g) ∧ 2 * (m * B - 4294967296 * g) ≤ m) : -16 ≤ A + B ∧ A + B ≤ 16 := by
  have p := pr_bd (a := n - m) (b := B) (A := 3) (B := 4294967296) (by omega) hB
  have e : n * (A + B) = n * A + m * B + (n - m) * B := by grind
  constructor
  · rcases Int.lt_or_le (A + B) (-16) with k | k
    · have : n * (A + B) ≤ n * (-17) := Int.mul_le_mul_of_nonneg_left (by omega) (by omega)
      omega
    · exact k
  · rcases Int.lt_or_le 16 (A + B) with k | k
    · have : n * 17 ≤ n * (A + B) := Int.mul_le_mul_of_nonneg_left (by omega) (by omega)
      omega
    · exact k
theorem one_near {n m A B : Int} (n0 : 4294967296 ≤ n) (m0 : 4294967296 ≤ m) (nm : m ≤ n + 3 ∧ n ≤ m + 3) (hB : -4294967296 ≤ B ∧ B ≤ 4294967296)
    (k1 : -n ≤ 2 * (n * A - 4294967296 * 4294967296) ∧ 2 * (n * A - 4294967296 * 4294967296) ≤ n) (k2 : -m ≤ 2 * (m * B - 4294967296 * 4294967296) ∧ 2 * (m * B - 4294967296 * 4294967296) ≤ m) : -16 ≤ A - B ∧ A - B ≤ 16 := by
  have p := pr_bd (a := n - m) (b := B) (A := 3) (B := 4294967296) (by omega) hB
  have e : n * (A - B) = n * A - m * B - (n - m) * B := by grind
  constructor
  · rcases Int.lt_or_le (A - B) (-16) with k | k
    · have : n * (A - B) ≤ n * (-17) := Int.mul_le_mul_of_nonneg_left (by omega) (by omega)
      omega
    · exact k
  · rcases Int.lt_or_le 16 (A - B) with k | k
    · have : n * 17 ≤ n * (A - B) := Int.mul_le_mul_of_nonneg_left (by omega) (by omega)
      omega
    · exact k
/-- A small turn, and that of the numbers the other way round. -/
theorem small_all {x y z : Int} (hx : -1099511627776 ≤ x ∧ x ≤ 1099511627776) (hy : -1099511627776 ≤ y ∧ y ≤ 1099511627776) (hz : -1099511627776 ≤ z ∧ z ≤ 1099511627776) :
    ∃ q p : Q, unit (sml x y z) = q ∧ unit (sml (-x) (-y) (-z)) = p ∧ (tb x 2147483648 || tb y 2147483648 || tb z 2147483648 || ub (sml x y z)) = false ∧ (tb (-x) 2147483648 || tb (-y) 2147483648 || tb (-z) 2147483648 || ub (sml (-x) (-y) (-z))) = false ∧ Bd q 4294967296 ∧ Bd p 4294967296 ∧ nb q = false ∧ (4294963200 ≤ nv q ∧ nv q ≤ 4294971392) ∧ 0 < q.w ∧
    (-16 ≤ p.w - q.w ∧ p.w - q.w ≤ 16) ∧ (-16 ≤ p.x + q.x ∧ p.x + q.x ≤ 16) ∧ (-16 ≤ p.y + q.y ∧ p.y + q.y ≤ 16) ∧ (-16 ≤ p.z + q.z ∧ p.z + q.z ≤ 16) := by
  have h1 := half_ok hx; have h2 := half_ok hy; have h3 := half_ok hz
  have g1 := half_ok (x := -x) (by omega); have g2 := half_ok (x := -y) (by omega); have g3 := half_ok (x := -z) (by omega)
  unfold sml
  rw [h1.1, h2.1, h3.1, g1.1, g2.1, g3.1, h1.2, h2.2, h3.2, g1.2, g2.2, g3.2]
  obtain ⟨a, ea⟩ : ∃ a, (x + 1) / 2 = a := ⟨_, rfl⟩
  obtain ⟨b, eb⟩ : ∃ a, (y + 1) / 2 = a := ⟨_, rfl⟩
  obtain ⟨c, ec⟩ : ∃ a, (z + 1) / 2 = a := ⟨_, rfl⟩
  obtain ⟨a', ea'⟩ : ∃ a, (-x + 1) / 2 = a := ⟨_, rfl⟩
  obtain ⟨b', eb'⟩ : ∃ a, (-y + 1) / 2 = a := ⟨_, rfl⟩
  obtain ⟨c', ec'⟩ : ∃ a, (-z + 1) / 2 = a := ⟨_, rfl⟩
  rw [ea, eb, ec, ea', eb', ec']
  have sa : 0 ≤ a + a' ∧ a + a' ≤ 1 := by omega
  have sb : 0 ≤ b + b' ∧ b + b' ≤ 1 := by omega
  have sc : 0 ≤ c + c' ∧ c + c' ≤ 1 := by omega
  obtain ⟨n, n1, n2, n3, n4, n5⟩ := sml_len (a := a) (b := b) (c := c) (by omega) (by omega) (by omega)
  obtain ⟨m, m1, m2, m3, m4, m5⟩ := sml_len (a := a') (b := b') (c := c') (by omega) (by omega) (by omega)
  obtain ⟨u1, u2, u3, u4, ⟨u5, u6, u7, u8⟩, -⟩ := unit_all4 n2 n1 (by omega) (by omega)
  obtain ⟨v1, v2, v3, v4, ⟨v5, v6, v7, v8⟩, -⟩ := unit_all4 m2 m1 (by omega) (by omega)
  have lo := len_one u3 u4
  have nm : m ≤ n + 3 := len_near (by omega) (by omega) sa sb sc n4 n5 m4
  have mn : n ≤ m + 3 := len_near (by omega) (by omega) (by omega) (by omega) (by omega) m4 m5 n4
  rw [u2] at u3 lo
  rw [v2] at v3
  simp only at u5 u6 u7 u8 v5 v6 v7 v8
  refine ⟨_, _, u2, v2, by rw [u1]; rfl, by rw [v1]; rfl, u3, v3, lo.1, lo.2, ?_, ?_, ?_, ?_, ?_⟩
  · show 0 < qv 4294967296 n
    rcases Int.lt_or_le 0 (qv 4294967296 n) with k | k
    · exact k
    · have : n * qv 4294967296 n ≤ n * 0 := Int.mul_le_mul_of_nonneg_left k (by omega)
      omega
  · exact one_near (by omega) (by omega) (by omega) u3.1 v5 u5
  · exact two_near (by omega) (by omega) (by omega) (by omega) u3.2.1 v6 u6
  · exact two_near (by omega) (by omega) (by omega) (by omega) u3.2.2.1 v7 u7
  · exact two_near (by omega) (by omega) (by omega) (by omega) u3.2.2.2 v8 u8
end Qa
end Go.Proofs.Ytmhdpjdkcjdipaa
