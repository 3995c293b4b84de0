/- The mathematics of the laws of layer 10: what it is made of makes it. -/
import Derived.Test.YtpammdogkkipbaaSolveM2
import Derived.Test.YtpammdogkkipbaaRootM
namespace Go.Proofs.Ytpammdogkkipbaa
open Go.Proofs.Ytpammdogkkipbaa.Fx Go.Proofs.Ytpammdogkkipbaa.Wd Go.Proofs.Ytpammdogkkipbaa.Sc Go.Proofs.Ytpammdogkkipbaa.Vc
open Sl Ma
open Sm (ws dz)
set_option linter.unusedVariables false
namespace Sv
theorem so_ok {a b : Int} (h : so a b = false) : sv a b = a - b := by
  unfold so at h
  rw [Bool.or_eq_false_iff, Bool.or_eq_false_iff] at h
  unfold sv
  have h1 := (co_false h.1.1).2.2
  have h2 := (co_false h.1.2).2.2
  have h3 := (co_false h.2).2.2
  rw [h3, h1, h2]
theorem lr_ok {x : Int} {p q d : Nat → Int} {j : Nat} (h : lf x p q d j = false) : lr x p q d j = x - ws (fun k => rn (rn (p k * q k) * d k)) j := by
  induction j with
  | zero =>
    have := so_ok (show so x 0 = false from h)
    simp only [lr, ws]
    exact this
  | succ j ih =>
    simp only [lf, Bool.or_eq_false_iff] at h
    obtain ⟨h0, ⟨h1, h2⟩, h3⟩ := h
    have t1 := (tv_ok h1).2.2.1
    have t2 := (tv_ok h2).2.2.1
    have i0 := ih h0
    simp only [lr, ws]
    rw [so_ok h3, i0, t2, t1]
    omega
theorem ws_term {f : Nat → Int} {j : Nat} (h : ∀ k, k < j → 0 ≤ f k) : 0 ≤ ws f j ∧ ∀ k, k < j → f k ≤ ws f j := by
  induction j with
  | zero => exact ⟨by simp [ws], fun k hk => by omega⟩
  | succ j ih =>
    obtain ⟨i0, i1⟩ := ih (fun k hk => h k (by omega))
    have hj := h j (by omega)
    simp only [ws]
    refine ⟨by omega, fun k hk => ?_⟩
    by_cases e : k = j
    · subst e; omega
    · have := i1 k (by omega); omega
theorem ws_near {f g : Nat → Int} {c E : Int} {j : Nat} (h : ∀ k, k < j → -E ≤ c * f k - g k ∧ c * f k - g k ≤ E) : -(j * E) ≤ c * ws f j - ws g j ∧ c * ws f j - ws g j ≤ j * E := by
  induction j with
  | zero => simp [ws]
  | succ j ih =>
    obtain ⟨i0, i1⟩ := ih (fun k hk => h k (by omega))
    have hj := h j (by omega)
    simp only [ws]
    have e : c * (ws f j + f j) = c * ws f j + c * f j := Int.mul_add _ _ _
    have e2 : ((j + 1 : Nat) : Int) * E = j * E + E := by rw [Int.natCast_add, Int.add_mul]; omega
    rw [e, e2]
    omega
theorem ws_bd {f : Nat → Int} {E : Int} {j : Nat} (h : ∀ k, k < j → -E ≤ f k ∧ f k ≤ E) : -(j * E) ≤ ws f j ∧ ws f j ≤ j * E := by
  induction j with
  | zero => simp [ws]
  | succ j ih =>
    obtain ⟨i0, i1⟩ := ih (fun k hk => h k (by omega))
    have hj := h j (by omega)
    simp only [ws]
    have e2 : ((j + 1 : Nat) : Int) * E = j * E + E := by rw [Int.natCast_add, Int.add_mul]; omega
    rw [e2]
    omega
theorem ws_tail {g : Nat → Int} {m n : Nat} (hm : m ≤ n) (h : ∀ k, m ≤ k → k < n → g k = 0) : ws g n = ws g m := by
  induction n with
  | zero => obtain rfl : m = 0 := (by omega); rfl
  | succ n ih =>
    by_cases e : m = n + 1
    · subst e; rfl
    · simp only [ws]
      rw [ih (by omega) (fun k h1 h2 => h k h1 (by omega)), h n (by omega) (by omega), Int.add_zero]
theorem mulb {u v A B : Int} (h : -A ≤ u ∧ u ≤ A) (g : -B ≤ v ∧ v ≤ B) : -(A * B) ≤ u * v ∧ u * v ≤ A * B := by
  have h1 := Int.mul_nonneg (show 0 ≤ A - u by omega) (show 0 ≤ B - v by omega)
  have h2 := Int.mul_nonneg (show 0 ≤ A + u by omega) (show 0 ≤ B + v by omega)
  have h3 := Int.mul_nonneg (show 0 ≤ A - u by omega) (show 0 ≤ B + v by omega)
  have h4 := Int.mul_nonneg (show 0 ≤ A + u by omega) (show 0 ≤ B - v by omega)
  rw [Int.sub_mul, Int.mul_sub, Int.mul_sub] at h1
  rw [Int.add_mul, Int.mul_add, Int.mul_add] at h2
  rw [Int.sub_mul, Int.mul_add, Int.mul_add] at h3
  rw [Int.add_mul, Int.mul_sub, Int.mul_sub] at h4
  omega
theorem rn_nn {z : Int} (h : 0 ≤ z) : 0 ≤ rn z := by unfold rn; omega
/-- A matrix whose lower half is up to 2^8, made of something whose list is 2^-8 at least. -/
structure Md (a : Nat → Nat → Int) (n : Nat) : Prop where
  ok : ∀ j, j < n → okC a n j = true
  d8 : ∀ j, j < n → 16777216 ≤ Df a j
  a8 : ∀ i j, i < n → j ≤ i → -1099511627776 ≤ a i j ∧ a i j ≤ 1099511627776
  n6 : n ≤ 6
def tt (a : Nat → Nat → Int) (i j k : Nat) : Int := rn (rn (Lf a i k * Lf a j k) * Df a k)
variable {a : Nat → Nat → Int} {n : Nat}
theorem D_sum (h : Md a n) {i : Nat} (hi : i < n) : Df a i = a i i - ws (tt a i i) i := by rw [Df_eq]; exact lr_ok (okC_parts (h.ok i hi)).1
theorem r_sum (h : Md a n) {i j : Nat} (hj : j < i) (hi : i < n) : rv' a i j = a i j - ws (tt a i j) j := lr_ok ((okC_parts (h.ok j (by omega))).2.2 i hj hi).1
theorem tt_nn (h : Md a n) {i k : Nat} (hk : k < n) : 0 ≤ tt a i i k := rn_nn (Int.mul_nonneg (rn_nn (Rt.sq_nn _)) (by have := h.d8 k hk; omega))
theorem D_le (h : Md a n) {i : Nat} (hi : i < n) : Df a i ≤ 1099511627776 := by
  have := D_sum h hi
  have := (ws_term (f := tt a i i) (j := i) (fun k hk => tt_nn h (by omega))).1
  have := h.a8 i i hi (Nat.le_refl _)
  omega
theorem tt_le (h : Md a n) {i k : Nat} (hk : k < i) (hi : i < n) : tt a i i k ≤ 1099511627776 := by
  have := D_sum h hi
  have := (ws_term (f := tt a i i) (j := i) (fun k hk => tt_nn h (by omega))).2 k hk
  have := h.a8 i i hi (Nat.le_refl _)
  have := h.d8 i hi
  omega
theorem lld (h : Md a n) {i k : Nat} (hk : k ≤ i) (hi : i < n) : 0 ≤ Lf a i k * Lf a i k * Df a k ∧ Lf a i k * Lf a i k * Df a k ≤ 40564819207303340847894502572032 := by
  have hD := h.d8 k (by omega)
  have hD2 := D_le h (i := k) (by omega)
  refine ⟨Int.mul_nonneg (Rt.sq_nn _) (by omega), ?_⟩
  by_cases e : k = i
  · subst e; rw [Lf_diag]; omega
  · have ht := tt_le h (i := i) (k := k) (by omega) hi
    unfold tt at ht
    have h1 := rn_in (Lf a i k * Lf a i k)
    have h2 := rn_in (rn (Lf a i k * Lf a i k) * Df a k)
    have h3 : Lf a i k * Lf a i k ≤ 4294967296 * rn (Lf a i k * Lf a i k) + 2147483648 := by omega
    have h4 := Int.mul_le_mul_of_nonneg_right h3 (show 0 ≤ Df a k by omega)
    rw [Int.add_mul, Int.mul_assoc 4294967296] at h4
    omega
theorem L_le (h : Md a n) {i k : Nat} (hi : i < n) : -2199023255552 ≤ Lf a i k ∧ Lf a i k ≤ 2199023255552 := by
  by_cases hk : k ≤ i
  · have h1 := (lld h hk hi).2
    have hD := h.d8 k (by omega)
    have h2 := Int.mul_le_mul_of_nonneg_left hD (Rt.sq_nn (Lf a i k))
    generalize Lf a i k = x at *
    have h3 : x * x ≤ 2417851639229258349412352 := by omega
    constructor
    · rcases Int.lt_or_le x (-2199023255552) with g | g
      · have := Rt.sq_le (a := 2199023255552) (b := -x) (by omega) (by omega)
        rw [Int.neg_mul_neg] at this
        omega
      · exact g
    · rcases Int.lt_or_le 2199023255552 x with g | g
      · have := Rt.sq_le (a := 2199023255552) (b := x) (by omega) (by omega)
        omega
      · exact g
  · rw [Lf_up a (by omega)]; omega
theorem prod_le (h : Md a n) {i j k : Nat} (hi : i < n) (hj : j < n) (hk : k < n) : -40564819207303340847894502572032 ≤ Lf a i k * Lf a j k * Df a k ∧ Lf a i k * Lf a j k * Df a k ≤ 40564819207303340847894502572032 := by
  by_cases h1 : k ≤ i
  · by_cases h2 : k ≤ j
    · have l1 := (lld h h1 hi).2
      have l2 := (lld h h2 hj).2
      have hD := h.d8 k hk
      generalize Lf a i k = x at *
      generalize Lf a j k = y at *
      generalize Df a k = D at *
      have g1 := Int.mul_nonneg (Rt.sq_nn (x - y)) (show 0 ≤ D by omega)
      have g2 := Int.mul_nonneg (Rt.sq_nn (x + y)) (show 0 ≤ D by omega)
      have e1 : (x - y) * (x - y) * D = x * x * D - 2 * (x * y * D) + y * y * D := by
        have : (x - y) * (x - y) = x * x - 2 * (x * y) + y * y := by rw [Int.sub_mul, Int.mul_sub, Int.mul_sub, Int.mul_comm y x]; omega
        rw [this, Int.add_mul, Int.sub_mul, Int.mul_assoc 2]
      have e2 : (x + y) * (x + y) * D = x * x * D + 2 * (x * y * D) + y * y * D := by
        have : (x + y) * (x + y) = x * x + 2 * (x * y) + y * y := by rw [Int.add_mul, Int.mul_add, Int.mul_add, Int.mul_comm y x]; omega
        rw [this, Int.add_mul, Int.add_mul, Int.mul_assoc 2]
      rw [e1] at g1
      rw [e2] at g2
      omega
    · rw [Lf_up a (i := j) (j := k) (by omega), Int.mul_zero, Int.zero_mul]; omega
  · rw [Lf_up a (i := i) (j := k) (by omega), Int.zero_mul, Int.zero_mul]; omega
theorem tt_near (h : Md a n) {i j k : Nat} (hk : k < n) : -4722366482869645213696 ≤ 18446744073709551616 * tt a i j k - Lf a i k * Lf a j k * Df a k ∧ 18446744073709551616 * tt a i j k - Lf a i k * Lf a j k * Df a k ≤ 4722366482869645213696 := by
  have hD := h.d8 k hk
  have hD2 := D_le h hk
  unfold tt
  have h1 := rn_in (Lf a i k * Lf a j k)
  have h2 := rn_in (rn (Lf a i k * Lf a j k) * Df a k)
  generalize Lf a i k * Lf a j k = z at *
  generalize rn (rn z * Df a k) = t at *
  generalize rn z = u at *
  generalize Df a k = D at *
  have b := mulb (u := 4294967296 * u - z) (v := D) (A := 2147483648) (B := 1099511627776) (by omega) (by omega)
  rw [Int.sub_mul, Int.mul_assoc] at b
  omega
theorem a_near (h : Md a n) {i j : Nat} (hj : j ≤ i) (hi : i < n) : -28334198897217871282176 ≤ 18446744073709551616 * a i j - ws (fun k => Lf a i k * Lf a j k * Df a k) n ∧ 18446744073709551616 * a i j - ws (fun k => Lf a i k * Lf a j k * Df a k) n ≤ 28334198897217871282176 := by
  have n6 := h.n6
  have et : ws (fun k => Lf a i k * Lf a j k * Df a k) n = ws (fun k => Lf a i k * Lf a j k * Df a k) (j + 1) := ws_tail (by omega) (fun k h1 h2 => by rw [Lf_up a (i := j) (j := k) (by omega), Int.mul_zero, Int.zero_mul])
  rw [et]
  have hs := ws_near (f := tt a i j) (g := fun k => Lf a i k * Lf a j k * Df a k) (c := 18446744073709551616) (E := 4722366482869645213696) (j := j) (fun k hk => tt_near h (by omega))
  have hD := h.d8 j (by omega)
  have hD2 := D_le h (i := j) (by omega)
  simp only [ws]
  rw [Lf_diag a j]
  have hj5 : (j : Int) ≤ 5 := by omega
  by_cases e : j = i
  · subst e
    have := D_sum h hi
    rw [Lf_diag a j]
    omega
  · have hr := r_sum h (i := i) (j := j) (by omega) hi
    have hq := qv_ok ((okC_parts (h.ok j (by omega))).2.2 i (by omega) hi).2
    rw [← Lf_eq a (show j < i by omega)] at hq
    obtain ⟨-, -, hc, q1, q2⟩ := hq
    have hab : ab (Df a j) = Df a j := by rcases ab_eq hc with ⟨_, g⟩ | ⟨g, _⟩; exact g; omega
    rw [hab] at q1 q2
    have em : Lf a i j * 4294967296 * Df a j = 4294967296 * (Lf a i j * Df a j) := by rw [Int.mul_comm (Lf a i j), Int.mul_assoc]
    rw [em]
    omega
/-- The product of what it is made of and the list; and of that and what it is made of, turned. -/
def pP (a : Nat → Nat → Int) (i k : Nat) : Int := rn (Lf a i k * Df a k)
def pS (a : Nat → Nat → Int) (n i j : Nat) : Int := ws (fun k => pP a i k * Lf a j k) n
theorem p_bd (h : Md a n) {i k : Nat} (hi : i < n) (hk : k < n) : (-2417851639229258349412352 ≤ Lf a i k * Df a k ∧ Lf a i k * Df a k ≤ 2417851639229258349412352) ∧ -562949953421313 ≤ pP a i k ∧ pP a i k ≤ 562949953421313 := by
  have hL := L_le h (i := i) (k := k) hi
  have hD := h.d8 k hk
  have hD2 := D_le h hk
  have := mulb (u := Lf a i k) (v := Df a k) (A := 2199023255552) (B := 1099511627776) hL (by omega)
  refine ⟨by omega, ?_⟩
  unfold pP rn
  omega
theorem s_near (h : Md a n) {i j : Nat} (hi : i < n) (hj : j < n) : -28334198897217871282176 ≤ 4294967296 * pS a n i j - ws (fun k => Lf a i k * Lf a j k * Df a k) n ∧ 4294967296 * pS a n i j - ws (fun k => Lf a i k * Lf a j k * Df a k) n ≤ 28334198897217871282176 := by
  have n6 := h.n6
  have := ws_near (f := fun k => pP a i k * Lf a j k) (g := fun k => Lf a i k * Lf a j k * Df a k) (c := 4294967296) (E := 4722366482869645213696) (j := n) (fun k hk => by
    have h1 := rn_in (Lf a i k * Df a k)
    have hL := L_le h (i := j) (k := k) hj
    have b := mulb (u := 4294967296 * rn (Lf a i k * Df a k) - Lf a i k * Df a k) (v := Lf a j k) (A := 2147483648) (B := 2199023255552) (by omega) hL
    have em : Lf a i k * Df a k * Lf a j k = Lf a i k * Lf a j k * Df a k := by rw [Int.mul_assoc, Int.mul_comm (Df a k), ← Int.mul_assoc]
    rw [Int.sub_mul, Int.mul_assoc, em] at b
    unfold pP
    omega)
  unfold pS
  have hn : (n : Int) ≤ 6 := by omega
  omega
theorem s_bd (h : Md a n) {i j : Nat} (hi : i < n) (hj : j < n) : -75557863725914323419136 ≤ pS a n i j ∧ pS a n i j ≤ 75557863725914323419136 := by
  have n6 := h.n6
  have h1 := s_near h hi hj
  have h2 := ws_bd (f := fun k => Lf a i k * Lf a j k * Df a k) (E := 40564819207303340847894502572032) (j := n) (fun k hk => prod_le h hi hj hk)
  have hn : (n : Int) ≤ 6 := by omega
  omega
/-- What it is made of makes it, nearly. -/
theorem q_near (h : Md a n) {i j : Nat} (hj : j ≤ i) (hi : i < n) : rn (pS a n i j) - a i j ≤ 4194304 ∧ a i j - rn (pS a n i j) ≤ 4194304 := by
  have h1 := s_near h hi (show j < n by omega)
  have h2 := a_near h hj hi
  have h3 := rn_in (pS a n i j)
  omega
/-! The same as lists. -/
theorem gt_all {l : List Int} {p : Int → Bool} (h : ∀ j, j < l.length → p (gt l j) = false) (k : Nat) : (l.take k).any p = false := by
  rw [Bool.eq_false_iff]
  intro e
  rw [List.any_eq_true] at e
  obtain ⟨x, hx, g⟩ := e
  have hx' := List.mem_of_mem_take hx
  obtain ⟨j, hj, rfl⟩ := List.getElem_of_mem hx'
  have := h j hj
  unfold gt at this
  rw [List.getD_eq_getElem?_getD, List.getElem?_eq_getElem hj] at this
  simp only [Option.getD_some] at this
  rw [this] at g
  cases g
theorem db_no {l m : List Int} (hl : ∀ j, j < l.length → co (gt l j) = false) (hm : ∀ j, j < m.length → co (gt m j) = false) (hz : co (rn (dz l m)) = false) : db l m = false := by
  unfold db
  rw [hz, Bool.or_false]
  unfold Sm.ck
  rw [List.take_take, List.take_take, gt_all hl, gt_all hm]
  rfl
theorem dv_mk {f g : Nat → Int} {n : Nat} (h6 : n ≤ 6) (hf : ∀ k, k < n → -288230376151711744 ≤ f k ∧ f k ≤ 288230376151711744) (hg : ∀ k, k < n → -288230376151711744 ≤ g k ∧ g k ≤ 288230376151711744) (hz : -1237940039285380274899124224 ≤ ws (fun k => f k * g k) n ∧ ws (fun k => f k * g k) n ≤ 1237940039285380274899124224 - 2147483648) :
    dv (Ma.mk f n) (Ma.mk g n) = rn (ws (fun k => f k * g k) n) ∧ db (Ma.mk f n) (Ma.mk g n) = false := by
  have hs : dz (Ma.mk f n) (Ma.mk g n) = ws (fun k => f k * g k) n := by
    rw [dz_sum (mk_length _ _) (mk_length _ _) (by omega)]
    refine ws_cong n (fun k hk => ?_)
    rw [gt_mk, gt_mk, if_pos hk, if_pos hk]
    unfold ml
    rw [cl_of (hf k hk), cl_of (hg k hk)]
  have hb : -288230376151711744 ≤ rn (ws (fun k => f k * g k) n) ∧ rn (ws (fun k => f k * g k) n) ≤ 288230376151711744 := by unfold rn; omega
  refine ⟨by unfold dv; rw [hs, cl_of hb], db_no (fun j hj => ?_) (fun j hj => ?_) (by rw [hs]; exact co_of hb)⟩
  · rw [mk_length] at hj; rw [gt_mk, if_pos hj]; exact co_of (hf j hj)
  · rw [mk_length] at hj; rw [gt_mk, if_pos hj]; exact co_of (hg j hj)
theorem md_of {A : List (List Int)} (hO : facO A = true) (h8 : ∀ j, j < A.length → 16777216 ≤ Df (nm A) j) (ha : ∀ i j, i < A.length → j ≤ i → -1099511627776 ≤ nm A i j ∧ nm A i j ≤ 1099511627776) : Md (nm A) A.length :=
  ⟨(facO_sq hO).2, h8, ha, (sq_n (facO_sq hO).1).2⟩
theorem made_all {A : List (List Int)} {n : Nat} (en : A.length = n) (hO : facO A = true) (h : Md (nm A) n) :
    mulL (facL A) (dg n (Df (nm A))) = mat n (pP (nm A)) ∧ mulF (facL A) (dg n (Df (nm A))) = false ∧
    mulL (mat n (pP (nm A))) (tuL (facL A)) = mat n (fun i j => rn (pS (nm A) n i j)) ∧ mulF (mat n (pP (nm A))) (tuL (facL A)) = false := by
  have h6 := h.n6
  have h1 : 1 ≤ n := by have := (sq_n (facO_sq hO).1).1; omega
  have eL : facL A = mat n (Lf (nm A)) := by unfold facL; rw [hO, if_pos rfl, en]; rfl
  have sL : Sl.sq (mat n (Lf (nm A))) = true := sq_mat _ h1 h6
  have sD : Sl.sq (dg n (Df (nm A))) = true := sq_mat _ h1 h6
  have sP : Sl.sq (mat n (pP (nm A))) = true := sq_mat _ h1 h6
  have eT : tuL (mat n (Lf (nm A))) = mat n (fun i k => Lf (nm A) k i) := by
    rw [tu_mat sL, mat_length]
    exact mat_congr (fun i j hi hj => by rw [en_mat _ hj hi, cl_of (Lf_bd _ _ _)])
  have sT : Sl.sq (mat n (fun i k => Lf (nm A) k i)) = true := sq_mat _ h1 h6
  have k1 : ok2 (mat n (Lf (nm A))) (dg n (Df (nm A))) = true := (ok2_iff _ _).2 ⟨sL, sD, by rw [mat_length]; exact (mat_length _ _).symm⟩
  have k2 : ok2 (mat n (pP (nm A))) (mat n (fun i k => Lf (nm A) k i)) = true := (ok2_iff _ _).2 ⟨sP, sT, by rw [mat_length, mat_length]⟩
  have v1 : ∀ i j, i < n → j < n → dv (rw' (mat n (Lf (nm A))) i) (col (dg n (Df (nm A))) j) = pP (nm A) i j ∧ db (rw' (mat n (Lf (nm A))) i) (col (dg n (Df (nm A))) j) = false := fun i j hi hj => by
    have e : ws (fun k => Lf (nm A) i k * (if j = k then Df (nm A) k else 0)) n = Lf (nm A) i j * Df (nm A) j := by
      rw [ws_cong n (g := fun k => if k = j then Lf (nm A) i k * Df (nm A) k else 0) (fun k hk => by
        by_cases e : j = k
        · rw [if_pos e, if_pos e.symm]
        · rw [if_neg e, if_neg (fun h => e h.symm), Int.mul_zero]), ws_pick, if_pos hj]
    have hp := p_bd h hi hj
    have := dv_mk (f := Lf (nm A) i) (g := fun k => if j = k then Df (nm A) k else 0) h6 (fun k _ => Lf_bd _ _ _) (fun k _ => by show -288230376151711744 ≤ (if j = k then Df (nm A) k else 0) ∧ (if j = k then Df (nm A) k else 0) ≤ 288230376151711744; split; exact Df_bd _ _; omega) (by rw [e]; omega)
    rw [rw_mat _ hi]
    unfold dg
    rw [col_mat _ hj]
    rw [e] at this
    exact this
  have v2 : ∀ i j, i < n → j < n → dv (rw' (mat n (pP (nm A))) i) (col (mat n (fun i k => Lf (nm A) k i)) j) = rn (pS (nm A) n i j) ∧ db (rw' (mat n (pP (nm A))) i) (col (mat n (fun i k => Lf (nm A) k i)) j) = false := fun i j hi hj => by
    have hs := s_bd h hi hj
    have := dv_mk (f := pP (nm A) i) (g := fun k => Lf (nm A) j k) h6 (fun k hk => by have := (p_bd h hi hk).2; omega) (fun k _ => Lf_bd _ _ _) (by show _ ≤ pS (nm A) n i j ∧ pS (nm A) n i j ≤ _; omega)
    rw [rw_mat _ hi, col_mat _ hj]
    exact this
  refine ⟨?_, ?_, ?_, ?_⟩
  · rw [eL, mul_mat k1, mat_length]
    exact mat_congr (fun i j hi hj => (v1 i j hi hj).1)
  · rw [eL]
    unfold mulF
    rw [k1, if_pos rfl, mat_length, Bool.eq_false_iff]
    intro e
    rw [anyB_iff] at e
    obtain ⟨i, hi, g⟩ := e
    unfold mulB at g
    rw [anyB_iff, mat_length] at g
    obtain ⟨j, hj, g⟩ := g
    rw [(v1 i j hi hj).2] at g
    cases g
  · rw [eL, eT, mul_mat k2, mat_length]
    exact mat_congr (fun i j hi hj => (v2 i j hi hj).1)
  · rw [eL, eT]
    unfold mulF
    rw [k2, if_pos rfl, mat_length, Bool.eq_false_iff]
    intro e
    rw [anyB_iff] at e
    obtain ⟨i, hi, g⟩ := e
    unfold mulB at g
    rw [anyB_iff, mat_length] at g
    obtain ⟨j, hj, g⟩ := g
    rw [(v2 i j hi hj).2] at g
    cases g
end Sv
end Go.Proofs.Ytpammdogkkipbaa
