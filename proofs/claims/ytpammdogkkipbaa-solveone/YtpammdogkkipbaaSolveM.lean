/- Layer 10, as plain functions: what an even matrix is made of, and what solves it. -/
import Derived.Test.YtpammdogkkipbaaScaleM
import Derived.Test.YtpammdogkkipbaaMatM
namespace Go.Proofs.Ytpammdogkkipbaa
open Go.Proofs.Ytpammdogkkipbaa.Fx Go.Proofs.Ytpammdogkkipbaa.Wd Go.Proofs.Ytpammdogkkipbaa.Sc
open Sl Ma
set_option linter.unusedVariables false
namespace Sv
/-- Less, one by one: the products of p, q and d. -/
def lr (x : Int) (p q d : Nat → Int) : Nat → Int
  | 0 => sv x 0
  | k + 1 => sv (lr x p q d k) (tv (tv (p k) (q k)) (d k))
/-- .. and whether something was clamped. -/
def lf (x : Int) (p q d : Nat → Int) : Nat → Bool
  | 0 => so x 0
  | k + 1 => lf x p q d k || (tb (p k) (q k) || tb (tv (p k) (q k)) (d k) || so (lr x p q d k) (tv (tv (p k) (q k)) (d k)))
theorem lr_congr {x x' : Int} {p p' q q' d d' : Nat → Int} {j : Nat} (hx : x = x') (hp : ∀ k, k < j → p k = p' k) (hq : ∀ k, k < j → q k = q' k) (hd : ∀ k, k < j → d k = d' k) : lr x p q d j = lr x' p' q' d' j ∧ lf x p q d j = lf x' p' q' d' j := by
  subst hx
  induction j with
  | zero => exact ⟨rfl, rfl⟩
  | succ j ih =>
    obtain ⟨h1, h2⟩ := ih (fun k hk => hp k (by omega)) (fun k hk => hq k (by omega)) (fun k hk => hd k (by omega))
    simp only [lr, lf]
    rw [h1, h2, hp j (by omega), hq j (by omega), hd j (by omega)]
    exact ⟨rfl, rfl⟩
/-- What is there behind so many columns. -/
def St (a : Nat → Nat → Int) : Nat → (Nat → Nat → Int) × (Nat → Int)
  | 0 => (fun _ _ => 0, fun _ => 0)
  | j + 1 => (fun i k => if k = j then (if i = j then 4294967296 else if j < i then qv (lr (a i j) ((St a j).1 i) ((St a j).1 j) (St a j).2 j) (lr (a j j) ((St a j).1 j) ((St a j).1 j) (St a j).2 j) else 0) else (St a j).1 i k, fun k => if k = j then lr (a j j) ((St a j).1 j) ((St a j).1 j) (St a j).2 j else (St a j).2 k)
def Lf (a : Nat → Nat → Int) (i j : Nat) : Int := (St a (j + 1)).1 i j
def Df (a : Nat → Nat → Int) (j : Nat) : Int := (St a (j + 1)).2 j
theorem St_L (a : Nat → Nat → Int) (m i k : Nat) : (St a m).1 i k = if k < m then Lf a i k else 0 := by
  induction m with
  | zero => rw [if_neg (by omega)]; rfl
  | succ m ih =>
    by_cases e : k = m
    · subst e; rw [if_pos (by omega)]; rfl
    · simp only [St]
      rw [if_neg e, ih]
      by_cases l : k < m
      · rw [if_pos l, if_pos (by omega)]
      · rw [if_neg l, if_neg (by omega)]
theorem St_D (a : Nat → Nat → Int) (m k : Nat) : (St a m).2 k = if k < m then Df a k else 0 := by
  induction m with
  | zero => rw [if_neg (by omega)]; rfl
  | succ m ih =>
    by_cases e : k = m
    · subst e; rw [if_pos (by omega)]; rfl
    · simp only [St]
      rw [if_neg e, ih]
      by_cases l : k < m
      · rw [if_pos l, if_pos (by omega)]
      · rw [if_neg l, if_neg (by omega)]
/-- A number less what the columns ahead of column j make of it, and whether something was clamped. -/
def rv' (a : Nat → Nat → Int) (i j : Nat) : Int := lr (a i j) (Lf a i) (Lf a j) (Df a) j
def rf' (a : Nat → Nat → Int) (i j : Nat) : Bool := lf (a i j) (Lf a i) (Lf a j) (Df a) j
theorem St_r (a : Nat → Nat → Int) (i j : Nat) : lr (a i j) ((St a j).1 i) ((St a j).1 j) (St a j).2 j = rv' a i j ∧ lf (a i j) ((St a j).1 i) ((St a j).1 j) (St a j).2 j = rf' a i j :=
  lr_congr rfl (fun k hk => by rw [St_L, if_pos hk]) (fun k hk => by rw [St_L, if_pos hk]) (fun k hk => by rw [St_D, if_pos hk])
theorem Df_eq (a : Nat → Nat → Int) (j : Nat) : Df a j = rv' a j j := by
  unfold Df
  simp only [St]
  rw [if_pos trivial, (St_r a j j).1]
theorem Lf_eq (a : Nat → Nat → Int) {i j : Nat} (h : j < i) : Lf a i j = qv (rv' a i j) (Df a j) := by
  rw [Df_eq]
  unfold Lf
  simp only [St]
  rw [if_pos trivial, if_neg (by omega), if_pos h, (St_r a j j).1, (St_r a i j).1]
theorem Lf_diag (a : Nat → Nat → Int) (i : Nat) : Lf a i i = 4294967296 := by
  unfold Lf
  simp only [St]
  rw [if_pos trivial, if_pos trivial]
theorem Lf_up (a : Nat → Nat → Int) {i j : Nat} (h : i < j) : Lf a i j = 0 := by
  unfold Lf
  simp only [St]
  rw [if_pos trivial, if_neg (by omega), if_neg (by omega)]
theorem sv_b64 (x y : Int) : -9223372036854775808 ≤ sv x y ∧ sv x y ≤ 9223372036854775807 := by have := sv_bd x y; omega
theorem lr_bd (x : Int) (p q d : Nat → Int) (j : Nat) : -288230376151711744 ≤ lr x p q d j ∧ lr x p q d j ≤ 288230376151711744 := by
  cases j with
  | zero => exact sv_bd _ _
  | succ j => exact sv_bd _ _
theorem Df_bd (a : Nat → Nat → Int) (j : Nat) : -288230376151711744 ≤ Df a j ∧ Df a j ≤ 288230376151711744 := by rw [Df_eq]; exact lr_bd _ _ _ _ _
theorem Lf_bd (a : Nat → Nat → Int) (i j : Nat) : -288230376151711744 ≤ Lf a i j ∧ Lf a i j ≤ 288230376151711744 := by
  rcases Nat.lt_trichotomy i j with h | h | h
  · rw [Lf_up a h]; omega
  · subst h; rw [Lf_diag]; omega
  · rw [Lf_eq a h]; exact qv_bd _ _
/-- Whether something was clamped at a number below, in a column. -/
def bF (a : Nat → Nat → Int) (i j : Nat) : Bool := rf' a i j || qb (rv' a i j) (Df a j)
/-- .. at the numbers below, of the first m of them. -/
def bA (a : Nat → Nat → Int) (j m : Nat) : Bool := anyB (fun r => bF a (j + 1 + r) j) m
/-- A column is made. -/
def okC (a : Nat → Nat → Int) (n j : Nat) : Bool := !rf' a j j && decide (1 ≤ Df a j) && !bA a j (n - 1 - j)
def okA (a : Nat → Nat → Int) (n : Nat) : Bool := (List.range n).all (okC a n)
theorem okA_iff (a : Nat → Nat → Int) (n : Nat) : okA a n = true ↔ ∀ j, j < n → okC a n j = true := by
  unfold okA
  rw [List.all_eq_true]
  exact ⟨fun h j hj => h j (List.mem_range.2 hj), fun h x hx => h x (List.mem_range.1 hx)⟩
theorem okA_no {a : Nat → Nat → Int} {n j : Nat} (hj : j < n) (h : okC a n j = false) : okA a n = false := by
  rw [Bool.eq_false_iff]
  intro e
  have := (okA_iff a n).1 e j hj
  rw [h] at this
  cases this
/-- The numbers of a list of rows. -/
def nm (A : List (List Int)) : Nat → Nat → Int := fun i j => gt (rw' A i) j
def facO (A : List (List Int)) : Bool := Sl.sq A && okA (nm A) A.length
def facL (A : List (List Int)) : List (List Int) := if facO A then mkR (fun i => Ma.mk (Lf (nm A) i) A.length) A.length else []
def facD (A : List (List Int)) : List Int := if facO A then Ma.mk (Df (nm A)) A.length else []
/-- Less, one by one: the products of p and y. -/
def yr (x : Int) (p y : Nat → Int) : Nat → Int
  | 0 => sv x 0
  | k + 1 => sv (yr x p y k) (tv (p k) (y k))
def yf (x : Int) (p y : Nat → Int) : Nat → Bool
  | 0 => so x 0
  | k + 1 => yf x p y k || (tb (p k) (y k) || so (yr x p y k) (tv (p k) (y k)))
theorem yr_congr {x x' : Int} {p p' q q' : Nat → Int} {j : Nat} (hx : x = x') (hp : ∀ k, k < j → p k = p' k) (hq : ∀ k, k < j → q k = q' k) : yr x p q j = yr x' p' q' j ∧ yf x p q j = yf x' p' q' j := by
  subst hx
  induction j with
  | zero => exact ⟨rfl, rfl⟩
  | succ j ih =>
    obtain ⟨h1, h2⟩ := ih (fun k hk => hp k (by omega)) (fun k hk => hq k (by omega))
    simp only [yr, yf]
    rw [h1, h2, hp j (by omega), hq j (by omega)]
    exact ⟨rfl, rfl⟩
/-- The first column of answers. -/
def YS (b : Nat → Int) (L : Nat → Nat → Int) : Nat → Nat → Int
  | 0 => fun _ => 0
  | i + 1 => fun k => if k = i then yr (b i) (L i) (YS b L i) i else YS b L i k
def Yf (b : Nat → Int) (L : Nat → Nat → Int) (i : Nat) : Int := YS b L (i + 1) i
theorem YS_at (b : Nat → Int) (L : Nat → Nat → Int) (m k : Nat) : YS b L m k = if k < m then Yf b L k else 0 := by
  induction m with
  | zero => rw [if_neg (by omega)]; rfl
  | succ m ih =>
    by_cases e : k = m
    · subst e; rw [if_pos (by omega)]; rfl
    · simp only [YS]
      rw [if_neg e, ih]
      by_cases l : k < m
      · rw [if_pos l, if_pos (by omega)]
      · rw [if_neg l, if_neg (by omega)]
theorem Yf_eq (b : Nat → Int) (L : Nat → Nat → Int) (i : Nat) : Yf b L i = yr (b i) (L i) (Yf b L) i := by
  have e : Yf b L i = yr (b i) (L i) (YS b L i) i := by
    unfold Yf
    simp only [YS]
    rw [if_pos trivial]
  rw [e]
  exact (yr_congr rfl (fun _ _ => rfl) (fun k hk => by rw [YS_at, if_pos hk])).1
def yB (b : Nat → Int) (L : Nat → Nat → Int) (i : Nat) : Bool := yf (b i) (L i) (Yf b L) i
/-- .. divided. -/
def Zf (b : Nat → Int) (L : Nat → Nat → Int) (D : Nat → Int) (i : Nat) : Int := qv (Yf b L i) (D i)
def zB (b : Nat → Int) (L : Nat → Nat → Int) (D : Nat → Int) (i : Nat) : Bool := qb (Yf b L i) (D i)
/-- A number less, one by one, the products from place i + 1 on. -/
def xr (z : Int) (p x : Nat → Int) (i : Nat) : Nat → Int
  | 0 => z
  | k + 1 => sv (xr z p x i k) (tv (p (i + 1 + k)) (x (i + 1 + k)))
def xf (z : Int) (p x : Nat → Int) (i : Nat) : Nat → Bool
  | 0 => false
  | k + 1 => xf z p x i k || (tb (p (i + 1 + k)) (x (i + 1 + k)) || so (xr z p x i k) (tv (p (i + 1 + k)) (x (i + 1 + k))))
theorem xr_congr {z z' : Int} {p p' q q' : Nat → Int} {i j : Nat} (hx : z = z') (hp : ∀ k, k < j → p (i + 1 + k) = p' (i + 1 + k)) (hq : ∀ k, k < j → q (i + 1 + k) = q' (i + 1 + k)) : xr z p q i j = xr z' p' q' i j ∧ xf z p q i j = xf z' p' q' i j := by
  subst hx
  induction j with
  | zero => exact ⟨rfl, rfl⟩
  | succ j ih =>
    obtain ⟨h1, h2⟩ := ih (fun k hk => hp k (by omega)) (fun k hk => hq k (by omega))
    simp only [xr, xf]
    rw [h1, h2, hp j (by omega), hq j (by omega)]
    exact ⟨rfl, rfl⟩
/-- The answers from the last one down: m of n are done; the others are as they were divided. -/
def XS (z : Nat → Int) (L : Nat → Nat → Int) (n : Nat) : Nat → Nat → Int
  | 0 => z
  | m + 1 => fun k => if k = n - 1 - m then xr (z (n - 1 - m)) (fun r => L r (n - 1 - m)) (XS z L n m) (n - 1 - m) m else XS z L n m k
def Xf (z : Nat → Int) (L : Nat → Nat → Int) (n i : Nat) : Int := XS z L n n i
theorem XS_at (z : Nat → Int) (L : Nat → Nat → Int) (n m : Nat) (hm : m ≤ n) (k : Nat) (hk : k < n) : XS z L n m k = if n - m ≤ k then Xf z L n k else z k := by
  have key : ∀ p, p ≤ n → ∀ m, m ≤ p → ∀ k, k < n → n - m ≤ k → XS z L n p k = XS z L n m k := by
    intro p
    induction p with
    | zero => intro _ m hm k _ _; obtain rfl : m = 0 := (by omega); rfl
    | succ p ih =>
      intro hp m hm k hk hmk
      by_cases e : m = p + 1
      · subst e; rfl
      · simp only [XS]
        rw [if_neg (by omega)]
        exact ih (by omega) m (by omega) k hk hmk
  have low : ∀ m, m ≤ n → ∀ k, k < n - m → XS z L n m k = z k := by
    intro m
    induction m with
    | zero => intro _ k _; rfl
    | succ m ih =>
      intro hm k hk
      simp only [XS]
      rw [if_neg (by omega)]
      exact ih (by omega) k (by omega)
  by_cases l : n - m ≤ k
  · rw [if_pos l]
    unfold Xf
    exact (key n (Nat.le_refl _) m hm k hk l).symm
  · rw [if_neg l]
    exact low m hm k (by omega)
theorem Xf_eq (z : Nat → Int) (L : Nat → Nat → Int) (n i : Nat) (hi : i < n) : Xf z L n i = xr (z i) (fun r => L r i) (Xf z L n) i (n - 1 - i) := by
  have h := XS_at z L n (n - i) (by omega) i hi
  rw [if_pos (by omega)] at h
  rw [← h]
  have e : n - i = (n - 1 - i) + 1 := by omega
  rw [e]
  simp only [XS]
  have e2 : n - 1 - (n - 1 - i) = i := by omega
  rw [e2, if_pos rfl]
  exact (xr_congr rfl (fun _ _ => rfl) (fun k hk => by rw [XS_at z L n _ (by omega) _ (by omega), if_pos (by omega)])).1
def xB (z : Nat → Int) (L : Nat → Nat → Int) (n i : Nat) : Bool := xf (z i) (fun r => L r i) (Xf z L n) i (n - 1 - i)
def solB (b : Nat → Int) (L : Nat → Nat → Int) (D : Nat → Int) (n : Nat) : Bool := anyB (yB b L) n || anyB (zB b L D) n || anyB (xB (Zf b L D) L n) n
def solO (A : List (List Int)) (b : List Int) : Bool := facO A && decide (b.length = A.length) && !solB (gt b) (Lf (nm A)) (Df (nm A)) A.length
def solX (A : List (List Int)) (b : List Int) : List Int := if solO A b then Ma.mk (Xf (Zf (gt b) (Lf (nm A)) (Df (nm A))) (Lf (nm A)) A.length) A.length else []
end Sv
end Go.Proofs.Ytpammdogkkipbaa
