/- The mathematics of the laws of layer 10: the lower half, numbers that stand alone, the one. -/
import Derived.Test.YtpammdogkkipbaaSolveM
import Derived.Test.YtpammdogkkipbaaMatM
namespace Go.Proofs.Ytpammdogkkipbaa
open Go.Proofs.Ytpammdogkkipbaa.Fx Go.Proofs.Ytpammdogkkipbaa.Wd Go.Proofs.Ytpammdogkkipbaa.Sc
open Sl Ma
set_option linter.unusedVariables false
namespace Sv
/-! The lower half alone counts. -/
theorem half_all {a a' : Nat → Nat → Int} (h : ∀ i j, j ≤ i → a i j = a' i j) (j : Nat) : ∀ k, k < j → (∀ i, Lf a i k = Lf a' i k) ∧ Df a k = Df a' k := by
  induction j with
  | zero => intro k hk; omega
  | succ j ih =>
    intro k hk
    by_cases e : k < j
    · exact ih k e
    · obtain rfl : k = j := by omega
      have key : ∀ i, k ≤ i → rv' a i k = rv' a' i k := fun i hi => (lr_congr (h i k hi) (fun r hr => (ih r hr).1 i) (fun r hr => (ih r hr).1 k) (fun r hr => (ih r hr).2)).1
      have hD : Df a k = Df a' k := by rw [Df_eq, Df_eq, key k (Nat.le_refl _)]
      refine ⟨fun i => ?_, hD⟩
      rcases Nat.lt_trichotomy i k with g | g | g
      · rw [Lf_up a g, Lf_up a' g]
      · subst g; rw [Lf_diag, Lf_diag]
      · rw [Lf_eq a g, Lf_eq a' g, key i (by omega), hD]
theorem half_fun {a a' : Nat → Nat → Int} (h : ∀ i j, j ≤ i → a i j = a' i j) : Lf a = Lf a' ∧ Df a = Df a' :=
  ⟨funext fun i => funext fun j => (half_all h (j + 1) j (by omega)).1 i, funext fun j => (half_all h (j + 1) j (by omega)).2⟩
theorem half_rf {a a' : Nat → Nat → Int} (h : ∀ i j, j ≤ i → a i j = a' i j) {i j : Nat} (hj : j ≤ i) : rf' a i j = rf' a' i j ∧ rv' a i j = rv' a' i j := by
  obtain ⟨h1, h2⟩ := half_fun h
  unfold rf' rv'
  rw [h1, h2, h i j hj]
  exact ⟨rfl, rfl⟩
theorem half_ok {a a' : Nat → Nat → Int} (h : ∀ i j, j ≤ i → a i j = a' i j) (n : Nat) : okA a n = okA a' n := by
  unfold okA
  congr 1
  funext j
  unfold okC bA
  rw [(half_rf h (Nat.le_refl j)).1, (half_fun h).2]
  have e : (fun r => bF a (j + 1 + r) j) = (fun r => bF a' (j + 1 + r) j) := by
    funext r
    unfold bF
    rw [(half_rf h (i := j + 1 + r) (j := j) (by omega)).1, (half_rf h (i := j + 1 + r) (j := j) (by omega)).2, (half_fun h).2]
  rw [e]
theorem half_fac {A C : List (List Int)} (hl : C.length = A.length) (hs : Sl.sq C = Sl.sq A) (h : ∀ i j, j ≤ i → nm C i j = nm A i j) : facO C = facO A ∧ facL C = facL A ∧ facD C = facD A ∧ ∀ b, solO C b = solO A b ∧ solX C b = solX A b := by
  obtain ⟨h1, h2⟩ := half_fun h
  have hO : facO C = facO A := by unfold facO; rw [hs, hl, half_ok h]
  refine ⟨hO, ?_, ?_, fun b => ?_⟩
  · unfold facL; rw [hO, h1, hl]
  · unfold facD; rw [hO, h2, hl]
  · have e : solO C b = solO A b := by unfold solO; rw [hO, h1, h2, hl]
    exact ⟨e, by unfold solX; rw [e, h1, h2, hl]⟩
theorem facO_sq {A : List (List Int)} (h : facO A = true) : Sl.sq A = true ∧ ∀ j, j < A.length → okC (nm A) A.length j = true := by
  unfold facO at h
  rw [Bool.and_eq_true] at h
  exact ⟨h.1, (okA_iff _ _).1 h.2⟩
theorem okC_parts {a : Nat → Nat → Int} {n j : Nat} (h : okC a n j = true) : rf' a j j = false ∧ 1 ≤ Df a j ∧ ∀ i, j < i → i < n → rf' a i j = false ∧ qb (rv' a i j) (Df a j) = false := by
  unfold okC at h
  simp only [Bool.and_eq_true, Bool.not_eq_true', decide_eq_true_eq] at h
  refine ⟨h.1.1, h.1.2, fun i hi hn => ?_⟩
  have := anyB_no h.2 (i - (j + 1)) (by omega)
  rw [show j + 1 + (i - (j + 1)) = i by omega] at this
  unfold bF at this
  rwa [Bool.or_eq_false_iff] at this
/-! Numbers that stand alone. -/
theorem cl0 : cl 0 = 0 := by decide
theorem sv0 (x : Int) : sv x 0 = cl x := by unfold sv; rw [cl0, Int.sub_zero, Ma.clcl]
theorem so0 (x : Int) : so x 0 = co x := by
  unfold so
  rw [cl0, Int.sub_zero, cocl, show co 0 = false from by decide, Bool.or_false, Bool.or_false]
theorem tv0l (y : Int) : tv 0 y = 0 := by unfold tv ml; rw [cl0, Int.zero_mul]; decide
theorem tb0l {y : Int} (h : co y = false) : tb 0 y = false := by
  unfold tb ml
  rw [cl0, Int.zero_mul, h]
  decide
theorem mg0 {y : Int} (h : 1 ≤ y) (b : Bool) : mg 0 y b = 0 := by
  unfold mg
  cases b
  · simp only [Bool.false_eq_true, if_false]
    rw [Int.zero_mul, Int.mul_zero, Int.zero_add]
    exact Int.ediv_eq_zero_of_lt (by omega) (by omega)
  · simp only [if_true]
    rw [Int.zero_mul, Int.mul_zero, Int.zero_add]
    exact Int.ediv_eq_zero_of_lt (by omega) (by omega)
theorem ab0 : ab 0 = 0 := by decide
theorem qv0 (b : Int) : qv 0 b = 0 := by
  unfold qv
  by_cases h : b = 0
  · rw [if_pos h]; decide
  · rw [if_neg h, ab0, mg0 (ab_one h), mg0 (ab_one h), cl0]; split <;> rfl
theorem qb0 {b : Int} (h : b ≠ 0) (g : co b = false) : qb 0 b = false := by
  unfold qb
  rw [if_neg h, ab0, mg0 (ab_one h), g]
  decide
theorem lr_zero {x : Int} {p q d : Nat → Int} {j : Nat} (hp : ∀ k, k < j → p k = 0) : lr x p q d j = cl x := by
  induction j with
  | zero => exact sv0 x
  | succ j ih =>
    simp only [lr]
    rw [ih (fun k hk => hp k (by omega)), hp j (by omega), tv0l, tv0l, sv0, Ma.clcl]
theorem lf_zero {x : Int} {p q d : Nat → Int} {j : Nat} (hp : ∀ k, k < j → p k = 0) (hq : ∀ k, k < j → co (q k) = false) (hd : ∀ k, k < j → co (d k) = false) : lf x p q d j = co x := by
  induction j with
  | zero => exact so0 x
  | succ j ih =>
    simp only [lf]
    rw [ih (fun k hk => hp k (by omega)) (fun k hk => hq k (by omega)) (fun k hk => hd k (by omega)), lr_zero (fun k hk => hp k (by omega)), hp j (by omega), tv0l, tv0l, so0, cocl, tb0l (hq j (by omega)), tb0l (hd j (by omega))]
    simp
theorem co_of {x : Int} (h : -288230376151711744 ≤ x ∧ x ≤ 288230376151711744) : co x = false := (cl_in h.1 h.2).2
theorem cl_of {x : Int} (h : -288230376151711744 ≤ x ∧ x ≤ 288230376151711744) : cl x = x := (cl_in h.1 h.2).1
theorem al_all {a : Nat → Nat → Int} (ha : ∀ i j, i ≠ j → a i j = 0) (j : Nat) : ∀ k, k < j → (∀ i, i ≠ k → Lf a i k = 0) ∧ Df a k = cl (a k k) := by
  induction j with
  | zero => intro k hk; omega
  | succ j ih =>
    intro k hk
    by_cases e : k < j
    · exact ih k e
    · obtain rfl : k = j := by omega
      have key : ∀ i, k ≤ i → rv' a i k = cl (a i k) := fun i hi => lr_zero (fun r hr => (ih r hr).1 i (by omega))
      refine ⟨fun i hi => ?_, by rw [Df_eq, key k (Nat.le_refl _)]⟩
      rcases Nat.lt_trichotomy i k with g | g | g
      · exact Lf_up a g
      · exact absurd g hi
      · rw [Lf_eq a g, key i (by omega), ha i k (by omega), cl0, qv0]
theorem al_L {a : Nat → Nat → Int} (ha : ∀ i j, i ≠ j → a i j = 0) {i k : Nat} (h : i ≠ k) : Lf a i k = 0 := (al_all ha (k + 1) k (by omega)).1 i h
theorem al_D {a : Nat → Nat → Int} (ha : ∀ i j, i ≠ j → a i j = 0) (k : Nat) : Df a k = cl (a k k) := (al_all ha (k + 1) k (by omega)).2
theorem al_r {a : Nat → Nat → Int} (ha : ∀ i j, i ≠ j → a i j = 0) {i j : Nat} (h : j ≤ i) : rv' a i j = cl (a i j) ∧ rf' a i j = co (a i j) :=
  ⟨lr_zero (fun k hk => al_L ha (by omega)), lf_zero (fun k hk => al_L ha (by omega)) (fun k _ => co_of (Lf_bd a j k)) (fun k _ => co_of (Df_bd a k))⟩
theorem al_ok {a : Nat → Nat → Int} (ha : ∀ i j, i ≠ j → a i j = 0) (n : Nat) : okA a n = true ↔ ∀ j, j < n → co (a j j) = false ∧ 1 ≤ a j j := by
  rw [okA_iff]
  constructor
  · intro h j hj
    obtain ⟨h1, h2, -⟩ := okC_parts (h j hj)
    rw [(al_r ha (Nat.le_refl j)).2] at h1
    rw [al_D ha] at h2
    exact ⟨h1, by rwa [(co_false h1).2.2] at h2⟩
  · intro h j hj
    obtain ⟨h1, h2⟩ := h j hj
    have hD : Df a j = a j j := by rw [al_D ha, (co_false h1).2.2]
    unfold okC
    rw [(al_r ha (Nat.le_refl j)).2, h1, hD, decide_eq_true h2]
    simp only [Bool.not_false, Bool.true_and, Bool.not_eq_true']
    rw [Bool.eq_false_iff]
    intro e
    unfold bA at e
    rw [anyB_iff] at e
    obtain ⟨r, hr, g⟩ := e
    unfold bF at g
    rw [(al_r ha (i := j + 1 + r) (j := j) (by omega)).1, (al_r ha (i := j + 1 + r) (j := j) (by omega)).2, ha (j + 1 + r) j (by omega), cl0, hD, qb0 (by omega) h1] at g
    exact absurd g (by decide)
theorem yr_zero {x : Int} {p y : Nat → Int} {j : Nat} (hp : ∀ k, k < j → p k = 0) : yr x p y j = cl x := by
  induction j with
  | zero => exact sv0 x
  | succ j ih =>
    simp only [yr]
    rw [ih (fun k hk => hp k (by omega)), hp j (by omega), tv0l, sv0, Ma.clcl]
theorem yf_zero {x : Int} {p y : Nat → Int} {j : Nat} (hp : ∀ k, k < j → p k = 0) (hy : ∀ k, k < j → co (y k) = false) : yf x p y j = co x := by
  induction j with
  | zero => exact so0 x
  | succ j ih =>
    simp only [yf]
    rw [ih (fun k hk => hp k (by omega)) (fun k hk => hy k (by omega)), yr_zero (fun k hk => hp k (by omega)), hp j (by omega), tv0l, so0, cocl, tb0l (hy j (by omega))]
    simp
theorem xr_zero {z : Int} {p x : Nat → Int} {i j : Nat} (hz : cl z = z) (hp : ∀ k, k < j → p (i + 1 + k) = 0) : xr z p x i j = z := by
  induction j with
  | zero => rfl
  | succ j ih =>
    simp only [xr]
    rw [ih (fun k hk => hp k (by omega)), hp j (by omega), tv0l, sv0, hz]
theorem xf_zero {z : Int} {p x : Nat → Int} {i j : Nat} (hz : cl z = z) (hp : ∀ k, k < j → p (i + 1 + k) = 0) (hx : ∀ k, k < j → co (x (i + 1 + k)) = false) : xf z p x i j = false := by
  induction j with
  | zero => rfl
  | succ j ih =>
    simp only [xf]
    rw [ih (fun k hk => hp k (by omega)) (fun k hk => hx k (by omega)), xr_zero hz (fun k hk => hp k (by omega)), hp j (by omega), tv0l, so0, tb0l (hx j (by omega))]
    have : co z = false := by rw [← hz]; exact cocl z
    rw [this]
    rfl
theorem yr_bd (x : Int) (p y : Nat → Int) (j : Nat) : -288230376151711744 ≤ yr x p y j ∧ yr x p y j ≤ 288230376151711744 := by
  cases j with
  | zero => exact sv_bd _ _
  | succ j => exact sv_bd _ _
theorem xr_bd {z : Int} (p x : Nat → Int) (i j : Nat) (hz : -288230376151711744 ≤ z ∧ z ≤ 288230376151711744) : -288230376151711744 ≤ xr z p x i j ∧ xr z p x i j ≤ 288230376151711744 := by
  cases j with
  | zero => exact hz
  | succ j => exact sv_bd _ _
theorem Yf_bd (b : Nat → Int) (L : Nat → Nat → Int) (i : Nat) : -288230376151711744 ≤ Yf b L i ∧ Yf b L i ≤ 288230376151711744 := by rw [Yf_eq]; exact yr_bd _ _ _ _
theorem Xf_bd {z : Nat → Int} (L : Nat → Nat → Int) (n i : Nat) (hi : i < n) (hz : ∀ k, -288230376151711744 ≤ z k ∧ z k ≤ 288230376151711744) : -288230376151711744 ≤ Xf z L n i ∧ Xf z L n i ≤ 288230376151711744 := by
  rw [Xf_eq z L n i hi]; exact xr_bd _ _ _ _ (hz i)
theorem al_sol {a : Nat → Nat → Int} (ha : ∀ i j, i ≠ j → a i j = 0) (b : Nat → Int) (n : Nat) : (∀ i, i < n → Xf (Zf b (Lf a) (Df a)) (Lf a) n i = qv (cl (b i)) (cl (a i i))) ∧ (solB b (Lf a) (Df a) n = true ↔ ∃ i, i < n ∧ (co (b i) = true ∨ qb (cl (b i)) (cl (a i i)) = true)) := by
  have hY : ∀ i, Yf b (Lf a) i = cl (b i) := fun i => by rw [Yf_eq]; exact yr_zero (fun k hk => al_L ha (by omega))
  have hZ : ∀ i, Zf b (Lf a) (Df a) i = qv (cl (b i)) (cl (a i i)) := fun i => by unfold Zf; rw [hY, al_D ha]
  have hzb : ∀ k, -288230376151711744 ≤ Zf b (Lf a) (Df a) k ∧ Zf b (Lf a) (Df a) k ≤ 288230376151711744 := fun k => qv_bd _ _
  have hX : ∀ i, i < n → Xf (Zf b (Lf a) (Df a)) (Lf a) n i = Zf b (Lf a) (Df a) i := fun i hi => by
    rw [Xf_eq _ _ _ _ hi]
    exact xr_zero (cl_of (hzb i)) (fun k hk => al_L ha (by omega))
  refine ⟨fun i hi => by rw [hX i hi, hZ], ?_⟩
  have y1 : ∀ i, yB b (Lf a) i = co (b i) := fun i => yf_zero (fun k hk => al_L ha (by omega)) (fun k _ => co_of (Yf_bd _ _ _))
  have z1 : ∀ i, zB b (Lf a) (Df a) i = qb (cl (b i)) (cl (a i i)) := fun i => by unfold zB; rw [hY, al_D ha]
  have x1 : ∀ i, i < n → xB (Zf b (Lf a) (Df a)) (Lf a) n i = false := fun i hi => xf_zero (cl_of (hzb i)) (fun k hk => al_L ha (by omega)) (fun k hk => co_of (Xf_bd _ _ _ (by omega) hzb))
  unfold solB
  rw [Bool.or_eq_true, Bool.or_eq_true, anyB_iff, anyB_iff, anyB_iff]
  constructor
  · rintro ((⟨i, hi, h⟩ | ⟨i, hi, h⟩) | ⟨i, hi, h⟩)
    · exact ⟨i, hi, .inl (by rwa [y1] at h)⟩
    · exact ⟨i, hi, .inr (by rwa [z1] at h)⟩
    · rw [x1 i hi] at h; cases h
  · rintro ⟨i, hi, h | h⟩
    · exact .inl (.inl ⟨i, hi, by rw [y1]; exact h⟩)
    · exact .inl (.inr ⟨i, hi, by rw [z1]; exact h⟩)
/-- Numbers where row and column are one. -/
def dg (n : Nat) (d : Nat → Int) : List (List Int) := mat n (fun i j => if j = i then d i else 0)
theorem nm_mat (n : Nat) (f : Nat → Nat → Int) (i j : Nat) : nm (mat n f) i j = if i < n ∧ j < n then f i j else 0 := by
  unfold nm
  by_cases hi : i < n
  · rw [rw_mat f hi, gt_mk]
    by_cases hj : j < n
    · rw [if_pos hj, if_pos ⟨hi, hj⟩]
    · rw [if_neg hj, if_neg (fun h => hj h.2)]
  · rw [if_neg (fun h => hi h.1)]
    unfold rw'
    rw [List.getD_eq_getElem?_getD, List.getElem?_eq_none (by rw [mat_length]; omega)]
    simp [gt]
theorem dg_off (n : Nat) (d : Nat → Int) (i j : Nat) (h : i ≠ j) : nm (dg n d) i j = 0 := by
  unfold dg
  rw [nm_mat]
  split
  · rw [if_neg (fun e => h e.symm)]
  · rfl
theorem dg_at {n : Nat} (d : Nat → Int) {i : Nat} (h : i < n) : nm (dg n d) i i = d i := by
  unfold dg
  rw [nm_mat, if_pos ⟨h, h⟩, if_pos rfl]
theorem qb_parts {b d : Int} (h : qb b d = false) : co b = false ∧ co d = false := by
  have := qb_false h
  exact ⟨this.2.1, this.2.2.1⟩
/-- All laws of numbers that stand alone. -/
theorem alone_fac {n : Nat} {d : Nat → Int} (h1 : 1 ≤ n) (h6 : n ≤ 6) (g : ∀ i, i < n → co (d i) = false ∧ 1 ≤ d i) : facO (dg n d) = true ∧ facL (dg n d) = oneL n ∧ facD (dg n d) = Ma.mk d n := by
  have hO : facO (dg n d) = true := by
    unfold facO
    rw [show Sl.sq (dg n d) = true from sq_mat _ h1 h6, Bool.true_and, show (dg n d).length = n from mat_length _ _, al_ok (dg_off n d)]
    intro j hj
    rw [dg_at d hj]
    exact g j hj
  refine ⟨hO, ?_, ?_⟩
  · unfold facL
    rw [hO, if_pos rfl, show (dg n d).length = n from mat_length _ _, oneL_mat h1 h6]
    refine mkR_congr (fun i hi => mk_congr (fun j hj => ?_))
    show _ = if j = i then (4294967296 : Int) else 0
    by_cases e : j = i
    · subst e; rw [Lf_diag, if_pos rfl]
    · rw [al_L (dg_off n d) (fun h => e h.symm), if_neg e]
  · unfold facD
    rw [hO, if_pos rfl, show (dg n d).length = n from mat_length _ _]
    exact mk_congr (fun j hj => by rw [al_D (dg_off n d), dg_at d hj, (co_false (g j hj).1).2.2])
theorem alone_sol {n : Nat} {d : Nat → Int} {b : List Int} (h1 : 1 ≤ n) (h6 : n ≤ 6) (hb : b.length = n) : (solO (dg n d) b = true ↔ ∀ i, i < n → qb (gt b i) (d i) = false ∧ 1 ≤ d i) ∧ (solO (dg n d) b = true → solX (dg n d) b = Ma.mk (fun i => qv (gt b i) (d i)) n) := by
  have hl : (dg n d).length = n := mat_length _ _
  obtain ⟨hX, hB⟩ := al_sol (dg_off n d) (gt b) n
  have key : solO (dg n d) b = true ↔ ∀ i, i < n → qb (gt b i) (d i) = false ∧ 1 ≤ d i := by
    unfold solO
    rw [hl, Bool.and_eq_true, Bool.and_eq_true, decide_eq_true_eq, Bool.not_eq_true']
    constructor
    · rintro ⟨⟨hf, -⟩, hs⟩ i hi
      have ho := (al_ok (dg_off n d) n).1 (by unfold facO at hf; rw [hl, Bool.and_eq_true] at hf; exact hf.2) i hi
      rw [dg_at d hi] at ho
      have hn : ¬ (co (gt b i) = true ∨ qb (cl (gt b i)) (cl (nm (dg n d) i i)) = true) := fun h => by
        have := hB.2 ⟨i, hi, h⟩
        rw [hs] at this
        cases this
      rw [not_or, dg_at d hi] at hn
      obtain ⟨n1, n2⟩ := hn
      rw [Bool.not_eq_true] at n1 n2
      rw [(co_false n1).2.2, (co_false ho.1).2.2] at n2
      exact ⟨n2, ho.2⟩
    · intro h
      have g : ∀ i, i < n → co (d i) = false ∧ 1 ≤ d i := fun i hi => ⟨(qb_parts (h i hi).1).2, (h i hi).2⟩
      refine ⟨⟨(alone_fac h1 h6 g).1, hb⟩, ?_⟩
      rw [Bool.eq_false_iff]
      intro e
      obtain ⟨i, hi, g2⟩ := hB.1 e
      rw [dg_at d hi] at g2
      have k := qb_parts (h i hi).1
      rw [(co_false k.1).2.2, (co_false k.2).2.2, k.1, (h i hi).1] at g2
      rcases g2 with g2 | g2 <;> cases g2
  refine ⟨key, fun h => ?_⟩
  have hk := key.1 h
  unfold solX
  rw [h, if_pos rfl, hl]
  refine mk_congr (fun i hi => ?_)
  have k := qb_parts (hk i hi).1
  rw [hX i hi, dg_at d hi, (co_false k.1).2.2, (co_false k.2).2.2]
/-! The one, and twice that. -/
theorem qv_by {v : Int} (h : -288230376151711744 ≤ v ∧ v ≤ 288230376151711744) : (qb v 4294967296 = false ∧ qv v 4294967296 = v) ∧ (qb v 8589934592 = false ∧ (2 * qv v 8589934592 = v ∨ 2 * qv v 8589934592 = v + 1)) := by
  have hc := co_of h
  have hv := cl_of h
  have e1 : ab 4294967296 = 4294967296 := by decide
  have e2 : ab 8589934592 = 8589934592 := by decide
  have k1 : co 4294967296 = false := by decide
  have k2 : co 8589934592 = false := by decide
  have ha : ab v = max v (-v) := by unfold ab; rw [hv]
  have u1 : ∀ y : Int, y ≠ 0 → qb v y = (co (mg (ab v) (ab y) (bl v y)) || co v || co y) := fun y hy => by unfold qb; rw [if_neg hy]
  have u2 : ∀ y : Int, y ≠ 0 → qv v y = if bl v y then -cl (mg (ab v) (ab y) true) else cl (mg (ab v) (ab y) false) := fun y hy => by unfold qv; rw [if_neg hy]
  have b1 : ∀ y : Int, 0 < y → bl v y = decide (v < 0) := fun y hy => by unfold bl; rw [show decide (y < 0) = false from decide_eq_false (by omega)]; cases decide (v < 0) <;> rfl
  rw [u1 _ (by decide), u1 _ (by decide), u2 _ (by decide), u2 _ (by decide), e1, e2, k1, k2, hc, b1 _ (by decide), b1 _ (by decide), Bool.or_false, Bool.or_false, Bool.or_false, Bool.or_false]
  by_cases hn : v < 0
  · have ea : ab v = -v := by rw [ha]; omega
    have m1 : mg (-v) 4294967296 true = -v := by show (2 * (-v * 4294967296) + 4294967296 - 1) / (2 * 4294967296) = -v; omega
    have m2 : mg (-v) 8589934592 true = (-v) / 2 := by show (2 * (-v * 4294967296) + 8589934592 - 1) / (2 * 8589934592) = (-v) / 2; omega
    rw [decide_eq_true hn, ea, if_pos rfl, if_pos rfl, m1, m2, cl_of (x := -v) (by omega), cl_of (x := (-v) / 2) (by omega)]
    exact ⟨⟨co_of (by omega), by omega⟩, co_of (by omega), by omega⟩
  · have ea : ab v = v := by rw [ha]; omega
    have m1 : mg v 4294967296 false = v := by show (2 * (v * 4294967296) + 4294967296) / (2 * 4294967296) = v; omega
    have m2 : mg v 8589934592 false = (v + 1) / 2 := by show (2 * (v * 4294967296) + 8589934592) / (2 * 8589934592) = (v + 1) / 2; omega
    rw [decide_eq_false hn, ea, if_neg (by decide), if_neg (by decide), m1, m2, cl_of (x := v) h, cl_of (x := (v + 1) / 2) (by omega)]
    exact ⟨⟨co_of h, rfl⟩, co_of (by omega), by omega⟩
end Sv
end Go.Proofs.Ytpammdogkkipbaa
