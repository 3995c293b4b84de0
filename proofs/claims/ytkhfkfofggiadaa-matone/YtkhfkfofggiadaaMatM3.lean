/- The mathematics of layer 8, second part: what is even, what adds up, and the one. -/
import Derived.Test.YtkhfkfofggiadaaMatM2
import Derived.Test.YtkhfkfofggiadaaVecM2
namespace Go.Proofs.Ytkhfkfofggiadaa
open Go.Proofs.Ytkhfkfofggiadaa.Fx Go.Proofs.Ytkhfkfofggiadaa.Sc Go.Proofs.Ytkhfkfofggiadaa.Wd Go.Proofs.Ytkhfkfofggiadaa.Rt Go.Proofs.Ytkhfkfofggiadaa.Sl Go.Proofs.Ytkhfkfofggiadaa.Sm Go.Proofs.Ytkhfkfofggiadaa.Vc
set_option linter.unusedVariables false
namespace Ma
theorem mn2 (a b : Int) : mn [a, b] = (2 * (cl a + cl b) + 2) / 4 := by
  unfold mn
  rw [show (vk [a, b] 64).length = 2 from rfl, tot_eq]
  simp [List.take]
theorem mn2_comm (a b : Int) : mn [a, b] = mn [b, a] := by rw [mn2, mn2, Int.add_comm (cl a)]
theorem mn2_cl (a b : Int) : cl (mn [a, b]) = mn [a, b] := by
  have := mn_in [a, b]
  exact (cl_in this.1 this.2).1
theorem mn2_self (a b : Int) : mn [mn [a, b], mn [a, b]] = mn [a, b] := by
  rw [mn2 (mn [a, b]), mn2_cl]; omega
theorem mn2_bd (a b : Int) : (cl a ≤ cl b → cl a ≤ mn [a, b] ∧ mn [a, b] ≤ cl b) ∧ (cl b ≤ cl a → cl b ≤ mn [a, b] ∧ mn [a, b] ≤ cl a) := by
  rw [mn2]; omega
theorem ev_mat {L : List (List Int)} (h : Sl.sq L = true) : evL L = mat L.length (fun i j => mn [en' L i j, en' L j i]) := by unfold evL; rw [if_pos h]; rfl
theorem ev_no {L : List (List Int)} (h : Sl.sq L = false) : evL L = [] := by unfold evL; rw [h]; rfl
theorem ev_sq (L : List (List Int)) : Sl.sq (evL L) = Sl.sq L := by
  cases h : Sl.sq L
  · rw [ev_no h]; rfl
  · rw [ev_mat h]; exact sq_mat _ (sq_n h).1 (sq_n h).2
theorem ev_len {L : List (List Int)} (h : Sl.sq L = true) : (evL L).length = L.length := by rw [ev_mat h, mat_length]
/-- What is even is its own turned one. -/
theorem tu_ev (L : List (List Int)) : tuL (evL L) = evL L := by
  cases h : Sl.sq L
  · rw [ev_no h]; exact tu_no sq_nil
  · rw [ev_mat h, tu_mat (sq_mat _ (sq_n h).1 (sq_n h).2), mat_length]
    exact mat_congr (fun i j hi hj => by rw [en_mat _ hj hi, mn2_cl, mn2_comm])
/-- Made even twice it is the same. -/
theorem ev_ev (L : List (List Int)) : evL (evL L) = evL L := by
  cases h : Sl.sq L
  · rw [ev_no h]; exact ev_no sq_nil
  · rw [ev_mat h, ev_mat (sq_mat _ (sq_n h).1 (sq_n h).2), mat_length]
    exact mat_congr (fun i j hi hj => by rw [en_mat _ hi hj, en_mat _ hj hi, mn2_comm (en' L j i), mn2_self])
theorem len_eq (L : List (List Int)) : (evL L).length = (tuL L).length := by
  cases h : Sl.sq L
  · rw [ev_no h, tu_no h]
  · rw [ev_len h, tu_len h]
/-- Its numbers lie between. -/
theorem ev_between {L : List (List Int)} {i k : Nat} (hi : i < (evL L).length) (hk : k < (evL L).length) :
    (en' (tuL L) i k ≤ en' (tuL L) k i → en' (tuL L) i k ≤ en' (evL L) i k ∧ en' (evL L) i k ≤ en' (tuL L) k i) ∧ (en' (tuL L) k i ≤ en' (tuL L) i k → en' (tuL L) k i ≤ en' (evL L) i k ∧ en' (evL L) i k ≤ en' (tuL L) i k) := by
  cases h : Sl.sq L
  · rw [ev_no h] at hi; simp at hi
  · rw [ev_len h] at hi hk
    rw [tu_mat h, ev_mat h, en_mat _ hi hk, en_mat _ hk hi, en_mat _ hi hk]
    have := mn2_bd (en' L i k) (en' L k i)
    exact ⟨fun g => this.2 g, fun g => this.1 g⟩
/-- Sums by a counter. -/
theorem ws_add (f g : Nat → Int) (n : Nat) : ws (fun j => f j + g j) n = ws f n + ws g n := by
  induction n with
  | zero => rfl
  | succ n ih => simp only [ws]; rw [ih]; omega
theorem ws_cong {f g : Nat → Int} (n : Nat) (h : ∀ i, i < n → f i = g i) : ws f n = ws g n := by
  induction n with
  | zero => rfl
  | succ n ih => simp only [ws]; rw [ih (fun i hi => h i (by omega)), h n (by omega)]
theorem ws_pick (c : Nat → Int) (i n : Nat) : ws (fun j => if j = i then c j else 0) n = if i < n then c i else 0 := by
  induction n with
  | zero => rfl
  | succ n ih =>
    simp only [ws]; rw [ih]
    by_cases e : n = i
    · subst e; rw [if_pos rfl, if_neg (by omega), if_pos (by omega)]; omega
    · rw [if_neg e]
      by_cases g : i < n
      · rw [if_pos g, if_pos (by omega)]; omega
      · rw [if_neg g, if_neg (by omega)]; omega
theorem dz_sum {l m : List Int} {n : Nat} (hl : l.length = n) (hm : m.length = n) (hn : n ≤ 64) : dz l m = ws (fun j => ml (gt l j) (gt m j)) n := by
  have := ws_zip l m
  rw [hl, hm, Nat.min_self] at this
  rw [dz_eq, List.take_of_length_le (by rw [List.length_zipWith, hl, hm]; omega), ← this]
/-- Products with the one. -/
theorem dz_one {l : List Int} {n i : Nat} (hl : l.length = n) (hn : n ≤ 64) (hi : i < n) : dz (oneR n i) l = 4294967296 * cl (gt l i) := by
  rw [dz_sum (l := oneR n i) (mk_length _ _) hl hn, ws_cong (g := fun j => if j = i then 4294967296 * cl (gt l j) else 0) n (fun j hj => ?_), ws_pick, if_pos hi]
  unfold oneR
  rw [gt_mk, if_pos hj]
  by_cases e : j = i
  · rw [if_pos e, if_pos e]; unfold ml; rw [(cl_in (a := 4294967296) (by omega) (by omega)).1]
  · rw [if_neg e, if_neg e]; unfold ml; rw [(cl_in (a := 0) (by omega) (by omega)).1, Int.zero_mul]
theorem rn_one (z : Int) : rn (4294967296 * z) = z := by unfold rn; omega
theorem dv_one {l : List Int} {n i : Nat} (hl : l.length = n) (hn : n ≤ 64) (hi : i < n) : dv (oneR n i) l = cl (gt l i) := by
  unfold dv; rw [dz_one hl hn hi, rn_one, clcl]
theorem dv_comm (l m : List Int) : dv l m = dv m l := by unfold dv; rw [dz_eq, dz_eq, zip_comm]
theorem oneL_mat {n : Nat} (h1 : 1 ≤ n) (h6 : n ≤ 6) : oneL n = mat n (fun i j => if j = i then 4294967296 else 0) := by
  unfold oneL; rw [if_pos (by omega)]; rfl
theorem row_one {n i : Nat} (h1 : 1 ≤ n) (h6 : n ≤ 6) (hi : i < n) : rw' (oneL n) i = oneR n i := by rw [oneL_mat h1 h6, rw_mat _ hi]; rfl
theorem col_one {n j : Nat} (h1 : 1 ≤ n) (h6 : n ≤ 6) (hj : j < n) : col (oneL n) j = oneR n j := by
  rw [oneL_mat h1 h6, col_mat _ hj]
  exact mk_congr (fun i hi => by by_cases e : i = j; rw [if_pos e, if_pos e.symm]; rw [if_neg e, if_neg (fun h => e h.symm)])
theorem col_len (L : List (List Int)) (j : Nat) : (col L j).length = L.length := by unfold col; rw [List.length_map]
theorem gt_col {L : List (List Int)} {i j : Nat} (hi : i < L.length) : gt (col L j) i = en' L i j := by rw [col_mk, gt_mk, if_pos hi]; rfl
/-- One changes nothing. -/
theorem one_mul {L : List (List Int)} (h : Sl.sq L = true) : mulL (oneL L.length) L = tuL (tuL L) := by
  have hn := sq_n h
  have hs : Sl.sq (oneL L.length) = true := by rw [oneL_mat hn.1 hn.2]; exact sq_mat _ hn.1 hn.2
  have hl : (oneL (L.length : Int)).length = L.length := by rw [oneL_mat hn.1 hn.2, mat_length]
  rw [mul_mat ((ok2_iff _ _).2 ⟨hs, h, hl⟩), hl, tu_two h]
  refine mat_congr (fun i j hi hj => ?_)
  rw [row_one hn.1 hn.2 hi, dv_one (col_len L j) (by omega) hi, gt_col hi]
theorem mul_one {L : List (List Int)} (h : Sl.sq L = true) : mulL L (oneL L.length) = tuL (tuL L) := by
  have hn := sq_n h
  have hs : Sl.sq (oneL L.length) = true := by rw [oneL_mat hn.1 hn.2]; exact sq_mat _ hn.1 hn.2
  have hl : (oneL (L.length : Int)).length = L.length := by rw [oneL_mat hn.1 hn.2, mat_length]
  rw [mul_mat ((ok2_iff _ _).2 ⟨h, hs, hl.symm⟩), tu_two h]
  refine mat_congr (fun i j hi hj => ?_)
  rw [col_one hn.1 hn.2 hj, dv_comm, dv_one ((sq_ok h rfl).2 i hi) (by omega) hj]; rfl
/-- A column of values with the one. -/
theorem app_one {n : Nat} (h1 : 1 ≤ n) (h6 : n ≤ 6) {l : List Int} (hl : l.length = n) (hv : ∀ j, cl (gt l j) = gt l j) : appL (oneL n) l = l ∧ appF (oneL n) l = false := by
  have hs : Sl.sq (oneL n) = true := by rw [oneL_mat h1 h6]; exact sq_mat _ h1 h6
  have ho : (oneL (n : Int)).length = n := by rw [oneL_mat h1 h6, mat_length]
  have hk : okv (oneL n) l = true := by unfold okv; rw [hs, ho, hl]; simp
  have hd : ∀ i, i < n → dv (oneR n i) l = gt l i := fun i hi => by rw [dv_one hl (by omega) hi, hv]
  constructor
  · unfold appL appR
    rw [hk, if_pos rfl, ho]
    apply list_eq (by rw [mk_length, hl])
    intro j hj
    rw [mk_length] at hj
    rw [gt_mk, if_pos hj, row_one h1 h6 hj, hd j hj]
  · unfold appF
    rw [hk, if_pos rfl, ho, Bool.eq_false_iff]
    intro e
    rw [anyB_iff] at e
    obtain ⟨i, hi, g⟩ := e
    rw [row_one h1 h6 hi] at g
    have c1 : ∀ (m : List Int) (k : Nat), (∀ x ∈ m, co x = false) → ck m k = false := fun m k hm => by
      unfold ck
      rw [Bool.eq_false_iff]
      intro h
      rw [List.any_eq_true] at h
      obtain ⟨x, hx, gx⟩ := h
      rw [hm x (List.mem_of_mem_take hx)] at gx
      cases gx
    unfold db at g
    rw [c1 _ _ (fun x hx => ?_), c1 _ _ (fun x hx => ?_), dz_one hl (by omega) hi, rn_one, cocl] at g
    · cases g
    · have := List.mem_of_mem_take hx
      obtain ⟨j, hj, rfl⟩ := List.getElem_of_mem this
      have e := hv j
      unfold gt at e
      rw [List.getD_eq_getElem?_getD, List.getElem?_eq_getElem hj] at e
      simp only [Option.getD_some] at e
      rw [← e, cocl]
    · have := List.mem_of_mem_take hx
      unfold oneR mk at this
      rw [List.mem_map] at this
      obtain ⟨j, -, rfl⟩ := this
      by_cases e : j = i
      · rw [if_pos e]; rfl
      · rw [if_neg e]; rfl
theorem anyB_no {p : Nat → Bool} {n : Nat} (h : anyB p n = false) (i : Nat) (hi : i < n) : p i = false := by
  rw [Bool.eq_false_iff] at h ⊢
  exact fun e => h ((anyB_iff p n).2 ⟨i, hi, e⟩)
/-- What adds up moves as it adds up. -/
theorem adds_ok {L M : List (List Int)} {v : List Int} (hc : addB L M = false) (hd : appF (addL L M) v = false) (he : appF L v = false) (hf : appF M v = false) :
    ((appL (addL L M) v).length = L.length ∧ (appL L v).length = L.length ∧ (appL M v).length = L.length) ∧ ∀ i, i < L.length → -1 ≤ gt (appL (addL L M) v) i - gt (appL L v) i - gt (appL M v) i ∧ gt (appL (addL L M) v) i - gt (appL L v) i - gt (appL M v) i ≤ 1 := by
  have hok : ok2 L M = true := by
    unfold addB at hc
    cases h : ok2 L M
    · rw [h] at hc; cases hc
    · rfl
  have hsum : anyB (sumB L M) L.length = false := by unfold addB at hc; rw [hok] at hc; exact hc
  obtain ⟨s1, s2, e⟩ := (ok2_iff L M).1 hok
  have kv : ∀ {K : List (List Int)}, appF K v = false → okv K v = true ∧ anyB (fun i => db (rw' K i) v) K.length = false := fun {K} h => by
    unfold appF at h
    cases g : okv K v
    · rw [g] at h; cases h
    · rw [g] at h; exact ⟨rfl, h⟩
  obtain ⟨k1, b1⟩ := kv hd
  obtain ⟨k2, b2⟩ := kv he
  obtain ⟨k3, b3⟩ := kv hf
  have hlS : (addL L M).length = L.length := by rw [add_mat hok, mat_length]
  have hv : v.length = L.length := by unfold okv at k2; rw [Bool.and_eq_true, decide_eq_true_eq] at k2; omega
  have hap : ∀ {K : List (List Int)}, okv K v = true → appL K v = mk (fun i => dv (rw' K i) v) K.length := fun {K} h => by unfold appL; rw [if_pos h]; rfl
  rw [hap k1, hap k2, hap k3, hlS, ← e]
  refine ⟨⟨mk_length _ _, mk_length _ _, mk_length _ _⟩, fun i hi => ?_⟩
  rw [gt_mk, gt_mk, gt_mk, if_pos hi, if_pos hi, if_pos hi]
  have n6 := (sq_n s1).2
  have q1 := anyB_no b1 i (by rw [hlS]; exact hi)
  have q2 := anyB_no b2 i hi
  have q3 := anyB_no b3 i (e ▸ hi)
  have last : ∀ {l : List Int}, db l v = false → dv l v = rn (dz l v) := fun {l} h => by
    unfold db at h
    rw [Bool.or_eq_false_iff] at h
    unfold dv
    exact (co_false h.2).2.2
  rw [last q1, last q2, last q3]
  have r1 : (rw' (addL L M) i).length = L.length := by rw [add_mat hok, rw_mat _ hi, mk_length]
  have r2 := (sq_ok s1 rfl).2 i hi
  have r3 : (rw' M i).length = L.length := by rw [e]; exact (sq_ok s2 rfl).2 i (e ▸ hi)
  have hz : dz (rw' (addL L M) i) v = dz (rw' L i) v + dz (rw' M i) v := by
    rw [dz_sum r1 hv (by omega), dz_sum r2 hv (by omega), dz_sum r3 hv (by omega), ← ws_add]
    refine ws_cong _ (fun j hj => ?_)
    have g := anyB_no hsum i hi
    unfold sumB at g
    have g2 := anyB_no g j hj
    obtain ⟨⟨u1, u2, u3⟩, u4, u5, u6⟩ := ao_false g2
    have ea : gt (rw' (addL L M) i) j = av (gt (rw' L i) j) (gt (rw' M i) j) := by rw [add_mat hok]; exact en_mat _ hi hj
    rw [ea, u3]
    unfold ml
    rw [(cl_in u6.1 u6.2).1, u1, u2, Int.add_mul]
  rw [hz]
  exact rn_sum _ _
end Ma
end Go.Proofs.Ytkhfkfofggiadaa
