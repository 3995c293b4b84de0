/- What the calls of layer 8 come to, as lists; and the document's own answers in these words. -/
import Derived.Test.YtpammdogkkipbaaRefC20
import Derived.Test.YtpammdogkkipbaaRefC18
import Derived.Test.YtpammdogkkipbaaVecM
namespace Go.Proofs.Ytpammdogkkipbaa
open Go.ChangeShapes Go.WideShapes Go.ChangeAt Go.RowKit
open Go.Proofs.Ytpammdogkkipbaa.Fx Go.Proofs.Ytpammdogkkipbaa.Sl Go.Proofs.Ytpammdogkkipbaa.Sm Go.Proofs.Ytpammdogkkipbaa.Vc
set_option linter.unusedVariables false
namespace Ma
def ok2 (L M : List (List Int)) : Bool := Sl.sq L && Sl.sq M && decide ((L.length : Int) = M.length)
def okv (L : List (List Int)) (v : List Int) : Bool := Sl.sq L && decide ((v.length : Int) = L.length)
def addL (L M : List (List Int)) : List (List Int) := if ok2 L M then mkR (sumR L M) L.length else []
def addB (L M : List (List Int)) : Bool := if ok2 L M then anyB (sumB L M) L.length else true
def mulL (L M : List (List Int)) : List (List Int) := if ok2 L M then mkR (mulR L M) L.length else []
def mulF (L M : List (List Int)) : Bool := if ok2 L M then anyB (mulB L M) L.length else true
def appL (L : List (List Int)) (v : List Int) : List Int := if okv L v then appR L v else []
def appF (L : List (List Int)) (v : List Int) : Bool := if okv L v then anyB (fun i => db (rw' L i) v) L.length else true
def evL (L : List (List Int)) : List (List Int) := if Sl.sq L then mkR (evR L) L.length else []
def tuL (L : List (List Int)) : List (List Int) := if Sl.sq L then mkR (tuR L) L.length else []
def oneL (n : Int) : List (List Int) := if 1 ≤ n ∧ n ≤ 6 then mkR (oneR n.toNat) n.toNat else []
/-- A list of rows that is handed back. -/
def Ret (P : Program) (f : FuncId) (args : Array Value) (w : World) (R : List (List Int)) : Prop := Calls P f args w fun e w' => ∃ a' c', e = .returned (.slice a' R.length c') ∧ ∃ x : Ext w, w' = x.u ∧ Rs x.u a' c' R
def Ret2 (P : Program) (f : FuncId) (args : Array Value) (w : World) (R : List (List Int)) (b : Bool) : Prop := Calls P f args w fun e w' => ∃ a' c', e = .returned (.tuple #[.slice a' R.length c', .bool b]) ∧ ∃ x : Ext w, w' = x.u ∧ Rs x.u a' c' R
def RetV (P : Program) (f : FuncId) (args : Array Value) (w : World) (R : List Int) (b : Bool) : Prop := Calls P f args w fun e w' => ∃ a' c', e = .returned (.tuple #[.slice a' R.length c', .bool b]) ∧ ∃ x : Ext w, w' = x.u ∧ Is x.u a' c' R
theorem rs_nil (w : World) : Rs w none 0 [] := ⟨by simp, by simp [maxLen], fun _ => rfl, fun j hj => by simp at hj⟩
theorem is_nil0 (w : World) : Is w none 0 [] := ⟨by simp, by simp [maxLen], fun _ => rfl, fun j hj => by simp at hj, fun j => by simp [gt]⟩
end Ma
end Go.Proofs.Ytpammdogkkipbaa
/- The mathematics of layer 8. -/
namespace Go.Proofs.Ytpammdogkkipbaa
open Go.Proofs.Ytpammdogkkipbaa.Fx Go.Proofs.Ytpammdogkkipbaa.Sc Go.Proofs.Ytpammdogkkipbaa.Wd Go.Proofs.Ytpammdogkkipbaa.Rt Go.Proofs.Ytpammdogkkipbaa.Sl Go.Proofs.Ytpammdogkkipbaa.Sm Go.Proofs.Ytpammdogkkipbaa.Vc
set_option linter.unusedVariables false
namespace Ma
/-- The number of a row and a column; a matrix made of its numbers. -/
def en' (L : List (List Int)) (i j : Nat) : Int := gt (rw' L i) j
def mat (n : Nat) (f : Nat → Nat → Int) : List (List Int) := mkR (fun i => mk (f i) n) n
theorem mat_length (n : Nat) (f : Nat → Nat → Int) : (mat n f).length = n := mkR_length _ _
theorem rw_mat {n i : Nat} (f : Nat → Nat → Int) (h : i < n) : rw' (mat n f) i = mk (f i) n := rw_mkR _ _ _ h
theorem en_mat {n i j : Nat} (f : Nat → Nat → Int) (h : i < n) (g : j < n) : en' (mat n f) i j = f i j := by unfold en'; rw [rw_mat f h, gt_mk, if_pos g]
theorem sq_mat {n : Nat} (f : Nat → Nat → Int) (h1 : 1 ≤ n) (h6 : n ≤ 6) : Sl.sq (mat n f) = true := by
  unfold Sl.sq
  rw [mat_length, Bool.and_eq_true, Bool.and_eq_true, decide_eq_true_eq, decide_eq_true_eq, all_rw]
  refine ⟨⟨fun j hj => ?_, h1⟩, h6⟩
  rw [mat_length] at hj
  rw [rw_mat f hj, mk_length]; simp
theorem mkR_congr {F G : Nat → List Int} {n : Nat} (h : ∀ i, i < n → F i = G i) : mkR F n = mkR G n := by
  unfold mkR
  exact List.map_congr_left (fun j hj => h j (List.mem_range.1 hj))
theorem mat_congr {n : Nat} {f g : Nat → Nat → Int} (h : ∀ i j, i < n → j < n → f i j = g i j) : mat n f = mat n g :=
  mkR_congr (fun i hi => mk_congr (fun j hj => h i j hi hj))
theorem anyB_iff (p : Nat → Bool) (n : Nat) : anyB p n = true ↔ ∃ i, i < n ∧ p i = true := by
  unfold anyB
  rw [List.any_eq_true]
  exact ⟨fun ⟨i, h, g⟩ => ⟨i, List.mem_range.1 h, g⟩, fun ⟨i, h, g⟩ => ⟨i, List.mem_range.2 h, g⟩⟩
theorem sq_nil : Sl.sq [] = false := rfl
theorem sq_n {L : List (List Int)} (h : Sl.sq L = true) : 1 ≤ L.length ∧ L.length ≤ 6 := (sq_ok h rfl).1
theorem tu_mat {L : List (List Int)} (h : Sl.sq L = true) : tuL L = mat L.length (fun i k => cl (en' L k i)) := by unfold tuL; rw [if_pos h]; rfl
theorem tu_no {L : List (List Int)} (h : Sl.sq L = false) : tuL L = [] := by unfold tuL; rw [h]; rfl
theorem tu_len {L : List (List Int)} (h : Sl.sq L = true) : (tuL L).length = L.length := by rw [tu_mat h, mat_length]
theorem tu_sq (L : List (List Int)) : Sl.sq (tuL L) = Sl.sq L := by
  cases h : Sl.sq L
  · rw [tu_no h]; rfl
  · rw [tu_mat h]; exact sq_mat _ (sq_n h).1 (sq_n h).2
theorem clcl (a : Int) : cl (cl a) = cl a := (cl_in (cl_bd a).1 (cl_bd a).2).1
theorem cocl (a : Int) : co (cl a) = false := (cl_in (cl_bd a).1 (cl_bd a).2).2
theorem tu_two {L : List (List Int)} (h : Sl.sq L = true) : tuL (tuL L) = mat L.length (fun i k => cl (en' L i k)) := by
  have hs : Sl.sq (mat L.length (fun i k => cl (en' L k i))) = true := sq_mat _ (sq_n h).1 (sq_n h).2
  rw [tu_mat h, tu_mat hs, mat_length]
  exact mat_congr (fun i j hi hj => by rw [en_mat _ hj hi, clcl])
/-- Turned three times. -/
theorem tu_three (L : List (List Int)) : tuL (tuL (tuL L)) = tuL L := by
  cases h : Sl.sq L
  · rw [tu_no h, tu_no sq_nil, tu_no sq_nil]
  · have h2 : Sl.sq (tuL L) = true := by rw [tu_sq, h]
    rw [tu_two h2, tu_len h, tu_mat h]
    exact mat_congr (fun i j hi hj => by rw [en_mat _ hi hj, clcl])
theorem ok2_iff (L M : List (List Int)) : ok2 L M = true ↔ Sl.sq L = true ∧ Sl.sq M = true ∧ L.length = M.length := by
  unfold ok2
  rw [Bool.and_eq_true, Bool.and_eq_true, decide_eq_true_eq]
  exact ⟨fun h => ⟨h.1.1, h.1.2, by omega⟩, fun h => ⟨⟨h.1, h.2.1⟩, by omega⟩⟩
theorem ok2_tu (L M : List (List Int)) : ok2 (tuL L) (tuL M) = ok2 L M := by
  rw [Bool.eq_iff_iff, ok2_iff, ok2_iff, tu_sq, tu_sq]
  constructor
  · rintro ⟨h1, h2, h3⟩; rw [tu_len h1, tu_len h2] at h3; exact ⟨h1, h2, h3⟩
  · rintro ⟨h1, h2, h3⟩; exact ⟨h1, h2, by rw [tu_len h1, tu_len h2]; exact h3⟩
theorem ok2_comm (L M : List (List Int)) : ok2 L M = ok2 M L := by
  rw [Bool.eq_iff_iff, ok2_iff, ok2_iff]
  exact ⟨fun h => ⟨h.2.1, h.1, h.2.2.symm⟩, fun h => ⟨h.2.1, h.1, h.2.2.symm⟩⟩
theorem add_mat {L M : List (List Int)} (h : ok2 L M = true) : addL L M = mat L.length (fun i j => av (en' L i j) (en' M i j)) := by unfold addL; rw [if_pos h]; rfl
theorem mul_mat {L M : List (List Int)} (h : ok2 L M = true) : mulL L M = mat L.length (fun i j => dv (rw' L i) (col M j)) := by unfold mulL; rw [if_pos h]; rfl
theorem av_cl (a b : Int) : av (cl a) (cl b) = av a b := by unfold av; rw [clcl, clcl]
theorem cl_av (a b : Int) : cl (av a b) = av a b := clcl _
theorem ao_cl {a b : Int} (h : ao (cl a) (cl b) = true) : ao a b = true := by
  unfold ao at *
  rw [cocl, cocl, clcl, clcl, Bool.false_or, Bool.false_or] at h
  rw [h, Bool.or_true]
/-- The sum turned is the sum of both turned. -/
theorem tu_add (L M : List (List Int)) : tuL (addL L M) = addL (tuL L) (tuL M) := by
  cases h : ok2 L M
  · have h' : ok2 (tuL L) (tuL M) = false := by rw [ok2_tu, h]
    unfold addL; rw [h, h']; exact tu_no sq_nil
  · have h' : ok2 (tuL L) (tuL M) = true := by rw [ok2_tu, h]
    obtain ⟨s1, s2, e⟩ := (ok2_iff L M).1 h
    rw [add_mat h, add_mat h', tu_mat (sq_mat _ (sq_n s1).1 (sq_n s1).2), mat_length, tu_len s1]
    refine mat_congr (fun i j hi hj => ?_)
    rw [en_mat _ hj hi, tu_mat s1, tu_mat s2, en_mat _ hi hj, en_mat _ (e ▸ hi) (e ▸ hj), av_cl, cl_av]
theorem addB_tu {L M : List (List Int)} (h : addB (tuL L) (tuL M) = true) : addB L M = true := by
  unfold addB at *
  rw [ok2_tu] at h
  cases hs : ok2 L M
  · rfl
  · rw [hs] at h
    obtain ⟨s1, s2, e⟩ := (ok2_iff L M).1 hs
    simp only [if_true] at h ⊢
    rw [anyB_iff] at h ⊢
    obtain ⟨i, hi, g⟩ := h
    unfold sumB at g
    rw [anyB_iff] at g
    obtain ⟨j, hj, g⟩ := g
    rw [tu_len s1] at hi hj
    refine ⟨j, hj, ?_⟩
    unfold sumB
    rw [anyB_iff]
    refine ⟨i, hi, ?_⟩
    have a1 : gt (rw' (tuL L) i) j = cl (en' L j i) := by rw [tu_mat s1]; exact en_mat _ hi hj
    have a2 : gt (rw' (tuL M) i) j = cl (en' M j i) := by rw [tu_mat s2]; exact en_mat _ (e ▸ hi) (e ▸ hj)
    rw [a1, a2] at g
    exact ao_cl g
/-- Products of lists, as values and the other way round. -/
theorem dv_turn (l m : List Int) : dv (m.map cl) (l.map cl) = dv l m := by
  unfold dv
  rw [dz_eq, dz_eq, zip_map, zip_comm]
theorem kk_map (l m : List Int) : kk (m.map cl) (l.map cl) = kk l m := by unfold kk; rw [List.length_map, List.length_map, Nat.min_comm]
theorem ck_map (l : List Int) (k : Nat) : ck (l.map cl) k = false := by
  unfold ck
  rw [Bool.eq_false_iff]
  intro h
  rw [List.any_eq_true] at h
  obtain ⟨x, hx, g⟩ := h
  have := List.mem_of_mem_take hx
  rw [List.mem_map] at this
  obtain ⟨y, -, rfl⟩ := this
  rw [cocl] at g
  cases g
theorem db_turn {l m : List Int} (h : db (m.map cl) (l.map cl) = true) : db l m = true := by
  unfold db at *
  rw [← List.map_take, ← List.map_take, ck_map, ck_map, dz_eq, zip_map, zip_comm, ← dz_eq, Bool.false_or, Bool.false_or] at h
  rw [h, Bool.or_true]
theorem row_tu {M : List (List Int)} (h : Sl.sq M = true) {i : Nat} (hi : i < M.length) : rw' (tuL M) i = (col M i).map cl := by
  rw [tu_mat h, rw_mat _ hi, col_mk]
  unfold mk
  rw [List.map_map]
  rfl
theorem col_mat {n : Nat} (f : Nat → Nat → Int) {j : Nat} (hj : j < n) : col (mat n f) j = mk (fun i => f i j) n := by
  rw [col_mk, mat_length]
  exact mk_congr (fun k hk => en_mat f hk hj)
theorem row_mk {L : List (List Int)} (h : Sl.sq L = true) {i : Nat} (hi : i < L.length) : rw' L i = mk (fun j => en' L i j) L.length := by
  have hl := (sq_ok h rfl).2 i hi
  apply list_eq (by rw [hl, mk_length])
  intro j hj
  rw [hl] at hj
  rw [gt_mk, if_pos hj]; rfl
theorem col_tu {L : List (List Int)} (h : Sl.sq L = true) {k : Nat} (hk : k < L.length) : col (tuL L) k = (rw' L k).map cl := by
  rw [tu_mat h, col_mat _ hk, row_mk h hk]
  unfold mk
  rw [List.map_map]
  rfl
/-- The product turned is the product of both turned, the other way round. -/
theorem tu_mul (L M : List (List Int)) : tuL (mulL L M) = mulL (tuL M) (tuL L) := by
  cases h : ok2 L M
  · have h' : ok2 (tuL M) (tuL L) = false := by rw [ok2_tu, ok2_comm, h]
    unfold mulL; rw [h, h']; exact tu_no sq_nil
  · have h' : ok2 (tuL M) (tuL L) = true := by rw [ok2_tu, ok2_comm, h]
    obtain ⟨s1, s2, e⟩ := (ok2_iff L M).1 h
    rw [mul_mat h, mul_mat h', tu_mat (sq_mat _ (sq_n s1).1 (sq_n s1).2), mat_length, tu_len s2, ← e]
    refine mat_congr (fun i j hi hj => ?_)
    rw [en_mat _ hj hi, row_tu s2 (e ▸ hi), col_tu s1 hj, dv_turn]
    exact clcl _
theorem mulF_tu {L M : List (List Int)} (h : mulF (tuL M) (tuL L) = true) : mulF L M = true := by
  unfold mulF at *
  rw [ok2_tu, ok2_comm] at h
  cases hs : ok2 L M
  · rfl
  · rw [hs] at h
    obtain ⟨s1, s2, e⟩ := (ok2_iff L M).1 hs
    simp only [if_true] at h ⊢
    rw [anyB_iff] at h ⊢
    obtain ⟨i, hi, g⟩ := h
    unfold mulB at g
    rw [anyB_iff] at g
    obtain ⟨j, hj, g⟩ := g
    rw [tu_len s2] at hi hj
    rw [row_tu s2 hi, col_tu s1 (e ▸ hj)] at g
    refine ⟨j, e ▸ hj, ?_⟩
    unfold mulB
    rw [anyB_iff]
    exact ⟨i, e ▸ hi, db_turn g⟩
end Ma
end Go.Proofs.Ytpammdogkkipbaa
/- The mathematics of layer 8, second part: what is even, what adds up, and the one. -/
namespace Go.Proofs.Ytpammdogkkipbaa
open Go.Proofs.Ytpammdogkkipbaa.Fx Go.Proofs.Ytpammdogkkipbaa.Sc Go.Proofs.Ytpammdogkkipbaa.Wd Go.Proofs.Ytpammdogkkipbaa.Rt Go.Proofs.Ytpammdogkkipbaa.Sl Go.Proofs.Ytpammdogkkipbaa.Sm Go.Proofs.Ytpammdogkkipbaa.Vc
set_option linter.unusedVariables false
namespace Ma
theorem mn2 (a b : Int) : mn [a, b] = (2 * (cl a + cl b) + 2) / 4 := by
  unfold mn
  rw [show (vk [a, b] 64).length = 2 from rfl, tot_eq]
  simp [List.take]
theorem mn2_comm (a b : Int) : mn [a, b] = mn [b, a] := by rw [mn2, mn2, Int.add_comm (cl a)]
theorem mn2_cl (a b : Int) : cl (mn [a, b]) = mn [a, b] := by
  have := mn_in [a, b]
  exact (cl_in this.1 this.2).1
theorem mn2_self (a b : Int) : mn [mn [a, b], mn [a, b]] = mn [a, b] := by
  rw [mn2 (mn [a, b]), mn2_cl]; omega
theorem mn2_bd (a b : Int) : (cl a ≤ cl b → cl a ≤ mn [a, b] ∧ mn [a, b] ≤ cl b) ∧ (cl b ≤ cl a → cl b ≤ mn [a, b] ∧ mn [a, b] ≤ cl a) := by
  rw [mn2]; omega
theorem ev_mat {L : List (List Int)} (h : Sl.sq L = true) : evL L = mat L.length (fun i j => mn [en' L i j, en' L j i]) := by unfold evL; rw [if_pos h]; rfl
theorem ev_no {L : List (List Int)} (h : Sl.sq L = false) : evL L = [] := by unfold evL; rw [h]; rfl
theorem ev_sq (L : List (List Int)) : Sl.sq (evL L) = Sl.sq L := by
  cases h : Sl.sq L
  · rw [ev_no h]; rfl
  · rw [ev_mat h]; exact sq_mat _ (sq_n h).1 (sq_n h).2
theorem ev_len {L : List (List Int)} (h : Sl.sq L = true) : (evL L).length = L.length := by rw [ev_mat h, mat_length]
/-- What is even is its own turned one. -/
theorem tu_ev (L : List (List Int)) : tuL (evL L) = evL L := by
  cases h : Sl.sq L
  · rw [ev_no h]; exact tu_no sq_nil
  · rw [ev_mat h, tu_mat (sq_mat _ (sq_n h).1 (sq_n h).2), mat_length]
    exact mat_congr (fun i j hi hj => by rw [en_mat _ hj hi, mn2_cl, mn2_comm])
/-- Made even twice it is the same. -/
theorem ev_ev (L : List (List Int)) : evL (evL L) = evL L := by
  cases h : Sl.sq L
  · rw [ev_no h]; exact ev_no sq_nil
  · rw [ev_mat h, ev_mat (sq_mat _ (sq_n h).1 (sq_n h).2), mat_length]
    exact mat_congr (fun i j hi hj => by rw [en_mat _ hi hj, en_mat _ hj hi, mn2_comm (en' L j i), mn2_self])
theorem len_eq (L : List (List Int)) : (evL L).length = (tuL L).length := by
  cases h : Sl.sq L
  · rw [ev_no h, tu_no h]
  · rw [ev_len h, tu_len h]
/-- Its numbers lie between. -/
theorem ev_between {L : List (List Int)} {i k : Nat} (hi : i < (evL L).length) (hk : k < (evL L).length) :
    (en' (tuL L) i k ≤ en' (tuL L) k i → en' (tuL L) i k ≤ en' (evL L) i k ∧ en' (evL L) i k ≤ en' (tuL L) k i) ∧ (en' (tuL L) k i ≤ en' (tuL L) i k → en' (tuL L) k i ≤ en' (evL L) i k ∧ en' (evL L) i k ≤ en' (tuL L) i k) := by
  cases h : Sl.sq L
  · rw [ev_no h] at hi; simp at hi
  · rw [ev_len h] at hi hk
    rw [tu_mat h, ev_mat h, en_mat _ hi hk, en_mat _ hk hi, en_mat _ hi hk]
    have := mn2_bd (en' L i k) (en' L k i)
    exact ⟨fun g => this.2 g, fun g => this.1 g⟩
/-- Sums by a counter. -/
theorem ws_add (f g : Nat → Int) (n : Nat) : ws (fun j => f j + g j) n = ws f n + ws g n := by
  induction n with
  | zero => rfl
  | succ n ih => simp only [ws]; rw [ih]; omega
theorem ws_cong {f g : Nat → Int} (n : Nat) (h : ∀ i, i < n → f i = g i) : ws f n = ws g n := by
  induction n with
  | zero => rfl
  | succ n ih => simp only [ws]; rw [ih (fun i hi => h i (by omega)), h n (by omega)]
theorem ws_pick (c : Nat → Int) (i n : Nat) : ws (fun j => if j = i then c j else 0) n = if i < n then c i else 0 := by
  induction n with
  | zero => rfl
  | succ n ih =>
    simp only [ws]; rw [ih]
    by_cases e : n = i
    · subst e; rw [if_pos rfl, if_neg (by omega), if_pos (by omega)]; omega
    · rw [if_neg e]
      by_cases g : i < n
      · rw [if_pos g, if_pos (by omega)]; omega
      · rw [if_neg g, if_neg (by omega)]; omega
theorem dz_sum {l m : List Int} {n : Nat} (hl : l.length = n) (hm : m.length = n) (hn : n ≤ 64) : dz l m = ws (fun j => ml (gt l j) (gt m j)) n := by
  have := ws_zip l m
  rw [hl, hm, Nat.min_self] at this
  rw [dz_eq, List.take_of_length_le (by rw [List.length_zipWith, hl, hm]; omega), ← this]
/-- Products with the one. -/
theorem dz_one {l : List Int} {n i : Nat} (hl : l.length = n) (hn : n ≤ 64) (hi : i < n) : dz (oneR n i) l = 4294967296 * cl (gt l i) := by
  rw [dz_sum (l := oneR n i) (mk_length _ _) hl hn, ws_cong (g := fun j => if j = i then 4294967296 * cl (gt l j) else 0) n (fun j hj => ?_), ws_pick, if_pos hi]
  unfold oneR
  rw [gt_mk, if_pos hj]
  by_cases e : j = i
  · rw [if_pos e, if_pos e]; unfold ml; rw [(cl_in (a := 4294967296) (by omega) (by omega)).1]
  · rw [if_neg e, if_neg e]; unfold ml; rw [(cl_in (a := 0) (by omega) (by omega)).1, Int.zero_mul]
theorem rn_one (z : Int) : rn (4294967296 * z) = z := by unfold rn; omega
theorem dv_one {l : List Int} {n i : Nat} (hl : l.length = n) (hn : n ≤ 64) (hi : i < n) : dv (oneR n i) l = cl (gt l i) := by
  unfold dv; rw [dz_one hl hn hi, rn_one, clcl]
theorem dv_comm (l m : List Int) : dv l m = dv m l := by unfold dv; rw [dz_eq, dz_eq, zip_comm]
theorem oneL_mat {n : Nat} (h1 : 1 ≤ n) (h6 : n ≤ 6) : oneL n = mat n (fun i j => if j = i then 4294967296 else 0) := by
  unfold oneL; rw [if_pos (by omega)]; rfl
theorem row_one {n i : Nat} (h1 : 1 ≤ n) (h6 : n ≤ 6) (hi : i < n) : rw' (oneL n) i = oneR n i := by rw [oneL_mat h1 h6, rw_mat _ hi]; rfl
theorem col_one {n j : Nat} (h1 : 1 ≤ n) (h6 : n ≤ 6) (hj : j < n) : col (oneL n) j = oneR n j := by
  rw [oneL_mat h1 h6, col_mat _ hj]
  exact mk_congr (fun i hi => by by_cases e : i = j; rw [if_pos e, if_pos e.symm]; rw [if_neg e, if_neg (fun h => e h.symm)])
theorem col_len (L : List (List Int)) (j : Nat) : (col L j).length = L.length := by unfold col; rw [List.length_map]
theorem gt_col {L : List (List Int)} {i j : Nat} (hi : i < L.length) : gt (col L j) i = en' L i j := by rw [col_mk, gt_mk, if_pos hi]; rfl
/-- One changes nothing. -/
theorem one_mul {L : List (List Int)} (h : Sl.sq L = true) : mulL (oneL L.length) L = tuL (tuL L) := by
  have hn := sq_n h
  have hs : Sl.sq (oneL L.length) = true := by rw [oneL_mat hn.1 hn.2]; exact sq_mat _ hn.1 hn.2
  have hl : (oneL (L.length : Int)).length = L.length := by rw [oneL_mat hn.1 hn.2, mat_length]
  rw [mul_mat ((ok2_iff _ _).2 ⟨hs, h, hl⟩), hl, tu_two h]
  refine mat_congr (fun i j hi hj => ?_)
  rw [row_one hn.1 hn.2 hi, dv_one (col_len L j) (by omega) hi, gt_col hi]
theorem mul_one {L : List (List Int)} (h : Sl.sq L = true) : mulL L (oneL L.length) = tuL (tuL L) := by
  have hn := sq_n h
  have hs : Sl.sq (oneL L.length) = true := by rw [oneL_mat hn.1 hn.2]; exact sq_mat _ hn.1 hn.2
  have hl : (oneL (L.length : Int)).length = L.length := by rw [oneL_mat hn.1 hn.2, mat_length]
  rw [mul_mat ((ok2_iff _ _).2 ⟨h, hs, hl.symm⟩), tu_two h]
  refine mat_congr (fun i j hi hj => ?_)
  rw [col_one hn.1 hn.2 hj, dv_comm, dv_one ((sq_ok h rfl).2 i hi) (by omega) hj]; rfl
/-- A column of values with the one. -/
theorem app_one {n : Nat} (h1 : 1 ≤ n) (h6 : n ≤ 6) {l : List Int} (hl : l.length = n) (hv : ∀ j, cl (gt l j) = gt l j) : appL (oneL n) l = l ∧ appF (oneL n) l = false := by
  have hs : Sl.sq (oneL n) = true := by rw [oneL_mat h1 h6]; exact sq_mat _ h1 h6
  have ho : (oneL (n : Int)).length = n := by rw [oneL_mat h1 h6, mat_length]
  have hk : okv (oneL n) l = true := by unfold okv; rw [hs, ho, hl]; simp
  have hd : ∀ i, i < n → dv (oneR n i) l = gt l i := fun i hi => by rw [dv_one hl (by omega) hi, hv]
  constructor
  · unfold appL appR
    rw [hk, if_pos rfl, ho]
    apply list_eq (by rw [mk_length, hl])
    intro j hj
    rw [mk_length] at hj
    rw [gt_mk, if_pos hj, row_one h1 h6 hj, hd j hj]
  · unfold appF
    rw [hk, if_pos rfl, ho, Bool.eq_false_iff]
    intro e
    rw [anyB_iff] at e
    obtain ⟨i, hi, g⟩ := e
    rw [row_one h1 h6 hi] at g
    have c1 : ∀ (m : List Int) (k : Nat), (∀ x ∈ m, co x = false) → ck m k = false := fun m k hm => by
      unfold ck
      rw [Bool.eq_false_iff]
      intro h
      rw [List.any_eq_true] at h
      obtain ⟨x, hx, gx⟩ := h
      rw [hm x (List.mem_of_mem_take hx)] at gx
      cases gx
    unfold db at g
    rw [c1 _ _ (fun x hx => ?_), c1 _ _ (fun x hx => ?_), dz_one hl (by omega) hi, rn_one, cocl] at g
    · cases g
    · have := List.mem_of_mem_take hx
      obtain ⟨j, hj, rfl⟩ := List.getElem_of_mem this
      have e := hv j
      unfold gt at e
      rw [List.getD_eq_getElem?_getD, List.getElem?_eq_getElem hj] at e
      simp only [Option.getD_some] at e
      rw [← e, cocl]
    · have := List.mem_of_mem_take hx
      unfold oneR mk at this
      rw [List.mem_map] at this
      obtain ⟨j, -, rfl⟩ := this
      by_cases e : j = i
      · rw [if_pos e]; rfl
      · rw [if_neg e]; rfl
theorem anyB_no {p : Nat → Bool} {n : Nat} (h : anyB p n = false) (i : Nat) (hi : i < n) : p i = false := by
  rw [Bool.eq_false_iff] at h ⊢
  exact fun e => h ((anyB_iff p n).2 ⟨i, hi, e⟩)
/-- What adds up moves as it adds up. -/
theorem adds_ok {L M : List (List Int)} {v : List Int} (hc : addB L M = false) (hd : appF (addL L M) v = false) (he : appF L v = false) (hf : appF M v = false) :
    ((appL (addL L M) v).length = L.length ∧ (appL L v).length = L.length ∧ (appL M v).length = L.length) ∧ ∀ i, i < L.length → -1 ≤ gt (appL (addL L M) v) i - gt (appL L v) i - gt (appL M v) i ∧ gt (appL (addL L M) v) i - gt (appL L v) i - gt (appL M v) i ≤ 1 := by
  have hok : ok2 L M = true := by
    unfold addB at hc
    cases h : ok2 L M
    · rw [h] at hc; cases hc
    · rfl
  have hsum : anyB (sumB L M) L.length = false := by unfold addB at hc; rw [hok] at hc; exact hc
  obtain ⟨s1, s2, e⟩ := (ok2_iff L M).1 hok
  have kv : ∀ {K : List (List Int)}, appF K v = false → okv K v = true ∧ anyB (fun i => db (rw' K i) v) K.length = false := fun {K} h => by
    unfold appF at h
    cases g : okv K v
    · rw [g] at h; cases h
    · rw [g] at h; exact ⟨rfl, h⟩
  obtain ⟨k1, b1⟩ := kv hd
  obtain ⟨k2, b2⟩ := kv he
  obtain ⟨k3, b3⟩ := kv hf
  have hlS : (addL L M).length = L.length := by rw [add_mat hok, mat_length]
  have hv : v.length = L.length := by unfold okv at k2; rw [Bool.and_eq_true, decide_eq_true_eq] at k2; omega
  have hap : ∀ {K : List (List Int)}, okv K v = true → appL K v = mk (fun i => dv (rw' K i) v) K.length := fun {K} h => by unfold appL; rw [if_pos h]; rfl
  rw [hap k1, hap k2, hap k3, hlS, ← e]
  refine ⟨⟨mk_length _ _, mk_length _ _, mk_length _ _⟩, fun i hi => ?_⟩
  rw [gt_mk, gt_mk, gt_mk, if_pos hi, if_pos hi, if_pos hi]
  have n6 := (sq_n s1).2
  have q1 := anyB_no b1 i (by rw [hlS]; exact hi)
  have q2 := anyB_no b2 i hi
  have q3 := anyB_no b3 i (e ▸ hi)
  have last : ∀ {l : List Int}, db l v = false → dv l v = rn (dz l v) := fun {l} h => by
    unfold db at h
    rw [Bool.or_eq_false_iff] at h
    unfold dv
    exact (co_false h.2).2.2
  rw [last q1, last q2, last q3]
  have r1 : (rw' (addL L M) i).length = L.length := by rw [add_mat hok, rw_mat _ hi, mk_length]
  have r2 := (sq_ok s1 rfl).2 i hi
  have r3 : (rw' M i).length = L.length := by rw [e]; exact (sq_ok s2 rfl).2 i (e ▸ hi)
  have hz : dz (rw' (addL L M) i) v = dz (rw' L i) v + dz (rw' M i) v := by
    rw [dz_sum r1 hv (by omega), dz_sum r2 hv (by omega), dz_sum r3 hv (by omega), ← ws_add]
    refine ws_cong _ (fun j hj => ?_)
    have g := anyB_no hsum i hi
    unfold sumB at g
    have g2 := anyB_no g j hj
    obtain ⟨⟨u1, u2, u3⟩, u4, u5, u6⟩ := ao_false g2
    have ea : gt (rw' (addL L M) i) j = av (gt (rw' L i) j) (gt (rw' M i) j) := by rw [add_mat hok]; exact en_mat _ hi hj
    rw [ea, u3]
    unfold ml
    rw [(cl_in u6.1 u6.2).1, u1, u2, Int.add_mul]
  rw [hz]
  exact rn_sum _ _
end Ma
end Go.Proofs.Ytpammdogkkipbaa
/- The document's own answers of layer 8, with lengths by name. -/
namespace Go.Proofs.Ytpammdogkkipbaa
open Go.ChangeShapes Go.WideShapes Go.ChangeAt Go.RowKit
open Go.Proofs.Ytpammdogkkipbaa.Fx Go.Proofs.Ytpammdogkkipbaa.Sl Go.Proofs.Ytpammdogkkipbaa.Sm Go.Proofs.Ytpammdogkkipbaa.Vc
namespace Ma
end Ma
end Go.Proofs.Ytpammdogkkipbaa
