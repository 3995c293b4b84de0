/- The mathematics of layer 8. -/
import Derived.Test.YtkhfkfofggiadaaMatM
namespace Go.Proofs.Ytkhfkfofggiadaa
open Go.Proofs.Ytkhfkfofggiadaa.Fx Go.Proofs.Ytkhfkfofggiadaa.Sc Go.Proofs.Ytkhfkfofggiadaa.Wd Go.Proofs.Ytkhfkfofggiadaa.Rt Go.Proofs.Ytkhfkfofggiadaa.Sl Go.Proofs.Ytkhfkfofggiadaa.Sm Go.Proofs.Ytkhfkfofggiadaa.Vc
set_option linter.unusedVariables false
namespace Ma
/-- The number of a row and a column; a matrix made of its numbers. -/
def en' (L : List (List Int)) (i j : Nat) : Int := gt (rw' L i) j
def mat (n : Nat) (f : Nat → Nat → Int) : List (List Int) := mkR (fun i => mk (f i) n) n
theorem mat_length (n : Nat) (f : Nat → Nat → Int) : (mat n f).length = n := mkR_length _ _
theorem rw_mat {n i : Nat} (f : Nat → Nat → Int) (h : i < n) : rw' (mat n f) i = mk (f i) n := rw_mkR _ _ _ h
theorem en_mat {n i j : Nat} (f : Nat → Nat → Int) (h : i < n) (g : j < n) : en' (mat n f) i j = f i j := by unfold en'; rw [rw_mat f h, gt_mk, if_pos g]
theorem sq_mat {n : Nat} (f : Nat → Nat → Int) (h1 : 1 ≤ n) (h6 : n ≤ 6) : Sl.sq (mat n f) = true := by
  unfold Sl.sq
  rw [mat_length, Bool.and_eq_true, Bool.and_eq_true, decide_eq_true_eq, decide_eq_true_eq, all_rw]
  refine ⟨⟨fun j hj => ?_, h1⟩, h6⟩
  rw [mat_length] at hj
  rw [rw_mat f hj, mk_length]; simp
theorem mkR_congr {F G : Nat → List Int} {n : Nat} (h : ∀ i, i < n → F i = G i) : mkR F n = mkR G n := by
  unfold mkR
  exact List.map_congr_left (fun j hj => h j (List.mem_range.1 hj))
theorem mat_congr {n : Nat} {f g : Nat → Nat → Int} (h : ∀ i j, i < n → j < n → f i j = g i j) : mat n f = mat n g :=
  mkR_congr (fun i hi => mk_congr (fun j hj => h i j hi hj))
theorem anyB_iff (p : Nat → Bool) (n : Nat) : anyB p n = true ↔ ∃ i, i < n ∧ p i = true := by
  unfold anyB
  rw [List.any_eq_true]
  exact ⟨fun ⟨i, h, g⟩ => ⟨i, List.mem_range.1 h, g⟩, fun ⟨i, h, g⟩ => ⟨i, List.mem_range.2 h, g⟩⟩
theorem sq_nil : Sl.sq [] = false := rfl
theorem sq_n {L : List (List Int)} (h : Sl.sq L = true) : 1 ≤ L.length ∧ L.length ≤ 6 := (sq_ok h rfl).1
theorem tu_mat {L : List (List Int)} (h : Sl.sq L = true) : tuL L = mat L.length (fun i k => cl (en' L k i)) := by unfold tuL; rw [if_pos h]; rfl
theorem tu_no {L : List (List Int)} (h : Sl.sq L = false) : tuL L = [] := by unfold tuL; rw [h]; rfl
theorem tu_len {L : List (List Int)} (h : Sl.sq L = true) : (tuL L).length = L.length := by rw [tu_mat h, mat_length]
theorem tu_sq (L : List (List Int)) : Sl.sq (tuL L) = Sl.sq L := by
  cases h : Sl.sq L
  · rw [tu_no h]; rfl
  · rw [tu_mat h]; exact sq_mat _ (sq_n h).1 (sq_n h).2
theorem clcl (a : Int) : cl (cl a) = cl a := (cl_in (cl_bd a).1 (cl_bd a).2).1
theorem cocl (a : Int) : co (cl a) = false := (cl_in (cl_bd a).1 (cl_bd a).2).2
theorem tu_two {L : List (List Int)} (h : Sl.sq L = true) : tuL (tuL L) = mat L.length (fun i k => cl (en' L i k)) := by
  have hs : Sl.sq (mat L.length (fun i k => cl (en' L k i))) = true := sq_mat _ (sq_n h).1 (sq_n h).2
  rw [tu_mat h, tu_mat hs, mat_length]
  exact mat_congr (fun i j hi hj => by rw [en_mat _ hj hi, clcl])
/-- Turned three times. -/
theorem tu_three (L : List (List Int)) : tuL (tuL (tuL L)) = tuL L := by
  cases h : Sl.sq L
  · rw [tu_no h, tu_no sq_nil, tu_no sq_nil]
  · have h2 : Sl.sq (tuL L) = true := by rw [tu_sq, h]
    rw [tu_two h2, tu_len h, tu_mat h]
    exact mat_congr (fun i j hi hj => by rw [en_mat _ hi hj, clcl])
theorem ok2_iff (L M : List (List Int)) : ok2 L M = true ↔ Sl.sq L = true ∧ Sl.sq M = true ∧ L.length = M.length := by
  unfold ok2
  rw [Bool.and_eq_true, Bool.and_eq_true, decide_eq_true_eq]
  exact ⟨fun h => ⟨h.1.1, h.1.2, by omega⟩, fun h => ⟨⟨h.1, h.2.1⟩, by omega⟩⟩
theorem ok2_tu (L M : List (List Int)) : ok2 (tuL L) (tuL M) = ok2 L M := by
  rw [Bool.eq_iff_iff, ok2_iff, ok2_iff, tu_sq, tu_sq]
  constructor
  · rintro ⟨h1, h2, h3⟩; rw [tu_len h1, tu_len h2] at h3; exact ⟨h1, h2, h3⟩
  · rintro ⟨h1, h2, h3⟩; exact ⟨h1, h2, by rw [tu_len h1, tu_len h2]; exact h3⟩
theorem ok2_comm (L M : List (List Int)) : ok2 L M = ok2 M L := by
  rw [Bool.eq_iff_iff, ok2_iff, ok2_iff]
  exact ⟨fun h => ⟨h.2.1, h.1, h.2.2.symm⟩, fun h => ⟨h.2.1, h.1, h.2.2.symm⟩⟩
theorem add_mat {L M : List (List Int)} (h : ok2 L M = true) : addL L M = mat L.length (fun i j => av (en' L i j) (en' M i j)) := by unfold addL; rw [if_pos h]; rfl
theorem mul_mat {L M : List (List Int)} (h : ok2 L M = true) : mulL L M = mat L.length (fun i j => dv (rw' L i) (col M j)) := by unfold mulL; rw [if_pos h]; rfl
theorem av_cl (a b : Int) : av (cl a) (cl b) = av a b := by unfold av; rw [clcl, clcl]
theorem cl_av (a b : Int) : cl (av a b) = av a b := clcl _
theorem ao_cl {a b : Int} (h : ao (cl a) (cl b) = true) : ao a b = true := by
  unfold ao at *
  rw [cocl, cocl, clcl, clcl, Bool.false_or, Bool.false_or] at h
  rw [h, Bool.or_true]
/-- The sum turned is the sum of both turned. -/
theorem tu_add (L M : List (List Int)) : tuL (addL L M) = addL (tuL L) (tuL M) := by
  cases h : ok2 L M
  · have h' : ok2 (tuL L) (tuL M) = false := by rw [ok2_tu, h]
    unfold addL; rw [h, h']; exact tu_no sq_nil
  · have h' : ok2 (tuL L) (tuL M) = true := by rw [ok2_tu, h]
    obtain ⟨s1, s2, e⟩ := (ok2_iff L M).1 h
    rw [add_mat h, add_mat h', tu_mat (sq_mat _ (sq_n s1).1 (sq_n s1).2), mat_length, tu_len s1]
    refine mat_congr (fun i j hi hj => ?_)
    rw [en_mat _ hj hi, tu_mat s1, tu_mat s2, en_mat _ hi hj, en_mat _ (e ▸ hi) (e ▸ hj), av_cl, cl_av]
theorem addB_tu {L M : List (List Int)} (h : addB (tuL L) (tuL M) = true) : addB L M = true := by
  unfold addB at *
  rw [ok2_tu] at h
  cases hs : ok2 L M
  · rfl
  · rw [hs] at h
    obtain ⟨s1, s2, e⟩ := (ok2_iff L M).1 hs
    simp only [if_true] at h ⊢
    rw [anyB_iff] at h ⊢
    obtain ⟨i, hi, g⟩ := h
    unfold sumB at g
    rw [anyB_iff] at g
    obtain ⟨j, hj, g⟩ := g
    rw [tu_len s1] at hi hj
    refine ⟨j, hj, ?_⟩
    unfold sumB
    rw [anyB_iff]
    refine ⟨i, hi, ?_⟩
    have a1 : gt (rw' (tuL L) i) j = cl (en' L j i) := by rw [tu_mat s1]; exact en_mat _ hi hj
    have a2 : gt (rw' (tuL M) i) j = cl (en' M j i) := by rw [tu_mat s2]; exact en_mat _ (e ▸ hi) (e ▸ hj)
    rw [a1, a2] at g
    exact ao_cl g
/-- Products of lists, as values and the other way round. -/
theorem dv_turn (l m : List Int) : dv (m.map cl) (l.map cl) = dv l m := by
  unfold dv
  rw [dz_eq, dz_eq, zip_map, zip_comm]
theorem kk_map (l m : List Int) : kk (m.map cl) (l.map cl) = kk l m := by unfold kk; rw [List.length_map, List.length_map, Nat.min_comm]
theorem ck_map (l : List Int) (k : Nat) : ck (l.map cl) k = false := by
  unfold ck
  rw [Bool.eq_false_iff]
  intro h
  rw [List.any_eq_true] at h
  obtain ⟨x, hx, g⟩ := h
  have := List.mem_of_mem_take hx
  rw [List.mem_map] at this
  obtain ⟨y, -, rfl⟩ := this
  rw [cocl] at g
  cases g
theorem db_turn {l m : List Int} (h : db (m.map cl) (l.map cl) = true) : db l m = true := by
  unfold db at *
  rw [← List.map_take, ← List.map_take, ck_map, ck_map, dz_eq, zip_map, zip_comm, ← dz_eq, Bool.false_or, Bool.false_or] at h
  rw [h, Bool.or_true]
theorem row_tu {M : List (List Int)} (h : Sl.sq M = true) {i : Nat} (hi : i < M.length) : rw' (tuL M) i = (col M i).map cl := by
  rw [tu_mat h, rw_mat _ hi, col_mk]
  unfold mk
  rw [List.map_map]
  rfl
theorem col_mat {n : Nat} (f : Nat → Nat → Int) {j : Nat} (hj : j < n) : col (mat n f) j = mk (fun i => f i j) n := by
  rw [col_mk, mat_length]
  exact mk_congr (fun k hk => en_mat f hk hj)
theorem row_mk {L : List (List Int)} (h : Sl.sq L = true) {i : Nat} (hi : i < L.length) : rw' L i = mk (fun j => en' L i j) L.length := by
  have hl := (sq_ok h rfl).2 i hi
  apply list_eq (by rw [hl, mk_length])
  intro j hj
  rw [hl] at hj
  rw [gt_mk, if_pos hj]; rfl
theorem col_tu {L : List (List Int)} (h : Sl.sq L = true) {k : Nat} (hk : k < L.length) : col (tuL L) k = (rw' L k).map cl := by
  rw [tu_mat h, col_mat _ hk, row_mk h hk]
  unfold mk
  rw [List.map_map]
  rfl
/-- The product turned is the product of both turned, the other way round. -/
theorem tu_mul (L M : List (List Int)) : tuL (mulL L M) = mulL (tuL M) (tuL L) := by
  cases h : ok2 L M
  · have h' : ok2 (tuL M) (tuL L) = false := by rw [ok2_tu, ok2_comm, h]
    unfold mulL; rw [h, h']; exact tu_no sq_nil
  · have h' : ok2 (tuL M) (tuL L) = true := by rw [ok2_tu, ok2_comm, h]
    obtain ⟨s1, s2, e⟩ := (ok2_iff L M).1 h
    rw [mul_mat h, mul_mat h', tu_mat (sq_mat _ (sq_n s1).1 (sq_n s1).2), mat_length, tu_len s2, ← e]
    refine mat_congr (fun i j hi hj => ?_)
    rw [en_mat _ hj hi, row_tu s2 (e ▸ hi), col_tu s1 hj, dv_turn]
    exact clcl _
theorem mulF_tu {L M : List (List Int)} (h : mulF (tuL M) (tuL L) = true) : mulF L M = true := by
  unfold mulF at *
  rw [ok2_tu, ok2_comm] at h
  cases hs : ok2 L M
  · rfl
  · rw [hs] at h
    obtain ⟨s1, s2, e⟩ := (ok2_iff L M).1 hs
    simp only [if_true] at h ⊢
    rw [anyB_iff] at h ⊢
    obtain ⟨i, hi, g⟩ := h
    unfold mulB at g
    rw [anyB_iff] at g
    obtain ⟨j, hj, g⟩ := g
    rw [tu_len s2] at hi hj
    rw [row_tu s2 hi, col_tu s1 (e ▸ hj)] at g
    refine ⟨j, e ▸ hj, ?_⟩
    unfold mulB
    rw [anyB_iff]
    exact ⟨i, e ▸ hi, db_turn g⟩
end Ma
end Go.Proofs.Ytkhfkfofggiadaa
