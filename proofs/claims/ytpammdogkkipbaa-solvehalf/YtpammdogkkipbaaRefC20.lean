/- The document's own answers of layer 8, sixth part: turned ones, and the one. -/
import Derived.Test.YtpammdogkkipbaaRefC19
import Derived.Deep.OwnRows
namespace Go.Proofs.Ytpammdogkkipbaa
open Go.ChangeShapes Go.WideShapes Go.ChangeAt Go.RowKit
open Go.Proofs.Ytpammdogkkipbaa.Fx Go.Proofs.Ytpammdogkkipbaa.Sl Go.Proofs.Ytpammdogkkipbaa.Sm Go.Proofs.Ytpammdogkkipbaa.Vc
set_option linter.unusedVariables false
attribute [local go_sem] Ext.cell Ext.froz Ext.lt Ext.lt1 Ext.lt2 Ext.lt3 Ext.all Ext.set_u drew_heap setCell_size Ext.set_size
namespace Ma
theorem owns_set {W : World} {base n : Nat} {v : Value} {xs : List Value} (h : W.ownsRow base 3 1 v n xs) {q : Nat} (hq : q < n) : ∃ g cap, v = .slice (some ⟨g, 0, none⟩) n cap ∧ base ≤ g ∧ g < W.heap.size ∧ W.frozen? ⟨g, q, none⟩ = false ∧ (W.cell? ⟨g, q, none⟩ = xs[q]?) ∧ ∀ X, (W.setCell ⟨g, q, none⟩ X).ownsRow base 3 1 v n (xs.set q X) := by
  obtain ⟨h1, ⟨rfl, h0⟩ | ⟨g, cap, cur, rfl, hg, hc, hle, hm, hs, ht⟩⟩ := h
  · omega
  · refine ⟨g, cap, rfl, hg, (Array.getElem?_eq_some_iff.1 hc).1, by simp [World.frozen?, hc], ?_, fun X => ⟨by rw [List.length_set]; exact h1, .inr ⟨g, cap, cur.setIfInBounds q X, rfl, hg, ?_, hle, hm, by rw [Array.size_setIfInBounds]; exact hs, ?_⟩⟩⟩
    · rw [← ht, List.getElem?_take_of_lt (by omega)]
      simp [World.cell?, hc]
    · simp only [World.setCell, Array.getElem?_modify, if_pos, hc, Option.map_some]
      rfl
    · rw [Array.toList_setIfInBounds, ← ht, List.take_set]
theorem mk_congr {f g : Nat → Int} {n : Nat} (h : ∀ j, j < n → f j = g j) : mk f n = mk g n := by
  unfold mk
  exact List.map_congr_left (fun j hj => h j (List.mem_range.1 hj))
theorem mk_set (f : Nat → Int) (n q : Nat) (hq : q < n) (X : Int) : (mk f n).set q X = mk (fun r => if r = q then X else f r) n := by
  apply list_eq (by rw [List.length_set, mk_length, mk_length])
  intro j hj
  rw [List.length_set, mk_length] at hj
  rw [gt_mk, if_pos hj]
  unfold gt
  rw [List.getD_eq_getElem?_getD, List.getElem?_set]
  by_cases e : q = j
  · subst e
    rw [if_pos rfl, if_pos (by rw [mk_length]; exact hj), if_pos rfl]; rfl
  · rw [if_neg e, if_neg (fun h => e h.symm)]
    have := gt_mk f n j
    unfold gt at this
    rw [List.getD_eq_getElem?_getD, if_pos hj] at this
    exact this
/-- A column as values, the first ones done. -/
def tq (L : List (List Int)) (i q r : Nat) : Int := if r < q then cl (gt (rw' L r) i) else gt (rw' L r) i
theorem tq_step (L : List (List Int)) (i q n : Nat) (hq : q < n) : ((mk (tq L i q) n).map (Value.int .i64)).set q (.int .i64 (cl (gt (rw' L q) i))) = (mk (tq L i (q + 1)) n).map (Value.int .i64) := by
  rw [← List.map_set, mk_set _ _ _ hq]
  congr 1
  apply mk_congr
  intro r hr
  unfold tq
  by_cases e : r = q
  · subst e; rw [if_pos rfl, if_pos (by omega)]
  · rw [if_neg e]
    by_cases g : r < q
    · rw [if_pos g, if_pos (by omega)]
    · rw [if_neg g, if_neg (by omega)]
def tuR (L : List (List Int)) (i : Nat) : List Int := mk (fun k => cl (gt (rw' L k) i)) L.length
end Ma
end Go.Proofs.Ytpammdogkkipbaa
/- The document's own answers of layer 8, last part: the one, and the answers where there is no matrix. -/
namespace Go.Proofs.Ytpammdogkkipbaa
open Go.ChangeShapes Go.WideShapes Go.ChangeAt Go.RowKit
open Go.Proofs.Ytpammdogkkipbaa.Fx Go.Proofs.Ytpammdogkkipbaa.Sl Go.Proofs.Ytpammdogkkipbaa.Sm Go.Proofs.Ytpammdogkkipbaa.Vc
set_option linter.unusedVariables false
attribute [local go_sem] Ext.cell Ext.froz Ext.lt Ext.lt1 Ext.lt2 Ext.lt3 Ext.all Ext.set_u drew_heap setCell_size Ext.set_size
namespace Ma
theorem made_list (z : Value) (n : Nat) : (madeCells #[z] n).toList = List.replicate n z := by
  apply List.ext_getElem?
  intro i
  by_cases h : i < n
  · rw [List.getElem?_replicate, if_pos h]
    simp [madeCells, h, Nat.mod_one]
  · rw [List.getElem?_replicate, if_neg h]
    simp [madeCells, h]
theorem owns_made (w : World) (n : Nat) (hn : n ≤ maxLen) : (w.alloc (.cells (madeCells #[.int .i64 0] n) 3)).ownsRow w.heap.size 3 1 (.slice (some ⟨w.heap.size, 0, none⟩) n n) n ((mk (fun _ => 0) n).map (Value.int .i64)) := by
  have e : (mk (fun _ => 0) n).map (Value.int .i64) = List.replicate n (.int .i64 0) := by
    unfold mk
    rw [List.map_map]
    exact (List.map_const' (l := List.range n)).trans (by rw [List.length_range])
  refine ⟨by rw [List.length_map, mk_length, Nat.mul_one], .inr ⟨w.heap.size, n, _, rfl, Nat.le_refl _, by show (w.heap.push _)[w.heap.size]? = _; simp; rfl, Nat.le_refl _, hn, ?_, ?_⟩⟩
  · rw [← Array.length_toList, made_list, List.length_replicate, Nat.mul_one]
  · rw [made_list, e, Nat.mul_one, List.take_of_length_le (by rw [List.length_replicate]; exact Nat.le_refl _)]
theorem cell_oneB (w : World) (v : Value) (B : Nat) (hB : w.heap.size = B) : ∀ j u, [v][j]? = some u → (w.alloc (.cells #[v] 23)).cell? ((⟨B, 0, none⟩ : Addr).add j) = some u := by
  subst hB; exact cell_oneS w v
def oneR (n i : Nat) : List Int := mk (fun j => if j = i then 4294967296 else 0) n
end Ma
end Go.Proofs.Ytpammdogkkipbaa
