/- The document's own answers of layer 8, second part: columns, and lists of rows that are made. -/
import Derived.Test.YtkhfkfofggiadaaRefC15
import Derived.Test.YtkhfkfofggiadaaRefC11
namespace Go.Proofs.Ytkhfkfofggiadaa
open Go.ChangeShapes Go.WideShapes Go.ChangeAt Go.RowKit
open Go.Proofs.Ytkhfkfofggiadaa.Fx Go.Proofs.Ytkhfkfofggiadaa.Sl Go.Proofs.Ytkhfkfofggiadaa.Sm
set_option linter.unusedVariables false
attribute [local go_sem] Ext.cell Ext.froz Ext.lt Ext.lt1 Ext.lt2 Ext.lt3 Ext.all Ext.set_u drew_heap setCell_size Ext.set_size
namespace Ma
/-- A column. -/
def col (L : List (List Int)) (j : Nat) : List Int := L.map (fun r => gt r j)
/-- What a function makes of the places, in their order. -/
def mk (f : Nat → Int) (n : Nat) : List Int := (List.range n).map f
theorem mk_succ (f : Nat → Int) (n : Nat) : mk f (n + 1) = mk f n ++ [f n] := by simp [mk, List.range_succ]
theorem mk_length (f : Nat → Int) (n : Nat) : (mk f n).length = n := by simp [mk]
theorem gt_mk (f : Nat → Int) (n j : Nat) : gt (mk f n) j = if j < n then f j else 0 := by
  unfold gt mk
  rw [List.getD_eq_getElem?_getD, List.getElem?_map]
  by_cases h : j < n
  · rw [List.getElem?_range h, if_pos h]; rfl
  · rw [List.getElem?_eq_none (by simpa using h), if_neg h]; rfl
theorem mk_bd {f : Nat → Int} {n : Nat} (h : ∀ j, j < n → -9223372036854775808 ≤ f j ∧ f j ≤ 9223372036854775807) (j : Nat) : -9223372036854775808 ≤ gt (mk f n) j ∧ gt (mk f n) j ≤ 9223372036854775807 := by
  rw [gt_mk]; split
  · exact h j (by assumption)
  · omega
theorem col_mk (L : List (List Int)) (j : Nat) : col L j = mk (fun k => gt (rw' L k) j) L.length := by
  apply list_eq (by simp [col, mk])
  intro k hk
  rw [gt_mk]
  unfold col at hk
  rw [List.length_map] at hk
  rw [if_pos hk]
  unfold gt col rw'
  rw [List.getD_eq_getElem?_getD, List.getElem?_map, List.getD_eq_getElem?_getD (l := L), List.getElem?_eq_getElem hk]
  rfl
set_option maxRecDepth 100000 in
set_option maxHeartbeats 2000000 in
theorem rcol_c {a : Option Addr} {c n : Nat} {L : List (List Int)} (j : Nat) (w : World) (h : Rs w a c L) (en : L.length = n) (h20 : n ≤ 20) (hj : ∀ k, k < n → j < (rw' L k).length) :
    Calls Try.prog 36 #[.slice a n c, .int .i64 j] w fun e w' => ∃ a' c', e = .returned (.slice a' n c') ∧ ∃ x : Ext w, w' = x.u ∧ Is x.u a' c' (col L j) := by
  obtain ⟨i0, hi, hz0, hz1, hz2⟩ := info_parts infoI
  go_enter Try.func36, Try.ntmps36
  go_wp2
  go_loopw [5, 6] (fun v i wr => ∃ k : Nat, k ≤ n ∧ i = .int .i64 k ∧ wr.ownsRow w.heap.size 3 1 v k ((mk (fun q => gt (rw' L q) j) k).map (Value.int .i64)) ∧ ∃ y : Ext w, wr = y.u) (fun _ i _ => (n - (intOf i).toNat))
  case atStart => exact ⟨0, by omega, rfl, World.ownsRow_nil _ _ _ _, Mr.mk' (by repeat (first | (with_reducible exact Mr.refl _) | (with_reducible apply Mr.drew) | (with_reducible apply Mr.alloc) | (with_reducible apply Mr.ext) | (with_reducible refine Mr.setCell ?_ (by first | (simp; done) | (simp; omega) | omega | (refine leOf0 ?_; (repeat (first | (with_reducible exact Mr.refl _) | (with_reducible apply Mr.drew) | (with_reducible apply Mr.alloc) | (with_reducible apply Mr.ext) | (with_reducible refine Mr.setCell ?_ (by first | (simp; done) | (simp; omega) | omega) _))); done) | (refine leOf ?_; (repeat (first | (with_reducible exact Mr.refl _) | (with_reducible apply Mr.drew) | (with_reducible apply Mr.alloc) | (with_reducible apply Mr.ext) | (with_reducible refine Mr.setCell ?_ (by first | (simp; done) | (simp; omega) | omega) _))); done)) _)))⟩
  case round =>
    obtain ⟨k, hk, rfl, hown, y, rfl⟩ := hrel
    by_cases hlt : k < n
    · have hlt' : (k : Int) < n := by omega
      obtain ⟨b1, o1, ra, rc, rfl, hb1, hc1, hI⟩ := h.row k (by omega)
      have hjk := hj k hlt
      obtain ⟨b2, o2, rfl, hb2, hc2⟩ := hI.num j hjk
      have hjk' : (j : Int) < ((rw' L k).length : Nat) := by omega
      have hV : Hid (mk (fun q => gt (rw' L q) j) (k + 1) = mk (fun q => gt (rw' L q) j) k ++ [gt (rw' L k) j]) := mk_succ _ _
      generalize hm : (rw' L k).length = m at *
      generalize hX : gt (rw' L k) j = X at *
      have hmr : ∀ (w1 : World), (y.u.alloc (.cells #[.int .i64 X] 3)).grownBy w1 u5.ownBlock → ∃ z : Ext w, w1 = z.u := fun w1 hg => Mr.mk' ((y.h.alloc _).grownBy hg (fun j e => (hown.lt j e).1))
      clear h hj hI hm hX
      go_wp2_with (first | (at_builtin; refine wpList_append_own _ rfl _ _ 23 rfl w.heap.size 3 i0 (.int .i64 0) 1 8 Try.underlying23 hi hz0 hz1 hz2 rfl (by decide) _ _ _ rfl (hown.alloc _) ⟨y.u.heap.size, 0, none⟩ 1 1 [.int .i64 X] rfl rfl (cell_one _ _) (one_cell _) (by unfold maxLen; omega) (by omega) (by have := y.h.below.size; simp; omega) ?_; intro v' w1 hown' hgrow _; obtain ⟨z, rfl⟩ := hmr w1 hgrow; clear hgrow))
      go_roundw
      case rel => exact ⟨k + 1, by omega, by go_num, by rw [hV.out, List.map_append]; exact hown', z, rfl⟩
      case measure => simp [intOf]; omega
    · obtain rfl : k = n := by omega
      obtain ⟨a', c', rfl, hn', hIs⟩ := of_owns hown (mk_bd (fun q hq => by obtain ⟨b1, o1, ra, rc, e, hb1, hc1, hI⟩ := h.row q (by omega); exact hI.bd j))
      rw [mk_length] at *
      have hIs' : Is y.u a' c' (col L j) := by rw [col_mk, en]; exact hIs
      clear h hj hown hIs
      go_wp2
      go_ret
      exact ⟨a', c', rfl, y, rfl, hIs'⟩
end Ma
end Go.Proofs.Ytkhfkfofggiadaa
