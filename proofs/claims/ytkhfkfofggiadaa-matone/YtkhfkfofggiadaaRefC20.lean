/- The document's own answers of layer 8, sixth part: turned ones, and the one. -/
import Derived.Test.YtkhfkfofggiadaaRefC19
import Derived.Deep.OwnRows
namespace Go.Proofs.Ytkhfkfofggiadaa
open Go.ChangeShapes Go.WideShapes Go.ChangeAt Go.RowKit
open Go.Proofs.Ytkhfkfofggiadaa.Fx Go.Proofs.Ytkhfkfofggiadaa.Sl Go.Proofs.Ytkhfkfofggiadaa.Sm Go.Proofs.Ytkhfkfofggiadaa.Vc
set_option linter.unusedVariables false
attribute [local go_sem] Ext.cell Ext.froz Ext.lt Ext.lt1 Ext.lt2 Ext.lt3 Ext.all Ext.set_u drew_heap setCell_size Ext.set_size
namespace Ma
theorem owns_set {W : World} {base n : Nat} {v : Value} {xs : List Value} (h : W.ownsRow base 3 1 v n xs) {q : Nat} (hq : q < n) : ∃ g cap, v = .slice (some ⟨g, 0, none⟩) n cap ∧ base ≤ g ∧ g < W.heap.size ∧ W.frozen? ⟨g, q, none⟩ = false ∧ (W.cell? ⟨g, q, none⟩ = xs[q]?) ∧ ∀ X, (W.setCell ⟨g, q, none⟩ X).ownsRow base 3 1 v n (xs.set q X) := by
  obtain ⟨h1, ⟨rfl, h0⟩ | ⟨g, cap, cur, rfl, hg, hc, hle, hm, hs, ht⟩⟩ := h
  · omega
  · refine ⟨g, cap, rfl, hg, (Array.getElem?_eq_some_iff.1 hc).1, by simp [World.frozen?, hc], ?_, fun X => ⟨by rw [List.length_set]; exact h1, .inr ⟨g, cap, cur.setIfInBounds q X, rfl, hg, ?_, hle, hm, by rw [Array.size_setIfInBounds]; exact hs, ?_⟩⟩⟩
    · rw [← ht, List.getElem?_take_of_lt (by omega)]
      simp [World.cell?, hc]
    · simp only [World.setCell, Array.getElem?_modify, if_pos, hc, Option.map_some]
      rfl
    · rw [Array.toList_setIfInBounds, ← ht, List.take_set]
set_option maxRecDepth 100000 in
set_option maxHeartbeats 2000000 in
theorem rcolO_c {a : Option Addr} {c n : Nat} {L : List (List Int)} (j : Nat) (w : World) (h : Rs w a c L) (en : L.length = n) (h20 : n ≤ 20) (hj : ∀ k, k < n → j < (rw' L k).length) :
    Calls Try.prog 36 #[.slice a n c, .int .i64 j] w fun e w' => ∃ v, e = .returned v ∧ ∃ x : Ext w, w' = x.u ∧ x.u.ownsRow w.heap.size 3 1 v n ((mk (fun q => gt (rw' L q) j) n).map (Value.int .i64)) := by
  obtain ⟨i0, hi, hz0, hz1, hz2⟩ := info_parts infoI
  go_enter Try.func36, Try.ntmps36
  go_wp2
  go_loopw [5, 6] (fun v i wr => ∃ k : Nat, k ≤ n ∧ i = .int .i64 k ∧ wr.ownsRow w.heap.size 3 1 v k ((mk (fun q => gt (rw' L q) j) k).map (Value.int .i64)) ∧ ∃ y : Ext w, wr = y.u) (fun _ i _ => (n - (intOf i).toNat))
  case atStart => exact ⟨0, by omega, rfl, World.ownsRow_nil _ _ _ _, Mr.mk' (by repeat (first | (with_reducible exact Mr.refl _) | (with_reducible apply Mr.drew) | (with_reducible apply Mr.alloc) | (with_reducible apply Mr.ext) | (with_reducible refine Mr.setCell ?_ (by first | (simp; done) | (simp; omega) | omega | (refine leOf0 ?_; (repeat (first | (with_reducible exact Mr.refl _) | (with_reducible apply Mr.drew) | (with_reducible apply Mr.alloc) | (with_reducible apply Mr.ext) | (with_reducible refine Mr.setCell ?_ (by first | (simp; done) | (simp; omega) | omega) _))); done) | (refine leOf ?_; (repeat (first | (with_reducible exact Mr.refl _) | (with_reducible apply Mr.drew) | (with_reducible apply Mr.alloc) | (with_reducible apply Mr.ext) | (with_reducible refine Mr.setCell ?_ (by first | (simp; done) | (simp; omega) | omega) _))); done)) _)))⟩
  case round =>
    obtain ⟨k, hk, rfl, hown, y, rfl⟩ := hrel
    by_cases hlt : k < n
    · have hlt' : (k : Int) < n := by omega
      obtain ⟨b1, o1, ra, rc, rfl, hb1, hc1, hI⟩ := h.row k (by omega)
      have hjk := hj k hlt
      obtain ⟨b2, o2, rfl, hb2, hc2⟩ := hI.num j hjk
      have hjk' : (j : Int) < ((rw' L k).length : Nat) := by omega
      have hV : Hid (mk (fun q => gt (rw' L q) j) (k + 1) = mk (fun q => gt (rw' L q) j) k ++ [gt (rw' L k) j]) := mk_succ _ _
      generalize hm : (rw' L k).length = m at *
      generalize hX : gt (rw' L k) j = X at *
      have hmr : ∀ (w1 : World), (y.u.alloc (.cells #[.int .i64 X] 3)).grownBy w1 u5.ownBlock → ∃ z : Ext w, w1 = z.u := fun w1 hg => Mr.mk' ((y.h.alloc _).grownBy hg (fun j e => (hown.lt j e).1))
      clear h hj hI hm hX
      go_wp2_with (first | (at_builtin; refine wpList_append_own _ rfl _ _ 23 rfl w.heap.size 3 i0 (.int .i64 0) 1 8 Try.underlying23 hi hz0 hz1 hz2 rfl (by decide) _ _ _ rfl (hown.alloc _) ⟨y.u.heap.size, 0, none⟩ 1 1 [.int .i64 X] rfl rfl (cell_one _ _) (one_cell _) (by unfold maxLen; omega) (by omega) (by have := y.h.below.size; simp; omega) ?_; intro v' w1 hown' hgrow _; obtain ⟨z, rfl⟩ := hmr w1 hgrow; clear hgrow))
      go_roundw
      case rel => exact ⟨k + 1, by omega, by go_num, by rw [hV.out, List.map_append]; exact hown', z, rfl⟩
      case measure => simp [intOf]; omega
    · obtain rfl : k = n := by omega
      clear h hj
      go_wp2
      go_ret
      exact ⟨_, rfl, y, rfl, hown⟩
theorem mk_congr {f g : Nat → Int} {n : Nat} (h : ∀ j, j < n → f j = g j) : mk f n = mk g n := by
  unfold mk
  exact List.map_congr_left (fun j hj => h j (List.mem_range.1 hj))
theorem mk_set (f : Nat → Int) (n q : Nat) (hq : q < n) (X : Int) : (mk f n).set q X = mk (fun r => if r = q then X else f r) n := by
  apply list_eq (by rw [List.length_set, mk_length, mk_length])
  intro j hj
  rw [List.length_set, mk_length] at hj
  rw [gt_mk, if_pos hj]
  unfold gt
  rw [List.getD_eq_getElem?_getD, List.getElem?_set]
  by_cases e : q = j
  · subst e
    rw [if_pos rfl, if_pos (by rw [mk_length]; exact hj), if_pos rfl]; rfl
  · rw [if_neg e, if_neg (fun h => e h.symm)]
    have := gt_mk f n j
    unfold gt at this
    rw [List.getD_eq_getElem?_getD, if_pos hj] at this
    exact this
/-- A column as values, the first ones done. -/
def tq (L : List (List Int)) (i q r : Nat) : Int := if r < q then cl (gt (rw' L r) i) else gt (rw' L r) i
theorem tq_step (L : List (List Int)) (i q n : Nat) (hq : q < n) : ((mk (tq L i q) n).map (Value.int .i64)).set q (.int .i64 (cl (gt (rw' L q) i))) = (mk (tq L i (q + 1)) n).map (Value.int .i64) := by
  rw [← List.map_set, mk_set _ _ _ hq]
  congr 1
  apply mk_congr
  intro r hr
  unfold tq
  by_cases e : r = q
  · subst e; rw [if_pos rfl, if_pos (by omega)]
  · rw [if_neg e]
    by_cases g : r < q
    · rw [if_pos g, if_pos (by omega)]
    · rw [if_neg g, if_neg (by omega)]
def tuR (L : List (List Int)) (i : Nat) : List Int := mk (fun k => cl (gt (rw' L k) i)) L.length
set_option maxRecDepth 100000 in
set_option maxHeartbeats 2000000 in
theorem rturned8_c {a : Option Addr} {c n : Nat} {L : List (List Int)} (w : World) (h : Rs w a c L) (en : L.length = n) (hs : Sl.sq L = true) :
    Calls Try.prog 23 #[.slice a n c] w fun e w' => ∃ a' c', e = .returned (.slice a' n c') ∧ ∃ x : Ext w, w' = x.u ∧ Rs x.u a' c' (mkR (tuR L) n) := by
  obtain ⟨i0, hi, hz0, hz1, hz2⟩ := info_parts infoI
  obtain ⟨i1, hj, hy0, hy1, hy2⟩ := info_parts infoS
  obtain ⟨h6, hr1⟩ := sq_ok hs en
  go_enter Try.func23, Try.ntmps23
  go_wp2_with (first | (go_at_call 40; refine (ras8_c _ h en).mono ?_; rw [hs, if_pos rfl]; rintro e w' ⟨rfl, x, rfl⟩; have hm0 := x.h; replace h := h.ext x; generalize x.u = W0 at *; clear x))
  go_loopw [4, 5] (fun v i wr => ∃ k : Nat, k ≤ n ∧ i = .int .i64 k ∧ Ow W0 wr v k (tuR L) ∧ ∃ y : Ext W0, wr = y.u) (fun _ i _ => (n - (intOf i).toNat))
  case atStart => exact ⟨0, by omega, rfl, Ow.nil _ _, Mr.mk' (Mr.refl _)⟩
  case round =>
    obtain ⟨k, hk, rfl, hOw, y, rfl⟩ := hrel
    by_cases hlt : k < n
    · have hlt' : (k : Int) < n := by omega
      have hr3 : ∀ r, r < n → k < (rw' L r).length := fun r hr => by rw [hr1 r hr]; exact hlt
      go_wp2_with (first | (go_at_call 36; refine (rcolO_c k _ (h.mr (by repeat (first | (with_reducible exact Mr.refl _) | (with_reducible apply Mr.drew) | (with_reducible apply Mr.alloc) | (with_reducible apply Mr.ext) | (with_reducible refine Mr.setCell ?_ (by first | (simp; done) | (simp; omega) | omega | (refine leOf0 ?_; (repeat (first | (with_reducible exact Mr.refl _) | (with_reducible apply Mr.drew) | (with_reducible apply Mr.alloc) | (with_reducible apply Mr.ext) | (with_reducible refine Mr.setCell ?_ (by first | (simp; done) | (simp; omega) | omega) _))); done) | (refine leOf ?_; (repeat (first | (with_reducible exact Mr.refl _) | (with_reducible apply Mr.drew) | (with_reducible apply Mr.alloc) | (with_reducible apply Mr.ext) | (with_reducible refine Mr.setCell ?_ (by first | (simp; done) | (simp; omega) | omega) _))); done)) _)))) en (by omega) hr3).mono ?_; rintro e w1 ⟨cv, rfl, x5, rfl, hC⟩))
      obtain ⟨G, cap, rfl, hG, hGs, -, -, -⟩ := owns_set hC (q := 0) (by omega)
      have hC0 : Hid (mk (fun q => gt (rw' L q) k) n = mk (tq L k 0) n) := mk_congr (fun r hr => by unfold tq; rw [if_neg (by omega)])
      go_loopw [7] (fun j wr => ∃ q : Nat, q ≤ n ∧ j = .int .i64 q ∧ wr.ownsRow y.u.heap.size 3 1 (.slice (some ⟨G, 0, none⟩) n cap) n ((mk (tq L k q) n).map (Value.int .i64)) ∧ ∃ z : Ext y.u, wr = z.u) (fun j _ => (n - (intOf j).toNat))
      case atStart => exact ⟨0, by omega, rfl, by rw [← hC0.out]; exact hC, Mr.mk' (by repeat (first | (with_reducible exact Mr.refl _) | (with_reducible apply Mr.drew) | (with_reducible apply Mr.alloc) | (with_reducible apply Mr.ext) | (with_reducible refine Mr.setCell ?_ (by first | (simp; done) | (simp; omega) | omega | (refine leOf0 ?_; (repeat (first | (with_reducible exact Mr.refl _) | (with_reducible apply Mr.drew) | (with_reducible apply Mr.alloc) | (with_reducible apply Mr.ext) | (with_reducible refine Mr.setCell ?_ (by first | (simp; done) | (simp; omega) | omega) _))); done) | (refine leOf ?_; (repeat (first | (with_reducible exact Mr.refl _) | (with_reducible apply Mr.drew) | (with_reducible apply Mr.alloc) | (with_reducible apply Mr.ext) | (with_reducible refine Mr.setCell ?_ (by first | (simp; done) | (simp; omega) | omega) _))); done)) _)))⟩
      case round =>
        obtain ⟨q, hq, rfl, hown, z, rfl⟩ := hrel
        by_cases hqt : q < n
        · have hqt' : (q : Int) < n := by omega
          obtain ⟨G', cap', eG, hG', hGs', hfz, hcl, hset⟩ := owns_set hown hqt
          simp only [Value.slice.injEq, Option.some.injEq, Addr.mk.injEq] at eG
          obtain ⟨⟨rfl, -⟩, -, rfl⟩ := eG
          have hX : ((mk (tq L k q) n).map (Value.int .i64))[q]? = some (.int .i64 (gt (rw' L q) k)) := by
            rw [List.getElem?_map]
            have := gt_mk (tq L k q) n q
            rw [if_pos hqt] at this
            unfold gt at this
            have hl : q < (mk (tq L k q) n).length := by rw [mk_length]; exact hqt
            rw [List.getD_eq_getElem?_getD, List.getElem?_eq_getElem hl] at this
            rw [List.getElem?_eq_getElem hl]
            simp only [Option.getD_some] at this
            rw [this]
            unfold tq
            rw [if_neg (by omega)]
            rfl
          rw [hX] at hcl
          have hset' := hset (.int .i64 (cl (gt (rw' L q) k)))
          rw [tq_step L k q n hqt] at hset'
          clear hX hset hown h hr1 hr3 hs hC hOw hC0
          generalize gt (rw' L q) k = X at *
          go_wp2_with (first | (go_at_call 41; refine (ras_c _ _).mono ?_; rintro e w' ⟨rfl, rfl⟩))
          go_roundw
          case rel => exact ⟨q + 1, by omega, by go_num, hset', Mr.mk' (z.h.setCell (by simpa using hG) _)⟩
          case measure => simp [intOf]; omega
        · obtain rfl : q = n := by omega
          have hRow : Rw z.u (.slice (some ⟨G, 0, none⟩) q cap) (tuR L k) := by
            unfold tuR; rw [en]
            rw [show mk (tq L k q) q = mk (fun r => cl (gt (rw' L r) k)) q from mk_congr (fun r hr => by unfold tq; rw [if_pos hr])] at hown
            exact rw_owns hown (mk_bd (fun j _ => by have := cl_bd (gt (rw' L j) k); omega))
          obtain ⟨vals, hO1, hO2⟩ := hOw
          have hpush : ∀ (v' : Value) (w1 : World), w1.ownsRow W0.heap.size 23 1 v' (k + 1) (vals ++ [.slice (some ⟨G, 0, none⟩) q cap]) → (z.u.alloc (.cells #[.slice (some ⟨G, 0, none⟩) q cap] 23)).grownBy w1 u4.ownBlock → Ow W0 w1 v' (k + 1) (tuR L) := fun v' w1 ho hg =>
            Ow.push ((owns_mr hO1 z.h).alloc _) (fun i hi => ((hO2 i hi).mr z.h).mr ((Mr.refl _).alloc _)) (hRow.mr ((Mr.refl _).alloc _)) ho hg
          have hmr : ∀ (w1 : World), (z.u.alloc (.cells #[.slice (some ⟨G, 0, none⟩) q cap] 23)).grownBy w1 u4.ownBlock → ∃ z' : Ext W0, w1 = z'.u := fun w1 hg => Mr.mk' (((y.h.trans z.h).alloc _).grownBy hg (fun j e => (hO1.lt j e).1))
          clear hRow hown hr1 hr3 h hs hC hC0
          go_wp2_with (first | (at_builtin; refine wpList_append_own _ rfl _ _ 22 rfl W0.heap.size 23 i1 (.slice none 0 0) 1 24 Try.underlying22 hj hy0 hy1 hy2 rfl (by decide) _ _ _ rfl ((owns_mr hO1 z.h).alloc _) ⟨z.u.heap.size, 0, none⟩ 1 1 [.slice (some ⟨G, 0, none⟩) _ cap] rfl rfl (cell_oneS _ _) (one_cellS _ _ _) (by unfold maxLen; omega) (by omega) (by have := y.h.below.size; have := z.h.below.size; simp; omega) ?_; intro v' w1 hown' hgrow _; have hO' := hpush v' w1 hown' hgrow; obtain ⟨z', rfl⟩ := hmr w1 hgrow; clear hgrow hown'))
          go_roundw
          case rel => exact ⟨k + 1, by omega, by go_num, hO', z', rfl⟩
          case measure => simp [intOf]; omega
    · obtain rfl : k = n := by omega
      obtain ⟨a', c', rfl, hR⟩ := hOw.done
      clear h hr1 hs
      go_wp2
      go_ret
      exact ⟨a', c', rfl, by obtain ⟨x, hx⟩ := Mr.mk' (hm0.trans y.h); exact ⟨x, hx, hx ▸ hR⟩⟩
end Ma
end Go.Proofs.Ytkhfkfofggiadaa
/- The document's own answers of layer 8, last part: the one, and the answers where there is no matrix. -/
namespace Go.Proofs.Ytkhfkfofggiadaa
open Go.ChangeShapes Go.WideShapes Go.ChangeAt Go.RowKit
open Go.Proofs.Ytkhfkfofggiadaa.Fx Go.Proofs.Ytkhfkfofggiadaa.Sl Go.Proofs.Ytkhfkfofggiadaa.Sm Go.Proofs.Ytkhfkfofggiadaa.Vc
set_option linter.unusedVariables false
attribute [local go_sem] Ext.cell Ext.froz Ext.lt Ext.lt1 Ext.lt2 Ext.lt3 Ext.all Ext.set_u drew_heap setCell_size Ext.set_size
namespace Ma
theorem made_list (z : Value) (n : Nat) : (madeCells #[z] n).toList = List.replicate n z := by
  apply List.ext_getElem?
  intro i
  by_cases h : i < n
  · rw [List.getElem?_replicate, if_pos h]
    simp [madeCells, h, Nat.mod_one]
  · rw [List.getElem?_replicate, if_neg h]
    simp [madeCells, h]
theorem owns_made (w : World) (n : Nat) (hn : n ≤ maxLen) : (w.alloc (.cells (madeCells #[.int .i64 0] n) 3)).ownsRow w.heap.size 3 1 (.slice (some ⟨w.heap.size, 0, none⟩) n n) n ((mk (fun _ => 0) n).map (Value.int .i64)) := by
  have e : (mk (fun _ => 0) n).map (Value.int .i64) = List.replicate n (.int .i64 0) := by
    unfold mk
    rw [List.map_map]
    exact (List.map_const' (l := List.range n)).trans (by rw [List.length_range])
  refine ⟨by rw [List.length_map, mk_length, Nat.mul_one], .inr ⟨w.heap.size, n, _, rfl, Nat.le_refl _, by show (w.heap.push _)[w.heap.size]? = _; simp; rfl, Nat.le_refl _, hn, ?_, ?_⟩⟩
  · rw [← Array.length_toList, made_list, List.length_replicate, Nat.mul_one]
  · rw [made_list, e, Nat.mul_one, List.take_of_length_le (by rw [List.length_replicate]; exact Nat.le_refl _)]
theorem cell_oneB (w : World) (v : Value) (B : Nat) (hB : w.heap.size = B) : ∀ j u, [v][j]? = some u → (w.alloc (.cells #[v] 23)).cell? ((⟨B, 0, none⟩ : Addr).add j) = some u := by
  subst hB; exact cell_oneS w v
def oneR (n i : Nat) : List Int := mk (fun j => if j = i then 4294967296 else 0) n
set_option maxRecDepth 100000 in
set_option maxHeartbeats 2000000 in
theorem rone8_c (n : Nat) (w : World) (h1 : 1 ≤ n) (h6 : n ≤ 6) :
    Calls Try.prog 21 #[.int .i64 n] w fun e w' => ∃ a' c', e = .returned (.slice a' n c') ∧ ∃ x : Ext w, w' = x.u ∧ Rs x.u a' c' (mkR (oneR n) n) := by
  obtain ⟨i1, hj, hy0, hy1, hy2⟩ := info_parts infoS
  have hmk := run_make_row' (P := Try.prog) 23 3 (.int .i64 0) 8 Try.underlying23 infoI rfl .i64 .i64 n (by omega) (by omega)
  have h1' : (1 : Int) ≤ n := by omega
  have h6' : (n : Int) ≤ 6 := by omega
  go_enter Try.func21, Try.ntmps21
  go_wp2
  go_loopw [3, 4] (fun v i wr => ∃ k : Nat, k ≤ n ∧ i = .int .i64 k ∧ Ow w wr v k (oneR n) ∧ ∃ y : Ext w, wr = y.u) (fun _ i _ => (n - (intOf i).toNat))
  case atStart => exact ⟨0, by omega, rfl, Ow.nil _ _, Mr.mk' (Mr.refl _)⟩
  case round =>
    obtain ⟨k, hk, rfl, hOw, y, rfl⟩ := hrel
    by_cases hlt : k < n
    · have hlt' : (k : Int) < n := by omega
      obtain ⟨g, cap, eg, hG, hGs, hfz, hcl, hset⟩ := owns_set (owns_made y.u n (by unfold maxLen; omega)) hlt
      simp only [Value.slice.injEq, Option.some.injEq, Addr.mk.injEq] at eg
      obtain ⟨⟨rfl, -⟩, -, rfl⟩ := eg
      have hs := hset (.int .i64 4294967296)
      rw [← List.map_set, mk_set _ _ _ hlt] at hs
      have eW : (y.u.alloc (.cells (madeCells #[.int .i64 0] n) 3)).setCell ⟨y.u.heap.size, k, none⟩ (.int .i64 4294967296) = (y.u.alloc (.cells ((madeCells #[.int .i64 0] n).setIfInBounds k (.int .i64 4294967296)) 3)) := by simp [go_sem]
      have hRow : Rw (y.u.alloc (.cells ((madeCells #[.int .i64 0] n).setIfInBounds k (.int .i64 4294967296)) 3)) (.slice (some ⟨y.u.heap.size, 0, none⟩) n n) (oneR n k) := by rw [← eW]; exact rw_owns hs (mk_bd (fun j _ => by split <;> omega))
      obtain ⟨vals, hO1, hO2⟩ := hOw
      have m1 : Mr y.u (y.u.alloc (.cells ((madeCells #[.int .i64 0] n).setIfInBounds k (.int .i64 4294967296)) 3)) := (Mr.refl _).alloc _
      have hpush : ∀ (v' : Value) (w1 : World), w1.ownsRow w.heap.size 23 1 v' (k + 1) (vals ++ [.slice (some ⟨y.u.heap.size, 0, none⟩) n n]) → ((y.u.alloc (.cells ((madeCells #[.int .i64 0] n).setIfInBounds k (.int .i64 4294967296)) 3)).alloc (.cells #[.slice (some ⟨y.u.heap.size, 0, none⟩) n n] 23)).grownBy w1 u3.ownBlock → Ow w w1 v' (k + 1) (oneR n) := fun v' w1 ho hg =>
        Ow.push ((owns_mr hO1 m1).alloc _) (fun i hi => ((hO2 i hi).mr m1).mr ((Mr.refl _).alloc _)) (hRow.mr ((Mr.refl _).alloc _)) ho hg
      have hmr : ∀ (w1 : World), ((y.u.alloc (.cells ((madeCells #[.int .i64 0] n).setIfInBounds k (.int .i64 4294967296)) 3)).alloc (.cells #[.slice (some ⟨y.u.heap.size, 0, none⟩) n n] 23)).grownBy w1 u3.ownBlock → ∃ z' : Ext w, w1 = z'.u := fun w1 hg => Mr.mk' (((y.h.trans m1).alloc _).grownBy hg (fun j e => (hO1.lt j e).1))
      have hsz := y.h.below.size
      have hmc : (madeCells #[.int .i64 0] n)[k]? = some (.int .i64 0) := by
        rw [← Array.getElem?_toList, made_list, List.getElem?_replicate, if_pos hlt]
      clear hRow eW hs hset hcl hfz hGs hG
      go_wp2_with (first | (at_builtin; refine wpList_append_own _ rfl _ _ 22 rfl w.heap.size 23 i1 (.slice none 0 0) 1 24 Try.underlying22 hj hy0 hy1 hy2 rfl (by decide) _ _ _ rfl ((owns_mr hO1 m1).alloc _) ⟨y.u.heap.size + 1, 0, none⟩ 1 1 [.slice (some ⟨y.u.heap.size, 0, none⟩) n n] rfl rfl (cell_oneB _ _ _ (by simp)) (one_cellS _ _ _) (by unfold maxLen; omega) (by omega) (by simp; omega) ?_; intro v' w1 hown' hgrow _; have hO' := hpush v' w1 hown' hgrow; obtain ⟨z', rfl⟩ := hmr w1 hgrow; clear hgrow hown'))
      go_roundw
      case rel => exact ⟨k + 1, by omega, by go_num, hO', z', rfl⟩
      case measure => simp [intOf]; omega
    · obtain rfl : k = n := by omega
      obtain ⟨a', c', rfl, hR⟩ := hOw.done
      go_wp2
      go_ret
      exact ⟨a', c', rfl, y, rfl, hR⟩
theorem radd8_no {a b : Option Addr} {c d n m : Nat} {L M : List (List Int)} (w : World) (h : Rs w a c L) (en : L.length = n) (g : Rs w b d M) (em : M.length = m) (hs : (Sl.sq L && Sl.sq M && decide ((n : Int) = m)) = false) :
    Calls Try.prog 11 #[.slice a n c, .slice b m d] w fun e w' => e = .returned (.tuple #[.slice none 0 0, .bool true]) ∧ ∃ x : Ext w, w' = x.u := by
  go_enter Try.func11, Try.ntmps11
  go_wp2_with (first | (go_at_call 30; refine (rboth_c _ h en g em).mono ?_; rw [hs]; rintro e w' ⟨rfl, x, rfl⟩))
  go_ret2
  exact ⟨rfl, Mr.mk' (by repeat (first | (with_reducible exact Mr.refl _) | (with_reducible apply Mr.drew) | (with_reducible apply Mr.alloc) | (with_reducible apply Mr.ext) | (with_reducible refine Mr.setCell ?_ (by first | (simp; done) | (simp; omega) | omega | (refine leOf0 ?_; (repeat (first | (with_reducible exact Mr.refl _) | (with_reducible apply Mr.drew) | (with_reducible apply Mr.alloc) | (with_reducible apply Mr.ext) | (with_reducible refine Mr.setCell ?_ (by first | (simp; done) | (simp; omega) | omega) _))); done) | (refine leOf ?_; (repeat (first | (with_reducible exact Mr.refl _) | (with_reducible apply Mr.drew) | (with_reducible apply Mr.alloc) | (with_reducible apply Mr.ext) | (with_reducible refine Mr.setCell ?_ (by first | (simp; done) | (simp; omega) | omega) _))); done)) _)))⟩
theorem rmul8_no {a b : Option Addr} {c d n m : Nat} {L M : List (List Int)} (w : World) (h : Rs w a c L) (en : L.length = n) (g : Rs w b d M) (em : M.length = m) (hs : (Sl.sq L && Sl.sq M && decide ((n : Int) = m)) = false) :
    Calls Try.prog 13 #[.slice a n c, .slice b m d] w fun e w' => e = .returned (.tuple #[.slice none 0 0, .bool true]) ∧ ∃ x : Ext w, w' = x.u := by
  go_enter Try.func13, Try.ntmps13
  go_wp2_with (first | (go_at_call 30; refine (rboth_c _ h en g em).mono ?_; rw [hs]; rintro e w' ⟨rfl, x, rfl⟩))
  go_ret2
  exact ⟨rfl, Mr.mk' (by repeat (first | (with_reducible exact Mr.refl _) | (with_reducible apply Mr.drew) | (with_reducible apply Mr.alloc) | (with_reducible apply Mr.ext) | (with_reducible refine Mr.setCell ?_ (by first | (simp; done) | (simp; omega) | omega | (refine leOf0 ?_; (repeat (first | (with_reducible exact Mr.refl _) | (with_reducible apply Mr.drew) | (with_reducible apply Mr.alloc) | (with_reducible apply Mr.ext) | (with_reducible refine Mr.setCell ?_ (by first | (simp; done) | (simp; omega) | omega) _))); done) | (refine leOf ?_; (repeat (first | (with_reducible exact Mr.refl _) | (with_reducible apply Mr.drew) | (with_reducible apply Mr.alloc) | (with_reducible apply Mr.ext) | (with_reducible refine Mr.setCell ?_ (by first | (simp; done) | (simp; omega) | omega) _))); done)) _)))⟩
theorem rapply8_no {a b : Option Addr} {c d n m : Nat} {L : List (List Int)} {v : List Int} (w : World) (h : Rs w a c L) (en : L.length = n) (g : Is w b d v) (em : v.length = m) (hs : (Sl.sq L && decide ((m : Int) = n)) = false) :
    Calls Try.prog 15 #[.slice a n c, .slice b m d] w fun e w' => e = .returned (.tuple #[.slice none 0 0, .bool true]) ∧ ∃ x : Ext w, w' = x.u := by
  cases hb : Sl.sq L
  · clear hs
    go_enter Try.func15, Try.ntmps15
    go_wp2_with (first | (go_at_call 19; refine (rsane8_c _ h en).mono ?_; rw [hb]; rintro e w' ⟨rfl, x, rfl⟩))
    go_ret2
    exact ⟨rfl, Mr.mk' (by repeat (first | (with_reducible exact Mr.refl _) | (with_reducible apply Mr.drew) | (with_reducible apply Mr.alloc) | (with_reducible apply Mr.ext) | (with_reducible refine Mr.setCell ?_ (by first | (simp; done) | (simp; omega) | omega | (refine leOf0 ?_; (repeat (first | (with_reducible exact Mr.refl _) | (with_reducible apply Mr.drew) | (with_reducible apply Mr.alloc) | (with_reducible apply Mr.ext) | (with_reducible refine Mr.setCell ?_ (by first | (simp; done) | (simp; omega) | omega) _))); done) | (refine leOf ?_; (repeat (first | (with_reducible exact Mr.refl _) | (with_reducible apply Mr.drew) | (with_reducible apply Mr.alloc) | (with_reducible apply Mr.ext) | (with_reducible refine Mr.setCell ?_ (by first | (simp; done) | (simp; omega) | omega) _))); done)) _)))⟩
  · rw [hb, Bool.true_and, decide_eq_false_iff_not] at hs
    go_enter Try.func15, Try.ntmps15
    go_wp2_with (first | (go_at_call 19; refine (rsane8_c _ h en).mono ?_; rw [hb]; rintro e w' ⟨rfl, x, rfl⟩))
    go_ret2
    exact ⟨rfl, Mr.mk' (by repeat (first | (with_reducible exact Mr.refl _) | (with_reducible apply Mr.drew) | (with_reducible apply Mr.alloc) | (with_reducible apply Mr.ext) | (with_reducible refine Mr.setCell ?_ (by first | (simp; done) | (simp; omega) | omega | (refine leOf0 ?_; (repeat (first | (with_reducible exact Mr.refl _) | (with_reducible apply Mr.drew) | (with_reducible apply Mr.alloc) | (with_reducible apply Mr.ext) | (with_reducible refine Mr.setCell ?_ (by first | (simp; done) | (simp; omega) | omega) _))); done) | (refine leOf ?_; (repeat (first | (with_reducible exact Mr.refl _) | (with_reducible apply Mr.drew) | (with_reducible apply Mr.alloc) | (with_reducible apply Mr.ext) | (with_reducible refine Mr.setCell ?_ (by first | (simp; done) | (simp; omega) | omega) _))); done)) _)))⟩
theorem reven8_no {a : Option Addr} {c n : Nat} {L : List (List Int)} (w : World) (h : Rs w a c L) (en : L.length = n) (hs : Sl.sq L = false) :
    Calls Try.prog 25 #[.slice a n c] w fun e w' => e = .returned (.slice none 0 0) ∧ ∃ x : Ext w, w' = x.u := by
  go_enter Try.func25, Try.ntmps25
  go_wp2_with (first | (go_at_call 40; refine (ras8_c _ h en).mono ?_; rw [hs]; simp only [Bool.false_eq_true, if_false]; rintro e w' ⟨rfl, x, rfl⟩))
  go_loopw [4, 5] (fun v i wr => v = .slice none 0 0 ∧ i = .int .i64 0 ∧ wr = x.u) (fun _ _ _ => 0)
  case atStart => exact ⟨rfl, rfl, rfl⟩
  case round =>
    obtain ⟨rfl, rfl, rfl⟩ := hrel
    go_wp2
    go_ret
    exact ⟨rfl, Mr.mk' (by repeat (first | (with_reducible exact Mr.refl _) | (with_reducible apply Mr.drew) | (with_reducible apply Mr.alloc) | (with_reducible apply Mr.ext) | (with_reducible refine Mr.setCell ?_ (by first | (simp; done) | (simp; omega) | omega | (refine leOf0 ?_; (repeat (first | (with_reducible exact Mr.refl _) | (with_reducible apply Mr.drew) | (with_reducible apply Mr.alloc) | (with_reducible apply Mr.ext) | (with_reducible refine Mr.setCell ?_ (by first | (simp; done) | (simp; omega) | omega) _))); done) | (refine leOf ?_; (repeat (first | (with_reducible exact Mr.refl _) | (with_reducible apply Mr.drew) | (with_reducible apply Mr.alloc) | (with_reducible apply Mr.ext) | (with_reducible refine Mr.setCell ?_ (by first | (simp; done) | (simp; omega) | omega) _))); done)) _)))⟩
theorem rturned8_no {a : Option Addr} {c n : Nat} {L : List (List Int)} (w : World) (h : Rs w a c L) (en : L.length = n) (hs : Sl.sq L = false) :
    Calls Try.prog 23 #[.slice a n c] w fun e w' => e = .returned (.slice none 0 0) ∧ ∃ x : Ext w, w' = x.u := by
  go_enter Try.func23, Try.ntmps23
  go_wp2_with (first | (go_at_call 40; refine (ras8_c _ h en).mono ?_; rw [hs]; simp only [Bool.false_eq_true, if_false]; rintro e w' ⟨rfl, x, rfl⟩))
  go_loopw [4, 5] (fun v i wr => v = .slice none 0 0 ∧ i = .int .i64 0 ∧ wr = x.u) (fun _ _ _ => 0)
  case atStart => exact ⟨rfl, rfl, rfl⟩
  case round =>
    obtain ⟨rfl, rfl, rfl⟩ := hrel
    go_wp2
    go_ret
    exact ⟨rfl, Mr.mk' (by repeat (first | (with_reducible exact Mr.refl _) | (with_reducible apply Mr.drew) | (with_reducible apply Mr.alloc) | (with_reducible apply Mr.ext) | (with_reducible refine Mr.setCell ?_ (by first | (simp; done) | (simp; omega) | omega | (refine leOf0 ?_; (repeat (first | (with_reducible exact Mr.refl _) | (with_reducible apply Mr.drew) | (with_reducible apply Mr.alloc) | (with_reducible apply Mr.ext) | (with_reducible refine Mr.setCell ?_ (by first | (simp; done) | (simp; omega) | omega) _))); done) | (refine leOf ?_; (repeat (first | (with_reducible exact Mr.refl _) | (with_reducible apply Mr.drew) | (with_reducible apply Mr.alloc) | (with_reducible apply Mr.ext) | (with_reducible refine Mr.setCell ?_ (by first | (simp; done) | (simp; omega) | omega) _))); done)) _)))⟩
theorem rone8_no (n : Int) (w : World) (hn : n < 1 ∨ 6 < n) :
    Calls Try.prog 21 #[.int .i64 n] w fun e w' => e = .returned (.slice none 0 0) ∧ ∃ x : Ext w, w' = x.u := by
  rcases hn with hn | hn
  · go_enter Try.func21, Try.ntmps21
    go_wp2
    go_ret
    exact ⟨rfl, Mr.mk' (by repeat (first | (with_reducible exact Mr.refl _) | (with_reducible apply Mr.drew) | (with_reducible apply Mr.alloc) | (with_reducible apply Mr.ext) | (with_reducible refine Mr.setCell ?_ (by first | (simp; done) | (simp; omega) | omega | (refine leOf0 ?_; (repeat (first | (with_reducible exact Mr.refl _) | (with_reducible apply Mr.drew) | (with_reducible apply Mr.alloc) | (with_reducible apply Mr.ext) | (with_reducible refine Mr.setCell ?_ (by first | (simp; done) | (simp; omega) | omega) _))); done) | (refine leOf ?_; (repeat (first | (with_reducible exact Mr.refl _) | (with_reducible apply Mr.drew) | (with_reducible apply Mr.alloc) | (with_reducible apply Mr.ext) | (with_reducible refine Mr.setCell ?_ (by first | (simp; done) | (simp; omega) | omega) _))); done)) _)))⟩
  · have h1 : ¬ n < 1 := by omega
    go_enter Try.func21, Try.ntmps21
    go_wp2
    go_ret
    exact ⟨rfl, Mr.mk' (by repeat (first | (with_reducible exact Mr.refl _) | (with_reducible apply Mr.drew) | (with_reducible apply Mr.alloc) | (with_reducible apply Mr.ext) | (with_reducible refine Mr.setCell ?_ (by first | (simp; done) | (simp; omega) | omega | (refine leOf0 ?_; (repeat (first | (with_reducible exact Mr.refl _) | (with_reducible apply Mr.drew) | (with_reducible apply Mr.alloc) | (with_reducible apply Mr.ext) | (with_reducible refine Mr.setCell ?_ (by first | (simp; done) | (simp; omega) | omega) _))); done) | (refine leOf ?_; (repeat (first | (with_reducible exact Mr.refl _) | (with_reducible apply Mr.drew) | (with_reducible apply Mr.alloc) | (with_reducible apply Mr.ext) | (with_reducible refine Mr.setCell ?_ (by first | (simp; done) | (simp; omega) | omega) _))); done)) _)))⟩
end Ma
end Go.Proofs.Ytkhfkfofggiadaa
