/- The document's own answers of layer 8, second part: columns, and lists of rows that are made. -/
import Derived.Test.YtpammdogkkipbaaMatS
import Derived.Test.YtpammdogkkipbaaRefC11
namespace Go.Proofs.Ytpammdogkkipbaa
open Go.ChangeShapes Go.WideShapes Go.ChangeAt Go.RowKit
open Go.Proofs.Ytpammdogkkipbaa.Fx Go.Proofs.Ytpammdogkkipbaa.Sl Go.Proofs.Ytpammdogkkipbaa.Sm
set_option linter.unusedVariables false
attribute [local go_sem] Ext.cell Ext.froz Ext.lt Ext.lt1 Ext.lt2 Ext.lt3 Ext.all Ext.set_u drew_heap setCell_size Ext.set_size
namespace Ma
/-- A column. -/
def col (L : List (List Int)) (j : Nat) : List Int := L.map (fun r => gt r j)
/-- What a function makes of the places, in their order. -/
def mk (f : Nat → Int) (n : Nat) : List Int := (List.range n).map f
theorem mk_succ (f : Nat → Int) (n : Nat) : mk f (n + 1) = mk f n ++ [f n] := by simp [mk, List.range_succ]
theorem mk_length (f : Nat → Int) (n : Nat) : (mk f n).length = n := by simp [mk]
theorem gt_mk (f : Nat → Int) (n j : Nat) : gt (mk f n) j = if j < n then f j else 0 := by
  unfold gt mk
  rw [List.getD_eq_getElem?_getD, List.getElem?_map]
  by_cases h : j < n
  · rw [List.getElem?_range h, if_pos h]; rfl
  · rw [List.getElem?_eq_none (by simpa using h), if_neg h]; rfl
theorem mk_bd {f : Nat → Int} {n : Nat} (h : ∀ j, j < n → -9223372036854775808 ≤ f j ∧ f j ≤ 9223372036854775807) (j : Nat) : -9223372036854775808 ≤ gt (mk f n) j ∧ gt (mk f n) j ≤ 9223372036854775807 := by
  rw [gt_mk]; split
  · exact h j (by assumption)
  · omega
theorem col_mk (L : List (List Int)) (j : Nat) : col L j = mk (fun k => gt (rw' L k) j) L.length := by
  apply list_eq (by simp [col, mk])
  intro k hk
  rw [gt_mk]
  unfold col at hk
  rw [List.length_map] at hk
  rw [if_pos hk]
  unfold gt col rw'
  rw [List.getD_eq_getElem?_getD, List.getElem?_map, List.getD_eq_getElem?_getD (l := L), List.getElem?_eq_getElem hk]
  rfl
end Ma
end Go.Proofs.Ytpammdogkkipbaa
/- Lists of rows that a call gathers by appends. -/
namespace Go.Proofs.Ytpammdogkkipbaa
open Go.ChangeShapes Go.WideShapes Go.ChangeAt Go.RowKit
open Go.Proofs.Ytpammdogkkipbaa.Fx Go.Proofs.Ytpammdogkkipbaa.Sl Go.Proofs.Ytpammdogkkipbaa.Sm
set_option linter.unusedVariables false
namespace Ma
/-- A value that is a list of integers, in memory that holds integers alone. -/
def Rw (w : World) (v : Value) (l : List Int) : Prop := ∃ ra rc, v = .slice ra l.length rc ∧ Is w ra rc l ∧ ∀ b o, ra = some ⟨b, o, none⟩ → ∃ cs fz, w.heap[b]? = some (.cells cs 3 fz)
theorem Rw.mr {w w' : World} {v : Value} {l : List Int} (h : Rw w v l) (m : Mr w w') : Rw w' v l := by
  obtain ⟨ra, rc, e, hI, ht⟩ := h
  refine ⟨ra, rc, e, hI.mr m, fun b o hb => ?_⟩
  obtain ⟨cs, fz, hc⟩ := ht b o hb
  exact ⟨cs, fz, by rw [m.below.block b (Array.getElem?_eq_some_iff.1 hc).1]; exact hc⟩
theorem is_block {w w' : World} {ra : Option Addr} {rc : Nat} {l : List Int} (h : Is w ra rc l) (hs : w.heap.size ≤ w'.heap.size) (hb : ∀ b o, ra = some ⟨b, o, none⟩ → w'.heap[b]? = w.heap[b]?) : Is w' ra rc l :=
  ⟨h.le, h.max, h.nil, fun j hj => by
    obtain ⟨b, o, e, hlt, hc⟩ := h.at' j hj
    refine ⟨b, o, e, Nat.lt_of_lt_of_le hlt hs, fun i hi => ?_⟩
    rw [← hc i hi]
    exact World.cell?_of_block (a := ⟨b, o + i, none⟩) (hb b o e), h.bd⟩
/-- What is gathered so far: k rows. -/
def Ow (w W : World) (v : Value) (k : Nat) (F : Nat → List Int) : Prop := ∃ vals : List Value, W.ownsRow w.heap.size 23 1 v k vals ∧ ∀ i, i < k → Rw W (vals.getD i undef) (F i)
theorem Ow.nil (w : World) (F : Nat → List Int) : Ow w w (.slice none 0 0) 0 F := ⟨[], World.ownsRow_nil _ _ _ _, fun i hi => by omega⟩
theorem owns_mr {W W' : World} {base e s n : Nat} {v : Value} {xs : List Value} (h : W.ownsRow base e s v n xs) (m : Mr W W') : W'.ownsRow base e s v n xs := by
  obtain ⟨h1, h2 | ⟨g, cap, cur, e1, hb, hc, hr⟩⟩ := h
  · exact ⟨h1, .inl h2⟩
  · exact ⟨h1, .inr ⟨g, cap, cur, e1, hb, by rw [m.below.block g (Array.getElem?_eq_some_iff.1 hc).1]; exact hc, hr⟩⟩
theorem Ow.mr {w W W' : World} {v : Value} {k : Nat} {F : Nat → List Int} (h : Ow w W v k F) (m : Mr W W') : Ow w W' v k F := by
  obtain ⟨vals, h1, h2⟩ := h
  exact ⟨vals, owns_mr h1 m, fun i hi => (h2 i hi).mr m⟩
theorem Rw.grown {W W' : World} {base s n : Nat} {v u : Value} {xs : List Value} {l : List Int} (h : Rw W u l) (ho : W.ownsRow base 23 s v n xs) (hg : W.grownBy W' v.ownBlock) : Rw W' u l := by
  obtain ⟨ra, rc, e, hI, ht⟩ := h
  have key : ∀ b o, ra = some ⟨b, o, none⟩ → W'.heap[b]? = W.heap[b]? := fun b o hb => by
    obtain ⟨cs, fz, hc⟩ := ht b o hb
    refine hg.block b (Array.getElem?_eq_some_iff.1 hc).1 (fun e' => ?_)
    obtain ⟨-, ⟨rfl, -⟩ | ⟨g, cap, cur, rfl, -, hc', -⟩⟩ := ho
    · cases e'
    · simp only [Value.ownBlock, Option.some.injEq] at e'
      subst e'
      rw [hc] at hc'
      simp only [Option.some.injEq, Obj.cells.injEq] at hc'
      exact absurd hc'.2.1 (by decide)
  refine ⟨ra, rc, e, is_block hI hg.size key, fun b o hb => ?_⟩
  obtain ⟨cs, fz, hc⟩ := ht b o hb
  exact ⟨cs, fz, by rw [key b o hb]; exact hc⟩
/-- One row more. -/
theorem Ow.push {w W W' : World} {v v' u : Value} {k : Nat} {F : Nat → List Int} {vals : List Value} (ho : W.ownsRow w.heap.size 23 1 v k vals) (h : ∀ i, i < k → Rw W (vals.getD i undef) (F i)) (hu : Rw W u (F k)) (ho' : W'.ownsRow w.heap.size 23 1 v' (k + 1) (vals ++ [u])) (hg : W.grownBy W' v.ownBlock) : Ow w W' v' (k + 1) F := by
  refine ⟨vals ++ [u], ho', fun i hi => ?_⟩
  have hl : vals.length = k := by have := ho.1; omega
  rw [List.getD_eq_getElem?_getD]
  rcases Nat.lt_or_ge i k with g | g
  · have := (h i g).grown ho hg
    rw [List.getElem?_append_left (by omega)]
    rwa [List.getD_eq_getElem?_getD] at this
  · obtain rfl : i = k := by omega
    rw [List.getElem?_append_right (by omega), hl, Nat.sub_self]
    exact hu.grown ho hg
/-- Lists that a function makes of the places. -/
def mkR (F : Nat → List Int) (n : Nat) : List (List Int) := (List.range n).map F
theorem mkR_length (F : Nat → List Int) (n : Nat) : (mkR F n).length = n := by simp [mkR]
theorem rw_mkR (F : Nat → List Int) (n j : Nat) (h : j < n) : rw' (mkR F n) j = F j := by
  unfold rw' mkR
  rw [List.getD_eq_getElem?_getD, List.getElem?_map, List.getElem?_range h]; rfl
theorem Ow.done {w W : World} {v : Value} {n : Nat} {F : Nat → List Int} (h : Ow w W v n F) : ∃ a c, v = .slice a n c ∧ Rs W a c (mkR F n) := by
  obtain ⟨vals, ⟨h1, ⟨rfl, h0⟩ | ⟨g, cap, cur, rfl, hg, hc, hle, hm, hs, ht⟩⟩, h2⟩ := h
  · subst h0
    exact ⟨none, 0, rfl, by simp [mkR], by simp [maxLen], fun _ => rfl, fun j hj => by simp [mkR] at hj⟩
  · refine ⟨some ⟨g, 0, none⟩, cap, rfl, by rw [mkR_length]; exact hle, hm, fun e => (by cases e), fun j hj => ⟨g, 0, rfl, (Array.getElem?_eq_some_iff.1 hc).1, fun i hi => ?_⟩⟩
    rw [mkR_length] at hi
    rw [rw_mkR F n i hi]
    obtain ⟨ra, rc, e, hI, -⟩ := h2 i hi
    refine ⟨ra, rc, ?_, hI⟩
    have hlen : i < vals.length := by omega
    rw [List.getD_eq_getElem?_getD, List.getElem?_eq_getElem hlen] at e
    have e2 : cur.toList[i]? = some vals[i] := by
      rw [← List.getElem?_eq_getElem hlen, ← ht, List.getElem?_take_of_lt (by omega)]
    simp only [Option.getD_some] at e
    rw [e] at e2
    simp [World.cell?, hc]
    simpa using e2
/-- A row that was gathered by appends. -/
theorem rw_owns {W : World} {B n : Nat} {v : Value} {l : List Int} (h : W.ownsRow B 3 1 v n (l.map (Value.int .i64))) (hb : ∀ j, -9223372036854775808 ≤ gt l j ∧ gt l j ≤ 9223372036854775807) : Rw W v l := by
  obtain ⟨a, c, e, hn, hI⟩ := of_owns h hb
  refine ⟨a, c, e, hI, fun b o hab => ?_⟩
  obtain ⟨-, ⟨rfl, -⟩ | ⟨g, cap, cur, rfl, -, hc, -⟩⟩ := h
  · simp only [Value.slice.injEq] at e
    rw [← e.1] at hab
    cases hab
  · simp only [Value.slice.injEq] at e
    rw [← e.1] at hab
    simp only [Option.some.injEq, Addr.mk.injEq] at hab
    obtain ⟨rfl, -⟩ := hab
    exact ⟨_, _, hc⟩
theorem infoS : (Try.prog.info? 23).map (fun i => (i.zero, i.size, i.bytes)) = some (some (.slice none 0 0), 1, 24) := by kernel_rfl
theorem cell_oneS (w : World) (v : Value) : ∀ j u, [v][j]? = some u → (w.alloc (.cells #[v] 23)).cell? ((⟨w.heap.size, 0, none⟩ : Addr).add j) = some u := by
  intro j u hj
  match j, hj with
  | 0, hj => simp at hj; subst hj; simp [Addr.add]
theorem one_cellS (a : Option Addr) (n c : Nat) : ∀ u ∈ [Value.slice a n c], u.oneCell' = true := by
  intro u hu; simp at hu; subst hu; rfl
end Ma
end Go.Proofs.Ytpammdogkkipbaa
