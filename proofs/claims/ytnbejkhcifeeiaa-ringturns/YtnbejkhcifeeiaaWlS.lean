/- Lists of words in memory. -/
import Derived.Test.YtnbejkhcifeeiaaMemC
import Derived.Deep.AppendLies
import Derived.Laws.AppendOwnNone
namespace Go.Proofs.Ytnbejkhcifeeiaa
open Go.ChangeShapes Go.WideShapes Go.ChangeAt Go.RowKit
set_option linter.unusedVariables false
namespace Wl
theorem bd {a : Int} (w0 : (Lit.int .u64 a).wf = true) : 0 ≤ a ∧ a ≤ 18446744073709551615 := by
  have hm : IntKind.u64.min = 0 := by decide
  have hx : IntKind.u64.max = 18446744073709551615 := by decide
  simp only [Lit.wf, Bool.and_eq_true, decide_eq_true_eq, hm, hx] at w0
  exact w0
theorem lt_more {b n k : Nat} (h : b < n) : b < n + k := Nat.lt_add_right k h
/-- The number at a place of a list. -/
def gt (l : List Int) (j : Nat) : Int := l.getD j 0
/-- That a slice leads to a list of words. -/
structure Is (w : World) (a : Option Addr) (c : Nat) (l : List Int) : Prop where
  le : l.length ≤ c
  max : c ≤ maxLen
  nil : a = none → c = 0
  at' : ∀ j, j < l.length → ∃ b o, a = some ⟨b, o, none⟩ ∧ b < w.heap.size ∧ ∀ i, i < l.length → w.cell? ⟨b, o + i, none⟩ = some (.int .u64 (gt l i))
  bd : ∀ j, 0 ≤ gt l j ∧ gt l j ≤ 18446744073709551615
theorem Is.ext {w : World} {a : Option Addr} {c : Nat} {l : List Int} (h : Is w a c l) (x : Ext w) : Is x.u a c l :=
  ⟨h.le, h.max, h.nil, fun j hj => by
    obtain ⟨b, o, e, hb, hc⟩ := h.at' j hj
    refine ⟨b, o, e, Nat.lt_of_lt_of_le hb x.h.below.size, fun i hi => ?_⟩
    rw [Ext.cell x b (o + i) hb]; exact hc i hi, h.bd⟩
theorem Is.mr {w w' : World} {a : Option Addr} {c : Nat} {l : List Int} (h : Is w a c l) (m : Mr w w') : Is w' a c l := h.ext ⟨w', m⟩
/-- An empty one, and one that does not lead to nil. -/
theorem gt_take (l : List Int) (k j : Nat) : gt (l.take k) j = if j < k then gt l j else 0 := by
  unfold gt
  rw [List.getD_eq_getElem?_getD, List.getD_eq_getElem?_getD]
  split
  · rw [List.getElem?_take_of_lt (by assumption)]
  · rw [List.getElem?_eq_none]
    · rfl
    · rw [List.length_take]; omega
theorem gt_drop (l : List Int) (k j : Nat) : gt (l.drop k) j = gt l (k + j) := by
  unfold gt
  rw [List.getD_eq_getElem?_getD, List.getD_eq_getElem?_getD, List.getElem?_drop]
theorem Is.take {w : World} {a : Option Addr} {c : Nat} {l : List Int} (h : Is w a c l) (k : Nat) : Is w a c (l.take k) :=
  ⟨by rw [List.length_take]; have := h.le; omega, h.max, h.nil, fun j hj => by
    rw [List.length_take] at hj ⊢
    obtain ⟨b, o, e, hb, hc⟩ := h.at' j (by omega)
    refine ⟨b, o, e, hb, fun i hi => ?_⟩
    rw [gt_take, if_pos (by omega)]; exact hc i (by omega), fun j => by
    rw [gt_take]; split
    · exact h.bd j
    · omega⟩
/-- What a call has gathered by appends. -/
theorem of_owns {w : World} {B n : Nat} {v : Value} {l : List Int} (h : w.ownsRow B 24 1 v n (l.map (Value.int .u64))) (hb : ∀ j, 0 ≤ gt l j ∧ gt l j ≤ 18446744073709551615) : ∃ a c, v = .slice a l.length c ∧ n = l.length ∧ Is w a c l := by
  obtain ⟨h1, h2⟩ := h
  rw [List.length_map] at h1
  obtain rfl : n = l.length := by omega
  rcases h2 with ⟨rfl, h0⟩ | ⟨g, cap, cur, rfl, hg, hc, hle, hm, hs, ht⟩
  · refine ⟨none, 0, by rw [h0], rfl, by omega, by simp [maxLen], fun _ => rfl, fun j hj => by omega, hb⟩
  · refine ⟨some ⟨g, 0, none⟩, cap, rfl, rfl, hle, hm, fun h => (by cases h), fun j hj => ⟨g, 0, rfl, (Array.getElem?_eq_some_iff.1 hc).1, fun i hi => ?_⟩, hb⟩
    have e : cur.toList[i]? = some (.int .u64 (gt l i)) := by
      have := congrArg (·[i]?) ht
      simp only [List.getElem?_map] at this
      rw [List.getElem?_take_of_lt (by omega)] at this
      rw [this]
      unfold gt
      rw [List.getD_eq_getElem?_getD, List.getElem?_eq_getElem hi]
      rfl
    simp [World.cell?, hc]
    simpa using e
/-- The first numbers of a list, one more. -/
theorem take_more (l : List Int) (k : Nat) (hk : k < l.length) : l.take (k + 1) = l.take k ++ [gt l k] := by
  rw [List.take_add_one, List.getElem?_eq_getElem hk]
  unfold gt
  rw [List.getD_eq_getElem?_getD, List.getElem?_eq_getElem hk]
  rfl
/-- What the walk is told of a slice of integers that came in. -/
def IsRow (k : IntKind) (w : World) (a : Option Addr) (len cap : Nat) (zs : List Int) : Prop :=
  (a = none ∧ len = 0 ∧ cap = 0 ∧ zs = []) ∨
  ∃ x, a = some x ∧ len ≤ cap ∧ cap ≤ maxLen ∧ zs.length = cap ∧ (∀ i, i < zs.length → w.cell? (x.add i) = some (.int k (zs.getD i 0))) ∧ ∀ n ∈ zs, (Lit.int k n).wf = true
theorem spot_none {w : World} {x : Addr} {v : Value} (h : w.cell? x = some v) : x.spot = none ∧ x.block < w.heap.size := by
  unfold World.cell? at h
  cases hb : w.heap[x.block]? with
  | none => simp [hb] at h
  | some o =>
    refine ⟨?_, (Array.getElem?_eq_some_iff.1 hb).1⟩
    cases hs : x.spot with
    | none => rfl
    | some k => cases o <;> simp [hb, hs] at h
theorem of_row {w : World} {a : Option Addr} {n c : Nat} {z : List Int} (h : IsRow .u64 w a n c z) : ∃ l : List Int, l.length = n ∧ Is w a c l := by
  rcases h with ⟨rfl, rfl, rfl, rfl⟩ | ⟨x, rfl, h1, h2, h3, h4, h5⟩
  · exact ⟨[], rfl, by simp, by simp [maxLen], fun _ => rfl, fun j hj => by simp at hj, fun j => by simp [gt]⟩
  · have hl : (z.take n).length = n := by rw [List.length_take]; omega
    refine ⟨z.take n, hl, by omega, h2, fun e => (by cases e), fun j hj => ?_, fun j => ?_⟩
    · rw [hl] at hj ⊢
      have h0 := h4 0 (by omega)
      rw [Addr.add, if_pos rfl] at h0
      obtain ⟨s1, s2⟩ := spot_none h0
      obtain ⟨b, o, s⟩ := x
      simp only at s1 s2
      subst s1
      refine ⟨b, o, rfl, s2, fun i hi => ?_⟩
      have := h4 i (by omega)
      rw [gt_take, if_pos (by omega)]
      rw [show (⟨b, o + i, none⟩ : Addr) = (⟨b, o, none⟩ : Addr).add i by unfold Addr.add; split <;> simp_all]
      exact this
    · rw [gt_take]
      split
      · unfold gt
        by_cases g : j < z.length
        · rw [List.getD_eq_getElem?_getD, List.getElem?_eq_getElem g]
          exact bd (h5 _ (List.getElem_mem g))
        · rw [List.getD_eq_getElem?_getD, List.getElem?_eq_none (by omega)]
          simp
      · omega
/-- A written list. -/
theorem of_cells {w : World} (xs : List Int) (hb : ∀ j, 0 ≤ gt xs j ∧ gt xs j ≤ 18446744073709551615) (hm : xs.length ≤ maxLen) (vs : Array Value) (hv : vs.toList = xs.map (Value.int .u64)) : Is (w.alloc (.cells vs 24)) (some ⟨w.heap.size, 0, none⟩) xs.length xs :=
  ⟨Nat.le_refl _, hm, fun h => (by cases h), fun j hj => ⟨w.heap.size, 0, rfl, by simp, fun i hi => by
    have e : vs[i]? = some (.int .u64 (gt xs i)) := by
      rw [← Array.getElem?_toList, hv, List.getElem?_map, List.getElem?_eq_getElem hi]
      unfold gt
      rw [List.getD_eq_getElem?_getD, List.getElem?_eq_getElem hi]
      rfl
    have hn : (w.alloc (.cells vs 24)).heap[w.heap.size]? = some (.cells vs 24) := by show (w.heap.push _)[w.heap.size]? = _; simp
    simp only [World.cell?, hn, Nat.zero_add]
    exact e⟩, hb⟩
/-- A piece from some place on. -/
theorem Is.drop {w : World} {b o c : Nat} {l : List Int} (h : Is w (some ⟨b, o, none⟩) c l) (k : Nat) : Is w (some ⟨b, o + k, none⟩) (c - k) (l.drop k) :=
  ⟨by rw [List.length_drop]; have := h.le; omega, by have := h.max; omega, fun e => (by cases e), fun j hj => by
    rw [List.length_drop] at hj ⊢
    obtain ⟨b', o', e, hb, hc⟩ := h.at' (k + j) (by omega)
    simp only [Option.some.injEq, Addr.mk.injEq] at e
    obtain ⟨rfl, rfl, -⟩ := e
    refine ⟨b, o + k, rfl, hb, fun i hi => ?_⟩
    rw [gt_drop, Nat.add_assoc]; exact hc (k + i) (by omega), fun j => by rw [gt_drop]; exact h.bd _⟩
theorem is_nil {w : World} (a : Option Addr) {c : Nat} (hm : c ≤ maxLen) (hn : a = none → c = 0) : Is w a c [] := ⟨by simp, hm, hn, fun j hj => by simp at hj, fun j => by simp [gt]⟩
/-- A piece between two places, as slicing lays it. -/
theorem Is.piece {w : World} {a : Option Addr} {c : Nat} {l : List Int} (h : Is w a c l) {A Z : Nat} (h1 : A ≤ Z) (h2 : Z ≤ l.length) : Is w (if c = A then a else a.map (·.add (A * 1))) (c - A) ((l.take Z).drop A) := by
  have hm := h.max
  have hl := h.le
  by_cases g : A = Z
  · rw [List.drop_eq_nil_of_le (by rw [List.length_take]; omega)]
    refine is_nil _ (by omega) (fun e => ?_)
    split at e
    · have := h.nil e; omega
    · cases a with
      | none => have := h.nil rfl; omega
      | some x => simp at e
  · obtain ⟨b, o, rfl, -, -⟩ := h.at' A (by omega)
    rw [if_neg (by omega)]
    have := (h.take Z).drop A
    rw [Option.map_some, Nat.mul_one]
    rw [show (⟨b, o, none⟩ : Addr).add A = ⟨b, o + A, none⟩ by unfold Addr.add; split <;> simp_all]
    exact this
theorem Is.cells {w W : World} {x : Addr} {c : Nat} {l : List Int} (h : Is w (some x) c l) (hm : Mr w W) (j : Nat) (u : Value) (e : (l.map (Value.int .u64))[j]? = some u) : W.cell? (x.add j) = some u := by
  have hj : j < l.length := by
    have := (List.getElem?_eq_some_iff.1 e).1
    rwa [List.length_map] at this
  obtain ⟨b, o, ex, hb, hc⟩ := h.at' j hj
  obtain rfl : x = ⟨b, o, none⟩ := by simpa using ex
  have h1 := (h.mr hm).at' j hj
  obtain ⟨b', o', ex', hb', hc'⟩ := h1
  simp only [Option.some.injEq, Addr.mk.injEq] at ex'
  obtain ⟨rfl, rfl, -⟩ := ex'
  have h2 := hc' j hj
  rw [show (⟨b, o, none⟩ : Addr).add j = ⟨b, o + j, none⟩ by unfold Addr.add; split <;> simp_all, h2]
  rw [List.getElem?_map, List.getElem?_eq_getElem hj] at e
  unfold gt
  rw [List.getD_eq_getElem?_getD, List.getElem?_eq_getElem hj]
  exact e
/-- A number's own place. -/
theorem Is.num {w : World} {a : Option Addr} {c : Nat} {l : List Int} (h : Is w a c l) (i : Nat) (hi : i < l.length) : ∃ b o, a = some ⟨b, o, none⟩ ∧ b < w.heap.size ∧ w.cell? ⟨b, o + i, none⟩ = some (.int .u64 (gt l i)) := by
  obtain ⟨b, o, e, hb, hc⟩ := h.at' i hi
  exact ⟨b, o, e, hb, hc i hi⟩
theorem list_eq {l m : List Int} (hn : l.length = m.length) (h : ∀ j, j < l.length → gt l j = gt m j) : l = m := by
  apply List.ext_getElem? 
  intro j
  by_cases hj : j < l.length
  · have := h j hj
    unfold gt at this
    rw [List.getD_eq_getElem?_getD, List.getElem?_eq_getElem hj, List.getD_eq_getElem?_getD, List.getElem?_eq_getElem (by omega)] at this
    rw [List.getElem?_eq_getElem hj, List.getElem?_eq_getElem (by omega)]
    simpa using this
  · rw [List.getElem?_eq_none (by omega), List.getElem?_eq_none (by omega)]
theorem owns_set {W : World} {base n : Nat} {v : Value} {xs : List Value} (h : W.ownsRow base 24 1 v n xs) {q : Nat} (hq : q < n) : ∃ g cap, v = .slice (some ⟨g, 0, none⟩) n cap ∧ base ≤ g ∧ g < W.heap.size ∧ W.frozen? ⟨g, q, none⟩ = false ∧ (W.cell? ⟨g, q, none⟩ = xs[q]?) ∧ ∀ X, (W.setCell ⟨g, q, none⟩ X).ownsRow base 24 1 v n (xs.set q X) := by
  obtain ⟨h1, ⟨rfl, h0⟩ | ⟨g, cap, cur, rfl, hg, hc, hle, hm, hs, ht⟩⟩ := h
  · omega
  · refine ⟨g, cap, rfl, hg, (Array.getElem?_eq_some_iff.1 hc).1, by simp [World.frozen?, hc], ?_, fun X => ⟨by rw [List.length_set]; exact h1, .inr ⟨g, cap, cur.setIfInBounds q X, rfl, hg, ?_, hle, hm, by rw [Array.size_setIfInBounds]; exact hs, ?_⟩⟩⟩
    · rw [← ht, List.getElem?_take_of_lt (by omega)]
      simp [World.cell?, hc]
    · simp only [World.setCell, Array.getElem?_modify, if_pos, hc, Option.map_some]
      rfl
    · rw [Array.toList_setIfInBounds, ← ht, List.take_set]
theorem infoU : (Try.prog.info? 24).map (fun i => (i.zero, i.size, i.bytes)) = some (some (.int .u64 0), 1, 8) := by kernel_rfl
theorem one_words {X : List Int} : ∀ u ∈ X.map (Value.int .u64), u.oneCell' = true := by
  intro u hu
  rw [List.mem_map] at hu
  obtain ⟨x, _, rfl⟩ := hu
  rfl
/-- A list of words appended to what a call gathers, nil or not. -/
theorem append_words {w : World} {ops : Array Oper} {rest : List Oper} {o : Oper} {a : Act} {Q : Exit → Act → World → Prop} (hgd : o.guard = none) (s x : Operand)
    (ho : o.op = .call { callee := .builtin .append, args := #[s, x], argTypes := #[22, 22] }) (base : Nat) (v : Value) (n : Nat) (xs : List Value) (hs : a.eval s = v) (hown : w.ownsRow base 24 1 v n xs)
    {ad : Option Addr} {c m : Nat} {l : List Int} (hx : a.eval x = .slice ad m c) (hI : Is w ad c l) (hm : l.length = m) (hbytes : n + m ≤ 1000000) (hbase : base ≤ w.heap.size)
    (h : ∀ v' w', w'.ownsRow base 24 1 v' (n + m) (xs ++ l.map (Value.int .u64)) → w.grownBy w' v.ownBlock → wpList Try.prog ops Q rest (a.put o.dst v') w') : wpList Try.prog ops Q (o :: rest) a w := by
  obtain ⟨i0, hi, hz0, hz1, hz2⟩ := info_parts infoU
  cases ad with
  | none =>
    obtain rfl : c = 0 := hI.nil rfl
    have hl := hI.le
    obtain rfl : m = 0 := by omega
    obtain rfl : l = [] := List.eq_nil_of_length_eq_zero hm
    refine wpList_append_own_none hgd s x 22 ho base 24 i0 1 Try.underlying22 hi v n xs hs hown hx (h v w ?_ ⟨rfl, rfl, rfl, Nat.le_refl _, fun _ _ _ => rfl⟩)
    simpa using hown
  | some ad =>
    exact wpList_append_own w hgd s x 22 ho base 24 i0 (.int .u64 0) 1 8 Try.underlying22 hi hz0 hz1 hz2 rfl (by decide) v n xs hs hown ad m c (l.map (Value.int .u64)) hx (by rw [List.length_map, Nat.mul_one]; exact hm) (hI.cells (Mr.refl w)) one_words (by unfold maxLen; omega) (by omega) hbase (fun v' w' h1 h2 _ => h v' w' h1 h2)
end Wl
end Go.Proofs.Ytnbejkhcifeeiaa
