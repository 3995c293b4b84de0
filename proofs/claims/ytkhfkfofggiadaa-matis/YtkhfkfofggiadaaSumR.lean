/- Lists of integers that come in, pieces of them, and written ones. -/
import Derived.Test.YtkhfkfofggiadaaSumM
import Derived.Deep.AppendLies
import Derived.Laws.AppendOwnNone
namespace Go.Proofs.Ytkhfkfofggiadaa
open Go.ChangeShapes Go.WideShapes Go.ChangeAt Go.RowKit
open Go.Proofs.Ytkhfkfofggiadaa.Fx
/-- What the walk is told of a slice of integers that came in. -/
def IsRow (k : IntKind) (w : World) (a : Option Addr) (len cap : Nat) (zs : List Int) : Prop :=
  (a = none ∧ len = 0 ∧ cap = 0 ∧ zs = []) ∨
  ∃ x, a = some x ∧ len ≤ cap ∧ cap ≤ maxLen ∧ zs.length = cap ∧ (∀ i, i < zs.length → w.cell? (x.add i) = some (.int k (zs.getD i 0))) ∧ ∀ n ∈ zs, (Lit.int k n).wf = true
namespace Sl
theorem spot_none {w : World} {x : Addr} {v : Value} (h : w.cell? x = some v) : x.spot = none ∧ x.block < w.heap.size := by
  unfold World.cell? at h
  cases hb : w.heap[x.block]? with
  | none => simp [hb] at h
  | some o =>
    refine ⟨?_, (Array.getElem?_eq_some_iff.1 hb).1⟩
    cases hs : x.spot with
    | none => rfl
    | some k => cases o <;> simp [hb, hs] at h
theorem of_row {w : World} {a : Option Addr} {n c : Nat} {z : List Int} (h : IsRow .i64 w a n c z) : ∃ l : List Int, l.length = n ∧ Is w a c l := by
  rcases h with ⟨rfl, rfl, rfl, rfl⟩ | ⟨x, rfl, h1, h2, h3, h4, h5⟩
  · exact ⟨[], rfl, by simp, by simp [maxLen], fun _ => rfl, fun j hj => by simp at hj, fun j => by simp [gt]⟩
  · have hl : (z.take n).length = n := by rw [List.length_take]; omega
    refine ⟨z.take n, hl, by omega, h2, fun e => (by cases e), fun j hj => ?_, fun j => ?_⟩
    · rw [hl] at hj ⊢
      have h0 := h4 0 (by omega)
      rw [Addr.add, if_pos rfl] at h0
      obtain ⟨s1, s2⟩ := spot_none h0
      obtain ⟨b, o, s⟩ := x
      simp only at s1 s2
      subst s1
      refine ⟨b, o, rfl, s2, fun i hi => ?_⟩
      have := h4 i (by omega)
      rw [gt_take, if_pos (by omega)]
      rw [show (⟨b, o + i, none⟩ : Addr) = (⟨b, o, none⟩ : Addr).add i by unfold Addr.add; split <;> simp_all]
      exact this
    · rw [gt_take]
      split
      · unfold gt
        by_cases g : j < z.length
        · rw [List.getD_eq_getElem?_getD, List.getElem?_eq_getElem g]
          exact Fx.bd (h5 _ (List.getElem_mem g))
        · rw [List.getD_eq_getElem?_getD, List.getElem?_eq_none (by omega)]
          simp
      · omega
/-- A written list. -/
theorem of_cells {w : World} (xs : List Int) (hb : ∀ j, -9223372036854775808 ≤ gt xs j ∧ gt xs j ≤ 9223372036854775807) (hm : xs.length ≤ maxLen) (vs : Array Value) (hv : vs.toList = xs.map (Value.int .i64)) : Is (w.alloc (.cells vs 3)) (some ⟨w.heap.size, 0, none⟩) xs.length xs :=
  ⟨Nat.le_refl _, hm, fun h => (by cases h), fun j hj => ⟨w.heap.size, 0, rfl, by simp, fun i hi => by
    have e : vs[i]? = some (.int .i64 (gt xs i)) := by
      rw [← Array.getElem?_toList, hv, List.getElem?_map, List.getElem?_eq_getElem hi]
      unfold gt
      rw [List.getD_eq_getElem?_getD, List.getElem?_eq_getElem hi]
      rfl
    have hn : (w.alloc (.cells vs 3)).heap[w.heap.size]? = some (.cells vs 3) := by show (w.heap.push _)[w.heap.size]? = _; simp
    simp only [World.cell?, hn, Nat.zero_add]
    exact e⟩, hb⟩
/-- A piece from some place on. -/
theorem Is.drop {w : World} {b o c : Nat} {l : List Int} (h : Is w (some ⟨b, o, none⟩) c l) (k : Nat) : Is w (some ⟨b, o + k, none⟩) (c - k) (l.drop k) :=
  ⟨by rw [List.length_drop]; have := h.le; omega, by have := h.max; omega, fun e => (by cases e), fun j hj => by
    rw [List.length_drop] at hj ⊢
    obtain ⟨b', o', e, hb, hc⟩ := h.at' (k + j) (by omega)
    simp only [Option.some.injEq, Addr.mk.injEq] at e
    obtain ⟨rfl, rfl, -⟩ := e
    refine ⟨b, o + k, rfl, hb, fun i hi => ?_⟩
    rw [gt_drop, Nat.add_assoc]; exact hc (k + i) (by omega), fun j => by rw [gt_drop]; exact h.bd _⟩
theorem is_nil {w : World} (a : Option Addr) {c : Nat} (hm : c ≤ maxLen) (hn : a = none → c = 0) : Is w a c [] := ⟨by simp, hm, hn, fun j hj => by simp at hj, fun j => by simp [gt]⟩
/-- A piece between two places, as slicing lays it. -/
theorem Is.piece {w : World} {a : Option Addr} {c : Nat} {l : List Int} (h : Is w a c l) {A Z : Nat} (h1 : A ≤ Z) (h2 : Z ≤ l.length) : Is w (if c = A then a else a.map (·.add (A * 1))) (c - A) ((l.take Z).drop A) := by
  have hm := h.max
  have hl := h.le
  by_cases g : A = Z
  · rw [List.drop_eq_nil_of_le (by rw [List.length_take]; omega)]
    refine is_nil _ (by omega) (fun e => ?_)
    split at e
    · have := h.nil e; omega
    · cases a with
      | none => have := h.nil rfl; omega
      | some x => simp at e
  · obtain ⟨b, o, rfl, -, -⟩ := h.at' A (by omega)
    rw [if_neg (by omega)]
    have := (h.take Z).drop A
    rw [Option.map_some, Nat.mul_one]
    rw [show (⟨b, o, none⟩ : Addr).add A = ⟨b, o + A, none⟩ by unfold Addr.add; split <;> simp_all]
    exact this
theorem Is.cells {w W : World} {x : Addr} {c : Nat} {l : List Int} (h : Is w (some x) c l) (hm : Mr w W) (j : Nat) (u : Value) (e : (l.map (Value.int .i64))[j]? = some u) : W.cell? (x.add j) = some u := by
  have hj : j < l.length := by
    have := (List.getElem?_eq_some_iff.1 e).1
    rwa [List.length_map] at this
  obtain ⟨b, o, ex, hb, hc⟩ := h.at' j hj
  obtain rfl : x = ⟨b, o, none⟩ := by simpa using ex
  have h1 := (h.mr hm).at' j hj
  obtain ⟨b', o', ex', hb', hc'⟩ := h1
  simp only [Option.some.injEq, Addr.mk.injEq] at ex'
  obtain ⟨rfl, rfl, -⟩ := ex'
  have h2 := hc' j hj
  rw [show (⟨b, o, none⟩ : Addr).add j = ⟨b, o + j, none⟩ by unfold Addr.add; split <;> simp_all, h2]
  rw [List.getElem?_map, List.getElem?_eq_getElem hj] at e
  unfold gt
  rw [List.getD_eq_getElem?_getD, List.getElem?_eq_getElem hj]
  exact e
end Sl
end Go.Proofs.Ytkhfkfofggiadaa
