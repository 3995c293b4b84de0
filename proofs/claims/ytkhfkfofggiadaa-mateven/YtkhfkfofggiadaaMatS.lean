/- Lists of lists of integers in memory. -/
import Derived.Test.YtkhfkfofggiadaaSumS
namespace Go.Proofs.Ytkhfkfofggiadaa
open Go.ChangeShapes Go.WideShapes Go.ChangeAt Go.RowKit
open Go.Proofs.Ytkhfkfofggiadaa.Fx
namespace Sl
/-- The row at a place. -/
def rw' (L : List (List Int)) (j : Nat) : List Int := L.getD j []
/-- That a slice leads to a list of rows, each in memory of its own or not. -/
structure Rs (w : World) (a : Option Addr) (c : Nat) (L : List (List Int)) : Prop where
  le : L.length ≤ c
  max : c ≤ maxLen
  nil : a = none → c = 0
  at' : ∀ j, j < L.length → ∃ b o, a = some ⟨b, o, none⟩ ∧ b < w.heap.size ∧ ∀ i, i < L.length → ∃ ra rc, w.cell? ⟨b, o + i, none⟩ = some (.slice ra (rw' L i).length rc) ∧ Is w ra rc (rw' L i)
theorem Rs.ext {w : World} {a : Option Addr} {c : Nat} {L : List (List Int)} (h : Rs w a c L) (x : Ext w) : Rs x.u a c L :=
  ⟨h.le, h.max, h.nil, fun j hj => by
    obtain ⟨b, o, e, hb, hc⟩ := h.at' j hj
    refine ⟨b, o, e, Nat.lt_of_lt_of_le hb x.h.below.size, fun i hi => ?_⟩
    obtain ⟨ra, rc, h1, h2⟩ := hc i hi
    exact ⟨ra, rc, by rw [Ext.cell x b (o + i) hb]; exact h1, h2.ext x⟩⟩
theorem Rs.mr {w w' : World} {a : Option Addr} {c : Nat} {L : List (List Int)} (h : Rs w a c L) (m : Mr w w') : Rs w' a c L := h.ext ⟨w', m⟩
/-- A row's own place. -/
theorem Rs.row {w : World} {a : Option Addr} {c : Nat} {L : List (List Int)} (h : Rs w a c L) (i : Nat) (hi : i < L.length) : ∃ b o ra rc, a = some ⟨b, o, none⟩ ∧ b < w.heap.size ∧ w.cell? ⟨b, o + i, none⟩ = some (.slice ra (rw' L i).length rc) ∧ Is w ra rc (rw' L i) := by
  obtain ⟨b, o, e, hb, hc⟩ := h.at' i hi
  obtain ⟨ra, rc, h1, h2⟩ := hc i hi
  exact ⟨b, o, ra, rc, e, hb, h1, h2⟩
/-- A number's own place. -/
theorem Is.num {w : World} {a : Option Addr} {c : Nat} {l : List Int} (h : Is w a c l) (i : Nat) (hi : i < l.length) : ∃ b o, a = some ⟨b, o, none⟩ ∧ b < w.heap.size ∧ w.cell? ⟨b, o + i, none⟩ = some (.int .i64 (gt l i)) := by
  obtain ⟨b, o, e, hb, hc⟩ := h.at' i hi
  exact ⟨b, o, e, hb, hc i hi⟩
/-- A matrix. -/
def sq (L : List (List Int)) : Bool := L.all (fun r => r.length == L.length) && decide (1 ≤ L.length) && decide (L.length ≤ 6)
def few (L : List (List Int)) : Bool := L.all (fun r => decide (r.length ≤ 20)) && decide (L.length ≤ 20)
theorem all_rw (p : List Int → Bool) (L : List (List Int)) : L.all p = true ↔ ∀ j, j < L.length → p (rw' L j) = true := by
  rw [List.all_eq_true]
  constructor
  · intro h j hj
    unfold rw'
    rw [List.getD_eq_getElem?_getD, List.getElem?_eq_getElem hj]
    exact h _ (List.getElem_mem hj)
  · intro h x hx
    obtain ⟨j, hj, rfl⟩ := List.getElem_of_mem hx
    have := h j hj
    unfold rw' at this
    rwa [List.getD_eq_getElem?_getD, List.getElem?_eq_getElem hj] at this
theorem all_no (p : List Int → Bool) (L : List (List Int)) (j : Nat) (hj : j < L.length) (h : p (rw' L j) = false) : L.all p = false := by
  rw [Bool.eq_false_iff]
  intro e
  have := (all_rw p L).1 e j hj
  rw [h] at this
  cases this
theorem list_eq {l m : List Int} (hn : l.length = m.length) (h : ∀ j, j < l.length → gt l j = gt m j) : l = m := by
  apply List.ext_getElem? 
  intro j
  by_cases hj : j < l.length
  · have := h j hj
    unfold gt at this
    rw [List.getD_eq_getElem?_getD, List.getElem?_eq_getElem hj, List.getD_eq_getElem?_getD, List.getElem?_eq_getElem (by omega)] at this
    rw [List.getElem?_eq_getElem hj, List.getElem?_eq_getElem (by omega)]
    simpa using this
  · rw [List.getElem?_eq_none (by omega), List.getElem?_eq_none (by omega)]
theorem lists_eq {L M : List (List Int)} (hn : L.length = M.length) (h : ∀ j, j < L.length → rw' L j = rw' M j) : L = M := by
  apply List.ext_getElem?
  intro j
  by_cases hj : j < L.length
  · have := h j hj
    unfold rw' at this
    rw [List.getD_eq_getElem?_getD, List.getElem?_eq_getElem hj, List.getD_eq_getElem?_getD, List.getElem?_eq_getElem (by omega)] at this
    rw [List.getElem?_eq_getElem hj, List.getElem?_eq_getElem (by omega)]
    simpa using this
  · rw [List.getElem?_eq_none (by omega), List.getElem?_eq_none (by omega)]
end Sl
end Go.Proofs.Ytkhfkfofggiadaa
