/- Lists of integers in memory. -/
import Derived.Test.YtnbejkhcifeeiaaMemC
import Derived.Test.YtnbejkhcifeeiaaFixC
namespace Go.Proofs.Ytnbejkhcifeeiaa
open Go.ChangeShapes Go.WideShapes Go.ChangeAt Go.RowKit
open Go.Proofs.Ytnbejkhcifeeiaa.Fx
namespace Sl
theorem lt_more {b n k : Nat} (h : b < n) : b < n + k := Nat.lt_add_right k h
/-- The number at a place of a list. -/
def gt (l : List Int) (j : Nat) : Int := l.getD j 0
/-- That a slice leads to a list of ints. -/
structure Is (w : World) (a : Option Addr) (c : Nat) (l : List Int) : Prop where
  le : l.length ≤ c
  max : c ≤ maxLen
  nil : a = none → c = 0
  at' : ∀ j, j < l.length → ∃ b o, a = some ⟨b, o, none⟩ ∧ b < w.heap.size ∧ ∀ i, i < l.length → w.cell? ⟨b, o + i, none⟩ = some (.int .i64 (gt l i))
  bd : ∀ j, -9223372036854775808 ≤ gt l j ∧ gt l j ≤ 9223372036854775807
theorem Is.ext {w : World} {a : Option Addr} {c : Nat} {l : List Int} (h : Is w a c l) (x : Ext w) : Is x.u a c l :=
  ⟨h.le, h.max, h.nil, fun j hj => by
    obtain ⟨b, o, e, hb, hc⟩ := h.at' j hj
    refine ⟨b, o, e, Nat.lt_of_lt_of_le hb x.h.below.size, fun i hi => ?_⟩
    rw [Ext.cell x b (o + i) hb]; exact hc i hi, h.bd⟩
theorem Is.mr {w w' : World} {a : Option Addr} {c : Nat} {l : List Int} (h : Is w a c l) (m : Mr w w') : Is w' a c l := h.ext ⟨w', m⟩
/-- An empty one, and one that does not lead to nil. -/
theorem gt_take (l : List Int) (k j : Nat) : gt (l.take k) j = if j < k then gt l j else 0 := by
  unfold gt
  rw [List.getD_eq_getElem?_getD, List.getD_eq_getElem?_getD]
  split
  · rw [List.getElem?_take_of_lt (by assumption)]
  · rw [List.getElem?_eq_none]
    · rfl
    · rw [List.length_take]; omega
theorem gt_drop (l : List Int) (k j : Nat) : gt (l.drop k) j = gt l (k + j) := by
  unfold gt
  rw [List.getD_eq_getElem?_getD, List.getD_eq_getElem?_getD, List.getElem?_drop]
theorem Is.take {w : World} {a : Option Addr} {c : Nat} {l : List Int} (h : Is w a c l) (k : Nat) : Is w a c (l.take k) :=
  ⟨by rw [List.length_take]; have := h.le; omega, h.max, h.nil, fun j hj => by
    rw [List.length_take] at hj ⊢
    obtain ⟨b, o, e, hb, hc⟩ := h.at' j (by omega)
    refine ⟨b, o, e, hb, fun i hi => ?_⟩
    rw [gt_take, if_pos (by omega)]; exact hc i (by omega), fun j => by
    rw [gt_take]; split
    · exact h.bd j
    · omega⟩
/-- What a call has gathered by appends. -/
theorem of_owns {w : World} {B n : Nat} {v : Value} {l : List Int} (h : w.ownsRow B 3 1 v n (l.map (Value.int .i64))) (hb : ∀ j, -9223372036854775808 ≤ gt l j ∧ gt l j ≤ 9223372036854775807) : ∃ a c, v = .slice a l.length c ∧ n = l.length ∧ Is w a c l := by
  obtain ⟨h1, h2⟩ := h
  rw [List.length_map] at h1
  obtain rfl : n = l.length := by omega
  rcases h2 with ⟨rfl, h0⟩ | ⟨g, cap, cur, rfl, hg, hc, hle, hm, hs, ht⟩
  · refine ⟨none, 0, by rw [h0], rfl, by omega, by simp [maxLen], fun _ => rfl, fun j hj => by omega, hb⟩
  · refine ⟨some ⟨g, 0, none⟩, cap, rfl, rfl, hle, hm, fun h => (by cases h), fun j hj => ⟨g, 0, rfl, (Array.getElem?_eq_some_iff.1 hc).1, fun i hi => ?_⟩, hb⟩
    have e : cur.toList[i]? = some (.int .i64 (gt l i)) := by
      have := congrArg (·[i]?) ht
      simp only [List.getElem?_map] at this
      rw [List.getElem?_take_of_lt (by omega)] at this
      rw [this]
      unfold gt
      rw [List.getD_eq_getElem?_getD, List.getElem?_eq_getElem hi]
      rfl
    simp [World.cell?, hc]
    simpa using e
/-- The first numbers of a list, one more. -/
theorem take_more (l : List Int) (k : Nat) (hk : k < l.length) : l.take (k + 1) = l.take k ++ [gt l k] := by
  rw [List.take_add_one, List.getElem?_eq_getElem hk]
  unfold gt
  rw [List.getD_eq_getElem?_getD, List.getElem?_eq_getElem hk]
  rfl
end Sl
namespace Sm
open Sl
/-- The numbers that count, as values, and whether one was clamped: of the first k. -/
def vk (l : List Int) (k : Nat) : List Int := (l.take k).map cl
def ck (l : List Int) (k : Nat) : Bool := (l.take k).any co
theorem vk_len {l : List Int} {k : Nat} (h : k ≤ l.length) : (vk l k).length = k := by unfold vk; rw [List.length_map, List.length_take]; omega
theorem vk_more {l : List Int} {k : Nat} (h : k < l.length) : vk l (k + 1) = vk l k ++ [cl (gt l k)] := by unfold vk; rw [take_more l k h]; simp
theorem ck_more {l : List Int} {k : Nat} (h : k < l.length) : ck l (k + 1) = (ck l k || co (gt l k)) := by unfold ck; rw [take_more l k h]; simp
theorem vk_bd (l : List Int) (k j : Nat) : -288230376151711744 ≤ gt (vk l k) j ∧ gt (vk l k) j ≤ 288230376151711744 := by
  unfold gt vk
  rw [List.getD_eq_getElem?_getD, List.getElem?_map]
  cases (l.take k)[j]? with
  | none => simp
  | some x => exact cl_bd x
/-- The sum of the products of the first k numbers of two lists. -/
def ws (f : Nat → Int) : Nat → Int
  | 0 => 0
  | k + 1 => ws f k + f k
theorem ws_bd (f : Nat → Int) (h : ∀ j, -83076749736557242056487941267521536 ≤ f j ∧ f j ≤ 83076749736557242056487941267521536) (k : Nat) : -(k * 83076749736557242056487941267521536) ≤ ws f k ∧ ws f k ≤ k * 83076749736557242056487941267521536 := by
  induction k with
  | zero => simp [ws]
  | succ k ih => have := h k; simp only [ws]; omega
end Sm
end Go.Proofs.Ytnbejkhcifeeiaa
