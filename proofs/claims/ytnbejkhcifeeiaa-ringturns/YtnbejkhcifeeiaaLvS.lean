/- Lists in memory whose elements are some cells each. -/
import Derived.Test.YtnbejkhcifeeiaaMemC
import Derived.Deep.AppendLies
import Derived.Laws.AppendOwnNone
namespace Go.Proofs.Ytnbejkhcifeeiaa
open Go.ChangeShapes Go.WideShapes Go.ChangeAt Go.RowKit
set_option linter.unusedVariables false
namespace Lv
/-- That a slice leads to a list whose elements lie in s cells each. -/
structure Is {α : Type} (s : Nat) (enc : α → Nat → Value) (w : World) (a : Option Addr) (c : Nat) (l : List α) : Prop where
  le : l.length ≤ c
  max : c ≤ maxLen
  nil : a = none → c = 0
  at' : 0 < l.length → ∃ b o, a = some ⟨b, o, none⟩ ∧ b < w.heap.size ∧ ∀ i x, l[i]? = some x → ∀ t, t < s → w.cell? ⟨b, o + (i * s + t), none⟩ = some (enc x t)
variable {α : Type} {s : Nat} {enc : α → Nat → Value}
theorem Is.ext {w : World} {a : Option Addr} {c : Nat} {l : List α} (h : Is s enc w a c l) (x : Ext w) : Is s enc x.u a c l :=
  ⟨h.le, h.max, h.nil, fun hj => by
    obtain ⟨b, o, e, hb, hc⟩ := h.at' hj
    refine ⟨b, o, e, Nat.lt_of_lt_of_le hb x.h.below.size, fun i y hi t ht => ?_⟩
    rw [Ext.cell x b _ hb]; exact hc i y hi t ht⟩
theorem Is.mr {w w' : World} {a : Option Addr} {c : Nat} {l : List α} (h : Is s enc w a c l) (m : Mr w w') : Is s enc w' a c l := h.ext ⟨w', m⟩
/-- The element at a place. -/
theorem Is.num {w : World} {a : Option Addr} {c : Nat} {l : List α} (h : Is s enc w a c l) (i : Nat) (hi : i < l.length) : ∃ b o x, a = some ⟨b, o, none⟩ ∧ b < w.heap.size ∧ l[i]? = some x ∧ ∀ t, t < s → w.cell? ⟨b, o + i * s + t, none⟩ = some (enc x t) := by
  obtain ⟨b, o, e, hb, hc⟩ := h.at' (by omega)
  exact ⟨b, o, l[i], e, hb, List.getElem?_eq_getElem hi, fun t ht => by rw [Nat.add_assoc]; exact hc i _ (List.getElem?_eq_getElem hi) t ht⟩
theorem Is.take {w : World} {a : Option Addr} {c : Nat} {l : List α} (h : Is s enc w a c l) (k : Nat) : Is s enc w a c (l.take k) :=
  ⟨by rw [List.length_take]; have := h.le; omega, h.max, h.nil, fun hj => by
    rw [List.length_take] at hj
    obtain ⟨b, o, e, hb, hc⟩ := h.at' (by omega)
    refine ⟨b, o, e, hb, fun i y hi t ht => hc i y ?_ t ht⟩
    rw [List.getElem?_take] at hi
    split at hi
    · exact hi
    · cases hi⟩
theorem is_nil {w : World} (a : Option Addr) {c : Nat} (hm : c ≤ maxLen) (hn : a = none → c = 0) : Is s enc w a c ([] : List α) := ⟨by simp, hm, hn, fun hj => by simp at hj⟩
theorem Is.drop {w : World} {b o c : Nat} {l : List α} (h : Is s enc w (some ⟨b, o, none⟩) c l) (k : Nat) : Is s enc w (some ⟨b, o + k * s, none⟩) (c - k) (l.drop k) :=
  ⟨by rw [List.length_drop]; have := h.le; omega, by have := h.max; omega, fun e => (by cases e), fun hj => by
    rw [List.length_drop] at hj
    obtain ⟨b', o', e, hb, hc⟩ := h.at' (by omega)
    simp only [Option.some.injEq, Addr.mk.injEq] at e
    obtain ⟨rfl, rfl, -⟩ := e
    refine ⟨b, o + k * s, rfl, hb, fun i y hi t ht => ?_⟩
    rw [List.getElem?_drop] at hi
    have := hc (k + i) y hi t ht
    rw [Nat.add_mul] at this
    rw [show o + k * s + (i * s + t) = o + (k * s + i * s + t) by omega]
    exact this⟩
/-- A piece between two places, as slicing lays it. -/
theorem Is.piece {w : World} {a : Option Addr} {c : Nat} {l : List α} (h : Is s enc w a c l) {A Z : Nat} (h1 : A ≤ Z) (h2 : Z ≤ l.length) : Is s enc w (if c = A then a else a.map (·.add (A * s))) (c - A) ((l.take Z).drop A) := by
  have hm := h.max
  have hl := h.le
  by_cases g : A = Z
  · rw [List.drop_eq_nil_of_le (by rw [List.length_take]; omega)]
    refine is_nil _ (by omega) (fun e => ?_)
    split at e
    · have := h.nil e; omega
    · cases a with
      | none => have := h.nil rfl; omega
      | some x => simp at e
  · obtain ⟨b, o, rfl, -, -⟩ := h.at' (by omega)
    rw [if_neg (by omega)]
    have := (h.take Z).drop A
    rw [Option.map_some]
    rw [show (⟨b, o, none⟩ : Addr).add (A * s) = ⟨b, o + A * s, none⟩ by unfold Addr.add; split <;> simp_all]
    exact this
/-- The cells of a list, one behind the other. -/
def flat (s : Nat) (enc : α → Nat → Value) (l : List α) : List Value := l.flatMap fun x => (List.range s).map (enc x)
theorem flat_length (l : List α) : (flat s enc l).length = l.length * s := by
  unfold flat
  induction l with
  | nil => simp
  | cons x l ih => rw [List.flatMap_cons, List.length_append, ih]; simp [Nat.add_mul, Nat.add_comm]
theorem flat_snoc (l : List α) (x : α) : flat s enc (l ++ [x]) = flat s enc l ++ (List.range s).map (enc x) := by
  unfold flat; simp
theorem flat_append (l m : List α) : flat s enc (l ++ m) = flat s enc l ++ flat s enc m := by
  unfold flat; simp
theorem flat_get (l : List α) : ∀ i x, l[i]? = some x → ∀ t, t < s → (flat s enc l)[i * s + t]? = some (enc x t) := by
  induction l with
  | nil => intro i x h; simp at h
  | cons y l ih =>
    intro i x h t ht
    have e : flat s enc (y :: l) = (List.range s).map (enc y) ++ flat s enc l := by unfold flat; simp
    rw [e]
    cases i with
    | zero =>
      simp only [List.getElem?_cons_zero, Option.some.injEq] at h
      subst h
      rw [List.getElem?_append_left (by simp; omega), List.getElem?_map, List.getElem?_range (by omega)]
      simp
    | succ i =>
      rw [List.getElem?_cons_succ] at h
      rw [List.getElem?_append_right (by simp [Nat.add_mul]; omega)]
      rw [List.length_map, List.length_range, show (i + 1) * s + t - s = i * s + t by rw [Nat.add_mul]; omega]
      exact ih i x h t ht
/-- A written list. -/
theorem of_cells {w : World} {ty : TypeId} (l : List α) (hm : l.length ≤ maxLen) (vs : Array Value) (hv : vs.toList = flat s enc l) : Is s enc (w.alloc (.cells vs ty)) (some ⟨w.heap.size, 0, none⟩) l.length l :=
  ⟨Nat.le_refl _, hm, fun h => (by cases h), fun hj => ⟨w.heap.size, 0, rfl, by simp, fun i x hi t ht => by
    have e := flat_get (s := s) (enc := enc) l i x hi t ht
    rw [← hv, Array.getElem?_toList] at e
    have hn : (w.alloc (.cells vs ty)).heap[w.heap.size]? = some (.cells vs ty) := by show (w.heap.push _)[w.heap.size]? = _; simp
    simp only [World.cell?, hn, Nat.zero_add]
    exact e⟩⟩
/-- What a call has gathered by appends. -/
theorem of_owns {w : World} {e : TypeId} {B n : Nat} {v : Value} {l : List α} (hs : 0 < s) (h : w.ownsRow B e s v n (flat s enc l)) : ∃ a c, v = .slice a l.length c ∧ n = l.length ∧ Is s enc w a c l := by
  obtain ⟨h1, h2⟩ := h
  rw [flat_length] at h1
  obtain rfl : n = l.length := (Nat.eq_of_mul_eq_mul_right hs h1).symm
  rcases h2 with ⟨rfl, h0⟩ | ⟨g, cap, cur, rfl, hg, hc, hle, hm, hsz, ht⟩
  · refine ⟨none, 0, by rw [h0], rfl, by omega, by simp [maxLen], fun _ => rfl, fun hj => by omega⟩
  · refine ⟨some ⟨g, 0, none⟩, cap, rfl, rfl, hle, hm, fun h => (by cases h), fun hj => ⟨g, 0, rfl, (Array.getElem?_eq_some_iff.1 hc).1, fun i x hi t htt => ?_⟩⟩
    have hx := flat_get (s := s) (enc := enc) l i x hi t htt
    rw [← ht] at hx
    have hi' : i < l.length := (List.getElem?_eq_some_iff.1 hi).1
    have hlt : i * s + t < l.length * s := by
      have : (i + 1) * s ≤ l.length * s := Nat.mul_le_mul_right s hi'
      rw [Nat.add_mul] at this
      omega
    rw [List.getElem?_take_of_lt hlt] at hx
    simp [World.cell?, hc]
    simpa using hx
/-- What is kept of memory that has been gathered, where another block is laid. -/
theorem owns_mr {w w' : World} {e : TypeId} {B n : Nat} {v : Value} {xs : List Value} (h : w.ownsRow B e s v n xs) (m : Mr w w') : w'.ownsRow B e s v n xs := by
  obtain ⟨h1, h2⟩ := h
  refine ⟨h1, ?_⟩
  rcases h2 with hn | ⟨g, cap, cur, rfl, hg, hc, hr⟩
  · exact .inl hn
  · have hlt : g < w.heap.size := (Array.getElem?_eq_some_iff.1 hc).1
    exact .inr ⟨g, cap, cur, rfl, hg, by rw [m.below.block g hlt]; exact hc, hr⟩
end Lv
end Go.Proofs.Ytnbejkhcifeeiaa
