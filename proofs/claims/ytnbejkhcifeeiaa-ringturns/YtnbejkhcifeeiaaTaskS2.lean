/- Lists of tasks in memory. -/
import Derived.Test.YtnbejkhcifeeiaaTaskS
import Derived.Deep.MidRow
import Derived.Laws.AppendOwnNone
namespace Go.Proofs.Ytnbejkhcifeeiaa
open Go.ChangeShapes Go.WideShapes Go.ChangeAt Go.RowKit
set_option linter.unusedVariables false
namespace Tk
open Wl Ce Rw
/-- A task as it lies in memory: with the slice of its instructions. -/
structure Te where
  ca : Option Addr
  cc : Nat
  t : T
def Te.enc (x : Te) (j : Nat) : Value := (TV x.ca x.cc x.t)[j]?.getD undef
abbrev Te.is (w : World) (x : Te) : Prop := Tis w x.ca x.cc x.t
/-- A list of tasks in memory. -/
abbrev Tes (w : World) (a : Option Addr) (c : Nat) (L : List Te) : Prop := Lv.Is 36 Te.enc w a c L ∧ ∀ x ∈ L, Te.is w x
theorem Tes.mr {w W : World} {a : Option Addr} {c : Nat} {L : List Te} (h : Tes w a c L) (m : Mr w W) : Tes W a c L := ⟨h.1.mr m, fun x hx => Tis.mr (h.2 x hx) m⟩
theorem enc_get {x : Te} (h : x.t.R.length = 32) {j : Nat} (hj : j < 36) : (TV x.ca x.cc x.t)[j]? = some (x.enc j) := by
  unfold Te.enc
  rw [Array.getElem?_eq_getElem (by rw [TV_size h]; exact hj)]; rfl
theorem enc_list {x : Te} (h : x.t.R.length = 32) : (List.range 36).map x.enc = (TV x.ca x.cc x.t).toList := by
  apply List.ext_getElem?
  intro j
  rw [List.getElem?_map, Array.getElem?_toList (xs := TV x.ca x.cc x.t)]
  by_cases hj : j < 36
  · rw [List.getElem?_range hj, enc_get h hj]; rfl
  · rw [List.getElem?_eq_none (by rw [List.length_range]; omega), Array.getElem?_eq_none (by rw [TV_size h]; omega)]; rfl
theorem range_of {w : World} {b o : Nat} {x : Te} (hx : x.t.R.length = 32) (h : ∀ t, t < 36 → w.cell? ⟨b, o + t, none⟩ = some (x.enc t)) : w.rangeAt b o (TV x.ca x.cc x.t).toList := fun j v hv => by
  have hj : j < 36 := by
    have := (List.getElem?_eq_some_iff.1 hv).1
    rwa [Array.length_toList, TV_size hx] at this
  rw [h j hj, ← hv, Array.getElem?_toList, enc_get hx hj]
theorem Tes.range {w : World} {a : Option Addr} {c : Nat} {L : List Te} (h : Tes w a c L) {k : Nat} {x : Te} (hk : L[k]? = some x) : ∃ b o, a = some ⟨b, o, none⟩ ∧ b < w.heap.size ∧ w.rangeAt b (o + k * 36) (TV x.ca x.cc x.t).toList := by
  obtain ⟨b, o, y, e, hb, hy, hc⟩ := h.1.num k (List.getElem?_eq_some_iff.1 hk).1
  rw [hk] at hy
  simp only [Option.some.injEq] at hy
  subst hy
  exact ⟨b, o, e, hb, range_of (h.2 x (List.mem_of_getElem? hk)).2.len hc⟩
/-- A block loaded whole, as the walk meets it where it does not open loads of many cells ('attribute [-go_sem] loadCells'). -/
theorem row_load {P : Program} {w : World} {B n : Nat} {t : TypeId} {V : Array Value} (h : Row w B t V) (hn : V.size = n) : (loadCells ⟨B, 0, none⟩ n).run P w = .ok V w := by
  have := run_loadCells_list (P := P) w ⟨B, 0, none⟩ V.toList (fun j v hv => by
    rw [show (⟨B, 0, none⟩ : Addr).add j = ⟨B, j, none⟩ by unfold Addr.add; split <;> simp_all, h.cell, ← Array.getElem?_toList]; exact hv)
  rw [Array.length_toList, hn, Array.toArray_toList] at this
  exact this
/-- Tasks in a block of one's own. -/
structure Tb (w : World) (g : Nat) (L : List Te) : Prop where
  lt : g < w.heap.size
  cell : ∀ i x, L[i]? = some x → ∀ t, t < 36 → w.cell? ⟨g, i * 36 + t, none⟩ = some (x.enc t)
  froz : ∀ o, w.frozen? ⟨g, o, none⟩ = false
theorem Tb.mr {w W : World} {g : Nat} {L : List Te} (h : Tb w g L) (m : Mr w W) : Tb W g L :=
  ⟨Nat.lt_of_lt_of_le h.lt m.below.size, fun i x hi t ht => (m.below.cell (p := ⟨g, i * 36 + t, none⟩) h.lt).trans (h.cell i x hi t ht), fun o => (m.below.frozen (p := ⟨g, o, none⟩) h.lt).trans (h.froz o)⟩
theorem Tb.range {w : World} {g : Nat} {L : List Te} (h : Tb w g L) {k : Nat} {x : Te} (hk : L[k]? = some x) (hx : x.t.R.length = 32) : w.rangeAt g (k * 36) (TV x.ca x.cc x.t).toList := range_of hx (h.cell k x hk)
theorem Tb.there {w : World} {g : Nat} {L : List Te} (h : Tb w g L) {k : Nat} (hk : k < L.length) : w.there g (k * 36) 36 := fun j hj => ⟨by rw [h.cell k L[k] (List.getElem?_eq_getElem hk) j hj]; rfl, h.froz _⟩
theorem setCells_size (b : Nat) (vs : List Value) (o : Nat) (w : World) : (w.setCells b o vs).heap.size = w.heap.size := by
  induction vs generalizing o w with
  | nil => rfl
  | cons v vs ih => rw [World.setCells, ih]; simp [World.setCell]
theorem Tb.set {w : World} {g : Nat} {L : List Te} (h : Tb w g L) {k : Nat} (hk : k < L.length) {y : Te} (hy : y.t.R.length = 32) : Tb (w.setCells g (k * 36) (TV y.ca y.cc y.t).toList) g (L.set k y) := by
  have hl : (TV y.ca y.cc y.t).toList.length = 36 := by rw [Array.length_toList, TV_size hy]
  refine ⟨by rw [setCells_size]; exact h.lt, fun i x hi t ht => ?_, fun o => by rw [World.frozen?_setCells]; exact h.froz o⟩
  by_cases e : i = k
  · subst e
    rw [List.getElem?_set_self hk] at hi
    simp only [Option.some.injEq] at hi
    subst hi
    have := World.cell?_setCells_in g (TV y.ca y.cc y.t).toList (i * 36) w (fun j hj => ((h.there hk) j (by omega)).1) t (by omega)
    rw [this]
    have e2 := enc_get hy ht
    rw [← e2, ← Array.getElem?_toList, List.getElem?_eq_getElem (by omega)]
  · rw [List.getElem?_set_ne (fun q => e q.symm)] at hi
    rw [World.cell?_setCells_out]
    · exact h.cell i x hi t ht
    · intro _ _
      show i * 36 + t < k * 36 ∨ k * 36 + (TV y.ca y.cc y.t).toList.length ≤ i * 36 + t
      omega
theorem mr_cells {w W : World} (h : Mr w W) {g : Nat} (hg : w.heap.size ≤ g) (vs : List Value) (o : Nat) : Mr w (W.setCells g o vs) := by
  induction vs generalizing o W with
  | nil => exact h
  | cons v vs ih => exact ih (h.setCell hg v) (o + 1)
theorem heap_cells_ne {W : World} {g i : Nat} (hne : i ≠ g) (vs : List Value) (o : Nat) : (W.setCells g o vs).heap[i]? = W.heap[i]? := by
  induction vs generalizing o W with
  | nil => rfl
  | cons v vs ih =>
    rw [World.setCells, ih]
    simp only [World.setCell, Array.getElem?_modify]
    rw [if_neg (fun q => hne q.symm)]
theorem wl_cells {W : World} {a : Option Addr} {c g : Nat} {l : List Int} (h : Wl.Is W a c l) (ne : ∀ b o, a = some ⟨b, o, none⟩ → b ≠ g) (vs : List Value) (o : Nat) : Wl.Is (W.setCells g o vs) a c l :=
  ⟨h.le, h.max, h.nil, fun j hj => by
    obtain ⟨b, o', e, hlt, hc⟩ := h.at' j hj
    refine ⟨b, o', e, by rw [setCells_size]; exact hlt, fun i hi => ?_⟩
    rw [← hc i hi]
    exact World.cell?_of_block (a := ⟨b, o' + i, none⟩) (heap_cells_ne (ne b o' e) vs o), h.bd⟩
theorem Tb.list {w : World} {g cap : Nat} {L : List Te} (h : Tb w g L) (h1 : L.length ≤ cap) (h2 : cap ≤ maxLen) : Lv.Is 36 Te.enc w (some ⟨g, 0, none⟩) cap L :=
  ⟨h1, h2, fun e => (by cases e), fun _ => ⟨g, 0, rfl, h.lt, fun i x hi t ht => by rw [Nat.zero_add]; exact h.cell i x hi t ht⟩⟩
theorem tb_owns {w : World} {e : TypeId} {B n : Nat} {v : Value} {L : List Te} (h : w.ownsRow B e 36 v n (Lv.flat 36 Te.enc L)) (hn : 0 < n) : n = L.length ∧ ∃ g cap, v = .slice (some ⟨g, 0, none⟩) n cap ∧ B ≤ g ∧ n ≤ cap ∧ cap ≤ maxLen ∧ Tb w g L := by
  obtain ⟨a, c, ev, en, hI⟩ := Lv.of_owns (by decide) h
  refine ⟨en, ?_⟩
  obtain ⟨h1, ⟨rfl, h0⟩ | ⟨g, cap, cur, rfl, hg, hc, hle, hm, hs, ht⟩⟩ := h
  · omega
  · refine ⟨g, cap, rfl, hg, hle, hm, (Array.getElem?_eq_some_iff.1 hc).1, fun i x hi t ht => ?_, fun o => by simp [World.frozen?, hc]⟩
    simp only [Value.slice.injEq] at ev
    obtain ⟨rfl, -, rfl⟩ := ev
    obtain ⟨b, o, e2, hb, hcell⟩ := hI.at' (by omega)
    simp only [Option.some.injEq, Addr.mk.injEq] at e2
    obtain ⟨rfl, rfl, -⟩ := e2
    have := hcell i x hi t ht
    rwa [Nat.zero_add] at this
theorem infoTT : (Try.prog.info? 27).map (fun i => (i.zero, i.size, i.bytes)) = some (some (.agg (TV none 0 ⟨[], 0, zeros, false, 0⟩)), 36, 304) := by kernel_rfl
theorem info_parts3 {P : Program} {e : TypeId} {z : Value} {s b : Nat} (h : (P.info? e).map (fun i => (i.zero, i.size, i.bytes)) = some (some z, s, b)) : ∃ i, P.info? e = some i ∧ i.zero = some z ∧ i.size = s ∧ i.bytes = b := by
  obtain ⟨i, hi, hz⟩ := Option.map_eq_some_iff.1 h
  simp only [Prod.mk.injEq] at hz
  exact ⟨i, hi, hz.1, hz.2.1, hz.2.2⟩
theorem flat_one {L : List Te} (h : ∀ x ∈ L, x.t.R.length = 32) : ∀ u ∈ Lv.flat 36 Te.enc L, u.oneCell' = true := by
  intro u hu
  unfold Lv.flat at hu
  rw [List.mem_flatMap] at hu
  obtain ⟨x, hx, hu⟩ := hu
  rw [enc_list (h x hx)] at hu
  have := TV_one x.ca x.cc x.t
  exact (Array.all_eq_true_iff_forall_mem.1 this) u (by simpa using hu)
theorem flat_cells {w : World} {ad : Addr} {c : Nat} {L : List Te} (h : Lv.Is 36 Te.enc w (some ad) c L) : ∀ j u, (Lv.flat 36 Te.enc L)[j]? = some u → w.cell? (ad.add j) = some u := by
  intro j u hu
  have hj : j < L.length * 36 := by
    have := (List.getElem?_eq_some_iff.1 hu).1
    rwa [Lv.flat_length] at this
  obtain ⟨b, o, e, hb, hc⟩ := h.at' (by omega)
  simp only [Option.some.injEq] at e
  subst e
  have hi : j / 36 < L.length := by omega
  have e1 := Lv.flat_get (s := 36) (enc := Te.enc) L (j / 36) L[j / 36] (List.getElem?_eq_getElem hi) (j % 36) (by omega)
  rw [show j / 36 * 36 + j % 36 = j by omega, hu] at e1
  have e2 := hc (j / 36) L[j / 36] (List.getElem?_eq_getElem hi) (j % 36) (by omega)
  rw [show j / 36 * 36 + j % 36 = j by omega, ← e1] at e2
  rw [show (⟨b, o, none⟩ : Addr).add j = ⟨b, o + j, none⟩ by unfold Addr.add; split <;> simp_all]
  exact e2
end Tk
end Go.Proofs.Ytnbejkhcifeeiaa
