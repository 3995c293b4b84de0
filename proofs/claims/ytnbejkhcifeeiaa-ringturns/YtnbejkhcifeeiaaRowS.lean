/- Blocks that are loaded and stored whole: their cells as one array. -/
import Derived.Test.YtnbejkhcifeeiaaMemC
import Derived.Laws.Rows
import Derived.Deep.WholeRow
namespace Go.Proofs.Ytnbejkhcifeeiaa
open Go.ChangeShapes Go.WideShapes Go.ChangeAt Go.RowKit
set_option linter.unusedVariables false
namespace Rw
/-- A block's cells. -/
def Row (w : World) (B : Nat) (ty : TypeId) (c : Array Value) : Prop := w.heap[B]? = some (.cells c ty (0, 0))
theorem Row.lt {w : World} {B : Nat} {ty : TypeId} {c : Array Value} (h : Row w B ty c) : B < w.heap.size := (Array.getElem?_eq_some_iff.1 h).1
theorem Row.mr {w W : World} {B : Nat} {ty : TypeId} {c : Array Value} (h : Row w B ty c) (m : Mr w W) : Row W B ty c := by
  have hl := h.lt
  unfold Row at *
  rw [m.below.block B hl]; exact h
theorem Row.cell {w : World} {B : Nat} {ty : TypeId} {c : Array Value} (h : Row w B ty c) (k : Nat) : w.cell? ⟨B, k, none⟩ = c[k]? := cell_of_row w B k c ty (0, 0) h
theorem Row.froz {w : World} {B : Nat} {ty : TypeId} {c : Array Value} (h : Row w B ty c) (k : Nat) : w.frozen? ⟨B, k, none⟩ = false := by
  unfold Row at h
  simp [World.frozen?, h]
theorem Row.new (w : World) (ty : TypeId) (c : Array Value) : Row (w.alloc (.cells c ty)) w.heap.size ty c := heap_alloc_last w _
theorem row_new {w : World} {ty : TypeId} {c : Array Value} (B : Nat) (hB : w.heap.size = B) : Row (w.alloc (.cells c ty)) B ty c := by subst hB; exact Row.new _ _ _
theorem Row.alloc {w : World} {B : Nat} {ty : TypeId} {c : Array Value} (h : Row w B ty c) (o : Obj) : Row (w.alloc o) B ty c := h.mr ((Mr.refl w).alloc o)
theorem Row.set {w : World} {B : Nat} {ty : TypeId} {c : Array Value} (h : Row w B ty c) (k : Nat) (v : Value) : Row (w.setCell ⟨B, k, none⟩ v) B ty (c.setIfInBounds k v) := by
  unfold Row at *
  simp only [World.setCell, Array.getElem?_modify, if_pos, h, Option.map_some]
  rfl
theorem Row.set_ne {w : World} {B : Nat} {ty : TypeId} {c : Array Value} (h : Row w B ty c) {a : Addr} (ha : a.block ≠ B) (v : Value) : Row (w.setCell a v) B ty c := by
  unfold Row at *
  simp only [World.setCell, Array.getElem?_modify]
  rw [if_neg ha]
  exact h
theorem Row.row {w : World} {B : Nat} {ty : TypeId} {c : Array Value} (h : Row w B ty c) (c' : Array Value) : Row (w.setRow B c') B ty c' := setRow_heap w B c c' ty (0, 0) h
theorem Row.row_ne {w : World} {B : Nat} {ty : TypeId} {c : Array Value} (h : Row w B ty c) {g : Nat} (hg : g ≠ B) (c' : Array Value) : Row (w.setRow g c') B ty c := by
  unfold Row at *
  unfold World.setRow
  simp only [Array.getElem?_modify]
  rw [if_neg hg]
  exact h
theorem mr_row {w W : World} (h : Mr w W) {g : Nat} (hg : w.heap.size ≤ g) (c : Array Value) : Mr w (W.setRow g c) := by
  refine ⟨⟨h.below.os, h.below.tape, h.below.output, ?_, ?_⟩⟩
  · have := h.below.size
    simpa [World.setRow] using this
  · intro k hk
    unfold World.setRow
    simp only [Array.getElem?_modify]
    rw [if_neg (by omega)]
    exact h.below.block k hk
end Rw
end Go.Proofs.Ytnbejkhcifeeiaa
