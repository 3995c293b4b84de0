/- Memory that only grows: a world behind a call that lays new blocks and turns nothing old, in a form that the walk's simp sees through. -/
import Derived.Test.YtnbejkhcifeeiaaRows
import Derived.WalkKit
import Derived.ProofKit
import Derived.OpenShut
import Derived.Deep.QuietTactic
import Derived.BigQuiet
namespace Go.Proofs.Ytnbejkhcifeeiaa
open Go.ChangeShapes Go.WideShapes Go.ChangeAt Go.RowKit
set_option linter.unusedVariables false
/-- Nothing that was there has turned. -/
structure Mr (w w' : World) : Prop where
  below : Below w.heap.size w w'
theorem Mr.refl (w : World) : Mr w w := ⟨Below.refl _ _⟩
theorem Mr.trans {a b c : World} (h : Mr a b) (k : Mr b c) : Mr a c :=
  ⟨h.below.trans (k.below.mono h.below.size)⟩
theorem Mr.alloc {w w' : World} (h : Mr w w') (o : Obj) : Mr w (w'.alloc o) :=
  ⟨h.below.alloc h.below.size _⟩
theorem Mr.setCell {w w' : World} (h : Mr w w') {a : Addr} (ha : w.heap.size ≤ a.block) (v : Value) : Mr w (w'.setCell a v) :=
  ⟨h.below.setCell ha _⟩
theorem Mr.drew {w w' : World} (h : Mr w w') : Mr w w'.drew := ⟨h.below.drew⟩
theorem Mr.grownBy {w w' w'' : World} {row : Option Nat} (h : Mr w w') (hg : w'.grownBy w'' row) (hr : ∀ k, row = some k → w.heap.size ≤ k) : Mr w w'' :=
  ⟨h.below.grown hg h.below.size hr⟩
theorem Mr.grown {w w' : World} (h : Mr w w') : Below w.heap.size w w' := h.below
/-- A world that has grown out of W. -/
structure Ext (W : World) where
  u : World
  h : Mr W u
theorem Mr.ext {w W : World} (h : Mr w W) (x : Ext W) : Mr w x.u := h.trans x.h
theorem Ext.cell {W : World} (x : Ext W) (b o : Nat) (hb : b < W.heap.size) : x.u.cell? ⟨b, o, none⟩ = W.cell? ⟨b, o, none⟩ :=
  x.h.below.cell (p := ⟨b, o, none⟩) hb
theorem Ext.froz {W : World} (x : Ext W) (b o : Nat) (hb : b < W.heap.size) : x.u.frozen? ⟨b, o, none⟩ = W.frozen? ⟨b, o, none⟩ :=
  x.h.below.frozen (p := ⟨b, o, none⟩) hb
/-- A block that has come in between. (The rules below take a bound on a block's number apart with no condition of their own: simp asks for conditions of conditions only so deep.) -/
def Nw {W : World} (b : Nat) (x : Ext W) : Prop := W.heap.size ≤ b ∧ b < x.u.heap.size
theorem Ext.lt {W : World} (x : Ext W) (b : Nat) : (b < x.u.heap.size) = (b < W.heap.size ∨ Nw b x) := by
  have := x.h.below.size
  unfold Nw
  simp only [eq_iff_iff]; omega
theorem Ext.lt1 {W : World} (x : Ext W) (b : Nat) : (b < x.u.heap.size + 1) = (b < x.u.heap.size ∨ b = x.u.heap.size) := by
  simp only [eq_iff_iff]; omega
theorem Ext.lt2 {W : World} (x : Ext W) (b : Nat) : (b < x.u.heap.size + 2) = (b < x.u.heap.size ∨ b = x.u.heap.size ∨ b = x.u.heap.size + 1) := by
  simp only [eq_iff_iff]; omega
theorem Ext.lt3 {W : World} (x : Ext W) (b : Nat) : (b < x.u.heap.size + 3) = (b < x.u.heap.size ∨ b = x.u.heap.size ∨ b = x.u.heap.size + 1 ∨ b = x.u.heap.size + 2) := by
  simp only [eq_iff_iff]; omega
theorem Ext.all {W : World} {p : Prop} : (∀ _ : Ext W, p) = p := propext ⟨fun h => h ⟨W, Mr.refl W⟩, fun h _ => h⟩
theorem drew_heap (w : World) : w.drew.heap = w.heap := Eq.trans (Eq.refl _) (Eq.refl _)
theorem Mr.both {W u : World} (h : Mr W u) (a : Addr) (v : Value) : Mr (W.setCell a v) (u.setCell a v) := by
  refine ⟨⟨h.below.os, h.below.tape, h.below.output, ?_, ?_⟩⟩
  · have := h.below.size
    simpa [World.setCell] using this
  · intro k hk
    have hk' : k < W.heap.size := by simpa [World.setCell] using hk
    have := h.below.block k hk'
    simp only [World.setCell, Array.getElem?_modify]
    split <;> rw [this]
/-- A store into a world that has grown out of W: a world that has grown out of W with that store. -/
def Ext.set {W : World} (x : Ext W) (a : Addr) (v : Value) : Ext (W.setCell a v) := ⟨x.u.setCell a v, x.h.both a v⟩
theorem Ext.set_u {W : World} (x : Ext W) (a : Addr) (v : Value) : x.u.setCell a v = (x.set a v).u := Eq.trans (Eq.refl _) (Eq.refl _)
theorem Mr.mk' {W u : World} (h : Mr W u) : ∃ y : Ext W, u = y.u := ⟨⟨u, h⟩, rfl⟩
/-- Two calls, then two structs of two cells each stored. -/
theorem two_store {V V' : World} (x1 : Ext V.drew) (x2 : Ext x1.u) (a b c d : Addr) (p q r s : Value) (e : (((V.setCell a p).setCell b q).setCell c r).setCell d s = V') : Mr V' ((((x2.set a p).set b q).set c r).set d s).u := by
  have h1 : Mr V'.drew (((((x1.u.setCell a p).setCell b q).setCell c r).setCell d s)) := by
    rw [← e]
    exact ((((x1.set a p).set b q).set c r).set d s).h
  exact ((Mr.refl V').drew.trans h1).trans ((((x2.set a p).set b q).set c r).set d s).h
theorem leOf {w X : World} {k : Nat} (h : Mr w X) : w.heap.size ≤ X.heap.size + k := Nat.le_trans h.below.size (Nat.le_add_right _ _)
theorem leOf0 {w X : World} (h : Mr w X) : w.heap.size ≤ X.heap.size := h.below.size
theorem setCell_size (w : World) (a : Addr) (v : Value) : (w.setCell a v).heap.size = w.heap.size := by simp [World.setCell]
theorem Ext.set_size {W : World} (x : Ext W) (a : Addr) (v : Value) : (x.set a v).u.heap.size = x.u.heap.size := setCell_size _ _ _
/-- A contract at a call of a region that draws its order, among the worlds that have grown out of W. -/
theorem extCall {P : Program} {f : FuncId} {args : Array Value} {W : World} {x : Ext W} {v : Value}
    (h : Calls P f args x.u fun e w' => e = .returned v ∧ ∃ y : Ext x.u, w' = y.u) : Calls P f args x.u fun e w'' => e = .returned v ∧ ∃ y : Ext W, w'' = y.u :=
  h.mono fun _ _ ⟨he, y, hy⟩ => ⟨he, ⟨y.u, x.h.trans y.h⟩, hy⟩
theorem extCall0 {P : Program} {f : FuncId} {args : Array Value} {W : World} {x : Ext W} {v : Value}
    (h : Calls P f args x.u fun e w' => e = .returned v ∧ w' = x.u) : Calls P f args x.u fun e w'' => e = .returned v ∧ ∃ y : Ext W, w'' = y.u :=
  h.mono fun _ _ ⟨he, hy⟩ => ⟨he, x, hy⟩
theorem wp_region_ext {P : Program} {id : Nat} {Q : Exit → Act → World → Prop} {a : Act} {w : World} {l : List Oper} (hm : P.follows .mixedOrders = true) (hB : Region.lexB .any l.toArray = true)
    (h : wpQuiet P l.toArray (fun w' => ∃ x : Ext w, w' = x.u) (fun a' => ∀ w', (∃ x : Ext w, w' = x.u) → Q .normal a' w') l a) : (Code.region id l.toArray true).wp P Q a w :=
  wp_region_quiet (C := fun w' => ∃ x : Ext w, w' = x.u) hm hB ⟨⟨w.drew, (Mr.refl w).drew⟩, rfl⟩ (by simpa using h)
end Go.Proofs.Ytnbejkhcifeeiaa
