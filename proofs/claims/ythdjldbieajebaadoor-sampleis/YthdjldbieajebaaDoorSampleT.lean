/- The two tables at package level of package sample. -/
import Derived.Test.YthdjldbieajebaaDoorSampleM2
import Derived.Lib.LaidTab
namespace Go.Proofs.YthdjldbieajebaaDoor
open Go.ChangeShapes Go.WideShapes Go.ChangeAt Go.RowKit
set_option linter.unusedVariables false
/-- A table that a row lists, wherever it stands on the list. -/
theorem laidVars_mem {P : Program} {W : World} {name : String} {d : DataW Unit} : ∀ {l : List (String × DataW Unit)} {ps : List MemPlace}, DataW.LaidVars P W l ps → (name, d) ∈ l →
    ∃ g t cs fuel p, P.globalNamed name = some g ∧ (P.globals[g]?).map (·.type) = some t ∧ W.var? P name = some cs ∧ DataW.trod (fun _ => ()) P W 0 (fun _ => true) false fuel t cs.toList = some (d, p)
  | [], _, _, hm => by cases hm
  | (n, e) :: r, ps, h, hm => by
    obtain ⟨g, t, cs, fuel, p, q, h1, h2, h3, h4, h5, _⟩ := h
    rcases List.mem_cons.1 hm with he | hm
    · obtain ⟨rfl, rfl⟩ := Prod.mk.inj he
      exact ⟨g, t, cs, fuel, p, h1, h2, h3, h4⟩
    · exact laidVars_mem h5 hm
theorem tabIs_of_mem {P : Program} {W : World} {name : String} {k : IntKind} {zs : List Int} {l : List (String × DataW Unit)} {g : Nat} {t e : TypeId} {n : Nat}
    (hg : P.globalNamed name = some g) (hty : (P.globals[g]?).map (·.type) = some t) (ht : P.underlying t = some (.array n e)) (he : P.underlying e = some (.int k)) (hce : P.cellsOf e = 1) (hct : P.cellsOf t = n)
    (h : laidMet P l W) (hm : (name, Lib.tabData k zs) ∈ l) : Lib.TabIs P W name k zs := by
  obtain ⟨ps, hv, _⟩ := h
  obtain ⟨g', t', cs, fuel, p, hg', ht', hvar, hd⟩ := laidVars_mem hv hm
  obtain rfl := Option.some.inj (hg.symm.trans hg')
  obtain rfl := Option.some.inj (hty.symm.trans ht')
  unfold Lib.TabIs
  rw [hvar, ← Lib.cells_of_tab ht he hce hct hd]
namespace Sp
open Wl
def los : List Int := [0, 0, -288230376151711744, -288230376151711744, -288230376151711744]
def his : List Int := [1099511627776, 3, 288230376151711744, 288230376151711744, 288230376151711744]
/-- What each number of a sample is at least and at most lies in the tables. -/
structure Tb (w : World) : Prop where
  lo : ∀ j, j < 5 → w.cell? ⟨0, j, none⟩ = some (.int .i64 (gt los j))
  hi : ∀ j, j < 5 → w.cell? ⟨1, j, none⟩ = some (.int .i64 (gt his j))
theorem lt_of_cell {w : World} {b o : Nat} {v : Value} (h : w.cell? ⟨b, o, none⟩ = some v) : b < w.heap.size := (spot_none h).2
theorem Tb.lt0 {w : World} (h : Tb w) : 0 < w.heap.size := lt_of_cell (h.lo 0 (by omega))
theorem Tb.lt1 {w : World} (h : Tb w) : 1 < w.heap.size := lt_of_cell (h.hi 0 (by omega))
theorem Tb.ext {w : World} (h : Tb w) (x : Ext w) : Tb x.u := ⟨fun j hj => by rw [Ext.cell x _ j h.lt0]; exact h.lo j hj, fun j hj => by rw [Ext.cell x _ j h.lt1]; exact h.hi j hj⟩
theorem Tb.mr {w W : World} (h : Tb w) (m : Mr w W) : Tb W := h.ext ⟨W, m⟩
theorem Tb.set {w : World} (h : Tb w) {a : Addr} (v : Value) (h0 : a.block ≠ 0) (h1 : a.block ≠ 1) : Tb (w.setCell a v) := by
  obtain ⟨b, o, s⟩ := a
  simp only at h0 h1
  exact ⟨fun j hj => by have := h.lo j hj; have := h.lt0; simp [go_sem, *], fun j hj => by have := h.hi j hj; have := h.lt1; simp [go_sem, *]⟩
theorem gLo : Tryd.prog.globalNamed "outrigger/sample.least" = some 0 := by kernel_rfl
theorem gHi : Tryd.prog.globalNamed "outrigger/sample.greatest" = some 1 := by kernel_rfl
theorem gLoT : (Tryd.prog.globals[0]?).map (·.type) = some 46 := by kernel_rfl
theorem gHiT : (Tryd.prog.globals[1]?).map (·.type) = some 46 := by kernel_rfl
theorem cells3 : Tryd.prog.cellsOf 3 = 1 := by kernel_rfl
theorem cellsN : Tryd.prog.cellsOf 46 = 5 := by kernel_rfl
theorem tb_of {W : World} {l : List (String × DataW Unit)} (hL : laidMet Tryd.prog l W) (h0 : ("outrigger/sample.least", Lib.tabData .i64 los) ∈ l) (h1 : ("outrigger/sample.greatest", Lib.tabData .i64 his) ∈ l) : Tb W :=
  ⟨fun j hj => (tabIs_of_mem gLo gLoT Tryd.underlying46 Tryd.underlying3 cells3 cellsN hL h0).cell gLo j hj,
   fun j hj => (tabIs_of_mem gHi gHiT Tryd.underlying46 Tryd.underlying3 cells3 cellsN hL h1).cell gHi j hj⟩
end Sp
end Go.Proofs.YthdjldbieajebaaDoor
