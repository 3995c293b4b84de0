/- The contracts of the document's own answers of layer 12, sixth part: Run. -/
import Derived.Test.YtnbejkhcifeeiaaRefC34
import Derived.Test.YtnbejkhcifeeiaaTaskS2
import Derived.Test.YtnbejkhcifeeiaaSumS
namespace Go.Proofs.Ytnbejkhcifeeiaa
open Go.ChangeShapes Go.WideShapes Go.ChangeAt Go.RowKit
set_option linter.unusedVariables false
set_option linter.unusedSimpArgs false
attribute [local go_sem] Ext.cell Ext.froz Ext.lt Ext.lt1 Ext.lt2 Ext.lt3 Ext.all drew_heap setCell_size Ext.set_size
attribute [-go_sem] Instr.build
namespace Tk
open Wl Ce Rw
theorem whom_rem {n : Nat} (h : 0 < n) (p : Int) : (p.tmod n < 0 → p.tmod n + n = (whom n p : Int)) ∧ (¬ p.tmod n < 0 → p.tmod n = (whom n p : Int)) := by
  have h1 := Int.emod_nonneg p (b := (n : Int)) (by omega)
  have h2 := Int.emod_lt_of_pos p (b := (n : Int)) (by omega)
  have e : (whom n p : Int) = p % n := by unfold whom; omega
  rw [e, Int.tmod_eq_emod]
  split <;> omega
theorem tk_get {L : List Te} {K : Nat} {x : Te} (h : L[K]? = some x) : tk (L.map Te.t) K = x.t := by
  unfold tk
  rw [List.getD_eq_getElem?_getD, List.getElem?_map, h]; rfl
def Te.step (x : Te) (m : List Int) : Te := ⟨ta x.t x.ca, tc x.t x.cc, stepT x.t m⟩
theorem z36_sizeR : (#[Value.slice none 0 0, Value.int IntKind.i64 0, Value.int IntKind.u64 0, Value.int IntKind.u64 0, Value.int IntKind.u64 0, Value.int IntKind.u64 0, Value.int IntKind.u64 0, Value.int IntKind.u64 0, Value.int IntKind.u64 0, Value.int IntKind.u64 0, Value.int IntKind.u64 0, Value.int IntKind.u64 0, Value.int IntKind.u64 0, Value.int IntKind.u64 0, Value.int IntKind.u64 0, Value.int IntKind.u64 0, Value.int IntKind.u64 0, Value.int IntKind.u64 0, Value.int IntKind.u64 0, Value.int IntKind.u64 0, Value.int IntKind.u64 0, Value.int IntKind.u64 0, Value.int IntKind.u64 0, Value.int IntKind.u64 0, Value.int IntKind.u64 0, Value.int IntKind.u64 0, Value.int IntKind.u64 0, Value.int IntKind.u64 0, Value.int IntKind.u64 0, Value.int IntKind.u64 0, Value.int IntKind.u64 0, Value.int IntKind.u64 0, Value.int IntKind.u64 0, Value.int IntKind.u64 0, Value.bool false, Value.int IntKind.i64 0] : Array Value).size = 36 := rfl
end Tk
end Go.Proofs.Ytnbejkhcifeeiaa
