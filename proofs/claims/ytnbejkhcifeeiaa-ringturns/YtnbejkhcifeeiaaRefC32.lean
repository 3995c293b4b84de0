/- The contracts of the document's own answers of layer 12, third part: Step. -/
import Derived.Test.YtnbejkhcifeeiaaRefC31
import Derived.Test.YtnbejkhcifeeiaaRowW
import Derived.Deep.RegionHeld3
namespace Go.Proofs.Ytnbejkhcifeeiaa
open Go.ChangeShapes Go.WideShapes Go.ChangeAt Go.RowKit
set_option linter.unusedVariables false
set_option linter.unusedSimpArgs false
attribute [local go_sem] Ext.cell Ext.froz Ext.lt Ext.lt1 Ext.lt2 Ext.lt3 Ext.all drew_heap setCell_size Ext.set_size
attribute [-go_sem] Instr.build
namespace Tk
open Wl Ce Rw
theorem wl_row {W : World} {a : Option Addr} {c g : Nat} {l : List Int} (h : Wl.Is W a c l) (ne : ∀ b o, a = some ⟨b, o, none⟩ → b ≠ g) (V : Array Value) : Wl.Is (W.setRow g V) a c l :=
  ⟨h.le, h.max, h.nil, fun j hj => by
    obtain ⟨b, o, e, hlt, hc⟩ := h.at' j hj
    have hs : (W.setRow g V).heap[b]? = W.heap[b]? := by
      unfold World.setRow
      simp only [Array.getElem?_modify]
      rw [if_neg (fun q => ne b o e q.symm)]
    refine ⟨b, o, e, by simpa [World.setRow] using hlt, fun i hi => ?_⟩
    rw [← hc i hi]
    exact World.cell?_of_block (a := ⟨b, o + i, none⟩) hs, h.bd⟩
end Tk
end Go.Proofs.Ytnbejkhcifeeiaa
