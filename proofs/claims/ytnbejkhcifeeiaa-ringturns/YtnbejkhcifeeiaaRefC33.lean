/- The contracts of the document's own answers of layer 12, fourth part: Step where it does an access. -/
import Derived.Test.YtnbejkhcifeeiaaRefC32
namespace Go.Proofs.Ytnbejkhcifeeiaa
open Go.ChangeShapes Go.WideShapes Go.ChangeAt Go.RowKit
set_option linter.unusedVariables false
set_option linter.unusedSimpArgs false
attribute [local go_sem] Ext.cell Ext.froz Ext.lt Ext.lt1 Ext.lt2 Ext.lt3 Ext.all drew_heap setCell_size Ext.set_size
attribute [-go_sem] Instr.build
namespace Tk
open Wl Ce Rw
theorem build_acc (k i p : Int) (w : World) : (Instr.build 66 #[(0, .int .i64 k), (1, .int .i64 i), (2, .int .u64 p)]).run Try.prog w = .ok (.agg #[.int .i64 k, .int .i64 i, .int .u64 p, .int .u64 0]) w := run_build w _ _ _ (by kernel_rfl)
theorem tok_after {t : T} {m : List Int} (h : Tok t) (hp : 0 ≤ t.pc ∧ t.pc ≤ 1000) (hb : Wb m) : Tok (after t m) := by
  refine ⟨?_, ?_, by unfold after; simp only; omega, h.ans⟩
  · unfold after
    simp only
    split
    · rw [List.length_set]; exact h.len
    · exact h.len
  · unfold after
    simp only
    split
    · exact h.reg.set _ (hb.doW _)
    · exact h.reg
theorem wl_set {W : World} {a : Option Addr} {c g k : Nat} {l : List Int} (h : Wl.Is W a c l) (ne : ∀ b o, a = some ⟨b, o, none⟩ → b ≠ g) (v : Value) : Wl.Is (W.setCell ⟨g, k, none⟩ v) a c l :=
  ⟨h.le, h.max, h.nil, fun j hj => by
    obtain ⟨b, o, e, hlt, hc⟩ := h.at' j hj
    have hs : (W.setCell ⟨g, k, none⟩ v).heap[b]? = W.heap[b]? := by
      simp only [World.setCell, Array.getElem?_modify]
      rw [if_neg (fun q => ne b o e q.symm)]
    refine ⟨b, o, e, by simpa [World.setCell] using hlt, fun i hi => ?_⟩
    rw [← hc i hi]
    exact World.cell?_of_block (a := ⟨b, o + i, none⟩) hs, h.bd⟩
end Tk
end Go.Proofs.Ytnbejkhcifeeiaa
