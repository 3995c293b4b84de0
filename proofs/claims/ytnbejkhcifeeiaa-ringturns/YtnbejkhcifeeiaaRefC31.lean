/- The contracts of the document's own answers of layer 12, second part: Start, Step. -/
import Derived.Test.YtnbejkhcifeeiaaRefC30
namespace Go.Proofs.Ytnbejkhcifeeiaa
open Go.ChangeShapes Go.WideShapes Go.ChangeAt Go.RowKit
set_option linter.unusedVariables false
set_option linter.unusedSimpArgs false
attribute [local go_sem] Ext.cell Ext.froz Ext.lt Ext.lt1 Ext.lt2 Ext.lt3 Ext.all Ext.set_u drew_heap setCell_size Ext.set_size
attribute [-go_sem] Instr.build
namespace Tk
open Wl Ce Rw
/-- The instructions' slice of what Start answers. -/
def sa (l : List Ins) (a : Option Addr) : Option Addr := if sane l then a else none
def sc (l : List Ins) (c : Nat) : Nat := if sane l then c else 0
theorem tok_zeros (l : List Ins) (d : Bool) (a : Int) (ha : -9223372036854775808 ≤ a ∧ a ≤ 9223372036854775807) : Tok ⟨l, 0, zeros, d, a⟩ :=
  ⟨by simp [zeros], fun j => by
    have e : gt zeros j = 0 := by
      unfold gt zeros
      rw [List.getD_eq_getElem?_getD, List.getElem?_replicate]
      split <;> rfl
    show 0 ≤ gt zeros j ∧ gt zeros j ≤ 18446744073709551615
    rw [e]; omega, by simp, ha⟩
theorem tok_nought : Tok nought := tok_zeros [] true (-1) (by omega)
theorem build_nought (w : World) : (Instr.build 27 #[(3, .bool true), (4, .int .i64 (-1))]).run Try.prog w = .ok (.agg (TV none 0 nought)) w := run_build w _ _ _ (by kernel_rfl)
theorem build_start (w : World) (a : Option Addr) (c : Nat) (l : List Ins) : (Instr.build 27 #[(0, .slice a l.length c)]).run Try.prog w = .ok (.agg (TV a c ⟨l, 0, zeros, false, 0⟩)) w := run_build w _ _ _ (by kernel_rfl)
end Tk
end Go.Proofs.Ytnbejkhcifeeiaa
