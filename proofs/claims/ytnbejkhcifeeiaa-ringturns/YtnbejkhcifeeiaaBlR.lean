/- Lists of bools as arguments. -/
import Derived.Test.YtnbejkhcifeeiaaLvR
namespace Go.Proofs.Ytnbejkhcifeeiaa
open Go.ChangeShapes Go.WideShapes Go.ChangeAt Go.RowKit
set_option linter.unusedVariables false
namespace Bl
variable {H : Type} {enc' : TypeId × Value → H} {W : World}
def benc (x : Bool) (_ : Nat) : Value := .bool x
/-- A list of bools in memory. -/
abbrev Bs (w : World) (a : Option Addr) (c : Nat) (l : List Bool) : Prop := Lv.Is 1 benc w a c l
theorem open_bools {a : Option Addr} {n c : Nat} {d : DataW H} {p : List MemPlace} (h : DataW.Trod enc' Try.prog W 0 (fun _ => true) true 37 (.slice a n c) d p) : ∃ l : List Bool, l.length = n ∧ Bs W a c l := by
  obtain ⟨l, h1, h2, _⟩ := Lv.of_trod (s := 1) (enc := benc) (ok := fun _ => True) Try.underlying37 (by kernel_rfl) (by omega) (fun cs fuel x hf hl => by
    obtain ⟨b, e0, -⟩ := DataW.trod_bool Try.underlying4 hf
    subst e0
    exact ⟨b, trivial, fun t ht => by obtain rfl : t = 0 := by omega
                                      rfl⟩) h
  exact ⟨l, h1, h2⟩
theorem num {w : World} {a : Option Addr} {c : Nat} {l : List Bool} (h : Bs w a c l) {i : Nat} (hi : i < l.length) : ∃ b o, a = some ⟨b, o, none⟩ ∧ b < w.heap.size ∧ w.cell? ⟨b, o + i, none⟩ = some (.bool l[i]) := by
  obtain ⟨b, o, x, e, hb, hx, hc⟩ := h.num i hi
  rw [List.getElem?_eq_getElem hi] at hx
  simp only [Option.some.injEq] at hx
  subst hx
  have := hc 0 (by omega)
  rw [Nat.mul_one, Nat.add_zero] at this
  exact ⟨b, o, e, hb, this⟩
end Bl
end Go.Proofs.Ytnbejkhcifeeiaa
