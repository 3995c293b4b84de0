/- The contracts of the document's own answers of layer 12, fifth part: Step, Steps. -/
import Derived.Test.YtnbejkhcifeeiaaRefC33
import Derived.Test.YtnbejkhcifeeiaaTaskM3
namespace Go.Proofs.Ytnbejkhcifeeiaa
open Go.ChangeShapes Go.WideShapes Go.ChangeAt Go.RowKit
set_option linter.unusedVariables false
set_option linter.unusedSimpArgs false
attribute [local go_sem] Ext.cell Ext.froz Ext.lt Ext.lt1 Ext.lt2 Ext.lt3 Ext.all drew_heap setCell_size Ext.set_size
attribute [-go_sem] Instr.build
namespace Tk
open Wl Ce Rw
/-- The instructions' slice of a task behind steps. -/
def ta (t : T) (a : Option Addr) : Option Addr := if t.done || sane t.code then a else none
def tc (t : T) (c : Nat) : Nat := if t.done || sane t.code then c else 0
theorem rest_sane {t : T} (hs : sane t.code = true) : sane (rest t).code = true := by rw [(rest_code t).1]; exact hs
theorem Tok.step {t : T} {m : List Int} (h : Tok t) (hb : Wb m) : Tok (stepT t m) := by
  unfold stepT
  split
  · exact h
  · split
    · exact tok_nought
    · rename_i hs
      have hs : sane t.code = true := by simpa using hs
      have h2 := h.rest hs
      split
      · exact h2
      · rename_i hr
        rcases rest_still hs with hd | ⟨p0, p1, p2⟩
        · exact absurd hd hr
        · have hs2 := rest_sane hs
          exact (tok_after h2 ⟨p0, by have := (sane_iff.1 hs2).2.2; omega⟩ hb).rest hs2
theorem inss_nil {w : World} : Inss w none 0 [] := ⟨Lv.is_nil none (by simp [maxLen]) (fun _ => rfl), fun x hx => by cases hx⟩
theorem step_code {t : T} (m : List Int) (h : t.done = true ∨ sane t.code = true) : (stepT t m).code = t.code := by
  unfold stepT
  split
  · rfl
  · rcases h with h | h
    · exact absurd h (by assumption)
    · rw [if_neg (by rw [h]; decide)]
      split
      · exact (rest_code t).1
      · rw [(rest_code _).1]; exact (rest_code t).1
theorem Tis.step {w : World} {ca : Option Addr} {cc : Nat} {t : T} {m : List Int} (h : Tis w ca cc t) (hb : Wb m) : Tis w (ta t ca) (tc t cc) (stepT t m) := by
  refine ⟨?_, h.2.step hb⟩
  unfold ta tc
  cases hc : (t.done || sane t.code)
  · rw [Bool.or_eq_false_iff] at hc
    have : (stepT t m).code = [] := by unfold stepT; rw [hc.1, hc.2]; rfl
    rw [this]
    exact inss_nil
  · rw [Bool.or_eq_true] at hc
    rw [step_code m hc]
    exact h.1
theorem ta_step (t : T) (m : List Int) (a : Option Addr) : ta (stepT t m) (ta t a) = ta t a := by
  unfold ta
  cases hc : (t.done || sane t.code)
  · simp
  · rw [Bool.or_eq_true] at hc
    have e := step_code m hc
    rw [e]
    rcases hc with h | h
    · have : stepT t m = t := by unfold stepT; rw [if_pos h]
      rw [this, h]; rfl
    · rw [h]; simp
theorem tc_step (t : T) (m : List Int) (c : Nat) : tc (stepT t m) (tc t c) = tc t c := by
  unfold tc
  cases hc : (t.done || sane t.code)
  · simp
  · rw [Bool.or_eq_true] at hc
    have e := step_code m hc
    rw [e]
    rcases hc with h | h
    · have : stepT t m = t := by unfold stepT; rw [if_pos h]
      rw [this, h]; rfl
    · rw [h]; simp
theorem z36_size : (#[Value.slice none 0 0, Value.int IntKind.i64 0, Value.int IntKind.u64 0, Value.int IntKind.u64 0, Value.int IntKind.u64 0, Value.int IntKind.u64 0, Value.int IntKind.u64 0, Value.int IntKind.u64 0, Value.int IntKind.u64 0, Value.int IntKind.u64 0, Value.int IntKind.u64 0, Value.int IntKind.u64 0, Value.int IntKind.u64 0, Value.int IntKind.u64 0, Value.int IntKind.u64 0, Value.int IntKind.u64 0, Value.int IntKind.u64 0, Value.int IntKind.u64 0, Value.int IntKind.u64 0, Value.int IntKind.u64 0, Value.int IntKind.u64 0, Value.int IntKind.u64 0, Value.int IntKind.u64 0, Value.int IntKind.u64 0, Value.int IntKind.u64 0, Value.int IntKind.u64 0, Value.int IntKind.u64 0, Value.int IntKind.u64 0, Value.int IntKind.u64 0, Value.int IntKind.u64 0, Value.int IntKind.u64 0, Value.int IntKind.u64 0, Value.int IntKind.u64 0, Value.int IntKind.u64 0, Value.bool false, Value.int IntKind.i64 0] : Array Value).size = 36 := rfl
theorem most_le (z : Int) : most z ≤ 1000 := by unfold most; omega
end Tk
end Go.Proofs.Ytnbejkhcifeeiaa
