/- Instructions and tasks in memory. -/
import Derived.Test.YtnbejkhcifeeiaaTaskM
import Derived.Test.YtnbejkhcifeeiaaRowS
namespace Go.Proofs.Ytnbejkhcifeeiaa
open Go.ChangeShapes Go.WideShapes Go.ChangeAt Go.RowKit
set_option linter.unusedVariables false
namespace Tk
open Wl Ce
def Ins.ok (x : Ins) : Prop := (-9223372036854775808 ≤ x.k ∧ x.k ≤ 9223372036854775807) ∧ (-9223372036854775808 ≤ x.i ∧ x.i ≤ 9223372036854775807) ∧ (-9223372036854775808 ≤ x.r ∧ x.r ≤ 9223372036854775807) ∧ (-9223372036854775808 ≤ x.go ∧ x.go ≤ 9223372036854775807) ∧ (0 ≤ x.a ∧ x.a ≤ 18446744073709551615)
def Ins.enc (x : Ins) (t : Nat) : Value := if t = 0 then .int .i64 x.k else if t = 1 then .int .i64 x.i else if t = 2 then .int .i64 x.r else if t = 3 then .int .i64 x.go else .int .u64 x.a
/-- A list of instructions in memory. -/
abbrev Inss (w : World) (a : Option Addr) (c : Nat) (l : List Ins) : Prop := Lv.Is 5 Ins.enc w a c l ∧ ∀ x ∈ l, x.ok
theorem Inss.mr {w W : World} {a : Option Addr} {c : Nat} {l : List Ins} (h : Inss w a c l) (m : Mr w W) : Inss W a c l := ⟨h.1.mr m, h.2⟩
theorem at_get {l : List Ins} {j : Nat} {x : Ins} (h : l[j]? = some x) : at' l j = x := by
  unfold at'; rw [List.getD_eq_getElem?_getD, h]; rfl
theorem Inss.num {w : World} {a : Option Addr} {c : Nat} {l : List Ins} (h : Inss w a c l) (i : Nat) (hi : i < l.length) : ∃ b o k j r g p, a = some ⟨b, o, none⟩ ∧ b < w.heap.size ∧ at' l i = ⟨k, j, r, g, p⟩ ∧ Ins.ok ⟨k, j, r, g, p⟩ ∧ w.cell? ⟨b, o + i * 5, none⟩ = some (.int .i64 k) ∧ w.cell? ⟨b, o + i * 5 + 1, none⟩ = some (.int .i64 j) ∧ w.cell? ⟨b, o + i * 5 + 2, none⟩ = some (.int .i64 r) ∧ w.cell? ⟨b, o + i * 5 + 3, none⟩ = some (.int .i64 g) ∧ w.cell? ⟨b, o + i * 5 + 4, none⟩ = some (.int .u64 p) := by
  obtain ⟨b, o, x, e, hb, hx, hc⟩ := h.1.num i hi
  exact ⟨b, o, x.k, x.i, x.r, x.go, x.a, e, hb, at_get hx, h.2 x (List.mem_of_getElem? hx), hc 0 (by omega), hc 1 (by omega), hc 2 (by omega), hc 3 (by omega), hc 4 (by omega)⟩
/-- A task's cells. -/
def TV (ca : Option Addr) (cc : Nat) (t : T) : Array Value := ([Value.slice ca t.code.length cc, .int .i64 t.pc] ++ t.R.map (Value.int .u64) ++ [Value.bool t.done, Value.int .i64 t.ans]).toArray
/-- What a task may be. -/
structure Tok (t : T) : Prop where
  len : t.R.length = 32
  reg : Wb t.R
  pc : -9223372036854775808 ≤ t.pc ∧ t.pc ≤ 9223372036854775807
  ans : -9223372036854775808 ≤ t.ans ∧ t.ans ≤ 9223372036854775807
/-- A task, and its instructions in memory. -/
abbrev Tis (w : World) (ca : Option Addr) (cc : Nat) (t : T) : Prop := Inss w ca cc t.code ∧ Tok t
theorem Tis.mr {w W : World} {ca : Option Addr} {cc : Nat} {t : T} (h : Tis w ca cc t) (m : Mr w W) : Tis W ca cc t := ⟨h.1.mr m, h.2⟩
theorem TV_size {ca : Option Addr} {cc : Nat} {t : T} (h : t.R.length = 32) : (TV ca cc t).size = 36 := by
  unfold TV; simp [h]
theorem TV_0 (ca : Option Addr) (cc : Nat) (t : T) : (TV ca cc t)[0]? = some (.slice ca t.code.length cc) := by unfold TV; simp
theorem TV_1 (ca : Option Addr) (cc : Nat) (t : T) : (TV ca cc t)[1]? = some (.int .i64 t.pc) := by unfold TV; simp
theorem TV_R {ca : Option Addr} {cc : Nat} {t : T} (h : t.R.length = 32) {j : Nat} (hj : j < 32) : (TV ca cc t)[2 + j]? = some (.int .u64 (gt t.R j)) := by
  unfold TV gt
  rw [List.getElem?_toArray, List.append_assoc, List.getElem?_append_right (by simp), List.getElem?_append_left (by simp; omega)]
  simp only [List.length_cons, List.length_nil, List.getElem?_map, Nat.zero_add, Nat.add_sub_cancel_left]
  rw [List.getElem?_eq_getElem (by omega), List.getD_eq_getElem?_getD, List.getElem?_eq_getElem (by omega)]
  rfl
theorem TV_34 {ca : Option Addr} {cc : Nat} {t : T} (h : t.R.length = 32) : (TV ca cc t)[34]? = some (.bool t.done) := by
  unfold TV; rw [List.getElem?_toArray, List.getElem?_append_right (by simp [h])]; simp [h]
theorem TV_35 {ca : Option Addr} {cc : Nat} {t : T} (h : t.R.length = 32) : (TV ca cc t)[35]? = some (.int .i64 t.ans) := by
  unfold TV; rw [List.getElem?_toArray, List.getElem?_append_right (by simp [h])]; simp [h]
theorem set_mid (x y : Value) (l r : List Value) (j : Nat) (v : Value) (h : j < l.length) : ([x, y] ++ l ++ r).set (2 + j) v = [x, y] ++ l.set j v ++ r := by
  rw [show 2 + j = j + 1 + 1 by omega]
  show x :: y :: (l ++ r).set j v = x :: y :: (l.set j v ++ r)
  rw [List.set_append_left _ _ h]
theorem TV_set1 (ca : Option Addr) (cc : Nat) (t : T) (p : Int) : (TV ca cc t).setIfInBounds 1 (.int .i64 p) = TV ca cc { t with pc := p } := by
  unfold TV; simp
theorem TV_setR {ca : Option Addr} {cc : Nat} {t : T} (h : t.R.length = 32) {j : Nat} (hj : j < 32) (v : Int) : (TV ca cc t).setIfInBounds (2 + j) (.int .u64 v) = TV ca cc { t with R := t.R.set j v } := by
  unfold TV
  rw [List.setIfInBounds_toArray, set_mid _ _ _ _ _ _ (by rw [List.length_map]; omega), ← List.map_set]
theorem TV_set34 {ca : Option Addr} {cc : Nat} {t : T} (h : t.R.length = 32) (d : Bool) : (TV ca cc t).setIfInBounds 34 (.bool d) = TV ca cc { t with done := d } := by
  unfold TV
  rw [List.setIfInBounds_toArray, List.set_append, if_neg (by simp [h])]
  simp [h]
theorem TV_set35 {ca : Option Addr} {cc : Nat} {t : T} (h : t.R.length = 32) (p : Int) : (TV ca cc t).setIfInBounds 35 (.int .i64 p) = TV ca cc { t with ans := p } := by
  unfold TV
  rw [List.setIfInBounds_toArray, List.set_append, if_neg (by simp [h])]
  simp [h]
theorem TV_one (ca : Option Addr) (cc : Nat) (t : T) : (TV ca cc t).all (·.oneCell') = true := by
  unfold TV
  simp [Value.oneCell']
theorem infoT : (Try.prog.info? 27).map (·.size) = some 36 := by kernel_rfl
theorem sizeT {ca : Option Addr} {cc : Nat} {t : T} (h : t.R.length = 32) : (Try.prog.info? 27).map (·.size) = some (TV ca cc t).size := by rw [TV_size h]; exact infoT
/-- A task comes to rest: what it may be. -/
theorem Tok.rs {t : T} (h : Tok t) (hl : t.code.length ≤ 200) (hs : sane t.code = true) (n : Nat) : Tok (rs n t) := by
  induction n generalizing t with
  | zero => exact h
  | succ n ih =>
    unfold Tk.rs
    split
    · exact h
    · split
      · exact ⟨h.len, h.reg, h.pc, by simp only; omega⟩
      · rename_i hp
        dsimp only
        split
        · exact h
        · split
          · exact ⟨h.len, h.reg, h.pc, by simp only; unfold wrap64; omega⟩
          · have hg := (saneAt_iff.1 ((sane_iff.1 hs).1 t.pc.toNat (by omega))).2.2
            split
            · exact ih (t := { t with pc := (at' t.code t.pc.toNat).go }) ⟨h.len, h.reg, by simp only; omega, h.ans⟩ hl hs
            · exact ih (t := { t with pc := t.pc + 1 }) ⟨h.len, h.reg, by simp only; omega, h.ans⟩ hl hs
theorem Tok.rest {t : T} (h : Tok t) (hs : sane t.code = true) : Tok (rest t) := Tok.rs h (sane_iff.1 hs).2.2 hs _
end Tk
end Go.Proofs.Ytnbejkhcifeeiaa
