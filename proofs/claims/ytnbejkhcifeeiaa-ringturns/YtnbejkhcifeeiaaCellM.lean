/- What accesses do to words. -/
import Derived.Test.YtnbejkhcifeeiaaWlS
import Derived.Test.YtnbejkhcifeeiaaLvS
import Derived.Deep.RegionHeld3
import Derived.Deep.DeepCutAuto
namespace Go.Proofs.Ytnbejkhcifeeiaa
open Go.ChangeShapes Go.WideShapes Go.ChangeAt Go.RowKit
set_option linter.unusedVariables false
namespace Ce
open Wl
/-- An access: its kind, the place, two words. -/
structure Acc where
  k : Int
  i : Int
  a : Int
  b : Int
def Acc.ok (x : Acc) : Prop := (-9223372036854775808 ≤ x.k ∧ x.k ≤ 9223372036854775807) ∧ (-9223372036854775808 ≤ x.i ∧ x.i ≤ 9223372036854775807) ∧ (0 ≤ x.a ∧ x.a ≤ 18446744073709551615) ∧ (0 ≤ x.b ∧ x.b ≤ 18446744073709551615)
def Acc.enc (x : Acc) (t : Nat) : Value := if t = 0 then .int .i64 x.k else if t = 1 then .int .i64 x.i else if t = 2 then .int .u64 x.a else .int .u64 x.b
/-- A list of accesses in memory. -/
abbrev Accs (w : World) (a : Option Addr) (c : Nat) (l : List Acc) : Prop := Lv.Is 4 Acc.enc w a c l ∧ ∀ x ∈ l, x.ok
theorem Accs.mr {w W : World} {a : Option Addr} {c : Nat} {l : List Acc} (h : Accs w a c l) (m : Mr w W) : Accs W a c l := ⟨h.1.mr m, h.2⟩
theorem Accs.num {w : World} {a : Option Addr} {c : Nat} {l : List Acc} (h : Accs w a c l) (i : Nat) (hi : i < l.length) : ∃ b o k j p q, a = some ⟨b, o, none⟩ ∧ b < w.heap.size ∧ l[i]? = some ⟨k, j, p, q⟩ ∧ Acc.ok ⟨k, j, p, q⟩ ∧ w.cell? ⟨b, o + i * 4, none⟩ = some (.int .i64 k) ∧ w.cell? ⟨b, o + i * 4 + 1, none⟩ = some (.int .i64 j) ∧ w.cell? ⟨b, o + i * 4 + 2, none⟩ = some (.int .u64 p) ∧ w.cell? ⟨b, o + i * 4 + 3, none⟩ = some (.int .u64 q) := by
  obtain ⟨b, o, x, e, hb, hx, hc⟩ := h.1.num i hi
  exact ⟨b, o, x.k, x.i, x.a, x.b, e, hb, hx, h.2 x (List.mem_of_getElem? hx), hc 0 (by omega), hc 1 (by omega), hc 2 (by omega), hc 3 (by omega)⟩
theorem Accs.take {w : World} {a : Option Addr} {c : Nat} {l : List Acc} (h : Accs w a c l) (k : Nat) : Accs w a c (l.take k) := ⟨h.1.take k, fun x hx => h.2 x (List.mem_of_mem_take hx)⟩
theorem Accs.from {w : World} {a : Option Addr} {c n : Nat} {l : List Acc} (h : Accs w a c l) (en : l.length = n) {A : Nat} (hA : A ≤ n) : Accs w (if c = A then a else a.map (·.add (A * 4))) (c - A) (l.drop A) := by
  have := h.1.piece (A := A) (Z := l.length) (by omega) (Nat.le_refl _)
  rw [List.take_length] at this
  exact ⟨this, fun x hx => h.2 x (List.mem_of_mem_drop hx)⟩
theorem sl_from (a : Option Addr) {n c A : Nat} (h1 : A ≤ n) (W : World) : (Instr.slice 78 (.slice a n c) (some (.int .i64 (A : Int))) none none).run Try.prog W = .ok (.slice (if c = A then a else a.map (·.add (A * 4))) (n - A) (c - A)) W := by
  rw [run_slice_l W 78 a n c (by kernel_rfl) .i64 (A : Int) (by omega) (by omega)]
  have hs : (sizeOf (Try.prog.elem 78)).run Try.prog W = .ok 4 W := by
    obtain ⟨i0, hi, hz1⟩ : ∃ i, Try.prog.info? 66 = some i ∧ i.size = 4 := by
      have : (Try.prog.info? 66).map (·.size) = some 4 := by kernel_rfl
      exact Option.map_eq_some_iff.1 this
    have he : Try.prog.elem 78 = 66 := by kernel_rfl
    simp [sizeOf, typeInfo, he, hi, hz1]
  rw [hs]
  simp [sliced]
/-- The words that count. -/
def cut (m : List Int) : List Int := m.take 256
def inb (m : List Int) (x : Acc) : Bool := decide (0 ≤ x.i) && decide (x.i < (cut m).length)
/-- The words behind an access, and what it tells. -/
def doM (m : List Int) (x : Acc) : List Int :=
  if inb m x then
    if x.k = 1 then (cut m).set x.i.toNat x.a
    else if x.k = 2 then (if gt m x.i.toNat = x.a then (cut m).set x.i.toNat x.b else cut m)
    else if x.k = 3 then (cut m).set x.i.toNat (IntKind.u64.wrap (gt m x.i.toNat + x.a))
    else cut m
  else cut m
def doW (m : List Int) (x : Acc) : Int :=
  if inb m x then
    if x.k = 0 then gt m x.i.toNat
    else if x.k = 2 then (if gt m x.i.toNat = x.a then 1 else 0)
    else if x.k = 3 then IntKind.u64.wrap (gt m x.i.toNat + x.a)
    else 0
  else 0
def runM : List Int → List Acc → List Int
  | m, [] => cut m
  | m, x :: l => runM (doM m x) l
def runW : List Int → List Acc → List Int
  | m, [] => []
  | m, x :: l => doW m x :: runW (doM m x) l
def Wb (m : List Int) : Prop := ∀ j, 0 ≤ gt m j ∧ gt m j ≤ 18446744073709551615
theorem wrap_bd (n : Int) : 0 ≤ IntKind.u64.wrap n ∧ IntKind.u64.wrap n ≤ 18446744073709551615 := by rw [IntKind.wrap_u64]; omega
theorem cut_len (m : List Int) : (cut m).length = min 256 m.length := by unfold cut; rw [List.length_take]
theorem doM_len (m : List Int) (x : Acc) : (doM m x).length = (cut m).length := by
  unfold doM
  repeat' split
  all_goals simp
theorem cut_cut (m : List Int) : cut (cut m) = cut m := by unfold cut; rw [List.take_take]; rfl
theorem cut_all {m : List Int} (h : m.length ≤ 256) : cut m = m := List.take_of_length_le h
theorem doM_all (m : List Int) (x : Acc) : cut (doM m x) = doM m x := cut_all (by rw [doM_len, cut_len]; omega)
theorem gt_cut (m : List Int) (j : Nat) : gt (cut m) j = if j < 256 then gt m j else 0 := gt_take m 256 j
theorem gt_set (m : List Int) (i j : Nat) (v : Int) : gt (m.set i v) j = if i = j ∧ j < m.length then v else gt m j := by
  unfold gt
  rw [List.getD_eq_getElem?_getD, List.getD_eq_getElem?_getD, List.getElem?_set]
  by_cases h : i = j
  · subst h
    by_cases g : i < m.length
    · simp [g]
    · simp [g]
  · simp [h]
theorem Wb.cut {m : List Int} (h : Wb m) : Wb (cut m) := fun j => by
  rw [gt_cut]
  split
  · exact h j
  · omega
theorem Wb.set {m : List Int} (h : Wb m) (i : Nat) {v : Int} (hv : 0 ≤ v ∧ v ≤ 18446744073709551615) : Wb (m.set i v) := fun j => by
  rw [gt_set]
  split
  · exact hv
  · exact h j
theorem Wb.doM {m : List Int} (h : Wb m) {x : Acc} (hx : x.ok) : Wb (doM m x) := by
  obtain ⟨-, -, ha, hb⟩ := hx
  unfold Ce.doM
  repeat' split
  · exact h.cut.set _ ha
  · exact h.cut.set _ hb
  · exact h.cut
  · exact h.cut.set _ (wrap_bd _)
  · exact h.cut
  · exact h.cut
theorem Wb.doW {m : List Int} (h : Wb m) (x : Acc) : 0 ≤ doW m x ∧ doW m x ≤ 18446744073709551615 := by
  unfold Ce.doW
  repeat' split
  · exact h _
  · omega
  · omega
  · exact wrap_bd _
  · omega
  · omega
theorem runM_len (m : List Int) (l : List Acc) : (runM m l).length = (cut m).length := by
  induction l generalizing m with
  | nil => rfl
  | cons x l ih => unfold runM; rw [ih, doM_all, doM_len]
theorem runW_len (m : List Int) (l : List Acc) : (runW m l).length = l.length := by
  induction l generalizing m with
  | nil => rfl
  | cons x l ih => unfold runW; rw [List.length_cons, List.length_cons, ih]
theorem doM_cut (m : List Int) (x : Acc) (h : m.length ≤ 256) : doM (cut m) x = doM m x := by rw [cut_all h]
theorem runM_all (m : List Int) (l : List Acc) : cut (runM m l) = runM m l := cut_all (by rw [runM_len, cut_len]; omega)
theorem runM_snoc (m : List Int) (l : List Acc) (x : Acc) : runM m (l ++ [x]) = doM (runM m l) x := by
  induction l generalizing m with
  | nil =>
    show cut (doM m x) = doM (cut m) x
    rw [doM_all]
    unfold doM inb
    rw [cut_cut]
    by_cases h : 0 ≤ x.i ∧ x.i < (cut m).length
    · have : gt (cut m) x.i.toNat = gt m x.i.toNat := by
        rw [gt_cut, if_pos]
        have := cut_len m
        omega
      rw [this]
    · have : (decide (0 ≤ x.i) && decide (x.i < ((cut m).length : Nat))) = false := by
        rw [Bool.eq_false_iff]; intro g; simp only [Bool.and_eq_true, decide_eq_true_eq] at g; exact h g
      rw [this]; rfl
  | cons y l ih => exact ih _
theorem doW_cut (m : List Int) (x : Acc) : doW (cut m) x = doW m x := by
  unfold doW inb
  rw [cut_cut]
  by_cases h : 0 ≤ x.i ∧ x.i < (cut m).length
  · have : gt (cut m) x.i.toNat = gt m x.i.toNat := by
      rw [gt_cut, if_pos]
      have := cut_len m
      omega
    rw [this]
  · have : (decide (0 ≤ x.i) && decide (x.i < ((cut m).length : Nat))) = false := by
      rw [Bool.eq_false_iff]; intro g; simp only [Bool.and_eq_true, decide_eq_true_eq] at g; exact h g
    rw [this]; rfl
theorem runW_snoc (m : List Int) (l : List Acc) (x : Acc) : runW m (l ++ [x]) = runW m l ++ [doW (runM m l) x] := by
  induction l generalizing m with
  | nil => show [doW m x] = [doW (cut m) x]; rw [doW_cut]
  | cons y l ih => show doW m y :: runW (doM m y) (l ++ [x]) = _; rw [ih]; rfl
theorem Wb.runM {m : List Int} (h : Wb m) {l : List Acc} (hl : ∀ x ∈ l, x.ok) : Wb (runM m l) := by
  induction l generalizing m with
  | nil => exact h.cut
  | cons x l ih => exact ih (h.doM (hl x (List.mem_cons_self ..))) (fun y hy => hl y (List.mem_cons_of_mem _ hy))
theorem Wb.runW {m : List Int} (h : Wb m) {l : List Acc} (hl : ∀ x ∈ l, x.ok) : Wb (runW m l) := by
  induction l generalizing m with
  | nil => intro j; simp [Ce.runW, gt]
  | cons x l ih =>
    intro j
    cases j with
    | zero => exact h.doW x
    | succ j => exact ih (h.doM (hl x (List.mem_cons_self ..))) (fun y hy => hl y (List.mem_cons_of_mem _ hy)) j
/-- How many new words there are. -/
def nw (z : Int) : Nat := (min z 256).toNat
theorem Wb.zeros (n : Nat) : Wb (List.replicate n 0) := fun j => by
  unfold gt
  rw [List.getD_eq_getElem?_getD, List.getElem?_replicate]
  split <;> simp
theorem Wb.of_all {xs : List Int} (h : (xs.all fun u => decide (0 ≤ u) && decide (u ≤ 18446744073709551615)) = true) : Wb xs := fun j => by
  unfold gt
  rw [List.getD_eq_getElem?_getD]
  by_cases g : j < xs.length
  · rw [List.getElem?_eq_getElem g]
    have := List.all_eq_true.1 h _ (List.getElem_mem g)
    simp only [Bool.and_eq_true, decide_eq_true_eq] at this
    exact this
  · rw [List.getElem?_eq_none (by omega)]
    simp
/-- Words that are written down. -/
theorem lit_is {w : World} (B : Nat) (hB : w.heap.size = B) (xs : List Int) (n : Nat) (hn : xs.length = n) (h : (xs.all fun u => decide (0 ≤ u) && decide (u ≤ 18446744073709551615)) = true) (hm : decide (xs.length ≤ 1000) = true) (vs : Array Value) (hv : vs.toList = xs.map (Value.int .u64)) : Wl.Is (w.alloc (.cells vs 24)) (some ⟨B, 0, none⟩) n xs := by
  subst hB; subst hn
  exact Wl.of_cells xs (Wb.of_all h) (by have := of_decide_eq_true hm; unfold maxLen; omega) vs hv
def Acc.okB (x : Acc) : Bool := decide (-9223372036854775808 ≤ x.k) && decide (x.k ≤ 9223372036854775807) && decide (-9223372036854775808 ≤ x.i) && decide (x.i ≤ 9223372036854775807) && decide (0 ≤ x.a) && decide (x.a ≤ 18446744073709551615) && decide (0 ≤ x.b) && decide (x.b ≤ 18446744073709551615)
theorem Acc.ok_of {x : Acc} (h : x.okB = true) : x.ok := by
  unfold Acc.okB at h
  simp only [Bool.and_eq_true, decide_eq_true_eq] at h
  unfold Acc.ok
  omega
/-- Accesses that are written down. -/
theorem lit_accs {w : World} (B : Nat) (hB : w.heap.size = B) (xs : List Acc) (n : Nat) (hn : xs.length = n) (h : xs.all Acc.okB = true) (hm : decide (xs.length ≤ 1000) = true) (vs : Array Value) (hv : vs.toList = Lv.flat 4 Acc.enc xs) : Accs (w.alloc (.cells vs 66)) (some ⟨B, 0, none⟩) n xs := by
  subst hB; subst hn
  exact ⟨Lv.of_cells xs (by have := of_decide_eq_true hm; unfold maxLen; omega) vs hv, fun x hx => Acc.ok_of (List.all_eq_true.1 h x hx)⟩
theorem lit_accs' {w : World} (B : Nat) (hB : w.heap.size = B) (xs : List Acc) (n : Nat) (hn : xs.length = n) (h : ∀ x ∈ xs, x.ok) (hm : xs.length ≤ 1000) (vs : Array Value) (hv : vs.toList = Lv.flat 4 Acc.enc xs) : Accs (w.alloc (.cells vs 66)) (some ⟨B, 0, none⟩) n xs := by
  subst hB; subst hn
  exact ⟨Lv.of_cells xs (by unfold maxLen; omega) vs hv, h⟩
end Ce
end Go.Proofs.Ytnbejkhcifeeiaa
