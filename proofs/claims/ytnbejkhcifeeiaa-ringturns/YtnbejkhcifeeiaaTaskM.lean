/- Programs that do one access at a time: layer 12 as plain functions. -/
import Derived.Test.YtnbejkhcifeeiaaCellM2
namespace Go.Proofs.Ytnbejkhcifeeiaa
open Go.ChangeShapes Go.WideShapes Go.ChangeAt Go.RowKit
set_option linter.unusedVariables false
namespace Tk
open Wl Ce
/-- An instruction. -/
structure Ins where
  k : Int
  i : Int
  r : Int
  go : Int
  a : Int
instance : DecidableEq Ins := fun a b => decidable_of_iff (a.k = b.k ∧ a.i = b.i ∧ a.r = b.r ∧ a.go = b.go ∧ a.a = b.a) (by cases a; cases b; simp)
/-- A task. -/
structure T where
  code : List Ins
  pc : Int
  R : List Int
  done : Bool
  ans : Int
instance : DecidableEq T := fun a b => decidable_of_iff (a.code = b.code ∧ a.pc = b.pc ∧ a.R = b.R ∧ a.done = b.done ∧ a.ans = b.ans) (by cases a; cases b; simp)
def zin : Ins := ⟨0, 0, 0, 0, 0⟩
def at' (l : List Ins) (j : Nat) : Ins := l.getD j zin
def saneAt (n j : Nat) (x : Ins) : Bool := decide (0 ≤ x.k) && decide (x.k ≤ 6) && decide (0 ≤ x.r) && decide (x.r ≤ 31) && decide ((j : Int) < x.go) && decide (x.go ≤ n)
def sane (l : List Ins) : Bool := (List.range l.length).all (fun j => saneAt l.length j (at' l j)) && decide (1 ≤ l.length) && decide (l.length ≤ 200)
theorem saneAt_iff {n j : Nat} {x : Ins} : saneAt n j x = true ↔ (0 ≤ x.k ∧ x.k ≤ 6) ∧ (0 ≤ x.r ∧ x.r ≤ 31) ∧ (j : Int) < x.go ∧ x.go ≤ n := by
  unfold saneAt; simp only [Bool.and_eq_true, decide_eq_true_eq]; omega
theorem sane_iff {l : List Ins} : sane l = true ↔ (∀ j, j < l.length → saneAt l.length j (at' l j) = true) ∧ 1 ≤ l.length ∧ l.length ≤ 200 := by
  unfold sane
  rw [Bool.and_eq_true, Bool.and_eq_true, List.all_eq_true, decide_eq_true_eq, decide_eq_true_eq, and_assoc]
  exact ⟨fun h => ⟨fun j hj => h.1 j (List.mem_range.2 hj), h.2⟩, fun h => ⟨fun j hj => h.1 j (List.mem_range.1 hj), h.2⟩⟩
/-- Does an instruction that looks at registers go on elsewhere? -/
def jump (t : T) (x : Ins) : Bool := if x.k = 3 then decide (gt t.R x.r.toNat = x.a) else if x.k = 4 then decide (gt t.R x.r.toNat % 2 = 1) else decide (gt t.R x.r.toNat = gt t.R (x.i % 32).toNat)
/-- A task comes to rest, in so many looks at most. -/
def rs : Nat → T → T
  | 0, t => t
  | n + 1, t =>
    if t.done then t
    else if t.pc < 0 ∨ (t.code.length : Int) ≤ t.pc then { t with done := true, ans := -1 }
    else
      let x := at' t.code t.pc.toNat
      if x.k ≤ 2 then t
      else if x.k = 6 then { t with done := true, ans := wrap64 x.a }
      else if jump t x then rs n { t with pc := x.go }
      else rs n { t with pc := t.pc + 1 }
def rest (t : T) : T := rs (t.code.length + 1) t
def zeros : List Int := List.replicate 32 0
def nought : T := ⟨[], 0, zeros, true, -1⟩
def start (l : List Ins) : T := if sane l then rest ⟨l, 0, zeros, false, 0⟩ else nought
def kind (k : Int) : Int := if k = 0 then 0 else if k = 1 then 1 else 3
def accOf (x : Ins) : Acc := ⟨kind x.k, x.i, x.a, 0⟩
/-- The task behind its access, before it comes to rest. -/
def after (t : T) (m : List Int) : T :=
  let x := at' t.code t.pc.toNat
  { t with R := if x.k = 0 then t.R.set x.r.toNat (doW m (accOf x)) else t.R, pc := t.pc + 1 }
def stepT (t : T) (m : List Int) : T :=
  if t.done then t else if sane t.code = false then nought
  else if (rest t).done then rest t else rest (after (rest t) m)
def stepM (t : T) (m : List Int) : List Int :=
  if t.done then cut m else if sane t.code = false then cut m
  else if (rest t).done then cut m else doM m (accOf (at' (rest t).code (rest t).pc.toNat))
/-- Steps, until it is done, so many at most: the task, the memory, how many. -/
def runT : Nat → T → List Int → T × List Int × Nat
  | 0, t, m => (t, cut m, 0)
  | n + 1, t, m => if t.done then (t, cut m, 0) else let u := runT n (stepT t m) (stepM t m); (u.1, u.2.1, u.2.2 + 1)
def most (z : Int) : Nat := (min z 1000).toNat
/-- A task comes to rest where it stands or further on, is the same but for that, and rests. -/
theorem rs_code (n : Nat) (t : T) : (rs n t).code = t.code ∧ (rs n t).R = t.R := by
  induction n generalizing t with
  | zero => exact ⟨rfl, rfl⟩
  | succ n ih =>
    unfold rs
    split
    · exact ⟨rfl, rfl⟩
    · split
      · exact ⟨rfl, rfl⟩
      · dsimp only
        split
        · exact ⟨rfl, rfl⟩
        · split
          · exact ⟨rfl, rfl⟩
          · split
            · exact ih _
            · exact ih _
/-- At rest: done, or at an access. -/
def still (t : T) : Prop := t.done = true ∨ (0 ≤ t.pc ∧ t.pc < t.code.length ∧ (at' t.code t.pc.toNat).k ≤ 2)
theorem rs_pc {n : Nat} {t : T} (hs : sane t.code = true) : t.pc ≤ (rs n t).pc := by
  induction n generalizing t with
  | zero => exact Int.le_refl _
  | succ n ih =>
    unfold rs
    split
    · exact Int.le_refl _
    · split
      · exact Int.le_refl _
      · rename_i h
        dsimp only
        split
        · exact Int.le_refl _
        · split
          · exact Int.le_refl _
          · have hp := (saneAt_iff.1 ((sane_iff.1 hs).1 t.pc.toNat (by omega))).2.2.1
            split
            · exact Int.le_trans (by simp only; omega) (ih (t := { t with pc := (at' t.code t.pc.toNat).go }) hs)
            · exact Int.le_trans (by simp only; omega) (ih (t := { t with pc := t.pc + 1 }) hs)
theorem rs_still {n : Nat} {t : T} (hs : sane t.code = true) (hn : (t.code.length : Int) - t.pc < n) (h0 : 0 < n) : still (rs n t) := by
  induction n generalizing t with
  | zero => omega
  | succ n ih =>
    unfold rs
    split
    · rename_i h; exact .inl h
    · split
      · exact .inl rfl
      · rename_i h
        dsimp only
        split
        · rename_i h2; exact .inr ⟨by omega, by omega, h2⟩
        · split
          · exact .inl rfl
          · have hp := saneAt_iff.1 ((sane_iff.1 hs).1 t.pc.toNat (by omega))
            split
            · exact ih (t := { t with pc := (at' t.code t.pc.toNat).go }) hs (by simp only; omega) (by omega)
            · exact ih (t := { t with pc := t.pc + 1 }) hs (by simp only; omega) (by omega)
theorem rs_id {n : Nat} {t : T} (h : still t) : rs n t = t := by
  cases n with
  | zero => rfl
  | succ n =>
    unfold rs
    rcases h with h | ⟨h1, h2, h3⟩
    · rw [if_pos h]
    · split
      · rfl
      · rw [if_neg (by omega)]
        dsimp only
        rw [if_pos h3]
/-- Where a task of which the place is below 0 is asked, it is done at once. -/
theorem rest_still {t : T} (hs : sane t.code = true) : still (rest t) := by
  unfold rest
  by_cases h : t.done = true ∨ t.pc < 0
  · unfold rs
    rcases h with h | h
    · rw [if_pos h]; exact .inl h
    · split
      · rename_i g; exact .inl g
      · rw [if_pos (.inl h)]; exact .inl rfl
  · exact rs_still hs (by omega) (by omega)
theorem rest_id {t : T} (h : still t) : rest t = t := rs_id h
theorem rest_code (t : T) : (rest t).code = t.code ∧ (rest t).R = t.R := rs_code _ _
theorem rest_pc {t : T} (hs : sane t.code = true) : t.pc ≤ (rest t).pc := rs_pc hs
end Tk
end Go.Proofs.Ytnbejkhcifeeiaa
