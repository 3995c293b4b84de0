/- A ring's two programs as lists of instructions, step by step: layer 14. -/
import Derived.Test.YtnbejkhcifeeiaaTaskM2
namespace Go.Proofs.Ytnbejkhcifeeiaa
open Go.ChangeShapes Go.WideShapes Go.ChangeAt Go.RowKit
set_option linter.unusedVariables false
namespace Rg
open Wl Ce Tk
theorem w64_0 : wrap64 0 = 0 := by simp [wrap64]
theorem w64_1 : wrap64 1 = 1 := by simp [wrap64]
def may (b c : Int) : Bool := decide (0 ≤ b) && decide (b ≤ 255) && decide (1 ≤ c) && decide (c ≤ 8)
theorem may_iff {b c : Int} : may b c = true ↔ (0 ≤ b ∧ b ≤ 255) ∧ 1 ≤ c ∧ c ≤ 8 := by
  unfold may; simp only [Bool.and_eq_true, decide_eq_true_eq]; omega
def size (c : Int) : Int := if may 0 c then 3 + 6 * c else 0
/-- Where the place of a number begins. -/
def pl (b c n : Int) : Int := b + 3 + 6 * (n % c)
theorem pl_bd {b c n : Int} (h : may b c = true) : b + 3 ≤ pl b c n ∧ pl b c n + 6 ≤ b + 3 + 6 * c := by
  have := may_iff.1 h
  have h1 := Int.emod_nonneg n (b := c) (by omega)
  have h2 := Int.emod_lt_of_pos n (b := c) (by omega)
  unfold pl; omega
def pushL (b c t : Int) (w : List Int) : List Ins :=
  [⟨0, b, 0, 1, 0⟩, ⟨3, 0, 0, 10, IntKind.u64.wrap (t - c)⟩,
   ⟨1, pl b c t + 0, 0, 3, gt w 0⟩, ⟨1, pl b c t + 1, 0, 4, gt w 1⟩, ⟨1, pl b c t + 2, 0, 5, gt w 2⟩, ⟨1, pl b c t + 3, 0, 6, gt w 3⟩, ⟨1, pl b c t + 4, 0, 7, gt w 4⟩, ⟨1, pl b c t + 5, 0, 8, gt w 5⟩,
   ⟨1, b + 1, 0, 9, t + 1⟩, ⟨6, 0, 0, 10, 1⟩, ⟨2, b + 2, 0, 11, 1⟩, ⟨6, 0, 0, 12, 0⟩]
def popL (b c h : Int) : List Ins :=
  [⟨0, b + 1, 0, 1, 0⟩, ⟨3, 0, 0, 10, h⟩,
   ⟨0, pl b c h + 0, 1, 3, 0⟩, ⟨0, pl b c h + 1, 2, 4, 0⟩, ⟨0, pl b c h + 2, 3, 5, 0⟩, ⟨0, pl b c h + 3, 4, 6, 0⟩, ⟨0, pl b c h + 4, 5, 7, 0⟩, ⟨0, pl b c h + 5, 6, 8, 0⟩,
   ⟨1, b, 0, 9, h + 1⟩, ⟨6, 0, 0, 10, 1⟩, ⟨6, 0, 0, 11, 0⟩]
def push (b c t : Int) (w : List Int) : List Ins := if may b c && decide (0 ≤ t) && decide (w.length = 6) then pushL b c t w else []
def pop (b c h : Int) : List Ins := if may b c && decide (0 ≤ h) then popL b c h else []
def tells (t : T) : Bool := t.done && decide (t.ans = 1)
def taken (t : T) : List Int := if tells t then [gt t.R 1, gt t.R 2, gt t.R 3, gt t.R 4, gt t.R 5, gt t.R 6] else []
theorem push_sane (b c t : Int) (w : List Int) : sane (pushL b c t w) = true := by
  refine sane_iff.2 ⟨fun j hj => ?_, by show 1 ≤ 12; decide, by show 12 ≤ 200; decide⟩
  have hj' : j < 12 := hj
  have : j = 0 ∨ j = 1 ∨ j = 2 ∨ j = 3 ∨ j = 4 ∨ j = 5 ∨ j = 6 ∨ j = 7 ∨ j = 8 ∨ j = 9 ∨ j = 10 ∨ j = 11 := by omega
  rcases this with rfl | rfl | rfl | rfl | rfl | rfl | rfl | rfl | rfl | rfl | rfl | rfl <;> exact rfl
theorem pop_sane (b c h : Int) : sane (popL b c h) = true := by
  refine sane_iff.2 ⟨fun j hj => ?_, by show 1 ≤ 11; decide, by show 11 ≤ 200; decide⟩
  have hj' : j < 11 := hj
  have : j = 0 ∨ j = 1 ∨ j = 2 ∨ j = 3 ∨ j = 4 ∨ j = 5 ∨ j = 6 ∨ j = 7 ∨ j = 8 ∨ j = 9 ∨ j = 10 := by omega
  rcases this with rfl | rfl | rfl | rfl | rfl | rfl | rfl | rfl | rfl | rfl | rfl <;> exact rfl
/-! Coming to rest. -/
theorem rs_acc (C : List Ins) {p : Int} {R : List Int} (h0 : 0 ≤ p) (h1 : p < C.length) (hk : (at' C p.toNat).k ≤ 2) (n : Nat) : rs n ⟨C, p, R, false, 0⟩ = ⟨C, p, R, false, 0⟩ := rs_id (.inr ⟨h0, h1, hk⟩)
theorem rs_end (C : List Ins) {p : Int} {R : List Int} (h0 : 0 ≤ p) (h1 : p < C.length) (hk : (at' C p.toNat).k = 6) {v : Int} (hv : wrap64 (at' C p.toNat).a = v) (n : Nat) : rs (n + 1) ⟨C, p, R, false, 0⟩ = ⟨C, p, R, true, v⟩ := by
  subst hv
  unfold rs
  rw [if_neg (by show ¬ false = true; decide), if_neg (by show ¬ (p < 0 ∨ (C.length : Int) ≤ p); omega)]
  dsimp only
  rw [if_neg (by omega), if_pos hk]
theorem rs_same (C : List Ins) {p : Int} {R : List Int} (h0 : 0 ≤ p) (h1 : p < C.length) (hk : (at' C p.toNat).k = 3) (n : Nat) : rs (n + 1) ⟨C, p, R, false, 0⟩ = if gt R (at' C p.toNat).r.toNat = (at' C p.toNat).a then rs n ⟨C, (at' C p.toNat).go, R, false, 0⟩ else rs n ⟨C, p + 1, R, false, 0⟩ := by
  conv => lhs; unfold rs
  rw [if_neg (by show ¬ false = true; decide), if_neg (by show ¬ (p < 0 ∨ (C.length : Int) ≤ p); omega)]
  dsimp only
  rw [if_neg (by omega), if_neg (by omega)]
  unfold jump
  rw [if_pos hk]
  simp only [decide_eq_true_eq]
/-- A step of a task that stands at an access. -/
theorem step_at (C : List Ins) {p : Int} {R : List Int} (hs : sane C = true) (h0 : 0 ≤ p) (h1 : p < C.length) (hk : (at' C p.toNat).k ≤ 2) (m : List Int) :
    Tk.stepT ⟨C, p, R, false, 0⟩ m = rest ⟨C, p + 1, if (at' C p.toNat).k = 0 then R.set (at' C p.toNat).r.toNat (doW m (accOf (at' C p.toNat))) else R, false, 0⟩ ∧ Tk.stepM ⟨C, p, R, false, 0⟩ m = doM m (accOf (at' C p.toNat)) := by
  have hr : rest ⟨C, p, R, false, 0⟩ = ⟨C, p, R, false, 0⟩ := rest_id (.inr ⟨h0, h1, hk⟩)
  constructor
  · unfold Tk.stepT
    rw [if_neg (by show ¬ false = true; decide), if_neg (by show ¬ sane C = false; rw [hs]; decide), hr, if_neg (by show ¬ false = true; decide)]
    rfl
  · unfold Tk.stepM
    rw [if_neg (by show ¬ false = true; decide), if_neg (by show ¬ sane C = false; rw [hs]; decide), hr, if_neg (by show ¬ false = true; decide)]
theorem look_M (m : List Int) (i a b : Int) : doM m ⟨0, i, a, b⟩ = cut m := by
  unfold doM
  split
  · rfl
  · rfl
theorem first_set (v : Int) : gt (zeros.set 0 v) 0 = v := by
  rw [gt_set]; exact if_pos ⟨rfl, by decide⟩
/-! Who lays. -/
section
variable (b c t : Int) (w : List Int)
theorem push_start : Tk.start (pushL b c t w) = ⟨pushL b c t w, 0, zeros, false, 0⟩ := by
  unfold Tk.start
  rw [if_pos (push_sane b c t w)]
  exact rs_acc (pushL b c t w) (by decide) (by show (0 : Int) < 12; decide) (by show (0 : Int) ≤ 2; decide) _
theorem push_0 (m : List Int) : Tk.stepT ⟨pushL b c t w, 0, zeros, false, 0⟩ m = ⟨pushL b c t w, if doW m ⟨0, b, 0, 0⟩ = IntKind.u64.wrap (t - c) then 10 else 2, zeros.set 0 (doW m ⟨0, b, 0, 0⟩), false, 0⟩ ∧ Tk.stepM ⟨pushL b c t w, 0, zeros, false, 0⟩ m = cut m := by
  have h := step_at (pushL b c t w) (R := zeros) (push_sane b c t w) (p := 0) (by decide) (by show (0 : Int) < 12; decide) (by show (0 : Int) ≤ 2; decide) m
  constructor
  · rw [h.1]
    show rs (12 + 1) ⟨pushL b c t w, 1, zeros.set 0 (doW m ⟨0, b, 0, 0⟩), false, 0⟩ = _
    rw [rs_same (pushL b c t w) (by decide) (by show (1 : Int) < 12; decide) (by show (3 : Int) = 3; rfl)]
    show (if gt (zeros.set 0 (doW m ⟨0, b, 0, 0⟩)) 0 = IntKind.u64.wrap (t - c) then rs 12 ⟨pushL b c t w, 10, _, false, 0⟩ else rs 12 ⟨pushL b c t w, 2, _, false, 0⟩) = _
    rw [first_set]
    split
    · exact rs_acc (pushL b c t w) (by decide) (by show (10 : Int) < 12; decide) (by show (2 : Int) ≤ 2; decide) _
    · exact rs_acc (pushL b c t w) (by decide) (by show (2 : Int) < 12; decide) (by show (1 : Int) ≤ 2; decide) _
  · rw [h.2]
    exact look_M m b 0 0
theorem push_put (R m : List Int) (j : Nat) (hj : j < 6) : Tk.stepT ⟨pushL b c t w, (j : Int) + 2, R, false, 0⟩ m = ⟨pushL b c t w, (j : Int) + 3, R, false, 0⟩ ∧ Tk.stepM ⟨pushL b c t w, (j : Int) + 2, R, false, 0⟩ m = doM m ⟨1, pl b c t + j, gt w j, 0⟩ := by
  have : j = 0 ∨ j = 1 ∨ j = 2 ∨ j = 3 ∨ j = 4 ∨ j = 5 := by omega
  rcases this with rfl | rfl | rfl | rfl | rfl | rfl
  · refine ⟨((step_at (pushL b c t w) (R := R) (push_sane b c t w) (p := 2) (by decide) (by show (2 : Int) < 12; decide) (by show (1 : Int) ≤ 2; decide) m).1).trans ?_, (step_at (pushL b c t w) (R := R) (push_sane b c t w) (p := 2) (by decide) (by show (2 : Int) < 12; decide) (by show (1 : Int) ≤ 2; decide) m).2⟩
    exact rs_acc (pushL b c t w) (p := 3) (by decide) (by show (3 : Int) < 12; decide) (by show (1 : Int) ≤ 2; decide) _
  · refine ⟨((step_at (pushL b c t w) (R := R) (push_sane b c t w) (p := 3) (by decide) (by show (3 : Int) < 12; decide) (by show (1 : Int) ≤ 2; decide) m).1).trans ?_, (step_at (pushL b c t w) (R := R) (push_sane b c t w) (p := 3) (by decide) (by show (3 : Int) < 12; decide) (by show (1 : Int) ≤ 2; decide) m).2⟩
    exact rs_acc (pushL b c t w) (p := 4) (by decide) (by show (4 : Int) < 12; decide) (by show (1 : Int) ≤ 2; decide) _
  · refine ⟨((step_at (pushL b c t w) (R := R) (push_sane b c t w) (p := 4) (by decide) (by show (4 : Int) < 12; decide) (by show (1 : Int) ≤ 2; decide) m).1).trans ?_, (step_at (pushL b c t w) (R := R) (push_sane b c t w) (p := 4) (by decide) (by show (4 : Int) < 12; decide) (by show (1 : Int) ≤ 2; decide) m).2⟩
    exact rs_acc (pushL b c t w) (p := 5) (by decide) (by show (5 : Int) < 12; decide) (by show (1 : Int) ≤ 2; decide) _
  · refine ⟨((step_at (pushL b c t w) (R := R) (push_sane b c t w) (p := 5) (by decide) (by show (5 : Int) < 12; decide) (by show (1 : Int) ≤ 2; decide) m).1).trans ?_, (step_at (pushL b c t w) (R := R) (push_sane b c t w) (p := 5) (by decide) (by show (5 : Int) < 12; decide) (by show (1 : Int) ≤ 2; decide) m).2⟩
    exact rs_acc (pushL b c t w) (p := 6) (by decide) (by show (6 : Int) < 12; decide) (by show (1 : Int) ≤ 2; decide) _
  · refine ⟨((step_at (pushL b c t w) (R := R) (push_sane b c t w) (p := 6) (by decide) (by show (6 : Int) < 12; decide) (by show (1 : Int) ≤ 2; decide) m).1).trans ?_, (step_at (pushL b c t w) (R := R) (push_sane b c t w) (p := 6) (by decide) (by show (6 : Int) < 12; decide) (by show (1 : Int) ≤ 2; decide) m).2⟩
    exact rs_acc (pushL b c t w) (p := 7) (by decide) (by show (7 : Int) < 12; decide) (by show (1 : Int) ≤ 2; decide) _
  · refine ⟨((step_at (pushL b c t w) (R := R) (push_sane b c t w) (p := 7) (by decide) (by show (7 : Int) < 12; decide) (by show (1 : Int) ≤ 2; decide) m).1).trans ?_, (step_at (pushL b c t w) (R := R) (push_sane b c t w) (p := 7) (by decide) (by show (7 : Int) < 12; decide) (by show (1 : Int) ≤ 2; decide) m).2⟩
    exact rs_acc (pushL b c t w) (p := 8) (by decide) (by show (8 : Int) < 12; decide) (by show (1 : Int) ≤ 2; decide) _
theorem push_8 (R m : List Int) : Tk.stepT ⟨pushL b c t w, 8, R, false, 0⟩ m = ⟨pushL b c t w, 9, R, true, 1⟩ ∧ Tk.stepM ⟨pushL b c t w, 8, R, false, 0⟩ m = doM m ⟨1, b + 1, t + 1, 0⟩ := by
  have h := step_at (pushL b c t w) (R := R) (push_sane b c t w) (p := 8) (by decide) (by show (8 : Int) < 12; decide) (by show (1 : Int) ≤ 2; decide) m
  refine ⟨h.1.trans ?_, h.2⟩
  exact rs_end (pushL b c t w) (p := 9) (by decide) (by show (9 : Int) < 12; decide) (by show (6 : Int) = 6; rfl) w64_1 12
theorem push_10 (R m : List Int) : Tk.stepT ⟨pushL b c t w, 10, R, false, 0⟩ m = ⟨pushL b c t w, 11, R, true, 0⟩ ∧ Tk.stepM ⟨pushL b c t w, 10, R, false, 0⟩ m = doM m ⟨3, b + 2, 1, 0⟩ := by
  have h := step_at (pushL b c t w) (R := R) (push_sane b c t w) (p := 10) (by decide) (by show (10 : Int) < 12; decide) (by show (2 : Int) ≤ 2; decide) m
  refine ⟨h.1.trans ?_, h.2⟩
  exact rs_end (pushL b c t w) (p := 11) (by decide) (by show (11 : Int) < 12; decide) (by show (6 : Int) = 6; rfl) w64_0 12
end
/-! Who takes. -/
section
variable (b c t : Int)
theorem pop_start : Tk.start (popL b c t) = ⟨popL b c t, 0, zeros, false, 0⟩ := by
  unfold Tk.start
  rw [if_pos (pop_sane b c t)]
  exact rs_acc (popL b c t) (by decide) (by show (0 : Int) < 11; decide) (by show (0 : Int) ≤ 2; decide) _
theorem pop_0 (m : List Int) : Tk.stepT ⟨popL b c t, 0, zeros, false, 0⟩ m = (if doW m ⟨0, b + 1, 0, 0⟩ = t then ⟨popL b c t, 10, zeros.set 0 (doW m ⟨0, b + 1, 0, 0⟩), true, 0⟩ else ⟨popL b c t, 2, zeros.set 0 (doW m ⟨0, b + 1, 0, 0⟩), false, 0⟩) ∧ Tk.stepM ⟨popL b c t, 0, zeros, false, 0⟩ m = cut m := by
  have h := step_at (popL b c t) (R := zeros) (pop_sane b c t) (p := 0) (by decide) (by show (0 : Int) < 11; decide) (by show (0 : Int) ≤ 2; decide) m
  constructor
  · rw [h.1]
    show rs (11 + 1) ⟨popL b c t, 1, zeros.set 0 (doW m ⟨0, b + 1, 0, 0⟩), false, 0⟩ = _
    rw [rs_same (popL b c t) (by decide) (by show (1 : Int) < 11; decide) (by show (3 : Int) = 3; rfl)]
    show (if gt (zeros.set 0 (doW m ⟨0, b + 1, 0, 0⟩)) 0 = t then rs 11 ⟨popL b c t, 10, _, false, 0⟩ else rs 11 ⟨popL b c t, 2, _, false, 0⟩) = _
    rw [first_set]
    split
    · exact rs_end (popL b c t) (p := 10) (by decide) (by show (10 : Int) < 11; decide) (by show (6 : Int) = 6; rfl) w64_0 10
    · exact rs_acc (popL b c t) (by decide) (by show (2 : Int) < 11; decide) (by show (0 : Int) ≤ 2; decide) _
  · rw [h.2]
    exact look_M m (b + 1) 0 0
theorem pop_take (R m : List Int) (j : Nat) (hj : j < 6) : Tk.stepT ⟨popL b c t, (j : Int) + 2, R, false, 0⟩ m = ⟨popL b c t, (j : Int) + 3, R.set (j + 1) (doW m ⟨0, pl b c t + j, 0, 0⟩), false, 0⟩ ∧ Tk.stepM ⟨popL b c t, (j : Int) + 2, R, false, 0⟩ m = cut m := by
  have : j = 0 ∨ j = 1 ∨ j = 2 ∨ j = 3 ∨ j = 4 ∨ j = 5 := by omega
  rcases this with rfl | rfl | rfl | rfl | rfl | rfl
  · refine ⟨((step_at (popL b c t) (R := R) (pop_sane b c t) (p := 2) (by decide) (by show (2 : Int) < 11; decide) (by show (0 : Int) ≤ 2; decide) m).1).trans ?_, ((step_at (popL b c t) (R := R) (pop_sane b c t) (p := 2) (by decide) (by show (2 : Int) < 11; decide) (by show (0 : Int) ≤ 2; decide) m).2).trans (look_M m _ 0 0)⟩
    exact rs_acc (popL b c t) (p := 3) (by decide) (by show (3 : Int) < 11; decide) (by first | (show (0 : Int) ≤ 2; decide) | (show (1 : Int) ≤ 2; decide)) _
  · refine ⟨((step_at (popL b c t) (R := R) (pop_sane b c t) (p := 3) (by decide) (by show (3 : Int) < 11; decide) (by show (0 : Int) ≤ 2; decide) m).1).trans ?_, ((step_at (popL b c t) (R := R) (pop_sane b c t) (p := 3) (by decide) (by show (3 : Int) < 11; decide) (by show (0 : Int) ≤ 2; decide) m).2).trans (look_M m _ 0 0)⟩
    exact rs_acc (popL b c t) (p := 4) (by decide) (by show (4 : Int) < 11; decide) (by first | (show (0 : Int) ≤ 2; decide) | (show (1 : Int) ≤ 2; decide)) _
  · refine ⟨((step_at (popL b c t) (R := R) (pop_sane b c t) (p := 4) (by decide) (by show (4 : Int) < 11; decide) (by show (0 : Int) ≤ 2; decide) m).1).trans ?_, ((step_at (popL b c t) (R := R) (pop_sane b c t) (p := 4) (by decide) (by show (4 : Int) < 11; decide) (by show (0 : Int) ≤ 2; decide) m).2).trans (look_M m _ 0 0)⟩
    exact rs_acc (popL b c t) (p := 5) (by decide) (by show (5 : Int) < 11; decide) (by first | (show (0 : Int) ≤ 2; decide) | (show (1 : Int) ≤ 2; decide)) _
  · refine ⟨((step_at (popL b c t) (R := R) (pop_sane b c t) (p := 5) (by decide) (by show (5 : Int) < 11; decide) (by show (0 : Int) ≤ 2; decide) m).1).trans ?_, ((step_at (popL b c t) (R := R) (pop_sane b c t) (p := 5) (by decide) (by show (5 : Int) < 11; decide) (by show (0 : Int) ≤ 2; decide) m).2).trans (look_M m _ 0 0)⟩
    exact rs_acc (popL b c t) (p := 6) (by decide) (by show (6 : Int) < 11; decide) (by first | (show (0 : Int) ≤ 2; decide) | (show (1 : Int) ≤ 2; decide)) _
  · refine ⟨((step_at (popL b c t) (R := R) (pop_sane b c t) (p := 6) (by decide) (by show (6 : Int) < 11; decide) (by show (0 : Int) ≤ 2; decide) m).1).trans ?_, ((step_at (popL b c t) (R := R) (pop_sane b c t) (p := 6) (by decide) (by show (6 : Int) < 11; decide) (by show (0 : Int) ≤ 2; decide) m).2).trans (look_M m _ 0 0)⟩
    exact rs_acc (popL b c t) (p := 7) (by decide) (by show (7 : Int) < 11; decide) (by first | (show (0 : Int) ≤ 2; decide) | (show (1 : Int) ≤ 2; decide)) _
  · refine ⟨((step_at (popL b c t) (R := R) (pop_sane b c t) (p := 7) (by decide) (by show (7 : Int) < 11; decide) (by show (0 : Int) ≤ 2; decide) m).1).trans ?_, ((step_at (popL b c t) (R := R) (pop_sane b c t) (p := 7) (by decide) (by show (7 : Int) < 11; decide) (by show (0 : Int) ≤ 2; decide) m).2).trans (look_M m _ 0 0)⟩
    exact rs_acc (popL b c t) (p := 8) (by decide) (by show (8 : Int) < 11; decide) (by first | (show (0 : Int) ≤ 2; decide) | (show (1 : Int) ≤ 2; decide)) _
theorem pop_8 (R m : List Int) : Tk.stepT ⟨popL b c t, 8, R, false, 0⟩ m = ⟨popL b c t, 9, R, true, 1⟩ ∧ Tk.stepM ⟨popL b c t, 8, R, false, 0⟩ m = doM m ⟨1, b, t + 1, 0⟩ := by
  have h := step_at (popL b c t) (R := R) (pop_sane b c t) (p := 8) (by decide) (by show (8 : Int) < 11; decide) (by show (1 : Int) ≤ 2; decide) m
  refine ⟨h.1.trans ?_, h.2⟩
  exact rs_end (popL b c t) (p := 9) (by decide) (by show (9 : Int) < 11; decide) (by show (6 : Int) = 6; rfl) w64_1 11
end
end Rg
end Go.Proofs.Ytnbejkhcifeeiaa
