/- The document's own answers of layer 10, first part: numbers by calls, and whether something was clamped. -/
import Derived.Test.YtpammdogkkipbaaMatC0
import Derived.Test.YtpammdogkkipbaaSolveM
import Derived.Test.YtpammdogkkipbaaRefC8
import Derived.Deep.RegionHeld3
namespace Go.Proofs.Ytpammdogkkipbaa
open Go.ChangeShapes Go.WideShapes Go.ChangeAt Go.RowKit
open Go.Proofs.Ytpammdogkkipbaa.Fx Go.Proofs.Ytpammdogkkipbaa.Wd Go.Proofs.Ytpammdogkkipbaa.Sc Go.Proofs.Ytpammdogkkipbaa.Sl
set_option linter.unusedVariables false
attribute [local go_sem] Ext.cell Ext.froz Ext.lt Ext.lt1 Ext.lt2 Ext.lt3 Ext.all Ext.set_u drew_heap setCell_size Ext.set_size
namespace Sv
open Ma
/-- All that was there is as it was, but one box. -/
structure Kb (B : Nat) (W W' : World) : Prop where
  os : W'.os = W.os
  tape : W'.tape = W.tape
  output : W'.output = W.output
  size : W.heap.size ≤ W'.heap.size
  block : ∀ k, k < W.heap.size → k ≠ B → W'.heap[k]? = W.heap[k]?
theorem Kb.refl (B : Nat) (W : World) : Kb B W W := ⟨rfl, rfl, rfl, Nat.le_refl _, fun _ _ _ => rfl⟩
theorem Kb.trans {B : Nat} {a b c : World} (h : Kb B a b) (k : Kb B b c) : Kb B a c :=
  ⟨k.os.trans h.os, k.tape.trans h.tape, k.output.trans h.output, Nat.le_trans h.size k.size, fun i hi hn => (k.block i (Nat.lt_of_lt_of_le hi h.size) hn).trans (h.block i hi hn)⟩
theorem Kb.of_mr {B : Nat} {W W' : World} (h : Mr W W') : Kb B W W' := ⟨h.below.os, h.below.tape, h.below.output, h.below.size, fun k hk _ => h.below.block k hk⟩
theorem Kb.set {B : Nat} {W W' : World} (h : Kb B W W') (o : Nat) (v : Value) : Kb B W (W'.setCell ⟨B, o, none⟩ v) :=
  h.trans ⟨rfl, rfl, rfl, by rw [setCell_size]; exact Nat.le_refl _, fun k hk hn => Go.Deep.blk_setCell_other _ _ _ _ hn⟩
theorem Kb.drew {B : Nat} {W W' : World} (h : Kb B W W') : Kb B W W'.drew := ⟨h.os, h.tape, h.output, h.size, h.block⟩
theorem Kb.mr {B : Nat} {w W W' : World} (h : Kb B W W') (m : Mr w W) (hB : w.heap.size ≤ B) : Mr w W' :=
  ⟨⟨h.os.trans m.below.os, h.tape.trans m.below.tape, h.output.trans m.below.output, Nat.le_trans m.below.size h.size, fun k hk => (h.block k (Nat.lt_of_lt_of_le hk m.below.size) (by omega)).trans (m.below.block k hk)⟩⟩
theorem Kb.cell {B : Nat} {W W' : World} (h : Kb B W W') {b o : Nat} (hb : b < W.heap.size) (hn : b ≠ B) : W'.cell? ⟨b, o, none⟩ = W.cell? ⟨b, o, none⟩ := World.cell?_of_block (a := ⟨b, o, none⟩) (h.block b hb hn)
/-- The box that tells whether something was clamped. -/
def Bo (W : World) (B : Nat) (b : Bool) : Prop := W.rowIs B 46 1 (fun _ => .bool b)
theorem Bo.mr {W W' : World} {B : Nat} {b : Bool} (h : Bo W B b) (m : Mr W W') : Bo W' B b := rowIs_mr h m
theorem Bo.set {W : World} {B : Nat} {b : Bool} (h : Bo W B b) (v : Bool) : Bo (W.setCell ⟨B, 0, none⟩ (.bool v)) B v := (World.rowIs.set h 0 (.bool v)).congr (fun i hi => by rw [if_pos (by omega)])
theorem Bo.ne {W : World} {B b n : Nat} {v : Bool} {f : Nat → Value} (h : Bo W B v) (g : W.rowIs b 3 n f) : b ≠ B := fun e => by
  subst e; exact absurd (rowIs_ty g h) (by decide)
theorem Bo.neL {W : World} {B b n : Nat} {v : Bool} {f : Nat → Value} (h : Bo W B v) (g : W.rowIs b 23 n f) : b ≠ B := fun e => by
  subst e; exact absurd (rowIs_ty g h) (by decide)
theorem row_kb {W W' : World} {B b n : Nat} {v : Bool} {f : Nat → Value} (g : W.rowIs b 3 n f) (h : Bo W B v) (k : Kb B W W') : W'.rowIs b 3 n f := g.of_block (k.block b g.lt (h.ne g))
theorem om_kb {W W' : World} {B0 B G n : Nat} {R : Nat → Nat} {F : Nat → Nat → Int} {v : Bool} (g : Om B0 W G n R F) (h : Bo W B v) (k : Kb B W W') : Om B0 W' G n R F :=
  ⟨g.hB, g.lst.of_block (k.block G g.lst.lt (h.neL g.lst)), fun i hi => ⟨(g.row i hi).1, row_kb (g.row i hi).2 h k⟩, g.inj⟩
set_option maxHeartbeats 1000000 in
theorem less_c {W : World} {B : Nat} {b : Bool} (hB : Bo W B b) (p q : Int) : Calls Try.prog 30 #[.pointer (some ⟨B, 0, none⟩), .int .i64 p, .int .i64 q] W fun e w' => e = .returned (.int .i64 (sv p q)) ∧ Kb B W w' ∧ Bo w' B (b || so p q) := by
  obtain ⟨X, hX⟩ : ∃ X, sv p q = X := ⟨_, rfl⟩
  obtain ⟨Y, hY⟩ : ∃ Y, so p q = Y := ⟨_, rfl⟩
  rw [hX, hY]
  have hc := World.rowIs.cell hB (i := 0) (by omega)
  have hf := World.rowIs.frozen hB 0
  have hs := hB.set
  have hlt := World.rowIs.lt hB
  cases b
  all_goals
    go_enter Try.func30, Try.ntmps30
    go_wp2_with (first | (go_at_call 57; refine (rsub_c _ _ _).mono ?_; rw [hX, hY]; rintro e w' ⟨rfl, rfl⟩))
    go_ret
    exact ⟨rfl, (Kb.refl B _).set 0 _, by first | exact hs _ | simpa using hs _⟩
set_option maxHeartbeats 1000000 in
theorem times_c {W : World} {B : Nat} {b : Bool} (hB : Bo W B b) (p q : Int) : Calls Try.prog 31 #[.pointer (some ⟨B, 0, none⟩), .int .i64 p, .int .i64 q] W fun e w' => e = .returned (.int .i64 (tv p q)) ∧ Kb B W w' ∧ Bo w' B (b || tb p q) := by
  obtain ⟨X, hX⟩ : ∃ X, tv p q = X := ⟨_, rfl⟩
  obtain ⟨Y, hY⟩ : ∃ Y, tb p q = Y := ⟨_, rfl⟩
  rw [hX, hY]
  cases b
  all_goals
    go_enter Try.func31, Try.ntmps31
    go_wp2_with (first | (go_at_call 58; refine (rtimes_c _ _ _).mono ?_; rw [hX, hY]; rintro e w' ⟨rfl, x, rfl⟩; have hk := Kb.of_mr (B := B) x.h; replace hB := hB.mr x.h; generalize x.u = W1 at *; clear x; have hc := World.rowIs.cell hB (i := 0) (by omega); have hf := World.rowIs.frozen hB 0; have hs := hB.set))
    go_ret
    exact ⟨rfl, hk.set 0 _, by first | exact hs _ | simpa using hs _⟩
set_option maxHeartbeats 1000000 in
theorem over_c {W : World} {B : Nat} {b : Bool} (hB : Bo W B b) (p q : Int) : Calls Try.prog 27 #[.pointer (some ⟨B, 0, none⟩), .int .i64 p, .int .i64 q] W fun e w' => e = .returned (.int .i64 (qv p q)) ∧ Kb B W w' ∧ Bo w' B (b || qb p q) := by
  obtain ⟨X, hX⟩ : ∃ X, qv p q = X := ⟨_, rfl⟩
  obtain ⟨Y, hY⟩ : ∃ Y, qb p q = Y := ⟨_, rfl⟩
  rw [hX, hY]
  cases b
  all_goals
    go_enter Try.func27, Try.ntmps27
    go_wp2_with (first | (go_at_call 54; refine (rover_c _ _ _).mono ?_; rw [hX, hY]; rintro e w' ⟨rfl, x, rfl⟩; have hk := Kb.of_mr (B := B) x.h; replace hB := hB.mr x.h; generalize x.u = W1 at *; clear x; have hc := World.rowIs.cell hB (i := 0) (by omega); have hf := World.rowIs.frozen hB 0; have hs := hB.set))
    go_ret
    exact ⟨rfl, hk.set 0 _, by first | exact hs _ | simpa using hs _⟩
end Sv
end Go.Proofs.Ytpammdogkkipbaa
