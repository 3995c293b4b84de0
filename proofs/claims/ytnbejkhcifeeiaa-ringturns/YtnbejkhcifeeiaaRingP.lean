/- Who lays and who takes, at work: their state in memory (layer 14's law RingTurns). -/
import Derived.Test.YtnbejkhcifeeiaaRingC3
import Derived.Test.YtnbejkhcifeeiaaTaskR
namespace Go.Proofs.Ytnbejkhcifeeiaa
open Go.ChangeShapes Go.WideShapes Go.ChangeAt Go.RowKit
set_option linter.unusedVariables false
namespace Rg
open Wl Ce Tk Rw
structure Pl where
  am : Option Addr
  km : Nat
  M : List Int
  b : Int
  c : Int
  nx : Int
  al : Option Addr
  kl : Nat
  L : List We
  d : Int
  h : Int
  y : Te
  z : Te
  ly : Int
  pp : Int
  ok : Bool
def PL (s : Pl) : List Value := [.slice s.am s.M.length s.km, .int .i64 s.b, .int .i64 s.c, .int .i64 s.nx, .slice s.al s.L.length s.kl, .int .i64 s.d, .int .i64 s.h] ++ ((TV s.y.ca s.y.cc s.y.t).toList ++ ((TV s.z.ca s.z.cc s.z.t).toList ++ [.int .i64 s.ly, .int .i64 s.pp, .bool s.ok]))
/-- The state's cells. -/
def PV (s : Pl) : Array Value := (PL s).toArray
def Pl.rg (s : Pl) : Prop := s.y.t.R.length = 32 ∧ s.z.t.R.length = 32
theorem Pl.ty {s : Pl} (h : s.rg) : (TV s.y.ca s.y.cc s.y.t).toList.length = 36 := by rw [Array.length_toList]; exact TV_size h.1
theorem Pl.tz {s : Pl} (h : s.rg) : (TV s.z.ca s.z.cc s.z.t).toList.length = 36 := by rw [Array.length_toList]; exact TV_size h.2
theorem PV_size {s : Pl} (h : s.rg) : (PV s).size = 82 := by
  have h1 := Pl.ty h
  have h2 := Pl.tz h
  unfold PV PL
  simp only [List.size_toArray, List.length_append, h1, h2, List.length_cons, List.length_nil]
theorem PV_0 (s : Pl) : (PV s)[0]? = some (.slice s.am s.M.length s.km) := by simp [PV, PL]
theorem PV_1 (s : Pl) : (PV s)[1]? = some (.int .i64 s.b) := by simp [PV, PL]
theorem PV_2 (s : Pl) : (PV s)[2]? = some (.int .i64 s.c) := by simp [PV, PL]
theorem PV_3 (s : Pl) : (PV s)[3]? = some (.int .i64 s.nx) := by simp [PV, PL]
theorem PV_4 (s : Pl) : (PV s)[4]? = some (.slice s.al s.L.length s.kl) := by simp [PV, PL]
theorem PV_5 (s : Pl) : (PV s)[5]? = some (.int .i64 s.d) := by simp [PV, PL]
theorem PV_6 (s : Pl) : (PV s)[6]? = some (.int .i64 s.h) := by simp [PV, PL]
theorem PV_y {s : Pl} (h : s.rg) {j : Nat} (hj : j < 36) : (PV s)[7 + j]? = (TV s.y.ca s.y.cc s.y.t)[j]? := by
  have h1 := Pl.ty h
  unfold PV PL
  rw [List.getElem?_toArray, List.getElem?_append_right (by simp), List.getElem?_append_left (by simp only [List.length_cons, List.length_nil, h1]; omega), ← Array.getElem?_toList]
  congr 1
  simp only [List.length_cons, List.length_nil]; omega
theorem PV_z {s : Pl} (h : s.rg) {j : Nat} (hj : j < 36) : (PV s)[43 + j]? = (TV s.z.ca s.z.cc s.z.t)[j]? := by
  have h1 := Pl.ty h
  have h2 := Pl.tz h
  unfold PV PL
  rw [List.getElem?_toArray, List.getElem?_append_right (by simp only [List.length_cons, List.length_nil]; omega), List.getElem?_append_right (by simp only [List.length_cons, List.length_nil, h1]; omega), List.getElem?_append_left (by simp only [List.length_cons, List.length_nil, h1, h2]; omega), ← Array.getElem?_toList]
  congr 1
  simp only [List.length_cons, List.length_nil, h1]; omega
theorem PV_hi {s : Pl} (h : s.rg) {j : Nat} : (PV s)[79 + j]? = ([.int .i64 s.ly, .int .i64 s.pp, .bool s.ok] : List Value)[j]? := by
  have h1 := Pl.ty h
  have h2 := Pl.tz h
  unfold PV PL
  rw [List.getElem?_toArray, List.getElem?_append_right (by simp only [List.length_cons, List.length_nil]; omega), List.getElem?_append_right (by simp only [List.length_cons, List.length_nil, h1]; omega), List.getElem?_append_right (by simp only [List.length_cons, List.length_nil, h1, h2]; omega)]
  congr 1
  simp only [List.length_cons, List.length_nil, h1, h2]; omega
theorem PV_79 {s : Pl} (h : s.rg) : (PV s)[79]? = some (.int .i64 s.ly) := PV_hi h (j := 0)
theorem PV_80 {s : Pl} (h : s.rg) : (PV s)[80]? = some (.int .i64 s.pp) := PV_hi h (j := 1)
theorem PV_81 {s : Pl} (h : s.rg) : (PV s)[81]? = some (.bool s.ok) := PV_hi h (j := 2)
theorem PV_set0 (s : Pl) (a : Option Addr) (M : List Int) (k n : Nat) (hn : M.length = n) : (PV s).setIfInBounds 0 (.slice a n k) = PV { s with am := a, km := k, M := M } := by subst hn; simp [PV, PL]
theorem PV_set3 (s : Pl) (v : Int) : (PV s).setIfInBounds 3 (.int .i64 v) = PV { s with nx := v } := by simp [PV, PL]
theorem PV_set4 (s : Pl) (a : Option Addr) (L : List We) (k n : Nat) (hn : L.length = n) : (PV s).setIfInBounds 4 (.slice a n k) = PV { s with al := a, kl := k, L := L } := by subst hn; simp [PV, PL]
theorem PV_set5 (s : Pl) (v : Int) : (PV s).setIfInBounds 5 (.int .i64 v) = PV { s with d := v } := by simp [PV, PL]
theorem PV_set6 (s : Pl) (v : Int) : (PV s).setIfInBounds 6 (.int .i64 v) = PV { s with h := v } := by simp [PV, PL]
theorem set_far {A B C D : List Value} (hA : A.length = 7) (hB : B.length = 36) (hC : C.length = 36) (j : Nat) (v : Value) : (A ++ (B ++ (C ++ D))).set (79 + j) v = A ++ (B ++ (C ++ D.set j v)) := by
  rw [List.set_append_right _ _ (by omega), List.set_append_right _ _ (by omega), List.set_append_right _ _ (by omega)]
  congr 4
  omega
theorem PV_set79 {s : Pl} (h : s.rg) (v : Int) : (PV s).setIfInBounds 79 (.int .i64 v) = PV { s with ly := v } := by
  unfold PV PL
  rw [List.setIfInBounds_toArray, set_far rfl (Pl.ty h) (Pl.tz h) 0]; rfl
theorem PV_set80 {s : Pl} (h : s.rg) (v : Int) : (PV s).setIfInBounds 80 (.int .i64 v) = PV { s with pp := v } := by
  unfold PV PL
  rw [List.setIfInBounds_toArray, set_far rfl (Pl.ty h) (Pl.tz h) 1]; rfl
theorem PV_set81 {s : Pl} (h : s.rg) (v : Bool) : (PV s).setIfInBounds 81 (.bool v) = PV { s with ok := v } := by
  unfold PV PL
  rw [List.setIfInBounds_toArray, set_far rfl (Pl.ty h) (Pl.tz h) 2]; rfl
/-- Cells in the middle of a block, rewritten. -/
def seg (c : Array Value) (o : Nat) : List Value → Array Value
  | [] => c
  | v :: vs => seg (c.setIfInBounds o v) (o + 1) vs
theorem Row.cells {w : World} {B : Nat} {ty : TypeId} {c : Array Value} (h : Row w B ty c) (o : Nat) (vs : List Value) : Row (w.setCells B o vs) B ty (seg c o vs) := by
  induction vs generalizing w c o with
  | nil => exact h
  | cons v vs ih => exact ih (h.set o v) (o + 1)
theorem seg_mid (A X B vs : List Value) (hl : vs.length = X.length) : seg (A ++ (X ++ B)).toArray A.length vs = (A ++ (vs ++ B)).toArray := by
  induction vs generalizing A X with
  | nil =>
    have : X = [] := List.eq_nil_of_length_eq_zero hl.symm
    subst this; rfl
  | cons v vs ih =>
    cases X with
    | nil => simp at hl
    | cons x X =>
      show seg ((A ++ (x :: X ++ B)).toArray.setIfInBounds A.length v) (A.length + 1) vs = _
      rw [List.setIfInBounds_toArray, List.set_append_right _ _ (Nat.le_refl _), Nat.sub_self]
      have := ih (A ++ [v]) X (by simpa using hl)
      simp only [List.length_append, List.length_cons, List.length_nil, Nat.zero_add, List.append_assoc, List.cons_append, List.nil_append] at this
      simpa using this
theorem PV_setY {s : Pl} (h : s.rg) (y : Te) (hy : y.t.R.length = 32) : seg (PV s) 7 (TV y.ca y.cc y.t).toList = PV { s with y := y } := by
  unfold PV PL
  exact seg_mid [_, _, _, _, _, _, _] (TV s.y.ca s.y.cc s.y.t).toList _ (TV y.ca y.cc y.t).toList (by rw [Pl.ty h, Array.length_toList, TV_size hy])
theorem PV_setZ {s : Pl} (h : s.rg) (z : Te) (hz : z.t.R.length = 32) : seg (PV s) 43 (TV z.ca z.cc z.t).toList = PV { s with z := z } := by
  unfold PV PL
  have := seg_mid ([.slice s.am s.M.length s.km, .int .i64 s.b, .int .i64 s.c, .int .i64 s.nx, .slice s.al s.L.length s.kl, .int .i64 s.d, .int .i64 s.h] ++ (TV s.y.ca s.y.cc s.y.t).toList) (TV s.z.ca s.z.cc s.z.t).toList [.int .i64 s.ly, .int .i64 s.pp, .bool s.ok] (TV z.ca z.cc z.t).toList (by rw [Pl.tz h, Array.length_toList, TV_size hz])
  rw [List.length_append, Pl.ty h, List.append_assoc, List.append_assoc] at this
  exact this
end Rg
end Go.Proofs.Ytnbejkhcifeeiaa
