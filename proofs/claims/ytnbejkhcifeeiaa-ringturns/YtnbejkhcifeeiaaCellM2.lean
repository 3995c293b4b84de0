/- Laws of accesses: the mathematics of layer 11. -/
import Derived.Test.YtnbejkhcifeeiaaCellM
namespace Go.Proofs.Ytnbejkhcifeeiaa
open Go.ChangeShapes Go.WideShapes Go.ChangeAt Go.RowKit
set_option linter.unusedVariables false
namespace Ce
open Wl
/-- What lies at an access's place behind it. -/
def nv (m : List Int) (x : Acc) : Int :=
  if x.k = 1 then x.a else if x.k = 2 then (if gt m x.i.toNat = x.a then x.b else gt m x.i.toNat) else if x.k = 3 then IntKind.u64.wrap (gt m x.i.toNat + x.a) else gt m x.i.toNat
theorem inb_iff {m : List Int} {x : Acc} : inb m x = true ↔ 0 ≤ x.i ∧ x.i < ((cut m).length : Nat) := by
  unfold inb; simp
theorem gt_doM (m : List Int) (x : Acc) (j : Nat) : gt (doM m x) j = if inb m x = true ∧ (j : Int) = x.i then nv m x else gt (cut m) j := by
  unfold doM
  by_cases h : inb m x = true
  · have hi := inb_iff.1 h
    have hc := cut_len m
    have key : ∀ v : Int, gt ((cut m).set x.i.toNat v) j = if (j : Int) = x.i then v else gt (cut m) j := fun v => by
      rw [gt_set]
      by_cases e : (j : Int) = x.i
      · rw [if_pos e, if_pos ⟨by omega, by omega⟩]
      · rw [if_neg e, if_neg (fun g => e (by omega))]
    have keep : (j : Int) = x.i → gt (cut m) j = gt m x.i.toNat := fun e => by
      rw [show x.i.toNat = j by omega, gt_cut, if_pos (by omega)]
    rw [if_pos h]
    unfold nv
    by_cases k1 : x.k = 1
    · rw [if_pos k1, if_pos k1, key]; simp [h]
    · rw [if_neg k1, if_neg k1]
      by_cases k2 : x.k = 2
      · rw [if_pos k2, if_pos k2]
        by_cases g : gt m x.i.toNat = x.a
        · rw [if_pos g, if_pos g, key]; simp [h]
        · rw [if_neg g, if_neg g]
          split
          · rename_i e; exact keep e.2
          · rfl
      · rw [if_neg k2, if_neg k2]
        by_cases k3 : x.k = 3
        · rw [if_pos k3, if_pos k3, key]; simp [h]
        · rw [if_neg k3, if_neg k3]
          split
          · rename_i e; exact keep e.2
          · rfl
  · rw [if_neg h, if_neg (fun g => h g.1)]
theorem cut_doM_len (m : List Int) (x : Acc) : (cut (doM m x)).length = (cut m).length := by rw [doM_all, doM_len]
theorem inb_doM (m : List Int) (x y : Acc) : inb (doM m x) y = inb m y := by unfold inb; rw [cut_doM_len]
theorem gt_doM_ne {m : List Int} {x : Acc} {j : Nat} (h : (j : Int) ≠ x.i) : gt (doM m x) j = gt (cut m) j := by
  rw [gt_doM, if_neg (fun g => h g.2)]
/-- Unlike places do not touch. -/
theorem apart {m : List Int} {x y : Acc} (h : x.i ≠ y.i) : doM (doM m x) y = doM (doM m y) x ∧ doW (doM m y) x = doW m x := by
  have hn : ∀ {x y : Acc}, x.i ≠ y.i → inb m x = true → gt (doM m y) x.i.toNat = gt m x.i.toNat := fun {x y} h hx => by
    have hi := inb_iff.1 hx
    have hc := cut_len m
    rw [gt_doM_ne (by omega), gt_cut, if_pos (by omega)]
  have hv : ∀ {x y : Acc}, x.i ≠ y.i → inb m x = true → nv (doM m y) x = nv m x := fun {x y} h hx => by
    unfold nv; rw [hn h hx]
  constructor
  · refine list_eq (by rw [doM_len, doM_len, cut_doM_len, cut_doM_len]) (fun j hj => ?_)
    rw [gt_doM, gt_doM, inb_doM, inb_doM, doM_all, doM_all, gt_doM, gt_doM]
    by_cases hx : inb m x = true ∧ (j : Int) = x.i
    · have hy : ¬ (inb m y = true ∧ (j : Int) = y.i) := fun g => h (hx.2.symm.trans g.2)
      rw [if_neg hy, if_pos hx, if_pos hx, hv h hx.1]
    · rw [if_neg hx, if_neg hx]
      by_cases hy : inb m y = true ∧ (j : Int) = y.i
      · rw [if_pos hy, if_pos hy, hv (Ne.symm h) hy.1]
      · rw [if_neg hy, if_neg hy]
  · unfold doW
    rw [inb_doM]
    by_cases hx : inb m x = true
    · rw [if_pos hx, if_pos hx, hn h hx]
    · rw [if_neg hx, if_neg hx]
theorem wrap_add (g a b : Int) : IntKind.u64.wrap (IntKind.u64.wrap (g + a) + b) = IntKind.u64.wrap (g + IntKind.u64.wrap (a + b)) := by
  simp only [IntKind.wrap_u64]; omega
/-- What is added does not hang on the order. -/
theorem more (m : List Int) (i a b : Int) : runM m [⟨3, i, a, 0⟩, ⟨3, i, b, 0⟩] = runM m [⟨3, i, b, 0⟩, ⟨3, i, a, 0⟩] ∧ runM m [⟨3, i, a, 0⟩, ⟨3, i, b, 0⟩] = doM m ⟨3, i, IntKind.u64.wrap (a + b), 0⟩ := by
  have two : ∀ a b : Int, runM m [⟨3, i, a, 0⟩, ⟨3, i, b, 0⟩] = doM m ⟨3, i, IntKind.u64.wrap (a + b), 0⟩ := fun a b => by
    show cut (doM (doM m ⟨3, i, a, 0⟩) ⟨3, i, b, 0⟩) = _
    rw [doM_all]
    refine list_eq (by rw [doM_len, doM_len, cut_doM_len]) (fun j hj => ?_)
    rw [gt_doM, gt_doM, inb_doM, doM_all, gt_doM]
    by_cases hx : inb m ⟨3, i, a, 0⟩ = true ∧ (j : Int) = i
    · have h1 : inb m ⟨3, i, b, 0⟩ = true ∧ (j : Int) = i := hx
      have h2 : inb m ⟨3, i, IntKind.u64.wrap (a + b), 0⟩ = true ∧ (j : Int) = i := hx
      rw [if_pos h1, if_pos h2]
      have e : gt (doM m ⟨3, i, a, 0⟩) i.toNat = IntKind.u64.wrap (gt m i.toNat + a) := by
        rw [gt_doM, if_pos ⟨hx.1, by have := (inb_iff.1 hx.1).1; show ((i.toNat : Nat) : Int) = i; simp only at this; omega⟩]
        rfl
      unfold nv
      simp only [if_true, show ¬ (3 : Int) = 1 by decide, show ¬ (3 : Int) = 2 by decide, if_false]
      rw [e, wrap_add]
    · have h1 : ¬ (inb m ⟨3, i, b, 0⟩ = true ∧ (j : Int) = i) := hx
      have h2 : ¬ (inb m ⟨3, i, IntKind.u64.wrap (a + b), 0⟩ = true ∧ (j : Int) = i) := hx
      rw [if_neg h1, if_neg h2, if_neg hx]
  exact ⟨by rw [two a b, two b a, Int.add_comm], two a b⟩
/-- One behind the other, cut anywhere. -/
theorem runs (m : List Int) (p q : List Acc) : runM (runM m p) q = runM m (p ++ q) ∧ runW m (p ++ q) = runW m p ++ runW (runM m p) q := by
  induction p generalizing m with
  | nil =>
    show runM (cut m) q = runM m q ∧ runW m q = [] ++ runW (cut m) q
    cases q with
    | nil => exact ⟨cut_cut m, rfl⟩
    | cons x q =>
      have hd : doM (cut m) x = doM m x := by
        have := runM_snoc m [] x
        show doM (runM m []) x = _
        rw [← this]
        exact doM_all m x
      show runM (doM (cut m) x) q = runM (doM m x) q ∧ doW m x :: runW (doM m x) q = doW (cut m) x :: runW (doM (cut m) x) q
      rw [hd, doW_cut]
      exact ⟨rfl, rfl⟩
  | cons x p ih =>
    have := ih (doM m x)
    exact ⟨this.1, by show doW m x :: runW (doM m x) (p ++ q) = _; rw [this.2]; rfl⟩
/-- One word alone changes. -/
theorem one_len {m : List Int} (h : m.length ≤ 256) (x : Acc) : (doM m x).length = m.length := by rw [doM_len, cut_all h]
theorem one_gt {m : List Int} (h : m.length ≤ 256) (x : Acc) (j : Nat) : gt (doM m x) j = gt m j ∨ ((j : Int) = x.i ∧ x.k ≠ 0) := by
  rw [gt_doM]
  by_cases g : inb m x = true ∧ (j : Int) = x.i
  · by_cases k0 : x.k = 0
    · rw [if_pos g]
      left
      unfold nv
      rw [k0, show x.i.toNat = j by omega]
      rfl
    · exact .inr ⟨g.2, k0⟩
  · rw [if_neg g, cut_all h]; exact .inl rfl
theorem one_out {m : List Int} (h : m.length ≤ 256) {x : Acc} (g : ¬ (0 ≤ x.i ∧ x.i < (m.length : Nat))) : doW m x = 0 := by
  have : ¬ inb m x = true := fun e => g (by have := inb_iff.1 e; rwa [cut_all h] at this)
  unfold doW; rw [if_neg this]
theorem one_in {m : List Int} (h : m.length ≤ 256) {k a b : Int} {j : Nat} (g : j < m.length) (hb : Wb m) :
    doW (doM m ⟨k, j, a, b⟩) ⟨0, j, 0, 0⟩ = gt (doM m ⟨k, j, a, b⟩) j ∧ (k = 0 → doW m ⟨k, j, a, b⟩ = gt m j) ∧ (k = 1 → gt (doM m ⟨k, j, a, b⟩) j = a) ∧ (k = 3 → doW m ⟨k, j, a, b⟩ = gt (doM m ⟨k, j, a, b⟩) j ∧ IntKind.u64.wrap (gt (doM m ⟨k, j, a, b⟩) j - a) = gt m j) := by
  have hi : ∀ k a b : Int, inb m ⟨k, j, a, b⟩ = true := fun k a b => inb_iff.2 ⟨by show (0 : Int) ≤ j; omega, by show (j : Int) < _; rw [cut_all h]; omega⟩
  have hg : gt (doM m ⟨k, j, a, b⟩) j = nv m ⟨k, j, a, b⟩ := by rw [gt_doM, if_pos ⟨hi _ _ _, rfl⟩]
  refine ⟨?_, fun e => ?_, fun e => ?_, fun e => ⟨?_, ?_⟩⟩
  · unfold doW
    rw [inb_doM, if_pos (hi _ _ _), if_pos rfl]
    rfl
  · subst e
    unfold doW
    rw [if_pos (hi _ _ _), if_pos rfl]
    rfl
  · subst e; rw [hg]; rfl
  · subst e
    rw [hg]
    unfold doW
    rw [if_pos (hi _ _ _)]
    rfl
  · subst e
    rw [hg]
    show IntKind.u64.wrap (IntKind.u64.wrap (gt m j + a) - a) = gt m j
    have := hb j
    simp only [IntKind.wrap_u64]
    omega
/-- Of two that expect the same the first one alone. -/
theorem swap {m : List Int} (h : m.length ≤ 256) {a b c : Int} {j : Nat} (g : j < m.length) (hab : b ≠ a) :
    doW m ⟨2, j, a, b⟩ = (if gt m j = a then 1 else 0) ∧ doW (doM m ⟨2, j, a, b⟩) ⟨2, j, a, c⟩ = 0 ∧ doW m ⟨2, j, gt m j, gt m j⟩ = 1 ∧ doM m ⟨2, j, gt m j, gt m j⟩ = m := by
  have hi : ∀ k a b : Int, inb m ⟨k, j, a, b⟩ = true := fun k a b => inb_iff.2 ⟨by show (0 : Int) ≤ j; omega, by show (j : Int) < _; rw [cut_all h]; omega⟩
  have hg : gt (doM m ⟨2, j, a, b⟩) j = if gt m j = a then b else gt m j := by rw [gt_doM, if_pos ⟨hi _ _ _, rfl⟩]; rfl
  refine ⟨?_, ?_, ?_, ?_⟩
  · unfold doW; rw [if_pos (hi _ _ _)]; rfl
  · unfold doW
    rw [inb_doM, if_pos (hi _ _ _)]
    show (if gt (doM m ⟨2, j, a, b⟩) j = a then (1 : Int) else 0) = 0
    rw [hg]
    by_cases e : gt m j = a
    · rw [if_pos e, if_neg hab]
    · rw [if_neg e, if_neg e]
  · unfold doW; rw [if_pos (hi _ _ _)]
    show (if gt m j = gt m j then (1 : Int) else 0) = 1
    rw [if_pos rfl]
  · refine list_eq (one_len h _) (fun i hi' => ?_)
    rw [gt_doM]
    split
    · rename_i e
      show (if gt m j = gt m j then gt m j else gt m j) = gt m i
      rw [if_pos rfl, show i = j from by have := e.2; simp only at this; omega]
    · rw [cut_all h]
end Ce
end Go.Proofs.Ytnbejkhcifeeiaa
