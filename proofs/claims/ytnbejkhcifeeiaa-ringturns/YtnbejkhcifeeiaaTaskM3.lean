/- Laws of tasks: many of them, and a program that lays and loads. -/
import Derived.Test.YtnbejkhcifeeiaaTaskM2
namespace Go.Proofs.Ytnbejkhcifeeiaa
open Go.ChangeShapes Go.WideShapes Go.ChangeAt Go.RowKit
set_option linter.unusedVariables false
namespace Tk
open Wl Ce
def tk (l : List T) (j : Nat) : T := l.getD j nought
def whom (n : Nat) (p : Int) : Nat := (p % (n : Int)).toNat
/-- Tasks behind steps of those that are picked. -/
def runA : List T → List Int → List Int → List T × List Int
  | l, m, [] => (l, cut m)
  | l, m, p :: ps => if l.length = 0 then (l, cut m) else runA (l.set (whom l.length p) (stepT (tk l (whom l.length p)) m)) (stepM (tk l (whom l.length p)) m) ps
theorem whom_lt {n : Nat} (h : 0 < n) (p : Int) : whom n p < n := by
  unfold whom
  have h1 := Int.emod_nonneg p (b := (n : Int)) (by omega)
  have h2 := Int.emod_lt_of_pos p (b := (n : Int)) (by omega)
  omega
theorem tk_set (l : List T) (i j : Nat) (t : T) : tk (l.set i t) j = if i = j ∧ j < l.length then t else tk l j := by
  unfold tk
  rw [List.getD_eq_getElem?_getD, List.getD_eq_getElem?_getD, List.getElem?_set]
  by_cases h : i = j
  · subst h
    by_cases g : i < l.length
    · simp [g]
    · simp [g]
  · simp [h]
theorem runA_len (l : List T) (m ps : List Int) : (runA l m ps).1.length = l.length := by
  induction ps generalizing l m with
  | nil => rfl
  | cons p ps ih =>
    unfold runA
    split
    · rfl
    · rw [ih, List.length_set]
theorem runA_mem (l : List T) (m ps : List Int) : (runA l m ps).2.length = (cut m).length := by
  induction ps generalizing l m with
  | nil => rfl
  | cons p ps ih =>
    unfold runA
    split
    · rfl
    · rw [ih, stepM_all, stepM_len]
/-- Who is not picked stays. -/
theorem runA_not {l : List T} {i : Nat} {ps : List Int} (h : ∀ p ∈ ps, whom l.length p ≠ i) (m : List Int) : tk (runA l m ps).1 i = tk l i := by
  induction ps generalizing l m with
  | nil => rfl
  | cons p ps ih =>
    unfold runA
    split
    · rfl
    · rw [ih (fun q hq => by rw [List.length_set]; exact h q (List.mem_cons_of_mem _ hq)), tk_set, if_neg (fun g => h p (List.mem_cons_self ..) g.1)]
/-- Picked alone it does its own steps. -/
theorem runA_own {l : List T} {i : Nat} (hi : i < l.length) {ps : List Int} (h : ∀ p ∈ ps, whom l.length p = i) (m : List Int) : tk (runA l m ps).1 i = (runT ps.length (tk l i) m).1 ∧ (runA l m ps).2 = (runT ps.length (tk l i) m).2.1 := by
  induction ps generalizing l m with
  | nil => exact ⟨rfl, rfl⟩
  | cons p ps ih =>
    have hp := h p (List.mem_cons_self ..)
    unfold runA
    rw [if_neg (by omega), hp]
    have := ih (l := l.set i (stepT (tk l i) m)) (by rw [List.length_set]; exact hi) (fun q hq => by rw [List.length_set]; exact h q (List.mem_cons_of_mem _ hq)) (stepM (tk l i) m)
    rw [this.1, this.2, tk_set, if_pos ⟨rfl, hi⟩, List.length_cons]
    by_cases hd : (tk l i).done = true
    · have e1 : stepT (tk l i) m = tk l i := by unfold stepT; rw [if_pos hd]
      have e2 : stepM (tk l i) m = cut m := by unfold stepM; rw [if_pos hd]
      rw [e1, e2, runT_done hd, runT_done hd, cut_cut]
      exact ⟨rfl, rfl⟩
    · rw [runT, if_neg hd]
      exact ⟨rfl, rfl⟩
theorem whom_self {n i : Nat} (h : i < n) : whom n (i : Int) = i := by
  unfold whom
  rw [Int.emod_eq_of_lt (by omega) (by omega)]
  omega
theorem runA_snoc (l : List T) (m ps : List Int) (p : Int) (h : 0 < l.length) : runA l m (ps ++ [p]) = ((runA l m ps).1.set (whom l.length p) (stepT (tk (runA l m ps).1 (whom l.length p)) (runA l m ps).2), stepM (tk (runA l m ps).1 (whom l.length p)) (runA l m ps).2) := by
  induction ps generalizing l m with
  | nil =>
    show runA l m [p] = (l.set _ (stepT _ (cut m)), stepM _ (cut m))
    unfold runA
    rw [if_neg (by omega)]
    show (l.set _ _, cut (stepM _ m)) = _
    rw [stepM_all, stepT_cut, stepM_cut]
  | cons q ps ih =>
    show runA l m (q :: (ps ++ [p])) = _
    have e : ∀ qs, runA l m (q :: qs) = runA (l.set (whom l.length q) (stepT (tk l (whom l.length q)) m)) (stepM (tk l (whom l.length q)) m) qs := fun qs => by
      rw [runA, if_neg (by omega)]
    rw [e, e, ih _ _ (by rw [List.length_set]; exact h), List.length_set]
/-! A program that lays words, and loads them. -/
def lays (ws : List Int) : List Ins := (List.range ws.length).map (fun (i : Nat) => ⟨1, i, 0, i + 1, gt ws i⟩)
def loads (k : Nat) : List Ins := (List.range k).map (fun (i : Nat) => ⟨0, i, i, k + i + 1, 0⟩)
def prog (ws : List Int) : List Ins := lays ws ++ loads ws.length ++ [⟨6, 0, 0, 2 * ws.length + 1, 7⟩]
theorem prog_len (ws : List Int) : (prog ws).length = 2 * ws.length + 1 := by
  unfold prog lays loads; simp; omega
theorem prog_lay {ws : List Int} {i : Nat} (h : i < ws.length) : at' (prog ws) i = ⟨1, i, 0, i + 1, gt ws i⟩ := by
  unfold at' prog
  rw [List.getD_eq_getElem?_getD, List.append_assoc, List.getElem?_append_left (by unfold lays; simp; exact h)]
  unfold lays
  rw [List.getElem?_map, List.getElem?_range h]
  rfl
theorem prog_load {ws : List Int} {i : Nat} (h : i < ws.length) : at' (prog ws) (ws.length + i) = ⟨0, i, i, ws.length + i + 1, 0⟩ := by
  unfold at' prog
  have hl : (lays ws).length = ws.length := by unfold lays; simp
  rw [List.getD_eq_getElem?_getD, List.append_assoc, List.getElem?_append_right (by omega), hl, Nat.add_sub_cancel_left, List.getElem?_append_left (by unfold loads; simp; exact h)]
  unfold loads
  rw [List.getElem?_map, List.getElem?_range h]
  rfl
theorem prog_end (ws : List Int) : at' (prog ws) (2 * ws.length) = ⟨6, 0, 0, 2 * ws.length + 1, 7⟩ := by
  unfold at' prog
  have hl : (lays ws ++ loads ws.length).length = 2 * ws.length := by unfold lays loads; simp; omega
  rw [List.getD_eq_getElem?_getD, List.getElem?_append_right (by omega), hl, Nat.sub_self]
  rfl
theorem prog_sane {ws : List Int} (h : ws.length ≤ 20) : sane (prog ws) = true := by
  rw [sane_iff, prog_len]
  refine ⟨fun j hj => ?_, by omega, by omega⟩
  rw [saneAt_iff]
  rcases Nat.lt_or_ge j ws.length with g | g
  · rw [prog_lay g]; simp only; omega
  · rcases Nat.lt_or_ge j (2 * ws.length) with f | f
    · obtain ⟨i, rfl⟩ : ∃ i, j = ws.length + i := ⟨j - ws.length, by omega⟩
      rw [prog_load (by omega)]; simp only; omega
    · obtain rfl : j = 2 * ws.length := by omega
      rw [prog_end]; simp only; omega
/-- The words that are laid so far. -/
def laid (ws : List Int) (i : Nat) : List Int := ws.take i ++ List.replicate (ws.length - i) 0
theorem laid_len {ws : List Int} {i : Nat} (h : i ≤ ws.length) : (laid ws i).length = ws.length := by
  unfold laid; rw [List.length_append, List.length_take, List.length_replicate]; omega
theorem gt_laid {ws : List Int} {i : Nat} (h : i ≤ ws.length) (j : Nat) : gt (laid ws i) j = if j < i then gt ws j else 0 := by
  unfold laid gt
  rw [List.getD_eq_getElem?_getD, List.getD_eq_getElem?_getD]
  rcases Nat.lt_or_ge j i with g | g
  · rw [if_pos g, List.getElem?_append_left (by rw [List.length_take]; omega), List.getElem?_take_of_lt g]
  · rw [if_neg (by omega), List.getElem?_append_right (by rw [List.length_take]; omega), List.getElem?_replicate]
    split <;> rfl
/-- The registers that are loaded so far. -/
def held (ws : List Int) (i : Nat) : List Int := ws.take i ++ List.replicate (32 - i) 0
theorem gt_held {ws : List Int} {i : Nat} (h : i ≤ ws.length) (j : Nat) : gt (held ws i) j = if j < i then gt ws j else 0 := by
  unfold held gt
  rw [List.getD_eq_getElem?_getD, List.getD_eq_getElem?_getD]
  rcases Nat.lt_or_ge j i with g | g
  · rw [if_pos g, List.getElem?_append_left (by rw [List.length_take]; omega), List.getElem?_take_of_lt g]
  · rw [if_neg (by omega), List.getElem?_append_right (by rw [List.length_take]; omega), List.getElem?_replicate]
    split <;> rfl
theorem held_len {ws : List Int} {i : Nat} (h : i ≤ ws.length) (h20 : ws.length ≤ 20) : (held ws i).length = 32 := by
  unfold held; rw [List.length_append, List.length_take, List.length_replicate]; omega
theorem lay_step {ws : List Int} (h20 : ws.length ≤ 20) {i : Nat} (h : i < ws.length) : stepT ⟨prog ws, i, zeros, false, 0⟩ (laid ws i) = rest ⟨prog ws, (i + 1 : Nat), zeros, false, 0⟩ ∧ stepM ⟨prog ws, i, zeros, false, 0⟩ (laid ws i) = laid ws (i + 1) := by
  have hk : at' (prog ws) ((i : Int)).toNat = ⟨1, i, 0, i + 1, gt ws i⟩ := prog_lay h
  have hs : still ⟨prog ws, i, zeros, false, 0⟩ := .inr ⟨by simp only; omega, by simp only [prog_len]; omega, by simp only [hk]; omega⟩
  have hl := laid_len (ws := ws) (i := i) (by omega)
  constructor
  · rw [step_on rfl hs (prog_sane h20)]
    unfold after
    simp only [hk]
    rfl
  · unfold stepM
    rw [if_neg (by simp), if_neg (by simp only; rw [prog_sane h20]; decide), rest_id hs, if_neg (by simp)]
    simp only [hk]
    have hc : cut (laid ws i) = laid ws i := cut_all (by omega)
    refine list_eq (by rw [doM_len, hc, hl, laid_len (by omega)]) (fun j hj => ?_)
    rw [gt_doM, hc, gt_laid (by omega), gt_laid (by omega)]
    have hin : inb (laid ws i) (accOf ⟨1, i, 0, i + 1, gt ws i⟩) = true := inb_iff.2 ⟨by show (0 : Int) ≤ i; omega, by show (i : Int) < _; rw [hc]; omega⟩
    by_cases e : j = i
    · subst e
      rw [if_pos ⟨hin, rfl⟩, if_pos (by omega)]
      rfl
    · rw [if_neg (fun g => e (by have := g.2; simp only [accOf] at this; omega))]
      by_cases g : j < i
      · rw [if_pos g, if_pos (by omega)]
      · rw [if_neg g, if_neg (by omega)]
theorem load_step {ws : List Int} (h20 : ws.length ≤ 20) {i : Nat} (h : i < ws.length) : stepT ⟨prog ws, (ws.length + i : Nat), held ws i, false, 0⟩ ws = rest ⟨prog ws, (ws.length + (i + 1) : Nat), held ws (i + 1), false, 0⟩ ∧ stepM ⟨prog ws, (ws.length + i : Nat), held ws i, false, 0⟩ ws = ws := by
  have hk : at' (prog ws) (((ws.length + i : Nat) : Int)).toNat = ⟨0, i, i, ws.length + i + 1, 0⟩ := prog_load h
  have hs : still ⟨prog ws, (ws.length + i : Nat), held ws i, false, 0⟩ := .inr ⟨by simp only; omega, by simp only [prog_len]; omega, by simp only [hk]; omega⟩
  have hc : cut ws = ws := cut_all (by omega)
  have hin : inb ws (accOf ⟨0, i, i, ws.length + i + 1, 0⟩) = true := inb_iff.2 ⟨by show (0 : Int) ≤ i; omega, by show (i : Int) < _; rw [hc]; omega⟩
  constructor
  · rw [step_on rfl hs (prog_sane h20)]
    unfold after
    simp only [hk, if_true]
    have hw : doW ws (accOf ⟨0, i, i, ws.length + i + 1, 0⟩) = gt ws i := by
      unfold doW
      rw [if_pos hin]
      rfl
    rw [hw]
    congr 1
    have e : (held ws i).set i (gt ws i) = held ws (i + 1) := by
      refine list_eq (by rw [List.length_set, held_len (by omega) h20, held_len (by omega) h20]) (fun j hj => ?_)
      rw [List.length_set] at hj
      rw [gt_set, gt_held (by omega), gt_held (by omega)]
      by_cases e : i = j
      · subst e; rw [if_pos ⟨rfl, hj⟩, if_pos (by omega)]
      · rw [if_neg (fun g => e g.1)]
        by_cases g : j < i
        · rw [if_pos g, if_pos (by omega)]
        · rw [if_neg g, if_neg (by omega)]
    rw [show ((i : Int)).toNat = i from rfl, e]
    congr 1
  · unfold stepM
    rw [if_neg (by simp), if_neg (by simp only; rw [prog_sane h20]; decide), rest_id hs, if_neg (by simp)]
    simp only [hk]
    refine list_eq (by rw [doM_len, hc]) (fun j hj => ?_)
    rw [gt_doM]
    split
    · rename_i g
      have : (j : Int) = i := g.2
      obtain rfl : j = i := by omega
      rfl
    · rw [hc]
theorem rest_at {c : List Ins} {p : Nat} {R : List Int} (hp : p < c.length) (hk : (at' c p).k ≤ 2) : rest ⟨c, (p : Int), R, false, 0⟩ = ⟨c, (p : Int), R, false, 0⟩ :=
  rest_id (.inr ⟨by simp only; omega, by simp only; omega, hk⟩)
theorem runT_step {t : T} (h : t.done = false) (n : Nat) (m : List Int) : runT (n + 1) t m = ((runT n (stepT t m) (stepM t m)).1, (runT n (stepT t m) (stepM t m)).2.1, (runT n (stepT t m) (stepM t m)).2.2 + 1) := by
  rw [runT, if_neg (by rw [h]; decide)]
theorem rest_end {ws : List Int} (R : List Int) : rest ⟨prog ws, (2 * ws.length : Nat), R, false, 0⟩ = ⟨prog ws, (2 * ws.length : Nat), R, true, 7⟩ := by
  unfold rest
  rw [show (⟨prog ws, (2 * ws.length : Nat), R, false, 0⟩ : T).code.length + 1 = (prog ws).length + 1 from rfl]
  unfold rs
  rw [if_neg (by simp), if_neg (by simp only [prog_len]; omega)]
  have hk : at' (prog ws) (((2 * ws.length : Nat) : Int)).toNat = ⟨6, 0, 0, 2 * ws.length + 1, 7⟩ := prog_end ws
  simp only [hk]
  rw [if_neg (by omega), if_pos trivial, show wrap64 7 = 7 by unfold wrap64; omega]
theorem run_loads {ws : List Int} (h20 : ws.length ≤ 20) (j i : Nat) (h : i + j = ws.length) (n : Nat) (hn : j ≤ n) : runT n (rest ⟨prog ws, (ws.length + i : Nat), held ws i, false, 0⟩) ws = (⟨prog ws, (2 * ws.length : Nat), held ws ws.length, true, 7⟩, ws, j) := by
  induction j generalizing i n with
  | zero =>
    obtain rfl : i = ws.length := by omega
    rw [show ws.length + ws.length = 2 * ws.length by omega, rest_end, runT_done rfl, cut_all (by omega)]
  | succ j ih =>
    obtain ⟨n, rfl⟩ : ∃ k, n = k + 1 := ⟨n - 1, by omega⟩
    have hs := load_step h20 (i := i) (by omega)
    rw [rest_at (by rw [prog_len]; omega) (by rw [prog_load (by omega)]; show (0 : Int) ≤ 2; omega), runT_step rfl, hs.1, hs.2, ih (i + 1) (by omega) n (by omega)]
theorem held_zero (ws : List Int) : held ws 0 = zeros := by unfold held zeros; simp
theorem run_lays {ws : List Int} (h20 : ws.length ≤ 20) (j i : Nat) (h : i + j = ws.length) (n : Nat) (hn : j + ws.length ≤ n) : runT n (rest ⟨prog ws, (i : Nat), zeros, false, 0⟩) (laid ws i) = (⟨prog ws, (2 * ws.length : Nat), held ws ws.length, true, 7⟩, ws, j + ws.length) := by
  induction j generalizing i n with
  | zero =>
    obtain rfl : i = ws.length := by omega
    have e : laid ws ws.length = ws := by unfold laid; simp
    have := run_loads h20 ws.length 0 (by omega) n (by omega)
    rw [held_zero, Nat.add_zero] at this
    rw [e, this, Nat.zero_add]
  | succ j ih =>
    obtain ⟨n, rfl⟩ : ∃ k, n = k + 1 := ⟨n - 1, by omega⟩
    have hs := lay_step h20 (i := i) (by omega)
    rw [rest_at (by rw [prog_len]; omega) (by rw [prog_lay (by omega)]; show (1 : Int) ≤ 2; omega), runT_step rfl, hs.1, hs.2, ih (i + 1) (by omega) n (by omega)]
    simp only
    congr 2
    omega
/-- What is laid is loaded. -/
theorem all_loaded {ws : List Int} (h20 : ws.length ≤ 20) : runT 100 (start (prog ws)) (List.replicate ws.length 0) = (⟨prog ws, (2 * ws.length : Nat), held ws ws.length, true, 7⟩, ws, 2 * ws.length) := by
  have e : start (prog ws) = rest ⟨prog ws, (0 : Nat), zeros, false, 0⟩ := by unfold start; rw [if_pos (prog_sane h20)]; rfl
  have e0 : laid ws 0 = List.replicate ws.length 0 := by unfold laid; simp
  rw [e, ← e0, run_lays h20 ws.length 0 (by omega) 100 (by omega), show ws.length + ws.length = 2 * ws.length by omega]
end Tk
end Go.Proofs.Ytnbejkhcifeeiaa
