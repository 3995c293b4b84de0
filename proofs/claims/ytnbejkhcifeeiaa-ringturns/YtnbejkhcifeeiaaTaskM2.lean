/- Laws of tasks: the mathematics of layer 12. -/
import Derived.Test.YtnbejkhcifeeiaaTaskM
namespace Go.Proofs.Ytnbejkhcifeeiaa
open Go.ChangeShapes Go.WideShapes Go.ChangeAt Go.RowKit
set_option linter.unusedVariables false
namespace Tk
open Wl Ce
theorem doM_cut' (m : List Int) (x : Acc) : doM (cut m) x = doM m x := by
  have := runM_snoc m [] x
  show doM (runM m []) x = _
  rw [← this]
  exact doM_all m x
theorem stepT_cut (t : T) (m : List Int) : stepT t (cut m) = stepT t m := by
  unfold stepT after
  simp only [doW_cut]
theorem stepM_cut (t : T) (m : List Int) : stepM t (cut m) = stepM t m := by
  unfold stepM
  rw [cut_cut, doM_cut']
theorem stepM_len (t : T) (m : List Int) : (stepM t m).length = (cut m).length := by
  unfold stepM
  repeat' split
  all_goals first | rfl | exact doM_len _ _
theorem stepM_all (t : T) (m : List Int) : cut (stepM t m) = stepM t m := cut_all (by rw [stepM_len, cut_len]; omega)
/-- So many steps, and so many more. -/
theorem runT_cut (n : Nat) (t : T) (m : List Int) : runT n t (cut m) = runT n t m := by
  cases n with
  | zero => unfold runT; rw [cut_cut]
  | succ n => unfold runT; rw [cut_cut, stepT_cut, stepM_cut]
theorem runT_all (n : Nat) (t : T) (m : List Int) : cut (runT n t m).2.1 = (runT n t m).2.1 := by
  induction n generalizing t m with
  | zero => exact cut_cut m
  | succ n ih =>
    unfold runT
    split
    · exact cut_cut m
    · exact ih _ _
theorem runT_len (n : Nat) (t : T) (m : List Int) : (runT n t m).2.1.length = (cut m).length := by
  induction n generalizing t m with
  | zero => rfl
  | succ n ih =>
    unfold runT
    split
    · rfl
    · dsimp only
      rw [ih, stepM_all, stepM_len]
theorem runT_done {t : T} (h : t.done = true) (n : Nat) (m : List Int) : runT n t m = (t, cut m, 0) := by
  cases n with
  | zero => rfl
  | succ n => unfold runT; rw [if_pos h]
theorem runT_parts (a b : Nat) (t : T) (m : List Int) : runT (a + b) t m = ((runT b (runT a t m).1 (runT a t m).2.1).1, (runT b (runT a t m).1 (runT a t m).2.1).2.1, (runT a t m).2.2 + (runT b (runT a t m).1 (runT a t m).2.1).2.2) := by
  induction a generalizing t m with
  | zero =>
    rw [Nat.zero_add]
    show runT b t m = ((runT b t (cut m)).1, (runT b t (cut m)).2.1, 0 + (runT b t (cut m)).2.2)
    rw [runT_cut, Nat.zero_add]
  | succ a ih =>
    by_cases h : t.done = true
    · rw [runT_done h, runT_done h]
      dsimp only
      rw [runT_done h, cut_cut, Nat.add_zero]
    · have e : ∀ n, runT (n + 1) t m = ((runT n (stepT t m) (stepM t m)).1, (runT n (stepT t m) (stepM t m)).2.1, (runT n (stepT t m) (stepM t m)).2.2 + 1) := fun n => by
        rw [runT, if_neg h]
      rw [show a + 1 + b = a + b + 1 by omega, e, e, ih]
      dsimp only
      rw [show (runT a (stepT t m) (stepM t m)).2.2 + 1 + (runT b (runT a (stepT t m) (stepM t m)).1 (runT a (stepT t m) (stepM t m)).2.1).2.2 = (runT a (stepT t m) (stepM t m)).2.2 + (runT b (runT a (stepT t m) (stepM t m)).1 (runT a (stepT t m) (stepM t m)).2.1).2.2 + 1 by omega]
theorem runT_most (a : Nat) (t : T) (m : List Int) : (runT a t m).2.2 ≤ a ∧ ((runT a t m).2.2 = a ∨ (runT a t m).1.done = true) := by
  induction a generalizing t m with
  | zero => exact ⟨Nat.le_refl _, .inl rfl⟩
  | succ a ih =>
    unfold runT
    split
    · rename_i h; exact ⟨Nat.zero_le _, .inr h⟩
    · have := ih (stepT t m) (stepM t m)
      dsimp only
      rcases this with ⟨h1, h2 | h2⟩
      · exact ⟨by omega, .inl (by omega)⟩
      · exact ⟨by omega, .inr h2⟩
/-- How many of the first numbers are unlike. -/
def df (f g : Nat → Int) : Nat → Nat
  | 0 => 0
  | k + 1 => df f g k + if f k = g k then 0 else 1
theorem df_zero {f g : Nat → Int} (h : ∀ i, f i = g i) (n : Nat) : df f g n = 0 := by
  induction n with
  | zero => rfl
  | succ n ih => unfold df; rw [ih, if_pos (h n)]
theorem df_one {f g : Nat → Int} {j : Nat} (h : ∀ i, f i ≠ g i → i = j) (n : Nat) : df f g n ≤ 1 ∧ (n ≤ j → df f g n = 0) := by
  induction n with
  | zero => exact ⟨by unfold df; omega, fun _ => rfl⟩
  | succ n ih =>
    unfold df
    by_cases e : f n = g n
    · rw [if_pos e]; exact ⟨by omega, fun hn => by have := ih.2 (by omega); omega⟩
    · rw [if_neg e]
      have hj := h n e
      have := ih.2 (by omega)
      exact ⟨by omega, fun hn => by omega⟩
theorem after_pc (t : T) (m : List Int) : (after t m).pc = t.pc + 1 ∧ (after t m).code = t.code ∧ (after t m).done = t.done := ⟨rfl, rfl, rfl⟩
/-- One access at a time. -/
theorem one_access (t : T) {m : List Int} (h : m.length ≤ 256) :
    (stepM t m).length = m.length ∧ df (gt m) (gt (stepM t m)) m.length ≤ 1 ∧ (t.done = true → df (gt m) (gt (stepM t m)) m.length = 0 ∧ stepT t m = t) ∧
    (sane t.code = true → df (gt t.R) (gt (stepT t m).R) 32 ≤ 1 ∧ df (gt t.R) (gt (stepT t m).R) 32 + df (gt m) (gt (stepM t m)) m.length ≤ 1) := by
  have hl : (stepM t m).length = m.length := by rw [stepM_len, cut_all h]
  refine ⟨hl, ?_⟩
  have z : ∀ n, df (gt m) (gt (cut m)) n = 0 := df_zero (fun i => by rw [cut_all h])
  have zr : ∀ n, df (gt t.R) (gt t.R) n = 0 := df_zero (fun i => rfl)
  by_cases h1 : t.done = true
  · have e1 : stepT t m = t := by unfold stepT; rw [if_pos h1]
    have e2 : stepM t m = cut m := by unfold stepM; rw [if_pos h1]
    rw [e1, e2, z, zr]
    exact ⟨by omega, fun _ => ⟨rfl, rfl⟩, fun _ => by omega⟩
  · by_cases h2 : sane t.code = true
    · have h2' : ¬ sane t.code = false := by rw [h2]; decide
      by_cases h3 : (rest t).done = true
      · have e1 : stepT t m = rest t := by unfold stepT; rw [if_neg h1, if_neg h2', if_pos h3]
        have e2 : stepM t m = cut m := by unfold stepM; rw [if_neg h1, if_neg h2', if_pos h3]
        rw [e1, e2, z, (rest_code t).2, zr]
        exact ⟨by omega, fun g => absurd g h1, fun _ => by omega⟩
      · have e1 : stepT t m = rest (after (rest t) m) := by unfold stepT; rw [if_neg h1, if_neg h2', if_neg h3]
        have e2 : stepM t m = doM m (accOf (at' (rest t).code (rest t).pc.toNat)) := by unfold stepM; rw [if_neg h1, if_neg h2', if_neg h3]
        rw [e1, e2, (rest_code _).2]
        have hR : (after (rest t) m).R = if (at' (rest t).code (rest t).pc.toNat).k = 0 then t.R.set (at' (rest t).code (rest t).pc.toNat).r.toNat (doW m (accOf (at' (rest t).code (rest t).pc.toNat))) else t.R := by
          show (if (at' (rest t).code (rest t).pc.toNat).k = 0 then (rest t).R.set _ _ else (rest t).R) = _
          rw [(rest_code t).2]
        rw [hR]
        generalize at' (rest t).code (rest t).pc.toNat = x
        by_cases k0 : x.k = 0
        · have hm : ∀ i, gt m i = gt (doM m (accOf x)) i := fun i => by
            rcases one_gt h (accOf x) i with g | g
            · exact g.symm
            · exact absurd (show (accOf x).k = 0 by unfold accOf kind; simp [k0]) g.2
          rw [if_pos k0, df_zero hm]
          have := df_one (f := gt t.R) (g := gt (t.R.set x.r.toNat (doW m (accOf x)))) (j := x.r.toNat) (fun i hi => by
            rw [gt_set] at hi
            by_cases g : x.r.toNat = i ∧ i < t.R.length
            · exact g.1.symm
            · rw [if_neg g] at hi; exact absurd rfl hi) 32
          exact ⟨by omega, fun g => absurd g h1, fun _ => ⟨this.1, by omega⟩⟩
        · rw [if_neg k0, zr]
          have := df_one (f := gt m) (g := gt (doM m (accOf x))) (j := x.i.toNat) (fun i hi => by
            rcases one_gt h (accOf x) i with g | g
            · exact absurd g.symm hi
            · have g1 : (i : Int) = x.i := g.1
              omega) m.length
          exact ⟨this.1, fun g => absurd g h1, fun _ => by omega⟩
    · have h2' : sane t.code = false := by simpa using h2
      have e2 : stepM t m = cut m := by unfold stepM; rw [if_neg h1, if_pos h2']
      rw [e2, z]
      exact ⟨by omega, fun g => absurd g h1, fun g => absurd g h2⟩
/-- What holds behind so many steps of a program: it is done, or has gone forward. -/
def En (c : List Ins) (i : Nat) (t : T) : Prop := (t.done = true ∧ (sane c = true ∨ t.ans = -1)) ∨ (t.done = false ∧ still t ∧ t.code = c ∧ sane c = true ∧ (i : Int) ≤ t.pc)
theorem En.start (c : List Ins) : En c 0 (start c) := by
  unfold Tk.start
  by_cases h : sane c = true
  · rw [if_pos h]
    have hs := rest_still (t := ⟨c, 0, zeros, false, 0⟩) h
    cases hd : (rest ⟨c, 0, zeros, false, 0⟩).done with
    | true => exact .inl ⟨hd, .inl h⟩
    | false => exact .inr ⟨hd, hs, (rest_code _).1, h, rest_pc (t := ⟨c, 0, zeros, false, 0⟩) h⟩
  · rw [if_neg h]; exact .inl ⟨rfl, .inr rfl⟩
theorem step_on {t : T} (hd : t.done = false) (hs : still t) (hc : sane t.code = true) (m : List Int) : stepT t m = rest (after t m) := by
  unfold stepT
  rw [if_neg (by rw [hd]; decide), if_neg (by rw [hc]; decide), rest_id hs, if_neg (by rw [hd]; decide)]
theorem En.step {c : List Ins} {i : Nat} {t : T} (h : En c i t) (m : List Int) : En c (i + 1) (stepT t m) ∧ (t.done = false → (stepT t m).done = false → t.pc < (stepT t m).pc) := by
  rcases h with ⟨h1, h2⟩ | ⟨h1, h2, rfl, h4, h5⟩
  · have e : stepT t m = t := by unfold stepT; rw [if_pos h1]
    rw [e]
    exact ⟨.inl ⟨h1, h2⟩, fun g => absurd h1 (by rw [g]; decide)⟩
  · rw [step_on h1 h2 h4]
    have hp : t.pc + 1 ≤ (rest (after t m)).pc := rest_pc (t := after t m) h4
    have hs := rest_still (t := after t m) h4
    refine ⟨?_, fun _ _ => by omega⟩
    cases hd : (rest (after t m)).done with
    | true => exact .inl ⟨hd, .inl h4⟩
    | false => exact .inr ⟨hd, hs, (rest_code _).1, h4, by omega⟩
theorem En.ends {c : List Ins} {t : T} (h : En c c.length t) : t.done = true ∧ (sane c = true ∨ t.ans = -1) := by
  rcases h with h | ⟨h1, h2, rfl, h4, h5⟩
  · exact h
  · rcases h2 with h2 | h2
    · exact absurd h2 (by rw [h1]; decide)
    · omega
end Tk
end Go.Proofs.Ytnbejkhcifeeiaa
