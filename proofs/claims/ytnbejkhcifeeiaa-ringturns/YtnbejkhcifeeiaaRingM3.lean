/- A push and a pop at a stretch. -/
import Derived.Test.YtnbejkhcifeeiaaRingM2
namespace Go.Proofs.Ytnbejkhcifeeiaa
open Go.ChangeShapes Go.WideShapes Go.ChangeAt Go.RowKit
set_option linter.unusedVariables false
namespace Rg
open Wl Ce Tk
/-- The memory behind the first ones of six words, and the registers behind the first ones of six loads. -/
def puts (p : Int) (w : List Int) : Nat → List Int → List Int
  | 0, m => cut m
  | k + 1, m => doM (puts p w k m) ⟨1, p + k, gt w k, 0⟩
def gets (p : Int) (m : List Int) : Nat → List Int → List Int
  | 0, R => R
  | k + 1, R => (gets p m k R).set (k + 1) (doW m ⟨0, p + k, 0, 0⟩)
theorem run_step {t : T} (h : t.done = false) (n : Nat) (m : List Int) : Tk.runT (n + 1) t m = ((Tk.runT n (Tk.stepT t m) (Tk.stepM t m)).1, (Tk.runT n (Tk.stepT t m) (Tk.stepM t m)).2.1, (Tk.runT n (Tk.stepT t m) (Tk.stepM t m)).2.2 + 1) := by
  conv => lhs; unfold Tk.runT
  rw [if_neg (by rw [h]; decide)]
theorem doM_all' (m : List Int) (x : Acc) : cut (doM m x) = doM m x := doM_all m x
theorem push_puts (b c t : Int) (w R m : List Int) (n k : Nat) (hk : k ≤ 6) : Tk.runT (n + k) ⟨pushL b c t w, 8 - (k : Int), R, false, 0⟩ (puts (pl b c t) w (6 - k) m) = ((Tk.runT n ⟨pushL b c t w, 8, R, false, 0⟩ (puts (pl b c t) w 6 m)).1, (Tk.runT n ⟨pushL b c t w, 8, R, false, 0⟩ (puts (pl b c t) w 6 m)).2.1, (Tk.runT n ⟨pushL b c t w, 8, R, false, 0⟩ (puts (pl b c t) w 6 m)).2.2 + k) := by
  induction k with
  | zero => rfl
  | succ k ih =>
    have s := push_put b c t w R (puts (pl b c t) w (5 - k) m) (5 - k) (by omega)
    rw [show 6 - (k + 1) = 5 - k by omega, show n + (k + 1) = (n + k) + 1 by omega, show (8 : Int) - ((k + 1 : Nat) : Int) = ((5 - k : Nat) : Int) + 2 by omega, run_step rfl, s.1, s.2, show ((5 - k : Nat) : Int) + 3 = 8 - (k : Int) by omega]
    have e : doM (puts (pl b c t) w (5 - k) m) ⟨1, pl b c t + ((5 - k : Nat) : Int), gt w (5 - k), 0⟩ = puts (pl b c t) w (6 - k) m := by
      rw [show 6 - k = (5 - k) + 1 by omega]; rfl
    rw [e, ih (by omega)]
    simp only [Nat.add_assoc]
theorem pop_gets (b c t : Int) (R m : List Int) (n k : Nat) (hk : k ≤ 6) : Tk.runT (n + k) ⟨popL b c t, 8 - (k : Int), gets (pl b c t) m (6 - k) R, false, 0⟩ m = ((Tk.runT n ⟨popL b c t, 8, gets (pl b c t) m 6 R, false, 0⟩ m).1, (Tk.runT n ⟨popL b c t, 8, gets (pl b c t) m 6 R, false, 0⟩ m).2.1, (Tk.runT n ⟨popL b c t, 8, gets (pl b c t) m 6 R, false, 0⟩ m).2.2 + k) := by
  induction k with
  | zero => rfl
  | succ k ih =>
    have s := pop_take b c t (gets (pl b c t) m (5 - k) R) m (5 - k) (by omega)
    rw [show 6 - (k + 1) = 5 - k by omega, show n + (k + 1) = (n + k) + 1 by omega, show (8 : Int) - ((k + 1 : Nat) : Int) = ((5 - k : Nat) : Int) + 2 by omega, run_step rfl, s.1, s.2, runT_cut, show ((5 - k : Nat) : Int) + 3 = 8 - (k : Int) by omega]
    have e : (gets (pl b c t) m (5 - k) R).set (5 - k + 1) (doW m ⟨0, pl b c t + ((5 - k : Nat) : Int), 0, 0⟩) = gets (pl b c t) m (6 - k) R := by
      rw [show 6 - k = (5 - k) + 1 by omega]; rfl
    rw [e, ih (by omega)]
    simp only [Nat.add_assoc]
/-- A push at a stretch: eight steps, or two. -/
theorem push_run (b c t : Int) (w m : List Int) (n : Nat) :
    (doW m ⟨0, b, 0, 0⟩ ≠ IntKind.u64.wrap (t - c) → Tk.runT (n + 8) (Tk.start (pushL b c t w)) m = (⟨pushL b c t w, 9, zeros.set 0 (doW m ⟨0, b, 0, 0⟩), true, 1⟩, doM (puts (pl b c t) w 6 m) ⟨1, b + 1, t + 1, 0⟩, 8)) ∧
    (doW m ⟨0, b, 0, 0⟩ = IntKind.u64.wrap (t - c) → Tk.runT (n + 2) (Tk.start (pushL b c t w)) m = (⟨pushL b c t w, 11, zeros.set 0 (doW m ⟨0, b, 0, 0⟩), true, 0⟩, doM m ⟨3, b + 2, 1, 0⟩, 2)) := by
  have s := push_0 b c t w m
  refine ⟨fun h => ?_, fun h => ?_⟩
  · rw [push_start, show n + 8 = (n + 1 + 6) + 1 by omega, run_step rfl, s.1, s.2, if_neg h]
    have p := push_puts b c t w (zeros.set 0 (doW m ⟨0, b, 0, 0⟩)) m (n + 1) 6 (Nat.le_refl _)
    have q := push_8 b c t w (zeros.set 0 (doW m ⟨0, b, 0, 0⟩)) (puts (pl b c t) w 6 m)
    have e := run_step (t := ⟨pushL b c t w, 8, zeros.set 0 (doW m ⟨0, b, 0, 0⟩), false, 0⟩) rfl n (puts (pl b c t) w 6 m)
    rw [q.1, q.2, runT_done (t := ⟨pushL b c t w, 9, zeros.set 0 (doW m ⟨0, b, 0, 0⟩), true, 1⟩) rfl, doM_all'] at e
    rw [e] at p
    have p' : Tk.runT (n + 1 + 6) ⟨pushL b c t w, 2, zeros.set 0 (doW m ⟨0, b, 0, 0⟩), false, 0⟩ (cut m) = _ := p
    rw [p']
  · rw [push_start, show n + 2 = (n + 1) + 1 by omega, run_step rfl, s.1, s.2, if_pos h, runT_cut]
    have q := push_10 b c t w (zeros.set 0 (doW m ⟨0, b, 0, 0⟩)) m
    rw [run_step rfl, q.1, q.2, runT_done rfl, doM_all']
/-- A pop at a stretch: eight steps, or one. -/
theorem pop_run (b c h : Int) (m : List Int) (n : Nat) :
    (doW m ⟨0, b + 1, 0, 0⟩ ≠ h → Tk.runT (n + 8) (Tk.start (popL b c h)) m = (⟨popL b c h, 9, gets (pl b c h) m 6 (zeros.set 0 (doW m ⟨0, b + 1, 0, 0⟩)), true, 1⟩, doM m ⟨1, b, h + 1, 0⟩, 8)) ∧
    (doW m ⟨0, b + 1, 0, 0⟩ = h → Tk.runT (n + 1) (Tk.start (popL b c h)) m = (⟨popL b c h, 10, zeros.set 0 (doW m ⟨0, b + 1, 0, 0⟩), true, 0⟩, cut m, 1)) := by
  have s := pop_0 b c h m
  refine ⟨fun g => ?_, fun g => ?_⟩
  · rw [pop_start, show n + 8 = (n + 1 + 6) + 1 by omega, run_step rfl, s.1, s.2, if_neg g, runT_cut]
    have p := pop_gets b c h (zeros.set 0 (doW m ⟨0, b + 1, 0, 0⟩)) m (n + 1) 6 (Nat.le_refl _)
    have q := pop_8 b c h (gets (pl b c h) m 6 (zeros.set 0 (doW m ⟨0, b + 1, 0, 0⟩))) m
    have e := run_step (t := ⟨popL b c h, 8, gets (pl b c h) m 6 (zeros.set 0 (doW m ⟨0, b + 1, 0, 0⟩)), false, 0⟩) rfl n m
    rw [q.1, q.2, runT_done (t := ⟨popL b c h, 9, gets (pl b c h) m 6 (zeros.set 0 (doW m ⟨0, b + 1, 0, 0⟩)), true, 1⟩) rfl, doM_all'] at e
    rw [e] at p
    have p' : Tk.runT (n + 1 + 6) ⟨popL b c h, 2, zeros.set 0 (doW m ⟨0, b + 1, 0, 0⟩), false, 0⟩ m = _ := p
    rw [p']
  · rw [pop_start, run_step rfl, s.1, s.2, if_pos g, runT_done rfl, cut_cut]
/-! What the ring holds behind them. -/
theorem puts_ring {B C : Nat} {m : List Int} {L : List (List Int)} {d h : Nat} {w : List Int} (hC : 1 ≤ C ∧ C ≤ 8) (hB : B ≤ 100) (hN : L.length + d ≤ 100000) (hw : w.length = 6) (hr : Ring B C m L d h) (hc : L.length - h < C) (R : List Int) (j : Nat) (hj : j ≤ 6) :
    Ring B C (puts (pl B C L.length) w j m) L d h ∧ LayAt B C (puts (pl B C L.length) w j m) L h w ⟨pushL B C L.length w, (j : Int) + 2, R, false, 0⟩ (j + 1) := by
  induction j with
  | zero =>
    have hm : m.length ≤ 256 := by have := hr.len; omega
    show Ring B C (cut m) L d h ∧ LayAt B C (cut m) L h w ⟨_, _, R, false, 0⟩ _
    rw [cut_all hm]
    exact ⟨hr, .inr (.inr ⟨0, R, by omega, rfl, rfl, hc, fun i hi => by omega⟩)⟩
  | succ j ih =>
    have ih := ih (by omega)
    have s := push_put B C L.length w R (puts (pl B C L.length) w j m) j (by omega)
    have g := (lay_step hC hB hN hw ih.1 ih.2).2
    rw [s.1, s.2] at g
    rcases g with g | g | g
    · refine ⟨g.2.1, ?_⟩
      have := g.2.2
      rw [show (j : Int) + 3 = ((j + 1 : Nat) : Int) + 2 by omega] at this
      exact this
    · exact absurd g.1 (by simp)
    · exact absurd g.1 (by simp)
theorem push_ring {B C : Nat} {m : List Int} {L : List (List Int)} {d h : Nat} {w : List Int} (hC : 1 ≤ C ∧ C ≤ 8) (hB : B ≤ 100) (hN : L.length + d ≤ 100000) (hw : w.length = 6) (hr : Ring B C m L d h) (hc : L.length - h < C) (n : Nat) :
    ∃ (R M : List Int), Tk.runT (n + 8) (Tk.start (pushL B C L.length w)) m = (⟨pushL B C L.length w, 9, R, true, 1⟩, M, 8) ∧ Ring B C M (L ++ [w]) d h := by
  have hm : m.length ≤ 256 := by have := hr.len; omega
  have hv : doW m ⟨0, B, 0, 0⟩ = h := by rw [doW_at hm (by have := hr.len; omega)]; exact hr.head
  refine ⟨_, _, (push_run B C L.length w m n).1 ?_, ?_⟩
  · rw [hv, IntKind.wrap_u64]
    have := hr.le
    omega
  · have g0 := puts_ring hC hB hN hw hr hc zeros 6 (Nat.le_refl _)
    have s := push_8 B C L.length w zeros (puts (pl B C L.length) w 6 m)
    have g : (Tk.stepT ⟨pushL B C L.length w, 8, zeros, false, 0⟩ (puts (pl B C L.length) w 6 m)).done = false ∧ _ ∨ _ := (lay_step hC hB hN hw g0.1 g0.2).2
    rw [s.1] at g
    rcases g with g | g | g
    · exact absurd g.1 (by simp)
    · have g2 : Ring B C (Tk.stepM ⟨pushL B C L.length w, 8, zeros, false, 0⟩ (puts (pl B C L.length) w 6 m)) (L ++ [w]) d h := g.2.2
      rw [s.2] at g2
      exact g2
    · have g2 : (Tk.stepT ⟨pushL B C L.length w, 8, zeros, false, 0⟩ (puts (pl B C L.length) w 6 m)).ans = 0 := g.2.1
      rw [s.1] at g2
      exact absurd g2 (by simp)
theorem drop_ring {B C : Nat} {m : List Int} {L : List (List Int)} {d h : Nat} {w : List Int} (hC : 1 ≤ C ∧ C ≤ 8) (hB : B ≤ 100) (hN : L.length + d ≤ 100000) (hw : w.length = 6) (hr : Ring B C m L d h) (hc : L.length - h = C) (n : Nat) :
    ∃ (R M : List Int), Tk.runT (n + 2) (Tk.start (pushL B C L.length w)) m = (⟨pushL B C L.length w, 11, R, true, 0⟩, M, 2) ∧ Ring B C M L (d + 1) h := by
  have hm : m.length ≤ 256 := by have := hr.len; omega
  have hv : doW m ⟨0, B, 0, 0⟩ = h := by rw [doW_at hm (by have := hr.len; omega)]; exact hr.head
  refine ⟨_, _, (push_run B C L.length w m n).2 ?_, ?_⟩
  · rw [hv, IntKind.wrap_u64]
    have := hr.le
    omega
  · have s := push_10 B C L.length w zeros m
    have g := (lay_step hC hB hN hw hr (t := ⟨pushL B C L.length w, 10, zeros, false, 0⟩) (k := 1) (.inr (.inl ⟨rfl, _, rfl⟩))).2
    rw [s.1, s.2] at g
    rcases g with g | g | g
    · exact absurd g.1 (by simp)
    · exact absurd g.2.1 (by simp)
    · exact g.2.2
theorem gets_take {B C : Nat} {m : List Int} {L : List (List Int)} {d h : Nat} (hC : 1 ≤ C ∧ C ≤ 8) (hB : B ≤ 100) (hN : L.length + d ≤ 100000) (hr : Ring B C m L d h) (hc : h < L.length) {R : List Int} (hR : R.length = 32) (j : Nat) (hj : j ≤ 6) :
    TakeAt B C L h ⟨popL B C h, (j : Int) + 2, gets (pl B C h) m j R, false, 0⟩ (j + 1) := by
  induction j with
  | zero => exact .inr ⟨0, R, by omega, rfl, rfl, hc, hR, fun i hi => by omega⟩
  | succ j ih =>
    have ih := ih (by omega)
    have s := pop_take B C h (gets (pl B C h) m j R) m j (by omega)
    have g := (take_step hC hB hN hr ih).2.2
    rw [s.1] at g
    rcases g with g | g | g
    · have := g.2.2
      rw [show (j : Int) + 3 = ((j + 1 : Nat) : Int) + 2 by omega] at this
      exact this
    · exact absurd g.1 (by simp)
    · exact absurd g.1 (by simp)
theorem pop_ring {B C : Nat} {m : List Int} {L : List (List Int)} {d h : Nat} (hC : 1 ≤ C ∧ C ≤ 8) (hB : B ≤ 100) (hN : L.length + d ≤ 100000) (hr : Ring B C m L d h) (hc : h < L.length) (n : Nat) :
    ∃ (R M : List Int), Tk.runT (n + 8) (Tk.start (popL B C h)) m = (⟨popL B C h, 9, R, true, 1⟩, M, 8) ∧ taken ⟨popL B C h, 9, R, true, 1⟩ = li L h ∧ Ring B C M L d (h + 1) := by
  have hm : m.length ≤ 256 := by have := hr.len; omega
  have hv : doW m ⟨0, (B : Int) + 1, 0, 0⟩ = L.length := by
    rw [show ((B : Int) + 1) = ((B + 1 : Nat) : Int) by omega, doW_at hm (by have := hr.len; omega)]; exact hr.tail
  refine ⟨_, _, (pop_run B C h m n).1 (by rw [hv]; omega), ?_⟩
  generalize hR : zeros.set 0 (doW m ⟨0, (B : Int) + 1, 0, 0⟩) = R
  have g0 := gets_take hC hB hN hr hc (R := R) (by rw [← hR, List.length_set]; decide) 6 (Nat.le_refl _)
  have s := pop_8 B C h (gets (pl B C h) m 6 R) m
  have g := (take_step hC hB hN hr g0).2.2
  have g' : (Tk.stepT ⟨popL B C h, 8, gets (pl B C h) m 6 R, false, 0⟩ m).done = false ∧ Ring B C (Tk.stepM ⟨popL B C h, 8, gets (pl B C h) m 6 R, false, 0⟩ m) L d h ∧ TakeAt B C L h (Tk.stepT ⟨popL B C h, 8, gets (pl B C h) m 6 R, false, 0⟩ m) _ ∨ (Tk.stepT ⟨popL B C h, 8, gets (pl B C h) m 6 R, false, 0⟩ m).done = true ∧ (Tk.stepT ⟨popL B C h, 8, gets (pl B C h) m 6 R, false, 0⟩ m).ans = 1 ∧ h < L.length ∧ taken (Tk.stepT ⟨popL B C h, 8, gets (pl B C h) m 6 R, false, 0⟩ m) = li L h ∧ Ring B C (Tk.stepM ⟨popL B C h, 8, gets (pl B C h) m 6 R, false, 0⟩ m) L d (h + 1) ∨ (Tk.stepT ⟨popL B C h, 8, gets (pl B C h) m 6 R, false, 0⟩ m).done = true ∧ (Tk.stepT ⟨popL B C h, 8, gets (pl B C h) m 6 R, false, 0⟩ m).ans = 0 ∧ Ring B C (Tk.stepM ⟨popL B C h, 8, gets (pl B C h) m 6 R, false, 0⟩ m) L d h := g
  rw [s.1, s.2] at g'
  rcases g' with g | g | g
  · exact absurd g.1 (by simp)
  · exact g.2.2.2
  · exact absurd g.2.1 (by simp)
theorem none_ring {B C : Nat} {m : List Int} {L : List (List Int)} {d : Nat} (hC : 1 ≤ C ∧ C ≤ 8) (hB : B ≤ 100) (hr : Ring B C m L d L.length) (n : Nat) :
    ∃ R : List Int, Tk.runT (n + 1) (Tk.start (popL B C L.length)) m = (⟨popL B C L.length, 10, R, true, 0⟩, m, 1) := by
  have hm : m.length ≤ 256 := by have := hr.len; omega
  have hv : doW m ⟨0, (B : Int) + 1, 0, 0⟩ = L.length := by
    rw [show ((B : Int) + 1) = ((B + 1 : Nat) : Int) by omega, doW_at hm (by have := hr.len; omega)]; exact hr.tail
  refine ⟨zeros.set 0 (doW m ⟨0, (B : Int) + 1, 0, 0⟩), ?_⟩
  rw [(pop_run B C L.length m n).2 hv, cut_all hm]
/-- A ring at first. -/
theorem new_ring {B C : Nat} (hC : 1 ≤ C ∧ C ≤ 8) : Ring B C (List.replicate (B + 3 + 6 * C) 0) [] 0 0 := by
  have e : ∀ j, gt (List.replicate (B + 3 + 6 * C) (0 : Int)) j = 0 := fun j => by
    unfold gt
    rw [List.getD_eq_getElem?_getD, List.getElem?_replicate]
    split <;> rfl
  exact { len := List.length_replicate, head := e _, tail := e _, drops := e _, le := Nat.le_refl _, few := by show 0 - 0 ≤ C; omega, six := fun n h => absurd h (by show ¬ n < 0; omega), words := fun n _ h => absurd h (by show ¬ n < 0; omega) }
/-! Rings apart: what a push and a pop change of any memory. -/
theorem puts_len (p : Int) (w m : List Int) (h : m.length ≤ 256) (k : Nat) : (puts p w k m).length = m.length := by
  induction k with
  | zero => show (cut m).length = _; rw [cut_all h]
  | succ k ih => show (doM (puts p w k m) _).length = _; rw [one_len (by omega), ih]
theorem puts_gt (p : Nat) (w m : List Int) (h : m.length ≤ 256) (k : Nat) {j : Nat} (hj : j < p ∨ p + k ≤ j) : gt (puts p w k m) j = gt m j := by
  induction k with
  | zero => show gt (cut m) j = _; rw [cut_all h]
  | succ k ih =>
    show gt (doM (puts p w k m) ⟨1, (p : Int) + k, _, 0⟩) j = _
    rw [show (p : Int) + (k : Int) = ((p + k : Nat) : Int) by omega, gt_put (by rw [puts_len p w m h]; exact h), if_neg (by omega), ih (by omega)]
theorem push_apart {B C n : Nat} (hC : 1 ≤ C ∧ C ≤ 8) (w : List Int) {m : List Int} (h : m.length ≤ 256) (N : Nat) :
    (Tk.runT (N + 8) (Tk.start (pushL B C n w)) m).2.1.length = m.length ∧ ∀ j, j < B ∨ B + 3 + 6 * C ≤ j ∨ j = B → gt (Tk.runT (N + 8) (Tk.start (pushL B C n w)) m).2.1 j = gt m j := by
  have hb := pn_bd (B := B) (n := n) hC.1
  have e0 : pl B C n = ((pn B C n : Nat) : Int) := by have := pl_pn B C n 0; simpa using this
  by_cases g : doW m ⟨0, B, 0, 0⟩ = IntKind.u64.wrap (n - C)
  · have := (push_run B C n w m (N + 6)).2 g
    rw [show N + 6 + 2 = N + 8 by omega] at this
    rw [this]
    refine ⟨one_len h _, fun j hj => ?_⟩
    show gt (doM m ⟨3, (B : Int) + 2, 1, 0⟩) j = _
    rw [show ((B : Int) + 2) = ((B + 2 : Nat) : Int) by omega, gt_more h, if_neg (by omega)]
  · have := (push_run B C n w m N).1 g
    rw [this]
    have hl := puts_len (pl B C n) w m h 6
    dsimp only
    refine ⟨by rw [one_len (by omega)]; exact hl, fun j hj => ?_⟩
    rw [show ((B : Int) + 1) = ((B + 1 : Nat) : Int) by omega, gt_put (by omega), if_neg (by omega), e0, puts_gt _ _ _ h _ (by omega)]
theorem pop_apart {B C n : Nat} (hC : 1 ≤ C ∧ C ≤ 8) {m : List Int} (h : m.length ≤ 256) (N : Nat) :
    (Tk.runT (N + 8) (Tk.start (popL B C n)) m).2.1.length = m.length ∧ ∀ j, j ≠ B → gt (Tk.runT (N + 8) (Tk.start (popL B C n)) m).2.1 j = gt m j := by
  by_cases g : doW m ⟨0, (B : Int) + 1, 0, 0⟩ = n
  · have := (pop_run B C n m (N + 7)).2 g
    rw [show N + 7 + 1 = N + 8 by omega] at this
    rw [this]
    refine ⟨by show (cut m).length = _; rw [cut_all h], fun j hj => ?_⟩
    show gt (cut m) j = _
    rw [cut_all h]
  · have := (pop_run B C n m N).1 g
    rw [this]
    refine ⟨one_len h _, fun j hj => ?_⟩
    show gt (doM m ⟨1, (B : Int), _, 0⟩) j = _
    rw [gt_put h, if_neg (by omega)]
end Rg
end Go.Proofs.Ytnbejkhcifeeiaa
