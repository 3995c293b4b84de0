/- What the laws of layer 14 need besides: rounds of pushes and pops. -/
import Derived.Test.YtnbejkhcifeeiaaRingC2
namespace Go.Proofs.Ytnbejkhcifeeiaa
open Go.ChangeShapes Go.WideShapes Go.ChangeAt Go.RowKit
set_option linter.unusedVariables false
namespace Rg
open Wl Ce Tk Rw
theorem push_is {B C N : Nat} (hC : 1 ≤ C ∧ C ≤ 8) (hB : B ≤ 100) (x : Int) : push (B : Int) C N (wn x) = pushL B C N (wn x) := by
  have hmay : may (B : Int) C = true := may_iff.2 ⟨⟨by omega, by omega⟩, by omega, by omega⟩
  have h0 : (0 : Int) ≤ N := by omega
  unfold push; rw [hmay, decide_eq_true h0, decide_eq_true (wn_len _)]; rfl
theorem pop_is {B C N : Nat} (hC : 1 ≤ C ∧ C ≤ 8) (hB : B ≤ 100) : pop (B : Int) C N = popL B C N := by
  have hmay : may (B : Int) C = true := may_iff.2 ⟨⟨by omega, by omega⟩, by omega, by omega⟩
  have h0 : (0 : Int) ≤ N := by omega
  unfold pop; rw [hmay, decide_eq_true h0]; rfl
theorem size_is {C : Nat} (hC : 1 ≤ C ∧ C ≤ 8) : size (C : Int) = 3 + 6 * C := by unfold size; rw [if_pos (may_iff.2 ⟨by decide, by omega, by omega⟩)]
theorem new_is {B C : Nat} (hC : 1 ≤ C ∧ C ≤ 8) (hB : B ≤ 100) : nw ((B : Int) + (3 + 6 * C)) = B + 3 + 6 * C := by unfold nw; omega
/-- A push and a pop into a ring that is empty. -/
theorem round_ring {B C i : Nat} {M : List Int} {L : List (List Int)} {d : Nat} (hC : 1 ≤ C ∧ C ≤ 8) (hB : B ≤ 100) (hi : L.length = i) (hN : i + d ≤ 1000) (r : Ring B C M L d i) :
    ∃ T1 M1 T2 M2, Tk.runT (most 99) (Tk.start (pushL B C i (wn i))) M = (T1, M1, 8) ∧ T1.ans = 1 ∧ Tk.runT (most 99) (Tk.start (popL B C i)) M1 = (T2, M2, 8) ∧ taken T2 = wn i ∧ tells T2 = true ∧
      M1.length = B + 3 + 6 * C ∧ M2.length = B + 3 + 6 * C ∧ Ring B C M2 (L ++ [wn i]) d (i + 1) := by
  subst hi
  obtain ⟨R1, M1, e1, r1⟩ := push_ring (w := wn L.length) hC hB (by omega) rfl r (by omega) 91
  obtain ⟨R2, M2, e2, t2, r2⟩ := pop_ring hC hB (by rw [List.length_append]; show L.length + 1 + d ≤ _; omega) r1 (by rw [List.length_append]; show L.length < L.length + 1; omega) 91
  rw [li_snoc, if_neg (by omega), if_pos rfl] at t2
  exact ⟨_, M1, _, M2, e1, rfl, e2, t2, rfl, r1.len, r2.len, r2⟩
theorem last_ring {B C i : Nat} {M : List Int} {L : List (List Int)} {d : Nat} (hC : 1 ≤ C ∧ C ≤ 8) (hB : B ≤ 100) (hi : L.length = i) (r : Ring B C M L d i) :
    ∃ T, Tk.runT (most 99) (Tk.start (popL B C i)) M = (T, M, 1) ∧ taken T = [] ∧ tells T = false ∧ T.done = true := by
  subst hi
  obtain ⟨R, e⟩ := none_ring hC hB r 98
  exact ⟨_, e, rfl, rfl, rfl⟩
/-- A ring into which was laid, behind so many pushes. -/
def Fl (B C : Nat) (M : List Int) (L : List (List Int)) (i : Nat) : Prop := L.length = min i C ∧ (∀ j, j < L.length → li L j = wn j) ∧ Ring B C M L (i - min i C) 0
theorem Fl.lay {B C i : Nat} {M : List Int} {L : List (List Int)} (hC : 1 ≤ C ∧ C ≤ 8) (hB : B ≤ 100) (hN : i ≤ 1000) (h : Fl B C M L i) (hi : i < C) :
    ∃ T M1 L1 k, Tk.runT (most 99) (Tk.start (pushL B C i (wn i))) M = (T, M1, k) ∧ T.done = true ∧ T.ans = 1 ∧ M1.length = B + 3 + 6 * C ∧ Fl B C M1 L1 (i + 1) := by
  obtain ⟨h1, h2, r⟩ := h
  have hl : L.length = i := by omega
  subst hl
  obtain ⟨R1, M1, e1, r1⟩ := push_ring (w := wn L.length) hC hB (by omega) rfl r (by omega) 91
  refine ⟨_, M1, L ++ [wn L.length], 8, e1, rfl, rfl, r1.len, ?_, fun j hj => ?_, ?_⟩
  · rw [List.length_append]; show L.length + 1 = _; omega
  · rw [List.length_append] at hj
    have hj' : j < L.length + 1 := hj
    rw [li_snoc]
    by_cases g : j < L.length
    · rw [if_pos g, h2 j g]
    · obtain rfl : j = L.length := by omega
      rw [if_neg g, if_pos rfl]
  · rw [show L.length + 1 - min (L.length + 1) C = L.length - min L.length C by omega]; exact r1
theorem Fl.drop {B C i : Nat} {M : List Int} {L : List (List Int)} (hC : 1 ≤ C ∧ C ≤ 8) (hB : B ≤ 100) (hN : i ≤ 1000) (h : Fl B C M L i) (hi : C ≤ i) :
    ∃ T M1 k, Tk.runT (most 99) (Tk.start (pushL B C C (wn i))) M = (T, M1, k) ∧ T.done = true ∧ T.ans = 0 ∧ M1.length = B + 3 + 6 * C ∧ Fl B C M1 L (i + 1) := by
  obtain ⟨h1, h2, r⟩ := h
  have hl : L.length = C := by omega
  obtain ⟨R1, M1, e1, r1⟩ := drop_ring (w := wn i) hC hB (by omega) rfl r (by omega) 97
  rw [hl] at e1
  refine ⟨_, M1, 2, e1, rfl, rfl, r1.len, by omega, h2, ?_⟩
  rw [show i + 1 - min (i + 1) C = i - min i C + 1 by omega]; exact r1
theorem Fl.zero {B C : Nat} (hC : 1 ≤ C ∧ C ≤ 8) : Fl B C (List.replicate (B + 3 + 6 * C) 0) [] 0 := ⟨by simp, fun j hj => absurd hj (by show ¬ j < 0; omega), by rw [show 0 - min 0 C = 0 by omega]; exact new_ring hC⟩
/-- A ring out of which was taken. -/
def Ta (B C d K : Nat) (M : List Int) (L : List (List Int)) (i : Nat) : Prop := L.length = K ∧ (∀ j, j < L.length → li L j = wn j) ∧ Ring B C M L d (min i K)
theorem Ta.pop {B C d K i : Nat} {M : List Int} {L : List (List Int)} (hC : 1 ≤ C ∧ C ≤ 8) (hB : B ≤ 100) (hN : K + d ≤ 1000) (h : Ta B C d K M L i) (hi : i < K) :
    ∃ T M1 k, Tk.runT (most 99) (Tk.start (popL B C i)) M = (T, M1, k) ∧ taken T = wn i ∧ tells T = true ∧ M1.length = B + 3 + 6 * C ∧ Ta B C d K M1 L (i + 1) := by
  obtain ⟨h1, h2, r⟩ := h
  rw [show min i K = i by omega] at r
  obtain ⟨R2, M2, e2, t2, r2⟩ := pop_ring hC hB (by omega) r (by omega) 91
  exact ⟨_, M2, 8, e2, t2.trans (h2 i (by omega)), rfl, r2.len, h1, h2, by rw [show min (i + 1) K = i + 1 by omega]; exact r2⟩
theorem Ta.none {B C d K : Nat} {M : List Int} {L : List (List Int)} (hC : 1 ≤ C ∧ C ≤ 8) (hB : B ≤ 100) (h : Ta B C d K M L K) :
    ∃ T, Tk.runT (most 99) (Tk.start (popL B C K)) M = (T, M, 1) ∧ taken T = [] ∧ tells T = false ∧ M.length = B + 3 + 6 * C ∧ Ta B C d K M L (K + 1) := by
  obtain ⟨h1, h2, r⟩ := h
  rw [Nat.min_self] at r
  subst h1
  obtain ⟨R, e⟩ := none_ring hC hB r 98
  exact ⟨_, e, rfl, rfl, r.len, rfl, h2, by rw [show min (L.length + 1) L.length = L.length by omega]; exact r⟩
theorem Fl.ta {B C n : Nat} {M : List Int} {L : List (List Int)} (h : Fl B C M L n) : Ta B C (n - min n C) (min n C) M L 0 := ⟨h.1, h.2.1, by rw [Nat.zero_min]; exact h.2.2⟩
theorem cut_ring {B C : Nat} {M : List Int} (hC : 1 ≤ C ∧ C ≤ 8) (hB : B ≤ 100) (h : M.length = B + 3 + 6 * C) : (cut M).length = B + 3 + 6 * C := by rw [cut_len]; omega
end Rg
end Go.Proofs.Ytnbejkhcifeeiaa
