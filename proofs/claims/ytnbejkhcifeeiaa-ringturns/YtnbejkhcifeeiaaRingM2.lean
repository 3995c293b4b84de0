/- However both take turns: what holds of a ring, of who lays and of who takes, behind every step. -/
import Derived.Test.YtnbejkhcifeeiaaRingM
namespace Go.Proofs.Ytnbejkhcifeeiaa
open Go.ChangeShapes Go.WideShapes Go.ChangeAt Go.RowKit
set_option linter.unusedVariables false
namespace Rg
open Wl Ce Tk
theorem gt_put {m : List Int} (h : m.length ≤ 256) (i : Nat) (a : Int) (j : Nat) : gt (doM m ⟨1, i, a, 0⟩) j = if j = i ∧ j < m.length then a else gt m j := by
  rw [gt_doM, cut_all h]
  by_cases e : j = i ∧ j < m.length
  · rw [if_pos e, if_pos ⟨inb_iff.2 ⟨by show (0 : Int) ≤ i; omega, by show (i : Int) < _; rw [cut_all h]; omega⟩, by show (j : Int) = i; omega⟩]
    rfl
  · rw [if_neg e, if_neg]
    intro g
    have g1 := inb_iff.1 g.1
    have g2 : (j : Int) = i := g.2
    have g3 : (i : Int) < ((cut m).length : Nat) := g1.2
    rw [cut_all h] at g3
    exact e ⟨by omega, by omega⟩
theorem gt_more {m : List Int} (h : m.length ≤ 256) (i : Nat) (a : Int) (j : Nat) : gt (doM m ⟨3, i, a, 0⟩) j = if j = i ∧ j < m.length then IntKind.u64.wrap (gt m j + a) else gt m j := by
  rw [gt_doM, cut_all h]
  by_cases e : j = i ∧ j < m.length
  · rw [if_pos e, if_pos ⟨inb_iff.2 ⟨by show (0 : Int) ≤ i; omega, by show (i : Int) < _; rw [cut_all h]; omega⟩, by show (j : Int) = i; omega⟩]
    rw [e.1]
    rfl
  · rw [if_neg e, if_neg]
    intro g
    have g1 := inb_iff.1 g.1
    have g2 : (j : Int) = i := g.2
    have g3 : (i : Int) < ((cut m).length : Nat) := g1.2
    rw [cut_all h] at g3
    exact e ⟨by omega, by omega⟩
theorem doW_at {m : List Int} (h : m.length ≤ 256) {i : Nat} (hi : i < m.length) : doW m ⟨0, i, 0, 0⟩ = gt m i := by
  unfold doW
  rw [if_pos (inb_iff.2 ⟨by show (0 : Int) ≤ i; omega, by show (i : Int) < _; rw [cut_all h]; omega⟩), if_pos rfl]
  rfl
/-- Where the place of a number begins, as a number. -/
def pn (B C n : Nat) : Nat := B + 3 + 6 * (n % C)
theorem pl_pn (B C n j : Nat) : pl (B : Int) C n + j = ((pn B C n + j : Nat) : Int) := by
  unfold pl pn
  rw [← Int.natCast_emod]
  omega
theorem pn_bd {B C n : Nat} (h : 1 ≤ C) : B + 3 ≤ pn B C n ∧ pn B C n + 6 ≤ B + 3 + 6 * C := by
  have := Nat.mod_lt n (y := C) (by omega)
  unfold pn; omega
theorem far {C n t : Nat} (h1 : n < t) (h2 : t - n < C) : n % C ≠ t % C := by
  intro e
  have := Nat.sub_mod_eq_zero_of_mod_eq e.symm
  rw [Nat.mod_eq_of_lt h2] at this
  omega
theorem pn_far {B C n t : Nat} (h1 : n < t) (h2 : t - n < C) : pn B C n + 6 ≤ pn B C t ∨ pn B C t + 6 ≤ pn B C n := by
  have := far h1 h2
  unfold pn; omega
abbrev li (L : List (List Int)) (n : Nat) : List Int := L.getD n []
theorem li_snoc (L : List (List Int)) (w : List Int) (n : Nat) : li (L ++ [w]) n = if n < L.length then li L n else if n = L.length then w else [] := by
  unfold li
  rw [List.getD_eq_getElem?_getD, List.getD_eq_getElem?_getD]
  by_cases h : n < L.length
  · rw [if_pos h, List.getElem?_append_left h]
  · rw [if_neg h, List.getElem?_append_right (by omega)]
    by_cases g : n = L.length
    · rw [if_pos g, g, Nat.sub_self]; rfl
    · rw [if_neg g, List.getElem?_eq_none (by show 1 ≤ _; omega)]; rfl
/-- A ring in words: its places hold what was laid and not yet taken. -/
structure Ring (B C : Nat) (m : List Int) (L : List (List Int)) (d h : Nat) : Prop where
  len : m.length = B + 3 + 6 * C
  head : gt m B = h
  tail : gt m (B + 1) = L.length
  drops : gt m (B + 2) = d
  le : h ≤ L.length
  few : L.length - h ≤ C
  six : ∀ n, n < L.length → (li L n).length = 6
  words : ∀ n, h ≤ n → n < L.length → ∀ i, i < 6 → gt m (pn B C n + i) = gt (li L n) i
/-- Who lays, so many steps into its task. -/
def LayAt (B C : Nat) (m : List Int) (L : List (List Int)) (h : Nat) (w : List Int) (t : T) (k : Nat) : Prop :=
  (k = 0 ∧ t = ⟨pushL B C L.length w, 0, zeros, false, 0⟩) ∨
  (k = 1 ∧ ∃ R, t = ⟨pushL B C L.length w, 10, R, false, 0⟩) ∨
  (∃ (j : Nat) (R : List Int), j ≤ 6 ∧ k = j + 1 ∧ t = ⟨pushL B C L.length w, (j : Int) + 2, R, false, 0⟩ ∧ L.length - h < C ∧ ∀ i, i < j → gt m (pn B C L.length + i) = gt w i)
/-- Who takes, so many steps into its task. -/
def TakeAt (B C : Nat) (L : List (List Int)) (h : Nat) (t : T) (k : Nat) : Prop :=
  (k = 0 ∧ t = ⟨popL B C h, 0, zeros, false, 0⟩) ∨
  (∃ (j : Nat) (R : List Int), j ≤ 6 ∧ k = j + 1 ∧ t = ⟨popL B C h, (j : Int) + 2, R, false, 0⟩ ∧ h < L.length ∧ R.length = 32 ∧ ∀ i, i < j → gt R (i + 1) = gt (li L h) i)
theorem LayAt.begin (B C : Nat) (m : List Int) (L : List (List Int)) (h : Nat) (w : List Int) : LayAt B C m L h w (Tk.start (pushL B C L.length w)) 0 := .inl ⟨rfl, push_start _ _ _ _⟩
theorem TakeAt.begin (B C : Nat) (L : List (List Int)) (h : Nat) : TakeAt B C L h (Tk.start (popL B C h)) 0 := .inl ⟨rfl, pop_start _ _ _⟩
/-- What was laid stays what it was where more is laid. -/
theorem TakeAt.more {B C : Nat} {L : List (List Int)} {h : Nat} {t : T} {k : Nat} (g : TakeAt B C L h t k) (w : List Int) : TakeAt B C (L ++ [w]) h t k := by
  rcases g with g | ⟨j, R, h1, h2, h3, h4, h5, h6⟩
  · exact .inl g
  · refine .inr ⟨j, R, h1, h2, h3, by rw [List.length_append]; omega, h5, fun i hi => ?_⟩
    rw [h6 i hi, li_snoc, if_pos h4]
theorem LayAt.taken {B C : Nat} {m M : List Int} {L : List (List Int)} {h h' : Nat} {w : List Int} {t : T} {k : Nat} (g : LayAt B C m L h w t k) (e : ∀ j, B + 3 ≤ j → gt M j = gt m j) (hh : h ≤ h') (hC : 1 ≤ C) : LayAt B C M L h' w t k := by
  rcases g with g | g | ⟨j, R, h1, h2, h3, h4, h5⟩
  · exact .inl g
  · exact .inr (.inl g)
  · refine .inr (.inr ⟨j, R, h1, h2, h3, by omega, fun i hi => ?_⟩)
    rw [e _ (by have := pn_bd (B := B) (n := L.length) hC; omega), h5 i hi]
/-- A step of who lays. -/
theorem lay_step {B C : Nat} {m : List Int} {L : List (List Int)} {d h : Nat} {w : List Int} {t : T} {k : Nat} (hC : 1 ≤ C ∧ C ≤ 8) (hB : B ≤ 100) (hN : L.length + d ≤ 100000) (hw : w.length = 6) (hr : Ring B C m L d h) (hl : LayAt B C m L h w t k) :
    k + 1 ≤ 8 ∧
    ((Tk.stepT t m).done = false ∧ Ring B C (Tk.stepM t m) L d h ∧ LayAt B C (Tk.stepM t m) L h w (Tk.stepT t m) (k + 1) ∨
     (Tk.stepT t m).done = true ∧ (Tk.stepT t m).ans = 1 ∧ Ring B C (Tk.stepM t m) (L ++ [w]) d h ∨
     (Tk.stepT t m).done = true ∧ (Tk.stepT t m).ans = 0 ∧ Ring B C (Tk.stepM t m) L (d + 1) h) := by
  have hm : m.length ≤ 256 := by have := hr.len; omega
  have hpn := fun n => pn_bd (B := B) (C := C) (n := n) hC.1
  rcases hl with ⟨rfl, rfl⟩ | ⟨rfl, R, rfl⟩ | ⟨j, R, hj, rfl, rfl, hc, hp⟩
  · have s := push_0 B C L.length w m
    have hv : doW m ⟨0, B, 0, 0⟩ = h := by rw [doW_at hm (by have := hr.len; omega)]; exact hr.head
    rw [s.1, s.2, cut_all hm, hv]
    refine ⟨by omega, .inl ⟨rfl, hr, ?_⟩⟩
    split
    · exact .inr (.inl ⟨rfl, _, rfl⟩)
    · rename_i e
      refine .inr (.inr ⟨0, zeros.set 0 (h : Int), by omega, rfl, rfl, ?_, fun i hi => by omega⟩)
      have := hr.few
      have := hr.le
      by_cases g : L.length - h < C
      · exact g
      · exfalso
        apply e
        rw [IntKind.wrap_u64]
        omega
  · have s := push_10 B C L.length w R m
    rw [s.1, s.2]
    refine ⟨by omega, .inr (.inr ⟨rfl, rfl, ?_⟩)⟩
    have e := fun j => gt_more hm (B + 2) 1 j
    rw [show ((B : Int) + 2) = ((B + 2 : Nat) : Int) by omega]
    refine { len := by rw [one_len hm]; exact hr.len, head := ?_, tail := ?_, drops := ?_, le := hr.le, few := hr.few, six := hr.six, words := ?_ }
    · rw [e, if_neg (by omega)]; exact hr.head
    · rw [e, if_neg (by omega)]; exact hr.tail
    · rw [e, if_pos ⟨rfl, by have := hr.len; omega⟩, hr.drops, IntKind.wrap_u64]; omega
    · intro n h1 h2 i h3
      rw [e, if_neg (by have := hpn n; omega)]; exact hr.words n h1 h2 i h3
  · by_cases h6 : j = 6
    · subst h6
      have s := push_8 B C L.length w R m
      show 6 + 1 + 1 ≤ 8 ∧ ((Tk.stepT ⟨pushL B C L.length w, 8, R, false, 0⟩ m).done = false ∧ Ring B C (Tk.stepM ⟨pushL B C L.length w, 8, R, false, 0⟩ m) L d h ∧ LayAt B C (Tk.stepM ⟨pushL B C L.length w, 8, R, false, 0⟩ m) L h w (Tk.stepT ⟨pushL B C L.length w, 8, R, false, 0⟩ m) _ ∨ (Tk.stepT ⟨pushL B C L.length w, 8, R, false, 0⟩ m).done = true ∧ (Tk.stepT ⟨pushL B C L.length w, 8, R, false, 0⟩ m).ans = 1 ∧ Ring B C (Tk.stepM ⟨pushL B C L.length w, 8, R, false, 0⟩ m) (L ++ [w]) d h ∨ (Tk.stepT ⟨pushL B C L.length w, 8, R, false, 0⟩ m).done = true ∧ (Tk.stepT ⟨pushL B C L.length w, 8, R, false, 0⟩ m).ans = 0 ∧ Ring B C (Tk.stepM ⟨pushL B C L.length w, 8, R, false, 0⟩ m) L (d + 1) h)
      rw [s.1, s.2]
      refine ⟨by omega, .inr (.inl ⟨rfl, rfl, ?_⟩)⟩
      have e := fun j => gt_put hm (B + 1) ((L.length : Int) + 1) j
      rw [show ((B : Int) + 1) = ((B + 1 : Nat) : Int) by omega]
      have hlen := hr.len
      refine { len := by rw [one_len hm]; exact hr.len, head := ?_, tail := ?_, drops := ?_, le := ?_, few := ?_, six := ?_, words := ?_ }
      · rw [e, if_neg (by omega)]; exact hr.head
      · rw [e, if_pos ⟨rfl, by omega⟩, List.length_append]; rfl
      · rw [e, if_neg (by omega)]; exact hr.drops
      · have := hr.le; rw [List.length_append]; omega
      · rw [List.length_append]; show L.length + 1 - h ≤ C; omega
      · intro n hn
        rw [List.length_append] at hn
        have hn' : n < L.length + 1 := hn
        rw [li_snoc]
        split
        · rename_i g; exact hr.six n g
        · rw [if_pos (by omega)]; exact hw
      · intro n h1 h2 i h3
        rw [List.length_append] at h2
        have h2' : n < L.length + 1 := h2
        rw [e, if_neg (by have := hpn n; omega), li_snoc]
        split
        · rename_i g; exact hr.words n h1 g i h3
        · obtain rfl : n = L.length := by omega
          rw [if_pos rfl]; exact hp i h3
    · have s := push_put B C L.length w R m j (by omega)
      rw [s.1, s.2]
      refine ⟨by omega, .inl ⟨rfl, ?_, ?_⟩⟩
      · rw [pl_pn]
        have e := fun i => gt_put hm (pn B C L.length + j) (gt w j) i
        have hb := hpn L.length
        refine { len := by rw [one_len hm]; exact hr.len, head := ?_, tail := ?_, drops := ?_, le := hr.le, few := hr.few, six := hr.six, words := ?_ }
        · rw [e, if_neg (by omega)]; exact hr.head
        · rw [e, if_neg (by omega)]; exact hr.tail
        · rw [e, if_neg (by omega)]; exact hr.drops
        · intro n h1 h2 i h3
          have hf := pn_far (B := B) (C := C) h2 (by omega)
          rw [e, if_neg (by omega)]; exact hr.words n h1 h2 i h3
      · refine .inr (.inr ⟨j + 1, R, by omega, rfl, ?_, hc, fun i hi => ?_⟩)
        · rw [show (((j + 1 : Nat) : Int) + 2) = (j : Int) + 3 by omega]
        · rw [pl_pn, gt_put hm]
          by_cases g : i = j
          · subst g
            have hb := hpn L.length
            rw [if_pos ⟨rfl, by have := hr.len; omega⟩]
          · rw [if_neg (by omega)]; exact hp i (by omega)
/-- A step of who takes. -/
theorem take_step {B C : Nat} {m : List Int} {L : List (List Int)} {d h : Nat} {t : T} {k : Nat} (hC : 1 ≤ C ∧ C ≤ 8) (hB : B ≤ 100) (hN : L.length + d ≤ 100000) (hr : Ring B C m L d h) (hl : TakeAt B C L h t k) :
    k + 1 ≤ 8 ∧ (∀ j, B + 3 ≤ j → gt (Tk.stepM t m) j = gt m j) ∧
    ((Tk.stepT t m).done = false ∧ Ring B C (Tk.stepM t m) L d h ∧ TakeAt B C L h (Tk.stepT t m) (k + 1) ∨
     (Tk.stepT t m).done = true ∧ (Tk.stepT t m).ans = 1 ∧ h < L.length ∧ taken (Tk.stepT t m) = li L h ∧ Ring B C (Tk.stepM t m) L d (h + 1) ∨
     (Tk.stepT t m).done = true ∧ (Tk.stepT t m).ans = 0 ∧ Ring B C (Tk.stepM t m) L d h) := by
  have hm : m.length ≤ 256 := by have := hr.len; omega
  have hpn := fun n => pn_bd (B := B) (C := C) (n := n) hC.1
  rcases hl with ⟨rfl, rfl⟩ | ⟨j, R, hj, rfl, rfl, hc, hR, hp⟩
  · have s := pop_0 B C h m
    have hv : doW m ⟨0, (B : Int) + 1, 0, 0⟩ = L.length := by
      rw [show ((B : Int) + 1) = ((B + 1 : Nat) : Int) by omega, doW_at hm (by have := hr.len; omega)]; exact hr.tail
    rw [s.1, s.2, cut_all hm, hv]
    refine ⟨by omega, fun _ _ => rfl, ?_⟩
    split
    · exact .inr (.inr ⟨rfl, rfl, hr⟩)
    · rename_i e
      refine .inl ⟨rfl, hr, .inr ⟨0, zeros.set 0 (L.length : Int), by omega, rfl, rfl, ?_, ?_, fun i hi => by omega⟩⟩
      · have := hr.le; omega
      · rw [List.length_set]; decide
  · by_cases h6 : j = 6
    · subst h6
      have s := pop_8 B C h R m
      show 6 + 1 + 1 ≤ 8 ∧ (∀ j, B + 3 ≤ j → gt (Tk.stepM ⟨popL B C h, 8, R, false, 0⟩ m) j = gt m j) ∧ ((Tk.stepT ⟨popL B C h, 8, R, false, 0⟩ m).done = false ∧ Ring B C (Tk.stepM ⟨popL B C h, 8, R, false, 0⟩ m) L d h ∧ TakeAt B C L h (Tk.stepT ⟨popL B C h, 8, R, false, 0⟩ m) _ ∨ (Tk.stepT ⟨popL B C h, 8, R, false, 0⟩ m).done = true ∧ (Tk.stepT ⟨popL B C h, 8, R, false, 0⟩ m).ans = 1 ∧ h < L.length ∧ taken (Tk.stepT ⟨popL B C h, 8, R, false, 0⟩ m) = li L h ∧ Ring B C (Tk.stepM ⟨popL B C h, 8, R, false, 0⟩ m) L d (h + 1) ∨ (Tk.stepT ⟨popL B C h, 8, R, false, 0⟩ m).done = true ∧ (Tk.stepT ⟨popL B C h, 8, R, false, 0⟩ m).ans = 0 ∧ Ring B C (Tk.stepM ⟨popL B C h, 8, R, false, 0⟩ m) L d h)
      rw [s.1, s.2]
      have e := fun j => gt_put hm B ((h : Int) + 1) j
      have hlen := hr.len
      refine ⟨by omega, fun j hj => by rw [e, if_neg (by omega)], .inr (.inl ⟨rfl, rfl, hc, ?_, ?_⟩)⟩
      · show [gt R 1, gt R 2, gt R 3, gt R 4, gt R 5, gt R 6] = li L h
        refine list_eq (by rw [hr.six h hc]; rfl) (fun i hi => ?_)
        have hi' : i < 6 := hi
        rw [← hp i hi']
        have : i = 0 ∨ i = 1 ∨ i = 2 ∨ i = 3 ∨ i = 4 ∨ i = 5 := by omega
        rcases this with rfl | rfl | rfl | rfl | rfl | rfl <;> rfl
      · refine { len := by rw [one_len hm]; exact hr.len, head := ?_, tail := ?_, drops := ?_, le := ?_, few := ?_, six := hr.six, words := ?_ }
        · rw [e, if_pos ⟨rfl, by omega⟩]; rfl
        · rw [e, if_neg (by omega)]; exact hr.tail
        · rw [e, if_neg (by omega)]; exact hr.drops
        · omega
        · have := hr.few; omega
        · intro n h1 h2 i h3
          rw [e, if_neg (by have := hpn n; omega)]; exact hr.words n (by omega) h2 i h3
    · have s := pop_take B C h R m j (by omega)
      rw [s.1, s.2, cut_all hm]
      have hb := hpn h
      refine ⟨by omega, fun _ _ => rfl, .inl ⟨rfl, hr, .inr ⟨j + 1, R.set (j + 1) (doW m ⟨0, pl B C h + j, 0, 0⟩), by omega, rfl, ?_, hc, by rw [List.length_set]; exact hR, fun i hi => ?_⟩⟩⟩
      · rw [show (((j + 1 : Nat) : Int) + 2) = (j : Int) + 3 by omega]
      · rw [gt_set, pl_pn, doW_at hm (by have := hr.len; omega)]
        by_cases g : i = j
        · subst g
          rw [if_pos ⟨rfl, by omega⟩]
          exact hr.words h (Nat.le_refl _) hc i (by omega)
        · rw [if_neg (by omega)]; exact hp i (by omega)
end Rg
end Go.Proofs.Ytnbejkhcifeeiaa
