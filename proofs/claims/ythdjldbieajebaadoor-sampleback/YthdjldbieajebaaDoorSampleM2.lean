/- Samples as words: layer 13's mathematics, second part. -/
import Derived.Test.YthdjldbieajebaaDoorSampleM
namespace Go.Proofs.YthdjldbieajebaaDoor
open Go.ChangeShapes Go.WideShapes Go.ChangeAt Go.RowKit
set_option linter.unusedVariables false
namespace Sp
open Wl
structure Smp where
  t : Int
  s : Int
  x : Int
  y : Int
  z : Int
instance : DecidableEq Smp := fun a b => decidable_of_iff (a.t = b.t ∧ a.s = b.s ∧ a.x = b.x ∧ a.y = b.y ∧ a.z = b.z) (by cases a; cases b; simp)
def val (n : Int) : Bool := decide (-288230376151711744 ≤ n) && decide (n ≤ 288230376151711744)
def saneS (s : Smp) : Bool := val s.x && val s.y && val s.z && decide (0 ≤ s.t) && decide (s.t ≤ 1099511627776) && decide (0 ≤ s.s) && decide (s.s ≤ 3)
theorem saneS_iff {s : Smp} : saneS s = true ↔ (-288230376151711744 ≤ s.x ∧ s.x ≤ 288230376151711744) ∧ (-288230376151711744 ≤ s.y ∧ s.y ≤ 288230376151711744) ∧ (-288230376151711744 ≤ s.z ∧ s.z ≤ 288230376151711744) ∧ (0 ≤ s.t ∧ s.t ≤ 1099511627776) ∧ (0 ≤ s.s ∧ s.s ≤ 3) := by
  unfold saneS val
  simp only [Bool.and_eq_true, decide_eq_true_eq]
  omega
def wr (n : Int) : Int := IntKind.u64.wrap n
theorem wr_bd (n : Int) : wd (wr n) := by unfold wr wd; rw [IntKind.wrap_u64]; omega
theorem un_wr {n : Int} (h : -9223372036854775808 ≤ n ∧ n ≤ 9223372036854775807) : wrap64 (wr n) = n := by unfold wr wrap64; rw [IntKind.wrap_u64]; omega
theorem wr_un {n : Int} (h : wd n) : wr (wrap64 n) = n := by unfold wd at h; unfold wr wrap64; rw [IntKind.wrap_u64]; omega
theorem wr_inj {a b : Int} (ha : -9223372036854775808 ≤ a ∧ a ≤ 9223372036854775807) (hb : -9223372036854775808 ≤ b ∧ b ≤ 9223372036854775807) (e : wr a = wr b) : a = b := by rw [← un_wr ha, ← un_wr hb, e]
def five (s : Smp) : List Int := [wr s.t, wr s.s, wr s.x, wr s.y, wr s.z]
def words (s : Smp) : List Int := if saneS s then five s ++ [sm (five s)] else []
def zero : Smp := ⟨0, 0, 0, 0, 0⟩
def rd (l : List Int) : Smp := ⟨wrap64 (gt l 0), wrap64 (gt l 1), wrap64 (gt l 2), wrap64 (gt l 3), wrap64 (gt l 4)⟩
def readS (l : List Int) : Smp × Int := if l.length ≠ 6 then (zero, 5) else if gt l 5 ≠ sm (l.take 5) then (zero, 2) else if saneS (rd l) then (rd l, 0) else (zero, 1)
def before (a b : Smp) : Bool := decide (a.t < b.t) || decide (a.t = b.t) && decide (a.s < b.s)
theorem words_is {s : Smp} (h : saneS s = true) : ∃ H, sm (five s) = H ∧ words s = five s ++ [H] := ⟨_, rfl, by unfold words; rw [if_pos h]⟩
theorem take_five (s : Smp) (H : Int) : (five s ++ [H]).take 5 = five s := rfl
theorem gt_six (s : Smp) (H : Int) : gt (five s ++ [H]) 5 = H := rfl
theorem words_len {s : Smp} (h : saneS s = true) : (words s).length = 6 := by unfold words; rw [if_pos h]; rfl
theorem words_no {s : Smp} (h : saneS s = false) : words s = [] := by unfold words; rw [h]; rfl
theorem rd_words {s : Smp} (h : saneS s = true) : rd (words s) = s := by
  have hs := saneS_iff.1 h
  unfold words
  rw [if_pos h]
  show (⟨wrap64 (wr s.t), wrap64 (wr s.s), wrap64 (wr s.x), wrap64 (wr s.y), wrap64 (wr s.z)⟩ : Smp) = s
  rw [un_wr (by omega), un_wr (by omega), un_wr (by omega), un_wr (by omega), un_wr (by omega)]
/-- What is laid is read. -/
theorem read_words {s : Smp} (h : saneS s = true) : readS (words s) = (s, 0) := by
  unfold readS
  rw [if_neg (by rw [words_len h]; decide)]
  have e : gt (words s) 5 = sm ((words s).take 5) := by
    obtain ⟨H, h1, h2⟩ := words_is h
    rw [h2, take_five, gt_six, h1]
  rw [if_neg (by rw [e]; simp), rd_words h, if_pos h]
theorem read_nil : readS [] = (zero, 5) := rfl
theorem read_bad {l : List Int} (h : (readS l).2 ≠ 0) : (readS l).1 = zero := by
  unfold readS at *
  repeat' split
  all_goals first | rfl | (exfalso; apply h; simp_all)
theorem list6 {l : List Int} (h : l.length = 6) : l = [gt l 0, gt l 1, gt l 2, gt l 3, gt l 4, gt l 5] := by
  match l, h with
  | [a, b, c, d, e, f], _ => rfl
/-- What is read are its words. -/
theorem words_read {l : List Int} (hl : ∀ j, wd (gt l j)) (h : (readS l).2 = 0) : words (readS l).1 = l ∧ saneS (readS l).1 = true := by
  unfold readS at *
  split at h
  · simp at h
  · rename_i h6
    split at h
    · simp at h
    · rename_i hs
      split at h
      · rename_i ha
        rw [if_neg h6, if_neg hs, if_pos ha]
        refine ⟨?_, ha⟩
        have h6' : l.length = 6 := by simpa using h6
        have hs' : gt l 5 = sm (l.take 5) := by simpa using hs
        unfold words
        rw [if_pos ha]
        have e5 : five (rd l) = l.take 5 := by
          unfold five rd
          simp only
          rw [wr_un (hl 0), wr_un (hl 1), wr_un (hl 2), wr_un (hl 3), wr_un (hl 4)]
          conv => rhs; rw [list6 h6']
          rfl
        rw [e5, ← hs']
        conv => rhs; rw [list6 h6']
        conv => lhs; rw [list6 h6']
        rfl
      · simp at h
theorem five_bd (s : Smp) : ∀ j, wd (gt (five s) j) := by
  intro j
  match j with
  | 0 => exact wr_bd _
  | 1 => exact wr_bd _
  | 2 => exact wr_bd _
  | 3 => exact wr_bd _
  | 4 => exact wr_bd _
  | j + 5 => exact ⟨by simp [gt, five], by simp [gt, five]⟩
theorem words_bd (s : Smp) : ∀ j, wd (gt (words s) j) := by
  intro j
  cases h : saneS s
  · rw [words_no h]; exact ⟨by simp [gt], by simp [gt]⟩
  · obtain ⟨H, h1, h2⟩ := words_is h
    have hH : wd H := by rw [← h1]; exact sm_bd _
    rw [h2]
    match j with
    | 0 => exact wr_bd _
    | 1 => exact wr_bd _
    | 2 => exact wr_bd _
    | 3 => exact wr_bd _
    | 4 => exact wr_bd _
    | 5 => exact hH
    | j + 6 => exact ⟨by simp [gt, five], by simp [gt, five]⟩
theorem set_low (s : Smp) (H X : Int) {k : Nat} (hk : k < 5) : ((five s ++ [H]).set k X).take 5 = (five s).set k X ∧ gt ((five s ++ [H]).set k X) 5 = H ∧ gt (five s ++ [H]) k = gt (five s) k := by
  match k, hk with
  | 0, _ => exact ⟨rfl, rfl, rfl⟩
  | 1, _ => exact ⟨rfl, rfl, rfl⟩
  | 2, _ => exact ⟨rfl, rfl, rfl⟩
  | 3, _ => exact ⟨rfl, rfl, rfl⟩
  | 4, _ => exact ⟨rfl, rfl, rfl⟩
theorem set_high (s : Smp) (H X : Int) : ((five s ++ [H]).set 5 X).take 5 = five s ∧ gt ((five s ++ [H]).set 5 X) 5 = X := ⟨rfl, rfl⟩
/-- No one word that is another goes unseen. -/
theorem seen {s : Smp} (h : saneS s = true) {k : Nat} (hk : k < 6) {by' : Int} (hb : wd by') (hne : by' ≠ 0) : (readS ((words s).set k (xr (gt (words s) k) by'))).2 = 2 := by
  have hn : xr (gt (words s) k) by' ≠ gt (words s) k := xr_ne (words_bd s k) hb hne
  have hx : wd (xr (gt (words s) k) by') := xr_bd _ _
  generalize xr (gt (words s) k) by' = X at *
  obtain ⟨H, h1, h2⟩ := words_is h
  rw [h2] at hn ⊢
  unfold readS
  rw [if_neg (by rw [List.length_set]; show ¬ (five s ++ [H]).length ≠ 6; simp [five]), if_pos]
  intro e
  by_cases h5 : k = 5
  · subst h5
    obtain ⟨q1, q2⟩ := set_high s H X
    rw [q1, q2, h1] at e
    rw [gt_six] at hn
    exact hn e
  · obtain ⟨q1, q2, q3⟩ := set_low s H X (show k < 5 by omega)
    rw [q1, q2, ← h1] at e
    rw [q3] at hn
    exact sm_set (five_bd s) hx (by show k < (five s).length; simp [five]; omega) hn e.symm
/-- Samples are in one order. -/
theorem before_iff (a b : Smp) : before a b = true ↔ a.t < b.t ∨ a.t = b.t ∧ a.s < b.s := by
  unfold before
  simp only [Bool.or_eq_true, Bool.and_eq_true, decide_eq_true_eq]
theorem before_self (a : Smp) : before a a = false := by rw [Bool.eq_false_iff, Ne, before_iff]; omega
theorem before_both (a b : Smp) : ¬ (before a b = true ∧ before b a = true) := by rw [before_iff, before_iff]; omega
theorem before_one (a b : Smp) : (before a b = true ∨ before b a = true) ↔ (a.t ≠ b.t ∨ a.s ≠ b.s) := by rw [before_iff, before_iff]; omega
theorem before_trans {a b c : Smp} (h : before a b = true) (g : before b c = true) : before a c = true := by rw [before_iff] at *; omega
/-- A sample with one field another. -/
def put (s : Smp) (i : Nat) (n : Int) : Smp := if i = 0 then { s with t := n } else if i = 1 then { s with s := n } else if i = 2 then { s with x := n } else if i = 3 then { s with y := n } else { s with z := n }
def fld (s : Smp) (i : Nat) : Int := if i = 0 then s.t else if i = 1 then s.s else if i = 2 then s.x else if i = 3 then s.y else s.z
theorem five_put (s : Smp) {i : Nat} (hi : i < 5) (n : Int) : five (put s i n) = (five s).set i (wr n) := by
  match i, hi with
  | 0, _ => rfl
  | 1, _ => rfl
  | 2, _ => rfl
  | 3, _ => rfl
  | 4, _ => rfl
theorem gt_five (s : Smp) {i : Nat} (hi : i < 5) : gt (five s) i = wr (fld s i) := by
  match i, hi with
  | 0, _ => rfl
  | 1, _ => rfl
  | 2, _ => rfl
  | 3, _ => rfl
  | 4, _ => rfl
theorem put_fld (s : Smp) {i : Nat} (hi : i < 5) : put s i (fld s i) = s ∧ ∀ n, fld (put s i n) i = n := by
  match i, hi with
  | 0, _ => exact ⟨rfl, fun _ => rfl⟩
  | 1, _ => exact ⟨rfl, fun _ => rfl⟩
  | 2, _ => exact ⟨rfl, fun _ => rfl⟩
  | 3, _ => exact ⟨rfl, fun _ => rfl⟩
  | 4, _ => exact ⟨rfl, fun _ => rfl⟩
theorem fld_bd {s : Smp} (h : saneS s = true) (i : Nat) : -9223372036854775808 ≤ fld s i ∧ fld s i ≤ 9223372036854775807 := by
  have := saneS_iff.1 h
  unfold fld
  repeat' split
  all_goals omega
theorem gt_app (s : Smp) (H : Int) {j : Nat} (hj : j < 5) : gt (five s ++ [H]) j = gt (five s) j := (set_low s H 0 hj).2.2
/-- Each field has its word. -/
theorem field_all {s : Smp} {i : Nat} {n : Int} (hi : i < 5) (h : saneS s = true) (g : saneS (put s i n) = true) (hne : ¬ s = put s i n) :
    (∀ j, j < 5 → (gt (words s) j = gt (words (put s i n)) j ↔ j ≠ i)) ∧ gt (words s) 5 ≠ gt (words (put s i n)) 5 ∧ gt (words (put s i n)) i = wr n := by
  obtain ⟨H, h1, h2⟩ := words_is h
  obtain ⟨K, k1, k2⟩ := words_is g
  have hn : wr n ≠ gt (five s) i := by
    intro e
    rw [gt_five s hi] at e
    have hb := fld_bd g i
    rw [(put_fld s hi).2 n] at hb
    have := wr_inj hb (fld_bd h i) e
    exact hne (by rw [this, (put_fld s hi).1])
  have hs : ∀ j, j < 5 → gt (five (put s i n)) j = if i = j then wr n else gt (five s) j := fun j hj => by
    rw [five_put s hi]
    unfold gt
    rw [List.getD_eq_getElem?_getD, List.getD_eq_getElem?_getD, List.getElem?_set]
    by_cases e : i = j
    · subst e; rw [if_pos rfl, if_pos rfl, if_pos (by show i < 5; omega)]; rfl
    · rw [if_neg e, if_neg e]
  rw [h2, k2]
  refine ⟨fun j hj => ?_, ?_, ?_⟩
  · rw [gt_app s H hj, gt_app _ K hj, hs j hj]
    by_cases e : i = j
    · subst e; rw [if_pos rfl]; exact ⟨fun q => absurd q.symm hn, fun q => absurd rfl q⟩
    · rw [if_neg e]; exact ⟨fun _ q => e q.symm, fun _ => rfl⟩
  · rw [gt_six, gt_six, ← h1, ← k1, five_put s hi]
    exact fun e => sm_set (five_bd s) (wr_bd n) (by show i < 5; omega) hn e.symm
  · rw [gt_app _ K hi, hs i hi, if_pos rfl]
end Sp
end Go.Proofs.YthdjldbieajebaaDoor
