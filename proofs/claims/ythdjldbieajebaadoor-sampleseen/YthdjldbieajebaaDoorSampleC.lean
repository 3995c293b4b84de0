/- The contracts of package sample. -/
import Derived.Test.YthdjldbieajebaaDoorSmpR
import Derived.Test.YthdjldbieajebaaDoorRefC38
import Derived.Test.YthdjldbieajebaaDoorSampleT
import Derived.Deep.RegionHeld3
import Derived.Deep.OwnRows
import Derived.Laws.Cover3
namespace Go.Proofs.YthdjldbieajebaaDoor
open Go.ChangeShapes Go.WideShapes Go.ChangeAt Go.RowKit
set_option linter.unusedVariables false
attribute [local go_sem] Ext.cell Ext.froz Ext.lt Ext.lt1 Ext.lt2 Ext.lt3 Ext.all Ext.set_u drew_heap setCell_size Ext.set_size
namespace Sp
open Wl Rw
/-- A sample's numbers, in their order. -/
def nv (s : Smp) : List Int := [s.t, s.s, s.x, s.y, s.z]
def okN (s : Smp) (j : Nat) : Prop := gt los j ≤ gt (nv s) j ∧ gt (nv s) j ≤ gt his j
theorem sane_nv (s : Smp) : saneS s = true ↔ ∀ j, j < 5 → okN s j := by
  rw [saneS_iff]
  constructor
  · rintro ⟨h1, h2, h3, h4, h5⟩ j hj
    match j, hj with
    | 0, _ => exact h4
    | 1, _ => exact h5
    | 2, _ => exact h1
    | 3, _ => exact h2
    | 4, _ => exact h3
  · intro h
    exact ⟨h 2 (by omega), h 3 (by omega), h 4 (by omega), h 0 (by omega), h 1 (by omega)⟩
theorem sane_not {s : Smp} {j : Nat} (hj : j < 5) (h : ¬ okN s j) : saneS s = false := by
  rw [Bool.eq_false_iff]; intro g; exact h ((sane_nv s).1 g j hj)
theorem nv_bd {s : Smp} (h : s.ok) (j : Nat) (hj : j < 5) : -9223372036854775808 ≤ gt (nv s) j ∧ gt (nv s) j ≤ 9223372036854775807 := by
  obtain ⟨h0, h1, h2, h3, h4⟩ := h
  match j, hj with
  | 0, _ => exact h0
  | 1, _ => exact h1
  | 2, _ => exact h2
  | 3, _ => exact h3
  | 4, _ => exact h4
theorem gt_wr (s : Smp) (j : Nat) (hj : j < 5) : gt (five s) j = wr (gt (nv s) j) := by
  match j, hj with
  | 0, _ => rfl
  | 1, _ => rfl
  | 2, _ => rfl
  | 3, _ => rfl
  | 4, _ => rfl
def vN (s : Smp) : Value := .agg #[.int .i64 s.t, .int .i64 s.s, .int .i64 s.x, .int .i64 s.y, .int .i64 s.z]
theorem idxN (s : Smp) (j : Nat) (hj : j < 5) (w : World) : (Instr.index 46 (.agg #[.int .i64 s.t, .int .i64 s.s, .int .i64 s.x, .int .i64 s.y, .int .i64 s.z]) (.int .i64 (j : Int))).run Tryd.prog w = .ok (.int .i64 (gt (nv s) j)) w := by
  have h1 : 0 ≤ (j : Int) ∧ (j : Int) < 5 := by omega
  match j, hj with
  | 0, _ => simp [Instr.index, run_underlying Tryd.underlying46, asIntOf, go_sem, gt, nv]
  | 1, _ => simp [Instr.index, run_underlying Tryd.underlying46, asIntOf, go_sem, gt, nv]
  | 2, _ => simp [Instr.index, run_underlying Tryd.underlying46, asIntOf, go_sem, gt, nv]
  | 3, _ => simp [Instr.index, run_underlying Tryd.underlying46, asIntOf, go_sem, gt, nv]
  | 4, _ => simp [Instr.index, run_underlying Tryd.underlying46, asIntOf, go_sem, gt, nv]
set_option maxHeartbeats 1000000 in
theorem ssum_c {a : Option Addr} {c n : Nat} {l : List Int} (w : World) (h : Wl.Is w a c l) (en : l.length = n) :
    Calls Tryd.prog 12 #[.slice a n c] w fun e w' => e = .returned (.int .u64 (sm l)) ∧ ∃ x : Ext w, w' = x.u := by
  have hn9 : n ≤ 9223372036854775807 := by have := h.max; have := h.le; unfold maxLen at *; omega
  go_enter Tryd.func12, Tryd.ntmps12
  go_wp2
  go_loopw [3, 8] (fun v i wr => ∃ k : Nat, k ≤ n ∧ i = .int .i64 k ∧ v = .int .u64 (sm (l.take k)) ∧ wr = w) (fun _ i _ => (n - intOf i).toNat)
  case atStart => exact ⟨0, by omega, rfl, rfl, rfl⟩
  case round =>
    obtain ⟨k, hk, rfl, rfl, rfl⟩ := hrel
    by_cases hlt : k < n
    · have hlt' : (k : Int) < n := by omega
      obtain ⟨b, o, rfl, hb, hc⟩ := h.num k (by omega)
      have hS : Hid (sm (l.take (k + 1)) = IntKind.u64.wrap (bits .xor .u64 (sm (l.take k)) (gt l k) * 1099511628211)) := by
        rw [Hid, take_more l k (by omega), sm_snoc]; rfl
      generalize sm (l.take k) = H at *
      generalize gt l k = G at *
      clear h
      go_wp2
      go_roundw
      case rel => exact ⟨k + 1, by omega, by go_num, by rw [hS.out], by first | rfl | trivial⟩
      case measure => simp [intOf]; omega
    · obtain rfl : k = n := by omega
      rw [List.take_of_length_le (by omega)]
      go_wp2
      go_ret
      exact ⟨rfl, Mr.mk' (by repeat (first | (with_reducible exact Mr.refl _) | (with_reducible assumption) | (with_reducible apply Mr.drew) | (with_reducible apply Mr.alloc) | (with_reducible apply Mr.ext) | (with_reducible refine Mr.setCell ?_ (by first | (simp; done) | (simp; omega) | omega | (refine leOf0 ?_; (repeat (first | (with_reducible exact Mr.refl _) | (with_reducible apply Mr.drew) | (with_reducible apply Mr.alloc) | (with_reducible apply Mr.ext) | (with_reducible refine Mr.setCell ?_ (by first | (simp; done) | (simp; omega) | omega) _))); done) | (refine leOf ?_; (repeat (first | (with_reducible exact Mr.refl _) | (with_reducible apply Mr.drew) | (with_reducible apply Mr.alloc) | (with_reducible apply Mr.ext) | (with_reducible refine Mr.setCell ?_ (by first | (simp; done) | (simp; omega) | omega) _))); done)) _)))⟩
theorem sof_c (s : Smp) (w : World) :
    Calls Tryd.prog 22 #[.agg #[.int .i64 s.t, .int .i64 s.s, .int .i64 s.x, .int .i64 s.y, .int .i64 s.z]] w fun e w' => e = .returned (.agg #[.int .i64 s.t, .int .i64 s.s, .int .i64 s.x, .int .i64 s.y, .int .i64 s.z]) ∧ ∃ x : Ext w, w' = x.u := by
  go_enter Tryd.func22, Tryd.ntmps22
  go_wp2
  exact bodyPost_ret (v := .agg #[.int .i64 s.t, .int .i64 s.s, .int .i64 s.x, .int .i64 s.y, .int .i64 s.z]) (by simp [results, Tryd.results22, go_sem]) rfl ⟨rfl, Mr.mk' (by repeat (first | (with_reducible exact Mr.refl _) | (with_reducible assumption) | (with_reducible apply Mr.drew) | (with_reducible apply Mr.alloc) | (with_reducible apply Mr.ext) | (with_reducible refine Mr.setCell ?_ (by first | (simp; done) | (simp; omega) | omega | (refine leOf0 ?_; (repeat (first | (with_reducible exact Mr.refl _) | (with_reducible apply Mr.drew) | (with_reducible apply Mr.alloc) | (with_reducible apply Mr.ext) | (with_reducible refine Mr.setCell ?_ (by first | (simp; done) | (simp; omega) | omega) _))); done) | (refine leOf ?_; (repeat (first | (with_reducible exact Mr.refl _) | (with_reducible apply Mr.drew) | (with_reducible apply Mr.alloc) | (with_reducible apply Mr.ext) | (with_reducible refine Mr.setCell ?_ (by first | (simp; done) | (simp; omega) | omega) _))); done)) _)))⟩
theorem ssample_c (t s x y z : Int) (w : World) :
    Calls Tryd.prog 21 #[.agg #[.int .i64 t, .int .i64 s, .int .i64 x, .int .i64 y, .int .i64 z]] w fun e w' => e = .returned (.agg #[.int .i64 t, .int .i64 s, .int .i64 x, .int .i64 y, .int .i64 z]) ∧ ∃ x : Ext w, w' = x.u := by
  go_enter Tryd.func21, Tryd.ntmps21
  go_wp2
  exact bodyPost_ret (v := .agg #[.int .i64 t, .int .i64 s, .int .i64 x, .int .i64 y, .int .i64 z]) (by simp [results, Tryd.results21, go_sem]) rfl ⟨rfl, Mr.mk' (by repeat (first | (with_reducible exact Mr.refl _) | (with_reducible assumption) | (with_reducible apply Mr.drew) | (with_reducible apply Mr.alloc) | (with_reducible apply Mr.ext) | (with_reducible refine Mr.setCell ?_ (by first | (simp; done) | (simp; omega) | omega | (refine leOf0 ?_; (repeat (first | (with_reducible exact Mr.refl _) | (with_reducible apply Mr.drew) | (with_reducible apply Mr.alloc) | (with_reducible apply Mr.ext) | (with_reducible refine Mr.setCell ?_ (by first | (simp; done) | (simp; omega) | omega) _))); done) | (refine leOf ?_; (repeat (first | (with_reducible exact Mr.refl _) | (with_reducible apply Mr.drew) | (with_reducible apply Mr.alloc) | (with_reducible apply Mr.ext) | (with_reducible refine Mr.setCell ?_ (by first | (simp; done) | (simp; omega) | omega) _))); done)) _)))⟩
set_option maxHeartbeats 2000000 in
theorem ssane_c (s : Smp) (w : World) (hs : s.ok) (hT : Tb w) :
    Calls Tryd.prog 14 #[.agg #[.int .i64 s.t, .int .i64 s.s, .int .i64 s.x, .int .i64 s.y, .int .i64 s.z]] w fun e w' => e = .returned (.bool (saneS s)) ∧ ∃ x : Ext w, w' = x.u := by
  go_enter Tryd.func14, Tryd.ntmps14
  go_wp2_with (go_at_call 22; refine (sof_c s _).mono ?_; rintro e w' ⟨rfl, x, rfl⟩)
  have hm : Mr w x.u := (by repeat (first | (with_reducible exact Mr.refl _) | (with_reducible assumption) | (with_reducible apply Mr.drew) | (with_reducible apply Mr.alloc) | (with_reducible apply Mr.ext) | (with_reducible refine Mr.setCell ?_ (by first | (simp; done) | (simp; omega) | omega | (refine leOf0 ?_; (repeat (first | (with_reducible exact Mr.refl _) | (with_reducible apply Mr.drew) | (with_reducible apply Mr.alloc) | (with_reducible apply Mr.ext) | (with_reducible refine Mr.setCell ?_ (by first | (simp; done) | (simp; omega) | omega) _))); done) | (refine leOf ?_; (repeat (first | (with_reducible exact Mr.refl _) | (with_reducible apply Mr.drew) | (with_reducible apply Mr.alloc) | (with_reducible apply Mr.ext) | (with_reducible refine Mr.setCell ?_ (by first | (simp; done) | (simp; omega) | omega) _))); done)) _)))
  have hT1 := hT.mr hm
  generalize x.u = W at *
  clear x hT
  go_loopw [7] (fun i wr => ∃ k : Nat, k ≤ 5 ∧ i = .int .i64 k ∧ wr = W ∧ Hid (∀ j, j < k → okN s j)) (fun i _ => (5 - intOf i).toNat)
  case atStart => exact ⟨0, by omega, rfl, rfl, fun j hj => by omega⟩
  case round =>
    obtain ⟨k, hk, rfl, rfl, HB⟩ := hrel
    by_cases hlt : k < 5
    · have hf : ¬ okN s k → Hid (saneS s = false) := sane_not (s := s) hlt
      have hnx : okN s k → Hid (∀ j, j < k + 1 → okN s j) := fun hv j hj => by
        rcases Nat.lt_or_ge j k with g | g
        · exact HB.out j g
        · obtain rfl : j = k := by omega
          exact hv
      clear HB
      have hc : ∀ V : World, (Instr.index 46 (.agg #[.int .i64 s.t, .int .i64 s.s, .int .i64 s.x, .int .i64 s.y, .int .i64 s.z]) (.int .i64 (k : Int))).run Tryd.prog V = .ok (.int .i64 (gt (nv s) k)) V := idxN s k hlt
      have h0 := hT1.lo k hlt
      have h1 := hT1.hi k hlt
      have hl0 := hT1.lt0
      have hl1 := hT1.lt1
      unfold okN at hf hnx
      generalize gt (nv s) k = N at *
      generalize gt los k = A at *
      generalize gt his k = B at *
      by_cases g1 : N < A
      · replace hf := hf (by omega)
        clear hnx
        go_wp2
        go_ret
        exact ⟨by rw [hf.out]; rfl, Mr.mk' (by repeat (first | (with_reducible exact Mr.refl _) | (with_reducible assumption) | (with_reducible apply Mr.drew) | (with_reducible apply Mr.alloc) | (with_reducible apply Mr.ext) | (with_reducible refine Mr.setCell ?_ (by first | (simp; done) | (simp; omega) | omega | (refine leOf0 ?_; (repeat (first | (with_reducible exact Mr.refl _) | (with_reducible apply Mr.drew) | (with_reducible apply Mr.alloc) | (with_reducible apply Mr.ext) | (with_reducible refine Mr.setCell ?_ (by first | (simp; done) | (simp; omega) | omega) _))); done) | (refine leOf ?_; (repeat (first | (with_reducible exact Mr.refl _) | (with_reducible apply Mr.drew) | (with_reducible apply Mr.alloc) | (with_reducible apply Mr.ext) | (with_reducible refine Mr.setCell ?_ (by first | (simp; done) | (simp; omega) | omega) _))); done)) _)))⟩
      · by_cases g2 : B < N
        · replace hf := hf (by omega)
          clear hnx
          go_wp2
          go_ret
          exact ⟨by rw [hf.out]; rfl, Mr.mk' (by repeat (first | (with_reducible exact Mr.refl _) | (with_reducible assumption) | (with_reducible apply Mr.drew) | (with_reducible apply Mr.alloc) | (with_reducible apply Mr.ext) | (with_reducible refine Mr.setCell ?_ (by first | (simp; done) | (simp; omega) | omega | (refine leOf0 ?_; (repeat (first | (with_reducible exact Mr.refl _) | (with_reducible apply Mr.drew) | (with_reducible apply Mr.alloc) | (with_reducible apply Mr.ext) | (with_reducible refine Mr.setCell ?_ (by first | (simp; done) | (simp; omega) | omega) _))); done) | (refine leOf ?_; (repeat (first | (with_reducible exact Mr.refl _) | (with_reducible apply Mr.drew) | (with_reducible apply Mr.alloc) | (with_reducible apply Mr.ext) | (with_reducible refine Mr.setCell ?_ (by first | (simp; done) | (simp; omega) | omega) _))); done)) _)))⟩
        · replace hnx := hnx (by omega)
          clear hf
          go_wp2
          go_roundw
          case rel => exact ⟨k + 1, by omega, by go_num, by first | rfl | trivial, hnx⟩
          case measure => simp [intOf]; omega
    · obtain rfl : k = 5 := by omega
      have hf : Hid (saneS s = true) := (sane_nv s).2 HB.out
      clear HB hlt
      go_wp2
      go_ret
      exact ⟨by rw [hf.out]; rfl, Mr.mk' (by repeat (first | (with_reducible exact Mr.refl _) | (with_reducible assumption) | (with_reducible apply Mr.drew) | (with_reducible apply Mr.alloc) | (with_reducible apply Mr.ext) | (with_reducible refine Mr.setCell ?_ (by first | (simp; done) | (simp; omega) | omega | (refine leOf0 ?_; (repeat (first | (with_reducible exact Mr.refl _) | (with_reducible apply Mr.drew) | (with_reducible apply Mr.alloc) | (with_reducible apply Mr.ext) | (with_reducible refine Mr.setCell ?_ (by first | (simp; done) | (simp; omega) | omega) _))); done) | (refine leOf ?_; (repeat (first | (with_reducible exact Mr.refl _) | (with_reducible apply Mr.drew) | (with_reducible apply Mr.alloc) | (with_reducible apply Mr.ext) | (with_reducible refine Mr.setCell ?_ (by first | (simp; done) | (simp; omega) | omega) _))); done)) _)))⟩
/-- The words on their way. -/
def fw (s : Smp) (k j : Nat) : Value := .int .u64 (if j < k then wr (gt (nv s) j) else 0)
set_option maxHeartbeats 2000000 in
theorem swords_c (s : Smp) (w : World) (hs : s.ok) (hT : Tb w) :
    Calls Tryd.prog 17 #[.agg #[.int .i64 s.t, .int .i64 s.s, .int .i64 s.x, .int .i64 s.y, .int .i64 s.z]] w fun e w' => ∃ a c, e = .returned (.slice a (words s).length c) ∧ ∃ x : Ext w, w' = x.u ∧ Wl.Is x.u a c (words s) := by
  cases hS : saneS s
  · rw [words_no hS]
    go_enter Tryd.func17, Tryd.ntmps17
    go_wp2_with (go_at_call 14; refine (ssane_c s _ hs (hT.mr (by repeat (first | (with_reducible exact Mr.refl _) | (with_reducible assumption) | (with_reducible apply Mr.drew) | (with_reducible apply Mr.alloc) | (with_reducible apply Mr.ext) | (with_reducible refine Mr.setCell ?_ (by first | (simp; done) | (simp; omega) | omega | (refine leOf0 ?_; (repeat (first | (with_reducible exact Mr.refl _) | (with_reducible apply Mr.drew) | (with_reducible apply Mr.alloc) | (with_reducible apply Mr.ext) | (with_reducible refine Mr.setCell ?_ (by first | (simp; done) | (simp; omega) | omega) _))); done) | (refine leOf ?_; (repeat (first | (with_reducible exact Mr.refl _) | (with_reducible apply Mr.drew) | (with_reducible apply Mr.alloc) | (with_reducible apply Mr.ext) | (with_reducible refine Mr.setCell ?_ (by first | (simp; done) | (simp; omega) | omega) _))); done)) _))))).mono ?_; rw [hS]; rintro e w' ⟨rfl, x, rfl⟩)
    go_ret
    exact ⟨none, 0, rfl, ⟨_, (by repeat (first | (with_reducible exact Mr.refl _) | (with_reducible assumption) | (with_reducible apply Mr.drew) | (with_reducible apply Mr.alloc) | (with_reducible apply Mr.ext) | (with_reducible refine Mr.setCell ?_ (by first | (simp; done) | (simp; omega) | omega | (refine leOf0 ?_; (repeat (first | (with_reducible exact Mr.refl _) | (with_reducible apply Mr.drew) | (with_reducible apply Mr.alloc) | (with_reducible apply Mr.ext) | (with_reducible refine Mr.setCell ?_ (by first | (simp; done) | (simp; omega) | omega) _))); done) | (refine leOf ?_; (repeat (first | (with_reducible exact Mr.refl _) | (with_reducible apply Mr.drew) | (with_reducible apply Mr.alloc) | (with_reducible apply Mr.ext) | (with_reducible refine Mr.setCell ?_ (by first | (simp; done) | (simp; omega) | omega) _))); done)) _)))⟩, rfl, Wl.is_nil none (by simp [maxLen]) (fun _ => rfl)⟩
  · obtain ⟨H, hH, hW⟩ := words_is hS
    rw [hW]
    go_enter Tryd.func17, Tryd.ntmps17
    have h5 : ∀ j, j < 5 → gt (five s) j = wr (gt (nv s) j) := gt_wr s
    have h6 : Hid (∀ j, j < 5 → gt (five s) j = wr (gt (nv s) j)) := gt_wr s
    have hHb : 0 ≤ H ∧ H ≤ 18446744073709551615 := by rw [← hH]; exact sm_bd _
    go_wp2_with (first | (go_at_call 14; refine (ssane_c s _ hs (hT.mr (by repeat (first | (with_reducible exact Mr.refl _) | (with_reducible assumption) | (with_reducible apply Mr.drew) | (with_reducible apply Mr.alloc) | (with_reducible apply Mr.ext) | (with_reducible refine Mr.setCell ?_ (by first | (simp; done) | (simp; omega) | omega | (refine leOf0 ?_; (repeat (first | (with_reducible exact Mr.refl _) | (with_reducible apply Mr.drew) | (with_reducible apply Mr.alloc) | (with_reducible apply Mr.ext) | (with_reducible refine Mr.setCell ?_ (by first | (simp; done) | (simp; omega) | omega) _))); done) | (refine leOf ?_; (repeat (first | (with_reducible exact Mr.refl _) | (with_reducible apply Mr.drew) | (with_reducible apply Mr.alloc) | (with_reducible apply Mr.ext) | (with_reducible refine Mr.setCell ?_ (by first | (simp; done) | (simp; omega) | omega) _))); done)) _))))).mono ?_; rw [hS]; rintro e w' ⟨rfl, x0, rfl⟩) | (go_at_call 22; refine (sof_c s _).mono ?_; rintro e w' ⟨rfl, x, rfl⟩))
    have hm : Mr w x.u := (by repeat (first | (with_reducible exact Mr.refl _) | (with_reducible assumption) | (with_reducible apply Mr.drew) | (with_reducible apply Mr.alloc) | (with_reducible apply Mr.ext) | (with_reducible refine Mr.setCell ?_ (by first | (simp; done) | (simp; omega) | omega | (refine leOf0 ?_; (repeat (first | (with_reducible exact Mr.refl _) | (with_reducible apply Mr.drew) | (with_reducible apply Mr.alloc) | (with_reducible apply Mr.ext) | (with_reducible refine Mr.setCell ?_ (by first | (simp; done) | (simp; omega) | omega) _))); done) | (refine leOf ?_; (repeat (first | (with_reducible exact Mr.refl _) | (with_reducible apply Mr.drew) | (with_reducible apply Mr.alloc) | (with_reducible apply Mr.ext) | (with_reducible refine Mr.setCell ?_ (by first | (simp; done) | (simp; omega) | omega) _))); done)) _)))
    have hR : x.u.rowIs x0.u.heap.size 44 6 (fw s 0) := ((World.rowIs_alloc x0.u #[.int .u64 0, .int .u64 0, .int .u64 0, .int .u64 0, .int .u64 0, .int .u64 0] 44 (fw s 0) (fun i hi => by
      match i, hi with
      | 0, _ => rfl
      | 1, _ => rfl
      | 2, _ => rfl
      | 3, _ => rfl
      | 4, _ => rfl
      | 5, _ => rfl)).of_block (x.h.below.block _ (by simp)))
    have hB : w.heap.size ≤ x0.u.heap.size := by have := x0.h.below.size; simp at this; omega
    generalize x0.u.heap.size = B at *
    generalize x.u = W at *
    clear x x0
    go_loopw [11] (fun i wr => ∃ k : Nat, k ≤ 5 ∧ i = .int .i64 k ∧ Mr w wr ∧ wr.rowIs B 44 6 (fw s k)) (fun i _ => (5 - intOf i).toNat)
    case atStart => exact ⟨0, by omega, rfl, hm, hR⟩
    case round =>
      obtain ⟨k, hk, rfl, hm, hR⟩ := hrel
      have hlB := hR.lt
      by_cases hlt : k < 5
      · have hc : ∀ V : World, (Instr.index 46 (.agg #[.int .i64 s.t, .int .i64 s.s, .int .i64 s.x, .int .i64 s.y, .int .i64 s.z]) (.int .i64 (k : Int))).run Tryd.prog V = .ok (.int .i64 (gt (nv s) k)) V := idxN s k hlt
        have h0 := hR.cell (i := k) (by omega)
        have h1 := hR.frozen k
        have hn := (hR.set k (.int .u64 (IntKind.u64.wrap (gt (nv s) k)))).congr (g := fw s (k + 1)) (fun i hi => by
          unfold fw
          by_cases e : i = k
          · subst e; rw [if_pos rfl, if_pos (by omega)]; rfl
          · rw [if_neg e]; by_cases g : i < k
            · rw [if_pos g, if_pos (by omega)]
            · rw [if_neg g, if_neg (by omega)])
        generalize fw s k k = V0 at *
        generalize gt (nv s) k = N at *
        clear hR h5
        go_wp2
        go_roundw
        case rel => exact ⟨k + 1, by omega, by go_num, hm.setCell hB _, hn⟩
        case measure => simp [intOf]; omega
      · obtain rfl : k = 5 := by omega
        have hI : Wl.Is wr (some ⟨B, 0, none⟩) 6 (five s) := ⟨by simp [five], by simp [maxLen], fun e => (by cases e), fun j hj => ⟨B, 0, rfl, hlB, fun i hi => by
          have hi5 : i < 5 := hi
          rw [Nat.zero_add, hR.cell (i := i) (by omega), fw, if_pos hi5, h5 i hi5]⟩, five_bd s⟩
        have h0 := hR.cell (i := 5) (by omega)
        have h1 := hR.frozen 5
        clear h5
        go_wp2_with (go_at_call 12; refine (ssum_c _ hI rfl).mono ?_; rw [hH]; rintro e w' ⟨rfl, x1, rfl⟩)
        have hmE : Mr w (x1.set ⟨B, 5, none⟩ (.int .u64 H)).u := (hm.trans x1.h).setCell hB _
        have hRE := (hR.of_block (x1.h.below.block _ hlB)).set 5 (.int .u64 H)
        have hIE : Wl.Is (x1.set ⟨B, 5, none⟩ (.int .u64 H)).u (some ⟨B, 0, none⟩) 6 (five s ++ [H]) := ⟨by simp [five], by simp [maxLen], fun e => (by cases e), fun j hj => ⟨B, 0, rfl, hRE.lt, fun i hi => by
          have hi6 : i < 6 := hi
          have hcE := hRE.cell (i := i) hi6
          rw [Nat.zero_add]
          refine hcE.trans ?_
          by_cases e : i = 5
          · subst e; rw [if_pos rfl, gt_six]
          · rw [if_neg e, fw, if_pos (by omega), gt_app s H (by omega), h6.out i (by omega)]⟩, by rw [← hW]; exact words_bd s⟩
        go_ret
        exact ⟨_, _, rfl, ⟨_, hmE⟩, rfl, hIE⟩
/-- The numbers on their way. -/
def fr (l : List Int) (k j : Nat) : Value := .int .i64 (if j < k then wrap64 (gt l j) else 0)
set_option maxRecDepth 100000 in
set_option maxHeartbeats 2000000 in
theorem sread_c {a : Option Addr} {c n : Nat} {l : List Int} (w : World) (h : Wl.Is w a c l) (en : l.length = n) (hT : Tb w) :
    Calls Tryd.prog 10 #[.slice a n c] w fun e w' => e = .returned (.tuple #[vS (readS l).1, .int .i64 (readS l).2]) ∧ ∃ x : Ext w, w' = x.u := by
  by_cases h6 : n = 6
  · subst h6
    obtain ⟨b, o, rfl, hb, -⟩ := h.num 0 (by omega)
    have hc : ∀ j, j < 6 → w.cell? ⟨b, o + j, none⟩ = some (.int .u64 (gt l j)) := fun j hj => by
      obtain ⟨b', o', e, -, q⟩ := h.num j (by omega)
      simp only [Option.some.injEq, Addr.mk.injEq] at e
      obtain ⟨rfl, rfl, -⟩ := e
      exact q
    have hR : readS l = if gt l 5 ≠ sm (l.take 5) then (zero, 2) else if saneS (rd l) then (rd l, 0) else (zero, 1) := by unfold readS; rw [if_neg (by rw [en]; decide)]
    rw [hR]
    have hbd := h.bd
    have d0 := hc 0 (by omega)
    have d1 := hc 1 (by omega)
    have d2 := hc 2 (by omega)
    have d3 := hc 3 (by omega)
    have d4 := hc 4 (by omega)
    have d5 := hc 5 (by omega)
    rw [Nat.add_zero] at d0
    have hat : ∀ V, (Instr.arrayAt 44 (.slice (some ⟨b, o, none⟩) 6 c)).run Tryd.prog V = .ok (.pointer (some ⟨b, o, none⟩)) V := fun V => run_arrayAt V 44 _ 6 _ 6 c Tryd.underlying44 (Nat.le_refl _)
    have hlist : l = [gt l 0, gt l 1, gt l 2, gt l 3, gt l 4, gt l 5] := list6 en
    have htake : l.take 5 = [gt l 0, gt l 1, gt l 2, gt l 3, gt l 4] := by conv => lhs; rw [hlist]
                                                                           rfl
    have hWl : ∀ W : World, W.rowIs (w.heap.size + 1) 44 6 (fun j => .int .u64 (gt l j)) → Wl.Is W (some ⟨w.heap.size + 1, 0, none⟩) 6 (l.take 5) := fun W hr =>
      ⟨by rw [htake]; simp, by simp [maxLen], fun e => (by cases e), fun j hj => ⟨_, 0, rfl, hr.lt, fun i hi => by
        have hi5 : i < 5 := by rw [htake] at hi; exact hi
        rw [Nat.zero_add, hr.cell (i := i) (by omega), gt_take, if_pos hi5]⟩, fun j => by rw [gt_take]; split; exact hbd j; omega⟩
    obtain ⟨H, hH⟩ : ∃ H, sm (l.take 5) = H := ⟨_, rfl⟩
    have hsum : ∀ W : World, W.rowIs (w.heap.size + 1) 44 6 (fun j => .int .u64 (gt l j)) → Calls Tryd.prog 12 #[.slice (some ⟨w.heap.size + 1, 0, none⟩) 5 6] W fun e w' => e = .returned (.int .u64 H) ∧ ∃ x : Ext W, w' = x.u := fun W hr => by
      rw [← hH]; exact ssum_c W (hWl W hr) (by rw [htake]; rfl)
    have hrow0 : ∀ V : World, V.heap.size = w.heap.size + 1 → (V.alloc (.cells #[.int .u64 (gt l 0), .int .u64 (gt l 1), .int .u64 (gt l 2), .int .u64 (gt l 3), .int .u64 (gt l 4), .int .u64 (gt l 5)] 44)).rowIs (w.heap.size + 1) 44 6 (fun j => .int .u64 (gt l j)) := fun V hV => by
      rw [← hV]
      exact World.rowIs_alloc V #[.int .u64 (gt l 0), .int .u64 (gt l 1), .int .u64 (gt l 2), .int .u64 (gt l 3), .int .u64 (gt l 4), .int .u64 (gt l 5)] 44 (fun j => .int .u64 (gt l j)) (fun i hi => by
        match i, hi with
        | 0, _ => rfl
        | 1, _ => rfl
        | 2, _ => rfl
        | 3, _ => rfl
        | 4, _ => rfl
        | 5, _ => rfl)
    rw [hH]
    clear hR hc h hH hWl htake hlist
    have hrd : Hid (rd l = ⟨wrap64 (gt l 0), wrap64 (gt l 1), wrap64 (gt l 2), wrap64 (gt l 3), wrap64 (gt l 4)⟩) := by
      rfl
    obtain ⟨F, hF⟩ : ∃ F : Nat → Value, F = fun j => .int .u64 (gt l j) := ⟨_, rfl⟩
    rw [← hF] at hsum hrow0
    have f5 : ∀ j, F j = .int .u64 (gt l j) := fun j => by rw [hF]
    clear hF
    by_cases hs : gt l 5 = H
    · subst hs
      rw [if_neg (by simp), hrd.out]
      obtain ⟨R1, R2, hRR⟩ : ∃ R1 R2, (if saneS ⟨wrap64 (gt l 0), wrap64 (gt l 1), wrap64 (gt l 2), wrap64 (gt l 3), wrap64 (gt l 4)⟩ = true then ((⟨wrap64 (gt l 0), wrap64 (gt l 1), wrap64 (gt l 2), wrap64 (gt l 3), wrap64 (gt l 4)⟩ : Smp), (0 : Int)) else (zero, 1)) = (R1, R2) := ⟨_, _, rfl⟩
      rw [hRR]
      replace hRR : Hid _ := hRR
      go_enter Tryd.func10, Tryd.ntmps10
      go_wp2
      refine wp_region_ext (by kernel_rfl) (by kernel_rfl) ?_
      (repeat (go_big_quiet_step ((go_at_call 12; exact extCall (hsum _ ((hrow0 _ (by simp)).of_block ((Ext.h _).below.block _ (by simp))))))))
      refine wpQuiet_nil ?_
      rintro w1 ⟨x1, rfl⟩
      go_wp2
      have hm1 : Mr w x1.u := (by repeat (first | (with_reducible exact Mr.refl _) | (with_reducible assumption) | (with_reducible apply Mr.drew) | (with_reducible apply Mr.alloc) | (with_reducible apply Mr.ext) | (with_reducible refine Mr.setCell ?_ (by first | (simp; done) | (simp; omega) | omega | (refine leOf0 ?_; (repeat (first | (with_reducible exact Mr.refl _) | (with_reducible apply Mr.drew) | (with_reducible apply Mr.alloc) | (with_reducible apply Mr.ext) | (with_reducible refine Mr.setCell ?_ (by first | (simp; done) | (simp; omega) | omega) _))); done) | (refine leOf ?_; (repeat (first | (with_reducible exact Mr.refl _) | (with_reducible apply Mr.drew) | (with_reducible apply Mr.alloc) | (with_reducible apply Mr.ext) | (with_reducible refine Mr.setCell ?_ (by first | (simp; done) | (simp; omega) | omega) _))); done)) _)))
      have hB : Row x1.u w.heap.size 24 #[.int .i64 0, .int .i64 0, .int .i64 0, .int .i64 0, .int .i64 0] := ((Row.new w _ _).alloc _).mr x1.h
      have hX : x1.u.rowIs (w.heap.size + 1) 44 6 F := (hrow0 _ (by simp)).of_block (x1.h.below.block _ (by simp))
      have hT1 := hT.mr hm1
      clear hsum hrow0 hT hat d0 d1 d2 d3 d4 d5 hrd
      generalize x1.u = W at *
      clear x1
      have hlB := hB.lt
      have hlX := hX.lt
      have hR : (W.alloc (.cells #[.int .i64 0, .int .i64 0, .int .i64 0, .int .i64 0, .int .i64 0] 46)).rowIs W.heap.size 46 5 (fr l 0) := World.rowIs_alloc W #[.int .i64 0, .int .i64 0, .int .i64 0, .int .i64 0, .int .i64 0] 46 (fr l 0) (fun i hi => by
        match i, hi with
        | 0, _ => rfl
        | 1, _ => rfl
        | 2, _ => rfl
        | 3, _ => rfl
        | 4, _ => rfl)
      generalize hU : W.heap.size = U at *
      have hm2 : Mr W (W.alloc (.cells #[.int .i64 0, .int .i64 0, .int .i64 0, .int .i64 0, .int .i64 0] 46)) := (Mr.refl W).alloc _
      generalize (W.alloc (.cells #[.int .i64 0, .int .i64 0, .int .i64 0, .int .i64 0, .int .i64 0] 46)) = V at *
      go_loopw [21] (fun i wr => ∃ k : Nat, k ≤ 5 ∧ i = .int .i64 k ∧ Mr W wr ∧ wr.rowIs U 46 5 (fr l k)) (fun i _ => (5 - intOf i).toNat)
      case atStart => exact ⟨0, by omega, rfl, hm2, hR⟩
      case round =>
        obtain ⟨k, hk, rfl, hm, hR⟩ := hrel
        have hlU := hR.lt
        have hX2 := hX.of_block (hm.below.block _ (by omega))
        by_cases hlt : k < 5
        · have h0 := hR.cell (i := k) (by omega)
          have h1 := hR.frozen k
          have h2 := hX2.cell (i := k) (by omega)
          have hlX2 := hX2.lt
          rw [f5] at h2
          have hn := (hR.set k (.int .i64 (wrap64 (gt l k)))).congr (g := fr l (k + 1)) (fun i hi => by
            unfold fr
            by_cases e : i = k
            · subst e; rw [if_pos rfl, if_pos (by omega)]
            · rw [if_neg e]; by_cases g : i < k
              · rw [if_pos g, if_pos (by omega)]
              · rw [if_neg g, if_neg (by omega)])
          have hmn := hm.setCell (a := ⟨U, k, none⟩) (by show W.heap.size ≤ U; omega) (.int .i64 (wrap64 (gt l k)))
          generalize fr l k k = V0 at *
          generalize gt l k = G at *
          clear hR hX hX2 hm f5 hB
          go_wp2
          go_roundw
          case rel => exact ⟨k + 1, by omega, by go_num, hmn, hn⟩
          case measure => simp [intOf]; omega
        · obtain rfl : k = 5 := by omega
          have hm3 := hm1.trans hm
          have hT3 := hT1.mr hm
          have hB3 := hB.mr hm
          have y0 := hR.cell (i := 0) (by omega)
          have y1 := hR.cell (i := 1) (by omega)
          have y2 := hR.cell (i := 2) (by omega)
          have y3 := hR.cell (i := 3) (by omega)
          have y4 := hR.cell (i := 4) (by omega)
          rw [fr, if_pos (by omega)] at y0 y1 y2 y3 y4
          have ok5 : ∀ a : Int, i64 (wrap64 a) := fun a => by unfold i64 wrap64; omega
          have o0 := ok5 (gt l 0)
          have o1 := ok5 (gt l 1)
          have o2 := ok5 (gt l 2)
          have o3 := ok5 (gt l 3)
          have o4 := ok5 (gt l 4)
          clear ok5 hX hX2 hR hB hT1 hbd f5 hm hm1 hm2
          generalize wrap64 (gt l 0) = t0 at *
          generalize wrap64 (gt l 1) = t1 at *
          generalize wrap64 (gt l 2) = t2 at *
          generalize wrap64 (gt l 3) = t3 at *
          generalize wrap64 (gt l 4) = t4 at *
          cases hS : saneS ⟨t0, t1, t2, t3, t4⟩
          · rw [Hid, hS, if_neg (by decide)] at hRR
            simp only [Prod.mk.injEq] at hRR
            obtain ⟨rfl, rfl⟩ := hRR
            go_wp2_with (first | (go_at_call 21; refine (ssample_c _ _ _ _ _ _).mono ?_; rintro e w' ⟨rfl, x2, rfl⟩) | (go_at_call 14; refine (ssane_c ⟨t0, t1, t2, t3, t4⟩ _ ⟨o0, o1, o2, o3, o4⟩ (hT3.mr (by repeat (first | (with_reducible exact Mr.refl _) | (with_reducible assumption) | (with_reducible apply Mr.drew) | (with_reducible apply Mr.alloc) | (with_reducible apply Mr.ext) | (with_reducible refine Mr.setCell ?_ (by first | (simp; done) | (simp; omega) | omega | (refine leOf0 ?_; (repeat (first | (with_reducible exact Mr.refl _) | (with_reducible apply Mr.drew) | (with_reducible apply Mr.alloc) | (with_reducible apply Mr.ext) | (with_reducible refine Mr.setCell ?_ (by first | (simp; done) | (simp; omega) | omega) _))); done) | (refine leOf ?_; (repeat (first | (with_reducible exact Mr.refl _) | (with_reducible apply Mr.drew) | (with_reducible apply Mr.alloc) | (with_reducible apply Mr.ext) | (with_reducible refine Mr.setCell ?_ (by first | (simp; done) | (simp; omega) | omega) _))); done)) _))))).mono ?_; rw [hS]; rintro e w' ⟨rfl, x3, rfl⟩; have hm4 : Mr wr x3.u := (by repeat (first | (with_reducible exact Mr.refl _) | (with_reducible assumption) | (with_reducible apply Mr.drew) | (with_reducible apply Mr.alloc) | (with_reducible apply Mr.ext) | (with_reducible refine Mr.setCell ?_ (by first | (simp; done) | (simp; omega) | omega | (refine leOf0 ?_; (repeat (first | (with_reducible exact Mr.refl _) | (with_reducible apply Mr.drew) | (with_reducible apply Mr.alloc) | (with_reducible apply Mr.ext) | (with_reducible refine Mr.setCell ?_ (by first | (simp; done) | (simp; omega) | omega) _))); done) | (refine leOf ?_; (repeat (first | (with_reducible exact Mr.refl _) | (with_reducible apply Mr.drew) | (with_reducible apply Mr.alloc) | (with_reducible apply Mr.ext) | (with_reducible refine Mr.setCell ?_ (by first | (simp; done) | (simp; omega) | omega) _))); done)) _))); have hX4 : Row x3.u x2.u.heap.size 24 #[.int .i64 t0, .int .i64 t1, .int .i64 t2, .int .i64 t3, .int .i64 t4] := (Row.new _ _ _).mr x3.h; have hB4 := hB3.mr hm4; have hm5 := hm3.trans hm4; have hne : w.heap.size < x2.u.heap.size := Nat.lt_of_lt_of_le hB3.lt x2.h.below.size; clear hB3 hT3 y0 y1 y2 y3 y4 hm4; generalize x2.u.heap.size = P at *; generalize x3.u = W3 at *; clear x3 x2; have y0 : W3.cell? ⟨P, 0, none⟩ = some (.int .i64 t0) := hX4.cell 0; have y1 : W3.cell? ⟨P, 1, none⟩ = some (.int .i64 t1) := hX4.cell 1; have y2 : W3.cell? ⟨P, 2, none⟩ = some (.int .i64 t2) := hX4.cell 2; have y3 : W3.cell? ⟨P, 3, none⟩ = some (.int .i64 t3) := hX4.cell 3; have y4 : W3.cell? ⟨P, 4, none⟩ = some (.int .i64 t4) := hX4.cell 4; have z0 : W3.cell? ⟨w.heap.size, 0, none⟩ = some (.int .i64 0) := hB4.cell 0; have z1 : W3.cell? ⟨w.heap.size, 1, none⟩ = some (.int .i64 0) := hB4.cell 1; have z2 : W3.cell? ⟨w.heap.size, 2, none⟩ = some (.int .i64 0) := hB4.cell 2; have z3 : W3.cell? ⟨w.heap.size, 3, none⟩ = some (.int .i64 0) := hB4.cell 3; have z4 : W3.cell? ⟨w.heap.size, 4, none⟩ = some (.int .i64 0) := hB4.cell 4; have f0 := hB4.froz 0; have f1 := hB4.froz 1; have f2 := hB4.froz 2; have f3 := hB4.froz 3; have f4 := hB4.froz 4; have l3 := hB4.lt; have l4 := hX4.lt))
            exact bodyPost_ret (results_cell_slot Tryd.results10 _ _ w.heap.size 24 #[.int .i64 0, .int .i64 0, .int .i64 0, .int .i64 0, .int .i64 0] _ rfl rfl (((((hB4.set 0 _).set 1 _).set 2 _).set 3 _).set 4 _) Tryd.underlying24 rfl infoS) rfl ⟨rfl, Mr.mk' (((((hm5.setCell (Nat.le_refl _) _).setCell (Nat.le_refl _) _).setCell (Nat.le_refl _) _).setCell (Nat.le_refl _) _).setCell (Nat.le_refl _) _)⟩
          · rw [Hid, hS, if_pos rfl] at hRR
            simp only [Prod.mk.injEq] at hRR
            obtain ⟨rfl, rfl⟩ := hRR
            go_wp2_with (first | (go_at_call 21; refine (ssample_c _ _ _ _ _ _).mono ?_; rintro e w' ⟨rfl, x2, rfl⟩) | (go_at_call 14; refine (ssane_c ⟨t0, t1, t2, t3, t4⟩ _ ⟨o0, o1, o2, o3, o4⟩ (hT3.mr (by repeat (first | (with_reducible exact Mr.refl _) | (with_reducible assumption) | (with_reducible apply Mr.drew) | (with_reducible apply Mr.alloc) | (with_reducible apply Mr.ext) | (with_reducible refine Mr.setCell ?_ (by first | (simp; done) | (simp; omega) | omega | (refine leOf0 ?_; (repeat (first | (with_reducible exact Mr.refl _) | (with_reducible apply Mr.drew) | (with_reducible apply Mr.alloc) | (with_reducible apply Mr.ext) | (with_reducible refine Mr.setCell ?_ (by first | (simp; done) | (simp; omega) | omega) _))); done) | (refine leOf ?_; (repeat (first | (with_reducible exact Mr.refl _) | (with_reducible apply Mr.drew) | (with_reducible apply Mr.alloc) | (with_reducible apply Mr.ext) | (with_reducible refine Mr.setCell ?_ (by first | (simp; done) | (simp; omega) | omega) _))); done)) _))))).mono ?_; rw [hS]; rintro e w' ⟨rfl, x3, rfl⟩; have hm4 : Mr wr x3.u := (by repeat (first | (with_reducible exact Mr.refl _) | (with_reducible assumption) | (with_reducible apply Mr.drew) | (with_reducible apply Mr.alloc) | (with_reducible apply Mr.ext) | (with_reducible refine Mr.setCell ?_ (by first | (simp; done) | (simp; omega) | omega | (refine leOf0 ?_; (repeat (first | (with_reducible exact Mr.refl _) | (with_reducible apply Mr.drew) | (with_reducible apply Mr.alloc) | (with_reducible apply Mr.ext) | (with_reducible refine Mr.setCell ?_ (by first | (simp; done) | (simp; omega) | omega) _))); done) | (refine leOf ?_; (repeat (first | (with_reducible exact Mr.refl _) | (with_reducible apply Mr.drew) | (with_reducible apply Mr.alloc) | (with_reducible apply Mr.ext) | (with_reducible refine Mr.setCell ?_ (by first | (simp; done) | (simp; omega) | omega) _))); done)) _))); have hX4 : Row x3.u x2.u.heap.size 24 #[.int .i64 t0, .int .i64 t1, .int .i64 t2, .int .i64 t3, .int .i64 t4] := (Row.new _ _ _).mr x3.h; have hB4 := hB3.mr hm4; have hm5 := hm3.trans hm4; have hne : w.heap.size < x2.u.heap.size := Nat.lt_of_lt_of_le hB3.lt x2.h.below.size; clear hB3 hT3 y0 y1 y2 y3 y4 hm4; generalize x2.u.heap.size = P at *; generalize x3.u = W3 at *; clear x3 x2; have y0 : W3.cell? ⟨P, 0, none⟩ = some (.int .i64 t0) := hX4.cell 0; have y1 : W3.cell? ⟨P, 1, none⟩ = some (.int .i64 t1) := hX4.cell 1; have y2 : W3.cell? ⟨P, 2, none⟩ = some (.int .i64 t2) := hX4.cell 2; have y3 : W3.cell? ⟨P, 3, none⟩ = some (.int .i64 t3) := hX4.cell 3; have y4 : W3.cell? ⟨P, 4, none⟩ = some (.int .i64 t4) := hX4.cell 4; have z0 : W3.cell? ⟨w.heap.size, 0, none⟩ = some (.int .i64 0) := hB4.cell 0; have z1 : W3.cell? ⟨w.heap.size, 1, none⟩ = some (.int .i64 0) := hB4.cell 1; have z2 : W3.cell? ⟨w.heap.size, 2, none⟩ = some (.int .i64 0) := hB4.cell 2; have z3 : W3.cell? ⟨w.heap.size, 3, none⟩ = some (.int .i64 0) := hB4.cell 3; have z4 : W3.cell? ⟨w.heap.size, 4, none⟩ = some (.int .i64 0) := hB4.cell 4; have f0 := hB4.froz 0; have f1 := hB4.froz 1; have f2 := hB4.froz 2; have f3 := hB4.froz 3; have f4 := hB4.froz 4; have l3 := hB4.lt; have l4 := hX4.lt))
            exact bodyPost_ret (results_cell_slot Tryd.results10 _ _ w.heap.size 24 #[.int .i64 t0, .int .i64 t1, .int .i64 t2, .int .i64 t3, .int .i64 t4] _ rfl rfl (((((hB4.set 0 _).set 1 _).set 2 _).set 3 _).set 4 _) Tryd.underlying24 rfl infoS) rfl ⟨rfl, Mr.mk' (((((hm5.setCell (Nat.le_refl _) _).setCell (Nat.le_refl _) _).setCell (Nat.le_refl _) _).setCell (Nat.le_refl _) _).setCell (Nat.le_refl _) _)⟩
    · have hs' : (gt l 5 != H) = true := by simpa using hs
      rw [if_pos hs]
      go_enter Tryd.func10, Tryd.ntmps10
      go_wp2
      refine wp_region_ext (by kernel_rfl) (by kernel_rfl) ?_
      (repeat (go_big_quiet_step ((go_at_call 12; exact extCall (hsum _ ((hrow0 _ (by simp)).of_block ((Ext.h _).below.block _ (by simp))))))))
      refine wpQuiet_nil ?_
      rintro w1 ⟨x1, rfl⟩
      go_wp2
      exact bodyPost_ret (v := .tuple #[vS zero, .int .i64 2]) (by simp [results, Tryd.results10, go_sem, vS, zero]) rfl ⟨rfl, Mr.mk' (by repeat (first | (with_reducible exact Mr.refl _) | (with_reducible assumption) | (with_reducible apply Mr.drew) | (with_reducible apply Mr.alloc) | (with_reducible apply Mr.ext) | (with_reducible refine Mr.setCell ?_ (by first | (simp; done) | (simp; omega) | omega | (refine leOf0 ?_; (repeat (first | (with_reducible exact Mr.refl _) | (with_reducible apply Mr.drew) | (with_reducible apply Mr.alloc) | (with_reducible apply Mr.ext) | (with_reducible refine Mr.setCell ?_ (by first | (simp; done) | (simp; omega) | omega) _))); done) | (refine leOf ?_; (repeat (first | (with_reducible exact Mr.refl _) | (with_reducible apply Mr.drew) | (with_reducible apply Mr.alloc) | (with_reducible apply Mr.ext) | (with_reducible refine Mr.setCell ?_ (by first | (simp; done) | (simp; omega) | omega) _))); done)) _)))⟩
  · have e : readS l = (zero, 5) := by unfold readS; rw [if_pos (by rw [en]; exact h6)]
    have h6' : ((n : Int) == 6) = false := by simp only [beq_eq_false_iff_ne, ne_eq]; omega
    have h6'' : ¬ (n : Int) = 6 := by omega
    rw [e]
    go_enter Tryd.func10, Tryd.ntmps10
    go_wp2
    exact bodyPost_ret (v := .tuple #[vS zero, .int .i64 5]) (by simp [results, Tryd.results10, go_sem, vS, zero]) rfl ⟨rfl, Mr.mk' (by repeat (first | (with_reducible exact Mr.refl _) | (with_reducible assumption) | (with_reducible apply Mr.drew) | (with_reducible apply Mr.alloc) | (with_reducible apply Mr.ext) | (with_reducible refine Mr.setCell ?_ (by first | (simp; done) | (simp; omega) | omega | (refine leOf0 ?_; (repeat (first | (with_reducible exact Mr.refl _) | (with_reducible apply Mr.drew) | (with_reducible apply Mr.alloc) | (with_reducible apply Mr.ext) | (with_reducible refine Mr.setCell ?_ (by first | (simp; done) | (simp; omega) | omega) _))); done) | (refine leOf ?_; (repeat (first | (with_reducible exact Mr.refl _) | (with_reducible apply Mr.drew) | (with_reducible apply Mr.alloc) | (with_reducible apply Mr.ext) | (with_reducible refine Mr.setCell ?_ (by first | (simp; done) | (simp; omega) | omega) _))); done)) _)))⟩
set_option maxHeartbeats 1000000 in
theorem sbefore_c (s u : Smp) (w : World) (hs : s.ok) (hu : u.ok) :
    Calls Tryd.prog 19 #[.agg #[.int .i64 s.t, .int .i64 s.s, .int .i64 s.x, .int .i64 s.y, .int .i64 s.z], .agg #[.int .i64 u.t, .int .i64 u.s, .int .i64 u.x, .int .i64 u.y, .int .i64 u.z]] w fun e w' => e = .returned (.bool (before s u)) ∧ ∃ x : Ext w, w' = x.u := by
  rcases Int.lt_trichotomy s.t u.t with h | h | h
  · have e : Hid (before s u = true) := (before_iff s u).2 (.inl h)
    go_enter Tryd.func19, Tryd.ntmps19
    go_wp2
    go_ret
    exact ⟨by rw [e.out]; rfl, Mr.mk' (by repeat (first | (with_reducible exact Mr.refl _) | (with_reducible assumption) | (with_reducible apply Mr.drew) | (with_reducible apply Mr.alloc) | (with_reducible apply Mr.ext) | (with_reducible refine Mr.setCell ?_ (by first | (simp; done) | (simp; omega) | omega | (refine leOf0 ?_; (repeat (first | (with_reducible exact Mr.refl _) | (with_reducible apply Mr.drew) | (with_reducible apply Mr.alloc) | (with_reducible apply Mr.ext) | (with_reducible refine Mr.setCell ?_ (by first | (simp; done) | (simp; omega) | omega) _))); done) | (refine leOf ?_; (repeat (first | (with_reducible exact Mr.refl _) | (with_reducible apply Mr.drew) | (with_reducible apply Mr.alloc) | (with_reducible apply Mr.ext) | (with_reducible refine Mr.setCell ?_ (by first | (simp; done) | (simp; omega) | omega) _))); done)) _)))⟩
  · have e : Hid (before s u = decide (s.s < u.s)) := by
      unfold Hid before
      rw [decide_eq_false (by omega), decide_eq_true h, Bool.false_or, Bool.true_and]
    go_enter Tryd.func19, Tryd.ntmps19
    go_wp2
    go_ret
    exact ⟨by rw [e.out]; rfl, Mr.mk' (by repeat (first | (with_reducible exact Mr.refl _) | (with_reducible assumption) | (with_reducible apply Mr.drew) | (with_reducible apply Mr.alloc) | (with_reducible apply Mr.ext) | (with_reducible refine Mr.setCell ?_ (by first | (simp; done) | (simp; omega) | omega | (refine leOf0 ?_; (repeat (first | (with_reducible exact Mr.refl _) | (with_reducible apply Mr.drew) | (with_reducible apply Mr.alloc) | (with_reducible apply Mr.ext) | (with_reducible refine Mr.setCell ?_ (by first | (simp; done) | (simp; omega) | omega) _))); done) | (refine leOf ?_; (repeat (first | (with_reducible exact Mr.refl _) | (with_reducible apply Mr.drew) | (with_reducible apply Mr.alloc) | (with_reducible apply Mr.ext) | (with_reducible refine Mr.setCell ?_ (by first | (simp; done) | (simp; omega) | omega) _))); done)) _)))⟩
  · have e : Hid (before s u = false) := by
      rw [Hid, Bool.eq_false_iff, Ne, before_iff]; omega
    have h1 : ¬ s.t < u.t := by omega
    have h2 : (s.t == u.t) = false := by simp only [beq_eq_false_iff_ne, ne_eq]; omega
    go_enter Tryd.func19, Tryd.ntmps19
    go_wp2
    go_ret
    exact ⟨by rw [e.out]; rfl, Mr.mk' (by repeat (first | (with_reducible exact Mr.refl _) | (with_reducible assumption) | (with_reducible apply Mr.drew) | (with_reducible apply Mr.alloc) | (with_reducible apply Mr.ext) | (with_reducible refine Mr.setCell ?_ (by first | (simp; done) | (simp; omega) | omega | (refine leOf0 ?_; (repeat (first | (with_reducible exact Mr.refl _) | (with_reducible apply Mr.drew) | (with_reducible apply Mr.alloc) | (with_reducible apply Mr.ext) | (with_reducible refine Mr.setCell ?_ (by first | (simp; done) | (simp; omega) | omega) _))); done) | (refine leOf ?_; (repeat (first | (with_reducible exact Mr.refl _) | (with_reducible apply Mr.drew) | (with_reducible apply Mr.alloc) | (with_reducible apply Mr.ext) | (with_reducible refine Mr.setCell ?_ (by first | (simp; done) | (simp; omega) | omega) _))); done)) _)))⟩
end Sp
end Go.Proofs.YthdjldbieajebaaDoor
