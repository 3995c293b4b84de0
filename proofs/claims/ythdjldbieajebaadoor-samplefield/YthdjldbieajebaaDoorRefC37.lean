/- The contracts of the document's own answers of layer 13. -/
import Derived.Test.YthdjldbieajebaaDoorSampleM2
import Derived.Deep.RegionHeld3
namespace Go.Proofs.YthdjldbieajebaaDoor
open Go.ChangeShapes Go.WideShapes Go.ChangeAt Go.RowKit
set_option linter.unusedVariables false
attribute [local go_sem] Ext.cell Ext.froz Ext.lt Ext.lt1 Ext.lt2 Ext.lt3 Ext.all Ext.set_u drew_heap setCell_size Ext.set_size
namespace Sp
open Wl
set_option maxHeartbeats 1000000 in
theorem rsum13_c {a : Option Addr} {c n : Nat} {l : List Int} (w : World) (h : Wl.Is w a c l) (en : l.length = n) :
    Calls Tryd.prog 13 #[.slice a n c] w fun e w' => e = .returned (.int .u64 (sm l)) ∧ w' = w := by
  have hn9 : n ≤ 9223372036854775807 := by have := h.max; have := h.le; unfold maxLen at *; omega
  go_enter Tryd.func13, Tryd.ntmps13
  go_wp2
  go_loopw [3, 4] (fun v i wr => ∃ k : Nat, k ≤ n ∧ i = .int .i64 k ∧ v = .int .u64 (sm (l.take k)) ∧ wr = w) (fun _ i _ => (n - intOf i).toNat)
  case atStart => exact ⟨0, by omega, rfl, rfl, rfl⟩
  case round =>
    obtain ⟨k, hk, rfl, rfl, rfl⟩ := hrel
    by_cases hlt : k < n
    · have hlt' : (k : Int) < n := by omega
      obtain ⟨b, o, rfl, hb, hc⟩ := h.num k (by omega)
      have hS : Hid (sm (l.take (k + 1)) = IntKind.u64.wrap (bits .xor .u64 (sm (l.take k)) (gt l k) * 1099511628211)) := by
        rw [Hid, take_more l k (by omega), sm_snoc]; rfl
      generalize sm (l.take k) = H at *
      generalize gt l k = G at *
      clear h
      go_wp2
      go_roundw
      case rel => exact ⟨k + 1, by omega, by go_num, by rw [hS.out], by first | rfl | trivial⟩
      case measure => simp [intOf]; omega
    · obtain rfl : k = n := by omega
      rw [List.take_of_length_le (by omega)]
      go_wp2
      go_ret
      exact ⟨rfl, rfl⟩
set_option maxHeartbeats 1000000 in
theorem rbefore13_c (s u : Smp) (w : World) :
    Calls Tryd.prog 20 #[.agg #[.int .i64 s.t, .int .i64 s.s, .int .i64 s.x, .int .i64 s.y, .int .i64 s.z], .agg #[.int .i64 u.t, .int .i64 u.s, .int .i64 u.x, .int .i64 u.y, .int .i64 u.z]] w fun e w' => e = .returned (.bool (before s u)) ∧ ∃ x : Ext w, w' = x.u := by
  rcases Int.lt_trichotomy s.t u.t with h | h | h
  · have e : Hid (before s u = true) := (before_iff s u).2 (.inl h)
    go_enter Tryd.func20, Tryd.ntmps20
    go_wp2
    go_ret
    exact ⟨by rw [e.out]; rfl, Mr.mk' (by repeat (first | (with_reducible exact Mr.refl _) | (with_reducible apply Mr.drew) | (with_reducible apply Mr.alloc) | (with_reducible apply Mr.ext) | (with_reducible refine Mr.setCell ?_ (by first | (simp; done) | (simp; omega) | omega | (refine leOf0 ?_; (repeat (first | (with_reducible exact Mr.refl _) | (with_reducible apply Mr.drew) | (with_reducible apply Mr.alloc) | (with_reducible apply Mr.ext) | (with_reducible refine Mr.setCell ?_ (by first | (simp; done) | (simp; omega) | omega) _))); done) | (refine leOf ?_; (repeat (first | (with_reducible exact Mr.refl _) | (with_reducible apply Mr.drew) | (with_reducible apply Mr.alloc) | (with_reducible apply Mr.ext) | (with_reducible refine Mr.setCell ?_ (by first | (simp; done) | (simp; omega) | omega) _))); done)) _)))⟩
  · have e : Hid (before s u = decide (s.s < u.s)) := by
      unfold Hid before
      rw [decide_eq_false (by omega), decide_eq_true h, Bool.false_or, Bool.true_and]
    go_enter Tryd.func20, Tryd.ntmps20
    go_wp2
    go_ret
    exact ⟨by rw [e.out]; rfl, Mr.mk' (by repeat (first | (with_reducible exact Mr.refl _) | (with_reducible apply Mr.drew) | (with_reducible apply Mr.alloc) | (with_reducible apply Mr.ext) | (with_reducible refine Mr.setCell ?_ (by first | (simp; done) | (simp; omega) | omega | (refine leOf0 ?_; (repeat (first | (with_reducible exact Mr.refl _) | (with_reducible apply Mr.drew) | (with_reducible apply Mr.alloc) | (with_reducible apply Mr.ext) | (with_reducible refine Mr.setCell ?_ (by first | (simp; done) | (simp; omega) | omega) _))); done) | (refine leOf ?_; (repeat (first | (with_reducible exact Mr.refl _) | (with_reducible apply Mr.drew) | (with_reducible apply Mr.alloc) | (with_reducible apply Mr.ext) | (with_reducible refine Mr.setCell ?_ (by first | (simp; done) | (simp; omega) | omega) _))); done)) _)))⟩
  · have e : Hid (before s u = false) := by
      rw [Hid, Bool.eq_false_iff, Ne, before_iff]; omega
    have h1 : ¬ s.t < u.t := by omega
    have h2 : (s.t == u.t) = false := by simp only [beq_eq_false_iff_ne, ne_eq]; omega
    go_enter Tryd.func20, Tryd.ntmps20
    go_wp2
    go_ret
    exact ⟨by rw [e.out]; rfl, Mr.mk' (by repeat (first | (with_reducible exact Mr.refl _) | (with_reducible apply Mr.drew) | (with_reducible apply Mr.alloc) | (with_reducible apply Mr.ext) | (with_reducible refine Mr.setCell ?_ (by first | (simp; done) | (simp; omega) | omega | (refine leOf0 ?_; (repeat (first | (with_reducible exact Mr.refl _) | (with_reducible apply Mr.drew) | (with_reducible apply Mr.alloc) | (with_reducible apply Mr.ext) | (with_reducible refine Mr.setCell ?_ (by first | (simp; done) | (simp; omega) | omega) _))); done) | (refine leOf ?_; (repeat (first | (with_reducible exact Mr.refl _) | (with_reducible apply Mr.drew) | (with_reducible apply Mr.alloc) | (with_reducible apply Mr.ext) | (with_reducible refine Mr.setCell ?_ (by first | (simp; done) | (simp; omega) | omega) _))); done)) _)))⟩
def vl (s : Smp) (k : Nat) : Int := if k = 0 then s.x else if k = 1 then s.y else s.z
theorem sane_vl (s : Smp) : saneS s = (val (vl s 0) && val (vl s 1) && val (vl s 2) && decide (0 ≤ s.t) && decide (s.t ≤ 1099511627776) && decide (0 ≤ s.s) && decide (s.s ≤ 3)) := rfl
theorem sane_no {s : Smp} {k : Nat} (hk : k < 3) (h : val (vl s k) = false) : saneS s = false := by
  rw [sane_vl]
  match k, hk with
  | 0, _ => rw [h]; rfl
  | 1, _ => rw [h]; simp
  | 2, _ => rw [h]; simp
set_option maxHeartbeats 2000000 in
theorem rsane13_c (s : Smp) (w : World) :
    Calls Tryd.prog 15 #[.agg #[.int .i64 s.t, .int .i64 s.s, .int .i64 s.x, .int .i64 s.y, .int .i64 s.z]] w fun e w' => e = .returned (.bool (saneS s)) ∧ ∃ x : Ext w, w' = x.u := by
  go_enter Tryd.func15, Tryd.ntmps15
  go_wp2
  go_loopw [3] (fun i wr => ∃ k : Nat, k ≤ 3 ∧ i = .int .i64 k ∧ wr = w.alloc (.cells #[.int .i64 s.t, .int .i64 s.s, .int .i64 s.x, .int .i64 s.y, .int .i64 s.z] 24) ∧ Hid (∀ j, j < k → val (vl s j) = true)) (fun i _ => (3 - intOf i).toNat)
  case atStart => exact ⟨0, by omega, rfl, rfl, fun j hj => by omega⟩
  case round =>
    obtain ⟨k, hk, rfl, rfl, HB⟩ := hrel
    by_cases hlt : k < 3
    · have hf := sane_no (s := s) hlt
      have hnx : val (vl s k) = true → Hid (∀ j, j < k + 1 → val (vl s j) = true) := fun hv j hj => by
        rcases Nat.lt_or_ge j k with g | g
        · exact HB.out j g
        · obtain rfl : j = k := by omega
          exact hv
      clear HB
      obtain rfl | rfl | rfl : k = 0 ∨ k = 1 ∨ k = 2 := by omega
      · replace hf : val s.x = false → saneS s = false := hf
        replace hnx : val s.x = true → Hid (∀ j, j < 0 + 1 → val (vl s j) = true) := hnx
        by_cases h1 : s.x < -288230376151711744
        · replace hf : Hid (saneS s = false) := hf (by unfold val; rw [decide_eq_false (by omega)]; rfl)
          clear hnx
          go_wp2
          go_ret
          exact ⟨by rw [hf.out]; rfl, Mr.mk' (by repeat (first | (with_reducible exact Mr.refl _) | (with_reducible apply Mr.drew) | (with_reducible apply Mr.alloc) | (with_reducible apply Mr.ext) | (with_reducible refine Mr.setCell ?_ (by first | (simp; done) | (simp; omega) | omega | (refine leOf0 ?_; (repeat (first | (with_reducible exact Mr.refl _) | (with_reducible apply Mr.drew) | (with_reducible apply Mr.alloc) | (with_reducible apply Mr.ext) | (with_reducible refine Mr.setCell ?_ (by first | (simp; done) | (simp; omega) | omega) _))); done) | (refine leOf ?_; (repeat (first | (with_reducible exact Mr.refl _) | (with_reducible apply Mr.drew) | (with_reducible apply Mr.alloc) | (with_reducible apply Mr.ext) | (with_reducible refine Mr.setCell ?_ (by first | (simp; done) | (simp; omega) | omega) _))); done)) _)))⟩
        · by_cases h2 : 288230376151711744 < s.x
          · replace hf : Hid (saneS s = false) := hf (by unfold val; rw [decide_eq_false (p := s.x ≤ 288230376151711744) (by omega), Bool.and_false])
            clear hnx
            go_wp2
            go_ret
            exact ⟨by rw [hf.out]; rfl, Mr.mk' (by repeat (first | (with_reducible exact Mr.refl _) | (with_reducible apply Mr.drew) | (with_reducible apply Mr.alloc) | (with_reducible apply Mr.ext) | (with_reducible refine Mr.setCell ?_ (by first | (simp; done) | (simp; omega) | omega | (refine leOf0 ?_; (repeat (first | (with_reducible exact Mr.refl _) | (with_reducible apply Mr.drew) | (with_reducible apply Mr.alloc) | (with_reducible apply Mr.ext) | (with_reducible refine Mr.setCell ?_ (by first | (simp; done) | (simp; omega) | omega) _))); done) | (refine leOf ?_; (repeat (first | (with_reducible exact Mr.refl _) | (with_reducible apply Mr.drew) | (with_reducible apply Mr.alloc) | (with_reducible apply Mr.ext) | (with_reducible refine Mr.setCell ?_ (by first | (simp; done) | (simp; omega) | omega) _))); done)) _)))⟩
          · have hN := hnx (by unfold val; rw [decide_eq_true (by omega), decide_eq_true (by omega)]; rfl)
            clear hnx hf
            go_wp2
            go_roundw
            case rel => exact ⟨1, by decide, by first | rfl | go_num, by first | rfl | trivial, hN⟩
            case measure => simp [intOf]
      · replace hf : val s.y = false → saneS s = false := hf
        replace hnx : val s.y = true → Hid (∀ j, j < 1 + 1 → val (vl s j) = true) := hnx
        by_cases h1 : s.y < -288230376151711744
        · replace hf : Hid (saneS s = false) := hf (by unfold val; rw [decide_eq_false (by omega)]; rfl)
          clear hnx
          go_wp2
          go_ret
          exact ⟨by rw [hf.out]; rfl, Mr.mk' (by repeat (first | (with_reducible exact Mr.refl _) | (with_reducible apply Mr.drew) | (with_reducible apply Mr.alloc) | (with_reducible apply Mr.ext) | (with_reducible refine Mr.setCell ?_ (by first | (simp; done) | (simp; omega) | omega | (refine leOf0 ?_; (repeat (first | (with_reducible exact Mr.refl _) | (with_reducible apply Mr.drew) | (with_reducible apply Mr.alloc) | (with_reducible apply Mr.ext) | (with_reducible refine Mr.setCell ?_ (by first | (simp; done) | (simp; omega) | omega) _))); done) | (refine leOf ?_; (repeat (first | (with_reducible exact Mr.refl _) | (with_reducible apply Mr.drew) | (with_reducible apply Mr.alloc) | (with_reducible apply Mr.ext) | (with_reducible refine Mr.setCell ?_ (by first | (simp; done) | (simp; omega) | omega) _))); done)) _)))⟩
        · by_cases h2 : 288230376151711744 < s.y
          · replace hf : Hid (saneS s = false) := hf (by unfold val; rw [decide_eq_false (p := s.y ≤ 288230376151711744) (by omega), Bool.and_false])
            clear hnx
            go_wp2
            go_ret
            exact ⟨by rw [hf.out]; rfl, Mr.mk' (by repeat (first | (with_reducible exact Mr.refl _) | (with_reducible apply Mr.drew) | (with_reducible apply Mr.alloc) | (with_reducible apply Mr.ext) | (with_reducible refine Mr.setCell ?_ (by first | (simp; done) | (simp; omega) | omega | (refine leOf0 ?_; (repeat (first | (with_reducible exact Mr.refl _) | (with_reducible apply Mr.drew) | (with_reducible apply Mr.alloc) | (with_reducible apply Mr.ext) | (with_reducible refine Mr.setCell ?_ (by first | (simp; done) | (simp; omega) | omega) _))); done) | (refine leOf ?_; (repeat (first | (with_reducible exact Mr.refl _) | (with_reducible apply Mr.drew) | (with_reducible apply Mr.alloc) | (with_reducible apply Mr.ext) | (with_reducible refine Mr.setCell ?_ (by first | (simp; done) | (simp; omega) | omega) _))); done)) _)))⟩
          · have hN := hnx (by unfold val; rw [decide_eq_true (by omega), decide_eq_true (by omega)]; rfl)
            clear hnx hf
            go_wp2
            go_roundw
            case rel => exact ⟨2, by decide, by first | rfl | go_num, by first | rfl | trivial, hN⟩
            case measure => simp [intOf]
      · replace hf : val s.z = false → saneS s = false := hf
        replace hnx : val s.z = true → Hid (∀ j, j < 2 + 1 → val (vl s j) = true) := hnx
        by_cases h1 : s.z < -288230376151711744
        · replace hf : Hid (saneS s = false) := hf (by unfold val; rw [decide_eq_false (by omega)]; rfl)
          clear hnx
          go_wp2
          go_ret
          exact ⟨by rw [hf.out]; rfl, Mr.mk' (by repeat (first | (with_reducible exact Mr.refl _) | (with_reducible apply Mr.drew) | (with_reducible apply Mr.alloc) | (with_reducible apply Mr.ext) | (with_reducible refine Mr.setCell ?_ (by first | (simp; done) | (simp; omega) | omega | (refine leOf0 ?_; (repeat (first | (with_reducible exact Mr.refl _) | (with_reducible apply Mr.drew) | (with_reducible apply Mr.alloc) | (with_reducible apply Mr.ext) | (with_reducible refine Mr.setCell ?_ (by first | (simp; done) | (simp; omega) | omega) _))); done) | (refine leOf ?_; (repeat (first | (with_reducible exact Mr.refl _) | (with_reducible apply Mr.drew) | (with_reducible apply Mr.alloc) | (with_reducible apply Mr.ext) | (with_reducible refine Mr.setCell ?_ (by first | (simp; done) | (simp; omega) | omega) _))); done)) _)))⟩
        · by_cases h2 : 288230376151711744 < s.z
          · replace hf : Hid (saneS s = false) := hf (by unfold val; rw [decide_eq_false (p := s.z ≤ 288230376151711744) (by omega), Bool.and_false])
            clear hnx
            go_wp2
            go_ret
            exact ⟨by rw [hf.out]; rfl, Mr.mk' (by repeat (first | (with_reducible exact Mr.refl _) | (with_reducible apply Mr.drew) | (with_reducible apply Mr.alloc) | (with_reducible apply Mr.ext) | (with_reducible refine Mr.setCell ?_ (by first | (simp; done) | (simp; omega) | omega | (refine leOf0 ?_; (repeat (first | (with_reducible exact Mr.refl _) | (with_reducible apply Mr.drew) | (with_reducible apply Mr.alloc) | (with_reducible apply Mr.ext) | (with_reducible refine Mr.setCell ?_ (by first | (simp; done) | (simp; omega) | omega) _))); done) | (refine leOf ?_; (repeat (first | (with_reducible exact Mr.refl _) | (with_reducible apply Mr.drew) | (with_reducible apply Mr.alloc) | (with_reducible apply Mr.ext) | (with_reducible refine Mr.setCell ?_ (by first | (simp; done) | (simp; omega) | omega) _))); done)) _)))⟩
          · have hN := hnx (by unfold val; rw [decide_eq_true (by omega), decide_eq_true (by omega)]; rfl)
            clear hnx hf
            go_wp2
            go_roundw
            case rel => exact ⟨3, by decide, by first | rfl | go_num, by first | rfl | trivial, hN⟩
            case measure => simp [intOf]
    · obtain rfl : k = 3 := by omega
      have hf : Hid (saneS s = (decide (0 ≤ s.t) && decide (s.t ≤ 1099511627776) && decide (0 ≤ s.s) && decide (s.s ≤ 3))) := by
        rw [Hid, sane_vl, HB.out 0 (by omega), HB.out 1 (by omega), HB.out 2 (by omega)]; rfl
      clear HB hlt
      by_cases a1 : 0 ≤ s.t
      · by_cases a2 : s.t ≤ 1099511627776
        · by_cases a3 : 0 ≤ s.s
          · rw [Hid, decide_eq_true a1, decide_eq_true a2, decide_eq_true a3, Bool.true_and, Bool.true_and, Bool.true_and] at hf
            replace hf : Hid _ := hf
            go_wp2
            go_ret
            exact ⟨by rw [hf.out]; rfl, Mr.mk' (by repeat (first | (with_reducible exact Mr.refl _) | (with_reducible apply Mr.drew) | (with_reducible apply Mr.alloc) | (with_reducible apply Mr.ext) | (with_reducible refine Mr.setCell ?_ (by first | (simp; done) | (simp; omega) | omega | (refine leOf0 ?_; (repeat (first | (with_reducible exact Mr.refl _) | (with_reducible apply Mr.drew) | (with_reducible apply Mr.alloc) | (with_reducible apply Mr.ext) | (with_reducible refine Mr.setCell ?_ (by first | (simp; done) | (simp; omega) | omega) _))); done) | (refine leOf ?_; (repeat (first | (with_reducible exact Mr.refl _) | (with_reducible apply Mr.drew) | (with_reducible apply Mr.alloc) | (with_reducible apply Mr.ext) | (with_reducible refine Mr.setCell ?_ (by first | (simp; done) | (simp; omega) | omega) _))); done)) _)))⟩
          · rw [Hid, decide_eq_false a3, Bool.and_false, Bool.false_and] at hf
            replace hf : Hid _ := hf
            go_wp2
            go_ret
            exact ⟨by rw [hf.out]; rfl, Mr.mk' (by repeat (first | (with_reducible exact Mr.refl _) | (with_reducible apply Mr.drew) | (with_reducible apply Mr.alloc) | (with_reducible apply Mr.ext) | (with_reducible refine Mr.setCell ?_ (by first | (simp; done) | (simp; omega) | omega | (refine leOf0 ?_; (repeat (first | (with_reducible exact Mr.refl _) | (with_reducible apply Mr.drew) | (with_reducible apply Mr.alloc) | (with_reducible apply Mr.ext) | (with_reducible refine Mr.setCell ?_ (by first | (simp; done) | (simp; omega) | omega) _))); done) | (refine leOf ?_; (repeat (first | (with_reducible exact Mr.refl _) | (with_reducible apply Mr.drew) | (with_reducible apply Mr.alloc) | (with_reducible apply Mr.ext) | (with_reducible refine Mr.setCell ?_ (by first | (simp; done) | (simp; omega) | omega) _))); done)) _)))⟩
        · rw [Hid, decide_eq_false a2, Bool.and_false, Bool.false_and, Bool.false_and] at hf
          replace hf : Hid _ := hf
          go_wp2
          go_ret
          exact ⟨by rw [hf.out]; rfl, Mr.mk' (by repeat (first | (with_reducible exact Mr.refl _) | (with_reducible apply Mr.drew) | (with_reducible apply Mr.alloc) | (with_reducible apply Mr.ext) | (with_reducible refine Mr.setCell ?_ (by first | (simp; done) | (simp; omega) | omega | (refine leOf0 ?_; (repeat (first | (with_reducible exact Mr.refl _) | (with_reducible apply Mr.drew) | (with_reducible apply Mr.alloc) | (with_reducible apply Mr.ext) | (with_reducible refine Mr.setCell ?_ (by first | (simp; done) | (simp; omega) | omega) _))); done) | (refine leOf ?_; (repeat (first | (with_reducible exact Mr.refl _) | (with_reducible apply Mr.drew) | (with_reducible apply Mr.alloc) | (with_reducible apply Mr.ext) | (with_reducible refine Mr.setCell ?_ (by first | (simp; done) | (simp; omega) | omega) _))); done)) _)))⟩
      · rw [Hid, decide_eq_false a1, Bool.false_and, Bool.false_and, Bool.false_and] at hf
        replace hf : Hid _ := hf
        go_wp2
        go_ret
        exact ⟨by rw [hf.out]; rfl, Mr.mk' (by repeat (first | (with_reducible exact Mr.refl _) | (with_reducible apply Mr.drew) | (with_reducible apply Mr.alloc) | (with_reducible apply Mr.ext) | (with_reducible refine Mr.setCell ?_ (by first | (simp; done) | (simp; omega) | omega | (refine leOf0 ?_; (repeat (first | (with_reducible exact Mr.refl _) | (with_reducible apply Mr.drew) | (with_reducible apply Mr.alloc) | (with_reducible apply Mr.ext) | (with_reducible refine Mr.setCell ?_ (by first | (simp; done) | (simp; omega) | omega) _))); done) | (refine leOf ?_; (repeat (first | (with_reducible exact Mr.refl _) | (with_reducible apply Mr.drew) | (with_reducible apply Mr.alloc) | (with_reducible apply Mr.ext) | (with_reducible refine Mr.setCell ?_ (by first | (simp; done) | (simp; omega) | omega) _))); done)) _)))⟩
theorem five_is {w : World} (B : Nat) (hB : w.heap.size = B) (s : Smp) (vs : Array Value) (hv : vs.toList = (five s).map (Value.int .u64)) : Wl.Is (w.alloc (.cells vs 30)) (some ⟨B, 0, none⟩) 5 (five s) := by
  subst hB
  exact Wl.of_cells (five s) (five_bd s) (by simp [five, maxLen]) vs hv
theorem five_owns {w : World} (B : Nat) (hB : w.heap.size = B) (s : Smp) (vs : Array Value) (hv : vs.toList = (five s).map (Value.int .u64)) : (w.alloc (.cells vs 30)).ownsRow B 30 1 (.slice (some ⟨B, 0, none⟩) 5 5) 5 ((five s).map (Value.int .u64)) := by
  subst hB
  refine ⟨rfl, .inr ⟨w.heap.size, 5, vs, rfl, Nat.le_refl _, by show (w.heap.push _)[w.heap.size]? = _; simp, Nat.le_refl _, by simp [maxLen], ?_, ?_⟩⟩
  · rw [← Array.length_toList, hv]; rfl
  · rw [hv]; rfl
theorem one_at (w : World) (v : Value) (B : Nat) (hB : w.heap.size = B) : ∀ j u, [v][j]? = some u → (w.alloc (.cells #[v] 30)).cell? ((⟨B, 0, none⟩ : Addr).add j) = some u := by
  subst hB
  intro j u hj
  match j, hj with
  | 0, hj => simp at hj; subst hj; simp [Addr.add]
set_option maxRecDepth 100000 in
set_option maxHeartbeats 2000000 in
theorem rwords13_c (s : Smp) (w : World) :
    Calls Tryd.prog 18 #[.agg #[.int .i64 s.t, .int .i64 s.s, .int .i64 s.x, .int .i64 s.y, .int .i64 s.z]] w fun e w' => ∃ a c, e = .returned (.slice a (words s).length c) ∧ ∃ x : Ext w, w' = x.u ∧ Wl.Is x.u a c (words s) := by
  obtain ⟨i0, hi, hz0, hz1, hz2⟩ := info_parts infoU
  cases hs : saneS s
  · rw [words_no hs]
    go_enter Tryd.func18, Tryd.ntmps18
    go_wp2_with (go_at_call 15; refine (rsane13_c s _).mono ?_; rw [hs]; rintro e w' ⟨rfl, x, rfl⟩)
    go_ret
    exact ⟨none, 0, rfl, ⟨_, (by repeat (first | (with_reducible exact Mr.refl _) | (with_reducible apply Mr.drew) | (with_reducible apply Mr.alloc) | (with_reducible apply Mr.ext) | (with_reducible refine Mr.setCell ?_ (by first | (simp; done) | (simp; omega) | omega | (refine leOf0 ?_; (repeat (first | (with_reducible exact Mr.refl _) | (with_reducible apply Mr.drew) | (with_reducible apply Mr.alloc) | (with_reducible apply Mr.ext) | (with_reducible refine Mr.setCell ?_ (by first | (simp; done) | (simp; omega) | omega) _))); done) | (refine leOf ?_; (repeat (first | (with_reducible exact Mr.refl _) | (with_reducible apply Mr.drew) | (with_reducible apply Mr.alloc) | (with_reducible apply Mr.ext) | (with_reducible refine Mr.setCell ?_ (by first | (simp; done) | (simp; omega) | omega) _))); done)) _)))⟩, rfl, Wl.is_nil none (by simp [maxLen]) (fun _ => rfl)⟩
  · obtain ⟨H, hH, hW⟩ := words_is hs
    rw [hW]
    go_enter Tryd.func18, Tryd.ntmps18
    have hHb : 0 ≤ H ∧ H ≤ 18446744073709551615 := by rw [← hH]; exact sm_bd _
    go_wp2_with (first | (go_at_call 15; refine (rsane13_c s _).mono ?_; rw [hs]; rintro e w' ⟨rfl, x, rfl⟩) | (go_at_call 13; refine (rsum13_c _ (five_is _ rfl s _ rfl) rfl).mono ?_; rw [hH]; rintro e w' ⟨rfl, rfl⟩) | (at_builtin; refine wpList_append_own _ rfl _ _ 25 rfl x.u.heap.size 30 i0 (.int .u64 0) 1 8 Tryd.underlying25 hi hz0 hz1 hz2 rfl (by decide) _ _ _ rfl ((five_owns _ rfl s _ rfl).alloc _) ⟨x.u.heap.size + 1, 0, none⟩ 1 1 [.int .u64 H] rfl rfl (one_at _ _ _ (by simp)) (by intro u hu; simp at hu; subst hu; rfl) (by unfold maxLen; omega) (by omega) (by simp; omega) ?_; intro v' w1 hown' hgrow _; have hm1 : Mr w w1 := Mr.grownBy (show Mr w _ from (by repeat (first | (with_reducible exact Mr.refl _) | (with_reducible apply Mr.drew) | (with_reducible apply Mr.alloc) | (with_reducible apply Mr.ext) | (with_reducible refine Mr.setCell ?_ (by first | (simp; done) | (simp; omega) | omega | (refine leOf0 ?_; (repeat (first | (with_reducible exact Mr.refl _) | (with_reducible apply Mr.drew) | (with_reducible apply Mr.alloc) | (with_reducible apply Mr.ext) | (with_reducible refine Mr.setCell ?_ (by first | (simp; done) | (simp; omega) | omega) _))); done) | (refine leOf ?_; (repeat (first | (with_reducible exact Mr.refl _) | (with_reducible apply Mr.drew) | (with_reducible apply Mr.alloc) | (with_reducible apply Mr.ext) | (with_reducible refine Mr.setCell ?_ (by first | (simp; done) | (simp; omega) | omega) _))); done)) _)))) hgrow (fun j e => by have := x.h.below.size; have e2 := Option.some.inj e; simp at this e2; omega)))
    obtain ⟨a, c, rfl, -, hI⟩ := Wl.of_owns (l := five s ++ [H]) (by rw [List.map_append]; exact hown') (fun j => by have := words_bd s j; rw [hW] at this; exact this)
    go_ret
    exact ⟨a, c, rfl, ⟨_, hm1⟩, rfl, hI⟩
end Sp
end Go.Proofs.YthdjldbieajebaaDoor
