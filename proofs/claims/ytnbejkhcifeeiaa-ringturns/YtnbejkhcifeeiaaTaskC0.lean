/- The contracts of package task, first part. -/
import Derived.Test.YtnbejkhcifeeiaaTaskS2
import Derived.Test.YtnbejkhcifeeiaaTaskM3
import Derived.Test.YtnbejkhcifeeiaaCellC
import Derived.Test.YtnbejkhcifeeiaaRefC31
namespace Go.Proofs.Ytnbejkhcifeeiaa
open Go.ChangeShapes Go.WideShapes Go.ChangeAt Go.RowKit
set_option linter.unusedVariables false
set_option linter.unusedSimpArgs false
attribute [local go_sem] Ext.cell Ext.froz Ext.lt Ext.lt1 Ext.lt2 Ext.lt3 Ext.all drew_heap setCell_size Ext.set_size
attribute [-go_sem] Instr.build
namespace Tk
open Wl Ce Rw
theorem modulo_c {n : Int} {count : Nat} (w : World) (hc : 0 < count) (hc2 : count ≤ 1000000) :
    Calls Try.prog 43 #[.int .i64 n, .int .i64 count] w fun e w' => e = .returned (.int .i64 (n % count)) ∧ w' = w := by
  have h1 := Int.emod_nonneg n (b := (count : Int)) (by omega)
  have h2 := Int.emod_lt_of_pos n (b := (count : Int)) (by omega)
  have hc1 : (0 : Int) < count := by omega
  have hc3 : ((count : Int) == 0) = false := by simp; omega
  have e1 : n.tmod count = n % count ∨ n.tmod count = n % count - count := by
    rw [Int.tmod_eq_emod]; split <;> omega
  have e2 : wrap64 (n.tmod count + count) = n.tmod count + count := by unfold wrap64; omega
  have e3 : (n.tmod count + count).tmod count = n % count := by
    rw [Int.tmod_eq_emod, if_pos (by omega)]
    rcases e1 with e | e <;> rw [e] <;> simp
  clear h1 h2 e1
  go_enter Try.func43, Try.ntmps43
  go_wp2
  go_ret
  exact ⟨rfl, rfl⟩
theorem fits_c {k i r g p : Int} {j n : Nat} (w : World) :
    Calls Try.prog 41 #[.agg #[.int .i64 k, .int .i64 i, .int .i64 r, .int .i64 g, .int .u64 p], .int .i64 j, .int .i64 n] w fun e w' => e = .returned (.bool (saneAt n j ⟨k, i, r, g, p⟩)) ∧ ∃ x : Ext w, w' = x.u := by
  have key : ∀ b : Bool, (b = true ↔ (0 ≤ k ∧ k ≤ 6) ∧ (0 ≤ r ∧ r ≤ 31) ∧ (j : Int) < g ∧ g ≤ n) → Ending.returned (.bool b) = .returned (.bool (saneAt n j ⟨k, i, r, g, p⟩)) := fun b h => by
    rw [show saneAt n j ⟨k, i, r, g, p⟩ = b by rw [Bool.eq_iff_iff, saneAt_iff]; exact h.symm]
  go_enter Try.func41, Try.ntmps41
  go_wp2
  all_goals
    go_ret
    refine ⟨key _ ?_, Mr.mk' (by repeat (first | (with_reducible exact Mr.refl _) | (with_reducible apply Mr.drew) | (with_reducible apply Mr.alloc) | (with_reducible apply Mr.ext) | (with_reducible refine Mr.setCell ?_ (by first | (simp; done) | (simp; omega) | omega | (refine leOf0 ?_; (repeat (first | (with_reducible exact Mr.refl _) | (with_reducible apply Mr.drew) | (with_reducible apply Mr.alloc) | (with_reducible apply Mr.ext) | (with_reducible refine Mr.setCell ?_ (by first | (simp; done) | (simp; omega) | omega) _))); done) | (refine leOf ?_; (repeat (first | (with_reducible exact Mr.refl _) | (with_reducible apply Mr.drew) | (with_reducible apply Mr.alloc) | (with_reducible apply Mr.ext) | (with_reducible refine Mr.setCell ?_ (by first | (simp; done) | (simp; omega) | omega) _))); done)) _)))⟩
    simp
    try omega
set_option maxRecDepth 100000 in
set_option maxHeartbeats 2000000 in
theorem tsane_c {a : Option Addr} {c n : Nat} {l : List Ins} (w : World) (h : Inss w a c l) (en : l.length = n) :
    Calls Try.prog 34 #[.slice a n c] w fun e w' => e = .returned (.bool (sane l)) ∧ ∃ x : Ext w, w' = x.u := by
  have m0 := h.1.max
  have k0 := h.1.le
  unfold maxLen at m0
  have hn9 : n ≤ 9223372036854775807 := by omega
  clear m0 k0
  by_cases h1 : 1 ≤ n ∧ n ≤ 200
  · have h2 : ¬ (n : Int) < 1 := by omega
    have h3 : ¬ (200 : Int) < n := by omega
    go_enter Try.func34, Try.ntmps34
    go_wp2
    go_loopw [15] (fun i wr => ∃ j : Nat, j ≤ n ∧ i = .int .i64 j ∧ (∃ y : Ext w, wr = y.u) ∧ Hid (∀ q, q < j → saneAt n q (at' l q) = true)) (fun i _ => n - (intOf i).toNat)
    case atStart => exact ⟨0, by omega, rfl, Mr.mk' (Mr.refl _), fun q hq => by omega⟩
    case round =>
      obtain ⟨j, hj, rfl, ⟨y, rfl⟩, HB⟩ := hrel
      by_cases hlt : j < n
      · have hlt' : (j : Int) < n := by omega
        obtain ⟨b, o, k, ii, r, g, p, rfl, hb, hat, -, hc0, hc1, hc2, hc3, hc4⟩ := (h.mr y.h).num j (by omega)
        by_cases hs : saneAt n j ⟨k, ii, r, g, p⟩ = true
        · have HN : Hid (∀ q, q < j + 1 → saneAt n q (at' l q) = true) := fun q hq => by
            rcases Nat.lt_or_ge q j with f | f
            · exact HB.out q f
            · obtain rfl : q = j := by omega
              rw [hat]; exact hs
          have hs' : Hid _ := hs
          clear hs HB h hat
          go_wp2_with (go_at_call 41; refine (fits_c _).mono ?_; rw [hs'.out]; rintro e w' ⟨rfl, x, rfl⟩)
          go_roundw
          case rel => exact ⟨j + 1, by omega, by first | rfl | simp, Mr.mk' (by repeat (first | (with_reducible exact Mr.refl _) | (with_reducible apply Mr.drew) | (with_reducible apply Mr.alloc) | (with_reducible apply Mr.ext) | (with_reducible refine Mr.setCell ?_ (by first | (simp; done) | (simp; omega) | omega | (refine leOf0 ?_; (repeat (first | (with_reducible exact Mr.refl _) | (with_reducible apply Mr.drew) | (with_reducible apply Mr.alloc) | (with_reducible apply Mr.ext) | (with_reducible refine Mr.setCell ?_ (by first | (simp; done) | (simp; omega) | omega) _))); done) | (refine leOf ?_; (repeat (first | (with_reducible exact Mr.refl _) | (with_reducible apply Mr.drew) | (with_reducible apply Mr.alloc) | (with_reducible apply Mr.ext) | (with_reducible refine Mr.setCell ?_ (by first | (simp; done) | (simp; omega) | omega) _))); done)) _))), HN⟩
          case measure => simp [intOf]; omega
        · have hf : Hid (sane l = false) := by
            rw [Hid, Bool.eq_false_iff]
            intro e
            have := (sane_iff.1 e).1 j (by omega)
            rw [hat, en] at this
            exact hs this
          have hs' : Hid (saneAt n j ⟨k, ii, r, g, p⟩ = false) := (by simpa using hs : saneAt n j ⟨k, ii, r, g, p⟩ = false)
          clear hs HB h hat
          go_wp2_with (go_at_call 41; refine (fits_c _).mono ?_; rw [hs'.out]; rintro e w' ⟨rfl, x, rfl⟩)
          go_ret
          exact ⟨by rw [hf.out]; rfl, Mr.mk' (by repeat (first | (with_reducible exact Mr.refl _) | (with_reducible apply Mr.drew) | (with_reducible apply Mr.alloc) | (with_reducible apply Mr.ext) | (with_reducible refine Mr.setCell ?_ (by first | (simp; done) | (simp; omega) | omega | (refine leOf0 ?_; (repeat (first | (with_reducible exact Mr.refl _) | (with_reducible apply Mr.drew) | (with_reducible apply Mr.alloc) | (with_reducible apply Mr.ext) | (with_reducible refine Mr.setCell ?_ (by first | (simp; done) | (simp; omega) | omega) _))); done) | (refine leOf ?_; (repeat (first | (with_reducible exact Mr.refl _) | (with_reducible apply Mr.drew) | (with_reducible apply Mr.alloc) | (with_reducible apply Mr.ext) | (with_reducible refine Mr.setCell ?_ (by first | (simp; done) | (simp; omega) | omega) _))); done)) _)))⟩
      · obtain rfl : j = n := by omega
        have hf : Hid (sane l = true) := sane_iff.2 ⟨fun q hq => by rw [en] at hq ⊢; exact HB.out q hq, by omega⟩
        clear h HB
        go_wp2
        go_ret
        exact ⟨by rw [hf.out]; rfl, Mr.mk' (by repeat (first | (with_reducible exact Mr.refl _) | (with_reducible apply Mr.drew) | (with_reducible apply Mr.alloc) | (with_reducible apply Mr.ext) | (with_reducible refine Mr.setCell ?_ (by first | (simp; done) | (simp; omega) | omega | (refine leOf0 ?_; (repeat (first | (with_reducible exact Mr.refl _) | (with_reducible apply Mr.drew) | (with_reducible apply Mr.alloc) | (with_reducible apply Mr.ext) | (with_reducible refine Mr.setCell ?_ (by first | (simp; done) | (simp; omega) | omega) _))); done) | (refine leOf ?_; (repeat (first | (with_reducible exact Mr.refl _) | (with_reducible apply Mr.drew) | (with_reducible apply Mr.alloc) | (with_reducible apply Mr.ext) | (with_reducible refine Mr.setCell ?_ (by first | (simp; done) | (simp; omega) | omega) _))); done)) _)))⟩
  · have hf : Hid (sane l = false) := by
      rw [Hid, Bool.eq_false_iff]; intro e; have := (sane_iff.1 e).2; omega
    have h2 : (n : Int) < 1 ∨ (¬ (n : Int) < 1 ∧ (200 : Int) < n) := by omega
    clear h1 h
    rcases h2 with h2 | ⟨h2, h3⟩
    all_goals
      go_enter Try.func34, Try.ntmps34
      go_wp2
      go_ret
      exact ⟨by rw [hf.out]; rfl, Mr.mk' (by repeat (first | (with_reducible exact Mr.refl _) | (with_reducible apply Mr.drew) | (with_reducible apply Mr.alloc) | (with_reducible apply Mr.ext) | (with_reducible refine Mr.setCell ?_ (by first | (simp; done) | (simp; omega) | omega | (refine leOf0 ?_; (repeat (first | (with_reducible exact Mr.refl _) | (with_reducible apply Mr.drew) | (with_reducible apply Mr.alloc) | (with_reducible apply Mr.ext) | (with_reducible refine Mr.setCell ?_ (by first | (simp; done) | (simp; omega) | omega) _))); done) | (refine leOf ?_; (repeat (first | (with_reducible exact Mr.refl _) | (with_reducible apply Mr.drew) | (with_reducible apply Mr.alloc) | (with_reducible apply Mr.ext) | (with_reducible refine Mr.setCell ?_ (by first | (simp; done) | (simp; omega) | omega) _))); done)) _)))⟩
theorem z36_size : (#[Value.slice none 0 0, Value.int IntKind.i64 0, Value.int IntKind.u64 0, Value.int IntKind.u64 0, Value.int IntKind.u64 0, Value.int IntKind.u64 0, Value.int IntKind.u64 0, Value.int IntKind.u64 0, Value.int IntKind.u64 0, Value.int IntKind.u64 0, Value.int IntKind.u64 0, Value.int IntKind.u64 0, Value.int IntKind.u64 0, Value.int IntKind.u64 0, Value.int IntKind.u64 0, Value.int IntKind.u64 0, Value.int IntKind.u64 0, Value.int IntKind.u64 0, Value.int IntKind.u64 0, Value.int IntKind.u64 0, Value.int IntKind.u64 0, Value.int IntKind.u64 0, Value.int IntKind.u64 0, Value.int IntKind.u64 0, Value.int IntKind.u64 0, Value.int IntKind.u64 0, Value.int IntKind.u64 0, Value.int IntKind.u64 0, Value.int IntKind.u64 0, Value.int IntKind.u64 0, Value.int IntKind.u64 0, Value.int IntKind.u64 0, Value.int IntKind.u64 0, Value.int IntKind.u64 0, Value.bool false, Value.int IntKind.i64 0] : Array Value).size = 36 := rfl
set_option maxHeartbeats 1000000 in
theorem done_c {ca : Option Addr} {cc : Nat} {t : T} {z : Int} (w : World) (hT : Tok t) :
    Calls Try.prog 35 #[.agg (TV ca cc t), .int .i64 z] w fun e w' => e = .returned (.agg (TV ca cc { t with done := true, ans := z })) ∧ ∃ x : Ext w, w' = x.u := by
  have h34 := TV_34 (ca := ca) (cc := cc) hT.len
  have h35 := TV_35 (ca := ca) (cc := cc) hT.len
  have hset : ((TV ca cc t).setIfInBounds 34 (.bool true)).setIfInBounds 35 (.int .i64 z) = TV ca cc { t with done := true, ans := z } := by
    rw [TV_set34 hT.len, TV_set35 (t := { t with done := true }) hT.len]
  have hVs := TV_size (ca := ca) (cc := cc) (t := { t with done := true, ans := z }) hT.len
  have hVo := TV_one ca cc { t with done := true, ans := z }
  have hsz := sizeT (ca := ca) (cc := cc) (t := { t with done := true, ans := z }) hT.len
  generalize TV ca cc { t with done := true, ans := z } = V2 at *
  generalize TV ca cc t = V at *
  have hB : Row ((w.alloc (.cells V2 27)).alloc (.cells #[Value.slice none 0 0, Value.int IntKind.i64 0, Value.int IntKind.u64 0, Value.int IntKind.u64 0, Value.int IntKind.u64 0, Value.int IntKind.u64 0, Value.int IntKind.u64 0, Value.int IntKind.u64 0, Value.int IntKind.u64 0, Value.int IntKind.u64 0, Value.int IntKind.u64 0, Value.int IntKind.u64 0, Value.int IntKind.u64 0, Value.int IntKind.u64 0, Value.int IntKind.u64 0, Value.int IntKind.u64 0, Value.int IntKind.u64 0, Value.int IntKind.u64 0, Value.int IntKind.u64 0, Value.int IntKind.u64 0, Value.int IntKind.u64 0, Value.int IntKind.u64 0, Value.int IntKind.u64 0, Value.int IntKind.u64 0, Value.int IntKind.u64 0, Value.int IntKind.u64 0, Value.int IntKind.u64 0, Value.int IntKind.u64 0, Value.int IntKind.u64 0, Value.int IntKind.u64 0, Value.int IntKind.u64 0, Value.int IntKind.u64 0, Value.int IntKind.u64 0, Value.int IntKind.u64 0, Value.bool false, Value.int IntKind.i64 0] 27)) w.heap.size 27 V2 := (Row.new _ _ _).alloc _
  have hZ : Row ((w.alloc (.cells V2 27)).alloc (.cells #[Value.slice none 0 0, Value.int IntKind.i64 0, Value.int IntKind.u64 0, Value.int IntKind.u64 0, Value.int IntKind.u64 0, Value.int IntKind.u64 0, Value.int IntKind.u64 0, Value.int IntKind.u64 0, Value.int IntKind.u64 0, Value.int IntKind.u64 0, Value.int IntKind.u64 0, Value.int IntKind.u64 0, Value.int IntKind.u64 0, Value.int IntKind.u64 0, Value.int IntKind.u64 0, Value.int IntKind.u64 0, Value.int IntKind.u64 0, Value.int IntKind.u64 0, Value.int IntKind.u64 0, Value.int IntKind.u64 0, Value.int IntKind.u64 0, Value.int IntKind.u64 0, Value.int IntKind.u64 0, Value.int IntKind.u64 0, Value.int IntKind.u64 0, Value.int IntKind.u64 0, Value.int IntKind.u64 0, Value.int IntKind.u64 0, Value.int IntKind.u64 0, Value.int IntKind.u64 0, Value.int IntKind.u64 0, Value.int IntKind.u64 0, Value.int IntKind.u64 0, Value.int IntKind.u64 0, Value.bool false, Value.int IntKind.i64 0] 27)) (w.heap.size + 1) 27 #[Value.slice none 0 0, Value.int IntKind.i64 0, Value.int IntKind.u64 0, Value.int IntKind.u64 0, Value.int IntKind.u64 0, Value.int IntKind.u64 0, Value.int IntKind.u64 0, Value.int IntKind.u64 0, Value.int IntKind.u64 0, Value.int IntKind.u64 0, Value.int IntKind.u64 0, Value.int IntKind.u64 0, Value.int IntKind.u64 0, Value.int IntKind.u64 0, Value.int IntKind.u64 0, Value.int IntKind.u64 0, Value.int IntKind.u64 0, Value.int IntKind.u64 0, Value.int IntKind.u64 0, Value.int IntKind.u64 0, Value.int IntKind.u64 0, Value.int IntKind.u64 0, Value.int IntKind.u64 0, Value.int IntKind.u64 0, Value.int IntKind.u64 0, Value.int IntKind.u64 0, Value.int IntKind.u64 0, Value.int IntKind.u64 0, Value.int IntKind.u64 0, Value.int IntKind.u64 0, Value.int IntKind.u64 0, Value.int IntKind.u64 0, Value.int IntKind.u64 0, Value.int IntKind.u64 0, Value.bool false, Value.int IntKind.i64 0] := row_new _ (by simp)
  have hzs : (#[Value.slice none 0 0, Value.int IntKind.i64 0, Value.int IntKind.u64 0, Value.int IntKind.u64 0, Value.int IntKind.u64 0, Value.int IntKind.u64 0, Value.int IntKind.u64 0, Value.int IntKind.u64 0, Value.int IntKind.u64 0, Value.int IntKind.u64 0, Value.int IntKind.u64 0, Value.int IntKind.u64 0, Value.int IntKind.u64 0, Value.int IntKind.u64 0, Value.int IntKind.u64 0, Value.int IntKind.u64 0, Value.int IntKind.u64 0, Value.int IntKind.u64 0, Value.int IntKind.u64 0, Value.int IntKind.u64 0, Value.int IntKind.u64 0, Value.int IntKind.u64 0, Value.int IntKind.u64 0, Value.int IntKind.u64 0, Value.int IntKind.u64 0, Value.int IntKind.u64 0, Value.int IntKind.u64 0, Value.int IntKind.u64 0, Value.int IntKind.u64 0, Value.int IntKind.u64 0, Value.int IntKind.u64 0, Value.int IntKind.u64 0, Value.int IntKind.u64 0, Value.int IntKind.u64 0, Value.bool false, Value.int IntKind.i64 0] : Array Value).size = V2.size := by rw [hVs]; rfl
  replace hVs : Hid _ := hVs
  replace hzs : Hid _ := hzs
  replace hB : Hid _ := hB
  replace hZ : Hid _ := hZ
  go_enter Try.func35, Try.ntmps35
  go_wp2_with (first | (refine wpList_load_row rfl 27 _ rfl w.heap.size rfl 27 _ (0, 0) _ hB.out Try.underlying27 rfl hsz ?_) | (refine wpList_store_row rfl 27 _ _ rfl (w.heap.size + 1) _ rfl rfl 27 _ hZ.out hsz hzs.out hVo ?_))
  exact bodyPost_ret (results_cell_row Try.results35 _ _ (w.heap.size + 1) 27 _ (0, 0) _ rfl (Row.row hZ.out V2) Try.underlying27 rfl hsz) rfl ⟨rfl, Mr.mk' (mr_row (by repeat (first | (with_reducible exact Mr.refl _) | (with_reducible apply Mr.drew) | (with_reducible apply Mr.alloc) | (with_reducible apply Mr.ext) | (with_reducible refine Mr.setCell ?_ (by first | (simp; done) | (simp; omega) | omega | (refine leOf0 ?_; (repeat (first | (with_reducible exact Mr.refl _) | (with_reducible apply Mr.drew) | (with_reducible apply Mr.alloc) | (with_reducible apply Mr.ext) | (with_reducible refine Mr.setCell ?_ (by first | (simp; done) | (simp; omega) | omega) _))); done) | (refine leOf ?_; (repeat (first | (with_reducible exact Mr.refl _) | (with_reducible apply Mr.drew) | (with_reducible apply Mr.alloc) | (with_reducible apply Mr.ext) | (with_reducible refine Mr.setCell ?_ (by first | (simp; done) | (simp; omega) | omega) _))); done)) _))) (by simp) _)⟩
theorem onward_c {B : Nat} (w : World) :
    Calls Try.prog 42 #[.pointer (some ⟨B, 0, none⟩)] w fun e w' => e = .returned (.func (.func 46) #[] #[.pointer (some ⟨w.heap.size, 0, none⟩)]) ∧ w' = w.alloc (.cells #[.pointer (some ⟨B, 0, none⟩)] 74) := by
  go_enter Try.func42, Try.ntmps42
  go_wp2
  go_ret
  exact ⟨rfl, rfl⟩
end Tk
end Go.Proofs.Ytnbejkhcifeeiaa
