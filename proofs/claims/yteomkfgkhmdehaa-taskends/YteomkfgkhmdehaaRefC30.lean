/- The contracts of the document's own answers of layer 12. -/
import Derived.Test.YteomkfgkhmdehaaTaskS
import Derived.Test.YteomkfgkhmdehaaRefC29
namespace Go.Proofs.Yteomkfgkhmdehaa
open Go.ChangeShapes Go.WideShapes Go.ChangeAt Go.RowKit
set_option linter.unusedVariables false
attribute [local go_sem] Ext.cell Ext.froz Ext.lt Ext.lt1 Ext.lt2 Ext.lt3 Ext.all Ext.set_u drew_heap setCell_size Ext.set_size
namespace Tk
open Wl Ce
set_option maxRecDepth 100000 in
set_option maxHeartbeats 2000000 in
theorem rsane12_c {a : Option Addr} {c n : Nat} {l : List Ins} (w : World) (h : Inss w a c l) (en : l.length = n) :
    Calls Try.prog 16 #[.slice a n c] w fun e w' => e = .returned (.bool (sane l)) ∧ ∃ x : Ext w, w' = x.u := by
  have m0 := h.1.max
  have k0 := h.1.le
  unfold maxLen at m0
  have hn9 : n ≤ 9223372036854775807 := by omega
  clear m0 k0
  go_enter Try.func16, Try.ntmps16
  go_wp2
  go_loopw [3] (fun i wr => ∃ j : Nat, j ≤ n ∧ i = .int .i64 j ∧ (∃ y : Ext w, wr = y.u) ∧ Hid (∀ q, q < j → saneAt n q (at' l q) = true)) (fun i _ => n - (intOf i).toNat)
  case atStart => exact ⟨0, by omega, rfl, Mr.mk' (Mr.refl _), fun q hq => by omega⟩
  case round =>
    obtain ⟨j, hj, rfl, ⟨y, rfl⟩, HB⟩ := hrel
    by_cases hlt : j < n
    · have hlt' : (j : Int) < n := by omega
      obtain ⟨b, o, k, ii, r, g, p, rfl, hb, hat, -, hc0, hc1, hc2, hc3, hc4⟩ := (h.mr y.h).num j (by omega)
      by_cases hs : saneAt n j ⟨k, ii, r, g, p⟩ = true
      · have HN : Hid (∀ q, q < j + 1 → saneAt n q (at' l q) = true) := fun q hq => by
          rcases Nat.lt_or_ge q j with f | f
          · exact HB.out q f
          · obtain rfl : q = j := by omega
            rw [hat]; exact hs
        obtain ⟨⟨s1, s2⟩, ⟨s3, s4⟩, s5, s6⟩ := saneAt_iff.1 hs
        simp only at s1 s2 s3 s4 s5 s6
        have s1' : ¬ k < 0 := by omega
        have s2' : ¬ 6 < k := by omega
        have s3' : ¬ r < 0 := by omega
        have s4' : ¬ 31 < r := by omega
        have s5' : ¬ g ≤ j := by omega
        have s6' : ¬ (n : Int) < g := by omega
        clear hs HB h hat
        go_wp2
        go_roundw
        case rel => exact ⟨j + 1, by omega, by first | rfl | simp, Mr.mk' (by repeat (first | (with_reducible exact Mr.refl _) | (with_reducible apply Mr.drew) | (with_reducible apply Mr.alloc) | (with_reducible apply Mr.ext) | (with_reducible refine Mr.setCell ?_ (by first | (simp; done) | (simp; omega) | omega | (refine leOf0 ?_; (repeat (first | (with_reducible exact Mr.refl _) | (with_reducible apply Mr.drew) | (with_reducible apply Mr.alloc) | (with_reducible apply Mr.ext) | (with_reducible refine Mr.setCell ?_ (by first | (simp; done) | (simp; omega) | omega) _))); done) | (refine leOf ?_; (repeat (first | (with_reducible exact Mr.refl _) | (with_reducible apply Mr.drew) | (with_reducible apply Mr.alloc) | (with_reducible apply Mr.ext) | (with_reducible refine Mr.setCell ?_ (by first | (simp; done) | (simp; omega) | omega) _))); done)) _))), HN⟩
        case measure => simp [intOf]; omega
      · have hf : Hid (sane l = false) := by
          rw [Hid, Bool.eq_false_iff]
          intro e
          have := (sane_iff.1 e).1 j (by omega)
          rw [hat, en] at this
          exact hs this
        have hN : ¬ ((0 ≤ k ∧ k ≤ 6) ∧ (0 ≤ r ∧ r ≤ 31) ∧ (j : Int) < g ∧ g ≤ n) := fun e => hs (saneAt_iff.2 e)
        clear hs HB h hat
        have hcase : k < 0 ∨ (¬ k < 0 ∧ 6 < k) ∨ (¬ k < 0 ∧ ¬ 6 < k ∧ r < 0) ∨ (¬ k < 0 ∧ ¬ 6 < k ∧ ¬ r < 0 ∧ 31 < r) ∨ (¬ k < 0 ∧ ¬ 6 < k ∧ ¬ r < 0 ∧ ¬ 31 < r ∧ g ≤ j) ∨ (¬ k < 0 ∧ ¬ 6 < k ∧ ¬ r < 0 ∧ ¬ 31 < r ∧ ¬ g ≤ j ∧ (n : Int) < g) := by omega
        clear hN
        rcases hcase with q1 | ⟨q1, q2⟩ | ⟨q1, q2, q3⟩ | ⟨q1, q2, q3, q4⟩ | ⟨q1, q2, q3, q4, q5⟩ | ⟨q1, q2, q3, q4, q5, q6⟩
        all_goals
          go_wp2
          go_ret
          exact ⟨by rw [hf.out]; rfl, Mr.mk' (by repeat (first | (with_reducible exact Mr.refl _) | (with_reducible apply Mr.drew) | (with_reducible apply Mr.alloc) | (with_reducible apply Mr.ext) | (with_reducible refine Mr.setCell ?_ (by first | (simp; done) | (simp; omega) | omega | (refine leOf0 ?_; (repeat (first | (with_reducible exact Mr.refl _) | (with_reducible apply Mr.drew) | (with_reducible apply Mr.alloc) | (with_reducible apply Mr.ext) | (with_reducible refine Mr.setCell ?_ (by first | (simp; done) | (simp; omega) | omega) _))); done) | (refine leOf ?_; (repeat (first | (with_reducible exact Mr.refl _) | (with_reducible apply Mr.drew) | (with_reducible apply Mr.alloc) | (with_reducible apply Mr.ext) | (with_reducible refine Mr.setCell ?_ (by first | (simp; done) | (simp; omega) | omega) _))); done)) _)))⟩
    · obtain rfl : j = n := by omega
      have hf : Hid (sane l = (decide (1 ≤ j) && decide (j ≤ 200))) := by
        rw [Hid]
        unfold sane
        rw [en, List.all_eq_true.2 (fun q hq => HB.out q (List.mem_range.1 hq)), Bool.true_and]
      clear h HB
      by_cases h1 : 1 ≤ j
      · have h1' : (1 : Int) ≤ j := by omega
        by_cases h2 : j ≤ 200
        · have h2' : (j : Int) ≤ 200 := by omega
          go_wp2
          go_ret
          exact ⟨by rw [hf.out]; simp [h1, h2], Mr.mk' (by repeat (first | (with_reducible exact Mr.refl _) | (with_reducible apply Mr.drew) | (with_reducible apply Mr.alloc) | (with_reducible apply Mr.ext) | (with_reducible refine Mr.setCell ?_ (by first | (simp; done) | (simp; omega) | omega | (refine leOf0 ?_; (repeat (first | (with_reducible exact Mr.refl _) | (with_reducible apply Mr.drew) | (with_reducible apply Mr.alloc) | (with_reducible apply Mr.ext) | (with_reducible refine Mr.setCell ?_ (by first | (simp; done) | (simp; omega) | omega) _))); done) | (refine leOf ?_; (repeat (first | (with_reducible exact Mr.refl _) | (with_reducible apply Mr.drew) | (with_reducible apply Mr.alloc) | (with_reducible apply Mr.ext) | (with_reducible refine Mr.setCell ?_ (by first | (simp; done) | (simp; omega) | omega) _))); done)) _)))⟩
        · have h2' : ¬ (j : Int) ≤ 200 := by omega
          go_wp2
          go_ret
          exact ⟨by rw [hf.out]; simp [h1, h2], Mr.mk' (by repeat (first | (with_reducible exact Mr.refl _) | (with_reducible apply Mr.drew) | (with_reducible apply Mr.alloc) | (with_reducible apply Mr.ext) | (with_reducible refine Mr.setCell ?_ (by first | (simp; done) | (simp; omega) | omega | (refine leOf0 ?_; (repeat (first | (with_reducible exact Mr.refl _) | (with_reducible apply Mr.drew) | (with_reducible apply Mr.alloc) | (with_reducible apply Mr.ext) | (with_reducible refine Mr.setCell ?_ (by first | (simp; done) | (simp; omega) | omega) _))); done) | (refine leOf ?_; (repeat (first | (with_reducible exact Mr.refl _) | (with_reducible apply Mr.drew) | (with_reducible apply Mr.alloc) | (with_reducible apply Mr.ext) | (with_reducible refine Mr.setCell ?_ (by first | (simp; done) | (simp; omega) | omega) _))); done)) _)))⟩
      · have h1' : ¬ (1 : Int) ≤ j := by omega
        go_wp2
        go_ret
        exact ⟨by rw [hf.out]; simp [h1], Mr.mk' (by repeat (first | (with_reducible exact Mr.refl _) | (with_reducible apply Mr.drew) | (with_reducible apply Mr.alloc) | (with_reducible apply Mr.ext) | (with_reducible refine Mr.setCell ?_ (by first | (simp; done) | (simp; omega) | omega | (refine leOf0 ?_; (repeat (first | (with_reducible exact Mr.refl _) | (with_reducible apply Mr.drew) | (with_reducible apply Mr.alloc) | (with_reducible apply Mr.ext) | (with_reducible refine Mr.setCell ?_ (by first | (simp; done) | (simp; omega) | omega) _))); done) | (refine leOf ?_; (repeat (first | (with_reducible exact Mr.refl _) | (with_reducible apply Mr.drew) | (with_reducible apply Mr.alloc) | (with_reducible apply Mr.ext) | (with_reducible refine Mr.setCell ?_ (by first | (simp; done) | (simp; omega) | omega) _))); done)) _)))⟩
theorem and31 (n : Int) : bits .and .i64 n 31 = n % 32 := by
  have h : (BitVec.ofInt 64 31).toNat = 2 ^ 5 - 1 := by decide
  have key : (BitVec.ofInt 64 n &&& BitVec.ofInt 64 31).toNat = (n % ((2 ^ 64 : Nat) : Int)).toNat % 2 ^ 5 := by
    rw [BitVec.toNat_and, BitVec.toNat_ofInt, h, Nat.and_two_pow_sub_one_eq_mod]
  show IntKind.i64.wrap ((BitVec.ofInt 64 n &&& BitVec.ofInt 64 31).toNat : Nat) = _
  rw [key, IntKind.wrap_i64]
  omega
theorem andu1 (n : Int) : bits .and .u64 n 1 = n % 2 := by
  have h : (BitVec.ofInt 64 1).toNat = 2 ^ 1 - 1 := by decide
  have key : (BitVec.ofInt 64 n &&& BitVec.ofInt 64 1).toNat = (n % ((2 ^ 64 : Nat) : Int)).toNat % 2 ^ 1 := by
    rw [BitVec.toNat_and, BitVec.toNat_ofInt, h, Nat.and_two_pow_sub_one_eq_mod]
  show IntKind.u64.wrap ((BitVec.ofInt 64 n &&& BitVec.ofInt 64 1).toNat : Nat) = _
  rw [key, IntKind.wrap_u64]
  omega
attribute [local go_sem] and31 andu1
set_option maxRecDepth 100000 in
set_option maxHeartbeats 2000000 in
theorem rjump12_c {ca : Option Addr} {cc : Nat} {t : T} {k i r g p : Int} (w : World) (ht : Tok t) (hr : 0 ≤ r ∧ r ≤ 31) :
    Calls Try.prog 41 #[.agg (TV ca cc t), .agg #[.int .i64 k, .int .i64 i, .int .i64 r, .int .i64 g, .int .u64 p]] w fun e w' => e = .returned (.bool (jump t ⟨k, i, r, g, p⟩)) ∧ ∃ x : Ext w, w' = x.u := by
  obtain ⟨q, rfl⟩ := Int.eq_ofNat_of_zero_le hr.1
  obtain ⟨j, hj⟩ := Int.eq_ofNat_of_zero_le (show 0 ≤ i % 32 by omega)
  have hq : q < 32 := by omega
  have hj2 : j < 32 := by omega
  have h1 := TV_R (ca := ca) (cc := cc) ht.len hq
  have h2 := TV_R (ca := ca) (cc := cc) ht.len hj2
  have hs := TV_size (ca := ca) (cc := cc) ht.len
  have hq' : (q : Int) < 32 := by omega
  have hj' : (j : Int) < 32 := by omega
  have hJ : Hid (jump t ⟨k, i, q, g, p⟩ = if k = 3 then decide (gt t.R q = p) else if k = 4 then decide (gt t.R q % 2 = 1) else decide (gt t.R q = gt t.R j)) := by
    unfold jump; simp only [Hid, Int.toNat_natCast, hj]
  clear ht
  generalize gt t.R q = G at *
  generalize gt t.R j = G2 at *
  generalize TV ca cc t = V at *
  by_cases k3 : k = 3
  · subst k3
    go_enter Try.func41, Try.ntmps41
    go_wp2
    go_ret
    exact ⟨by rw [hJ.out]; rfl, Mr.mk' (by repeat (first | (with_reducible exact Mr.refl _) | (with_reducible apply Mr.drew) | (with_reducible apply Mr.alloc) | (with_reducible apply Mr.ext) | (with_reducible refine Mr.setCell ?_ (by first | (simp; done) | (simp; omega) | omega | (refine leOf0 ?_; (repeat (first | (with_reducible exact Mr.refl _) | (with_reducible apply Mr.drew) | (with_reducible apply Mr.alloc) | (with_reducible apply Mr.ext) | (with_reducible refine Mr.setCell ?_ (by first | (simp; done) | (simp; omega) | omega) _))); done) | (refine leOf ?_; (repeat (first | (with_reducible exact Mr.refl _) | (with_reducible apply Mr.drew) | (with_reducible apply Mr.alloc) | (with_reducible apply Mr.ext) | (with_reducible refine Mr.setCell ?_ (by first | (simp; done) | (simp; omega) | omega) _))); done)) _)))⟩
  · by_cases k4 : k = 4
    · subst k4
      go_enter Try.func41, Try.ntmps41
      go_wp2
      go_ret
      exact ⟨by rw [hJ.out]; rfl, Mr.mk' (by repeat (first | (with_reducible exact Mr.refl _) | (with_reducible apply Mr.drew) | (with_reducible apply Mr.alloc) | (with_reducible apply Mr.ext) | (with_reducible refine Mr.setCell ?_ (by first | (simp; done) | (simp; omega) | omega | (refine leOf0 ?_; (repeat (first | (with_reducible exact Mr.refl _) | (with_reducible apply Mr.drew) | (with_reducible apply Mr.alloc) | (with_reducible apply Mr.ext) | (with_reducible refine Mr.setCell ?_ (by first | (simp; done) | (simp; omega) | omega) _))); done) | (refine leOf ?_; (repeat (first | (with_reducible exact Mr.refl _) | (with_reducible apply Mr.drew) | (with_reducible apply Mr.alloc) | (with_reducible apply Mr.ext) | (with_reducible refine Mr.setCell ?_ (by first | (simp; done) | (simp; omega) | omega) _))); done)) _)))⟩
    · have e3 : (k == 3) = false := by simpa using k3
      have e4 : (k == 4) = false := by simpa using k4
      rw [Hid, if_neg k3, if_neg k4] at hJ
      have hJ : Hid _ := hJ
      clear k3 k4
      go_enter Try.func41, Try.ntmps41
      go_wp2
      go_ret
      exact ⟨by rw [hJ.out]; rfl, Mr.mk' (by repeat (first | (with_reducible exact Mr.refl _) | (with_reducible apply Mr.drew) | (with_reducible apply Mr.alloc) | (with_reducible apply Mr.ext) | (with_reducible refine Mr.setCell ?_ (by first | (simp; done) | (simp; omega) | omega | (refine leOf0 ?_; (repeat (first | (with_reducible exact Mr.refl _) | (with_reducible apply Mr.drew) | (with_reducible apply Mr.alloc) | (with_reducible apply Mr.ext) | (with_reducible refine Mr.setCell ?_ (by first | (simp; done) | (simp; omega) | omega) _))); done) | (refine leOf ?_; (repeat (first | (with_reducible exact Mr.refl _) | (with_reducible apply Mr.drew) | (with_reducible apply Mr.alloc) | (with_reducible apply Mr.ext) | (with_reducible refine Mr.setCell ?_ (by first | (simp; done) | (simp; omega) | omega) _))); done)) _)))⟩
open Rw
set_option maxRecDepth 100000 in
set_option maxHeartbeats 4000000 in
theorem rrest12_c {ca : Option Addr} {cc : Nat} {t : T} (w : World) (h : Tis w ca cc t) (hs : sane t.code = true) :
    Calls Try.prog 33 #[.agg (TV ca cc t)] w fun e w' => e = .returned (.agg (TV ca cc (rest t))) ∧ ∃ x : Ext w, w' = x.u := by
  have hl := (sane_iff.1 hs).2.2
  obtain ⟨hI, hT⟩ := h
  obtain ⟨V, hV⟩ : ∃ V, TV ca cc t = V := ⟨_, rfl⟩
  have hB0 : Row (w.alloc (.cells V 37)) w.heap.size 37 V := Row.new _ _ _
  rw [hV]
  go_enter Try.func33, Try.ntmps33
  go_wp2
  go_loopw [] (fun wr => ∃ (n : Nat) (t' : T), Tk.rs n t' = rest t ∧ t'.code = t.code ∧ Tok t' ∧ (0 ≤ t'.pc → (t.code.length : Int) - t'.pc < n) ∧ 0 < n ∧ Mr w wr ∧ Row wr w.heap.size 37 (TV ca cc t') ∧ ∃ Z : Array Value, Row wr (w.heap.size + 1) 37 Z ∧ Z.size = 36) (fun wr => ((t.code.length : Int) - intOf ((wr.cell? ⟨w.heap.size, 1, none⟩).getD undef)).toNat)
  case atStart => exact ⟨t.code.length + 1, t, rfl, rfl, hT, by omega, by omega, (by repeat (first | (with_reducible exact Mr.refl _) | (with_reducible apply Mr.drew) | (with_reducible apply Mr.alloc) | (with_reducible apply Mr.ext) | (with_reducible refine Mr.setCell ?_ (by first | (simp; done) | (simp; omega) | omega | (refine leOf0 ?_; (repeat (first | (with_reducible exact Mr.refl _) | (with_reducible apply Mr.drew) | (with_reducible apply Mr.alloc) | (with_reducible apply Mr.ext) | (with_reducible refine Mr.setCell ?_ (by first | (simp; done) | (simp; omega) | omega) _))); done) | (refine leOf ?_; (repeat (first | (with_reducible exact Mr.refl _) | (with_reducible apply Mr.drew) | (with_reducible apply Mr.alloc) | (with_reducible apply Mr.ext) | (with_reducible refine Mr.setCell ?_ (by first | (simp; done) | (simp; omega) | omega) _))); done)) _))), by rw [hV]; exact hB0.alloc _, _, row_new _ (by simp), rfl⟩
  case round =>
    obtain ⟨n, t', hrs, hcode, hT', hfuel, hn, hm, hrow, Z, hZ, hZs⟩ := hrel
    clear hB0
    have hB := hrow.lt
    have hB1 := hZ.lt
    have hc0 := (hrow.cell 0).trans (TV_0 _ _ _)
    have hc1 := (hrow.cell 1).trans (TV_1 _ _ _)
    have hc34 := (hrow.cell 34).trans (TV_34 hT'.len)
    have hf1 := hrow.froz 1
    have hf34 := hrow.froz 34
    have hf35 := hrow.froz 35
    have hc35 := (hrow.cell 35).trans (TV_35 hT'.len)
    have hsz := sizeT (ca := ca) (cc := cc) hT'.len
    have hzs : Z.size = (TV ca cc t').size := by rw [hZs, TV_size hT'.len]
    rw [hcode] at hc0
    obtain ⟨N, eN⟩ : ∃ N, t.code.length = N := ⟨_, rfl⟩
    rw [eN] at hc0
    obtain ⟨n, rfl⟩ : ∃ m, n = m + 1 := ⟨n - 1, by omega⟩
    cases hd : t'.done
    · rw [hd] at hc34
      by_cases hp : t'.pc < 0 ∨ (N : Int) ≤ t'.pc
      · have he : Hid (rest t = { t' with done := true, ans := -1 }) := by
          rw [Hid, ← hrs]; unfold Tk.rs; rw [if_neg (by rw [hd]; decide), if_pos (by rw [hcode, eN]; exact hp)]
        have hrow2 : Hid (Row ((wr.setCell ⟨w.heap.size, 34, none⟩ (.bool true)).setCell ⟨w.heap.size, 35, none⟩ (.int .i64 (-1))) w.heap.size 37 (TV ca cc { t' with done := true, ans := -1 })) := by
          have := (hrow.set 34 (.bool true)).set 35 (.int .i64 (-1))
          rw [TV_set34 hT'.len, TV_set35 (t := { t' with done := true }) hT'.len] at this
          exact this
        have hZ2 : Hid (Row ((wr.setCell ⟨w.heap.size, 34, none⟩ (.bool true)).setCell ⟨w.heap.size, 35, none⟩ (.int .i64 (-1))) (w.heap.size + 1) 37 Z) := (hZ.set_ne (a := ⟨w.heap.size, 34, none⟩) (by simp) _).set_ne (a := ⟨w.heap.size, 35, none⟩) (by simp) _
        have hsz2 := sizeT (ca := ca) (cc := cc) (t := { t' with done := true, ans := -1 }) hT'.len
        have hzs2 : Z.size = (TV ca cc { t' with done := true, ans := -1 }).size := by rw [hZs, TV_size (t := { t' with done := true, ans := -1 }) hT'.len]
        have hpc : t'.pc < 0 ∨ (¬ t'.pc < 0 ∧ (N : Int) ≤ t'.pc) := by omega
        clear hrs hfuel hrow hZ hI hp
        generalize t'.pc = pc at *
        rcases hpc with h1 | ⟨h1, h2⟩
        all_goals
          go_wp2_with (first | (refine wpList_load_row rfl 37 _ rfl w.heap.size rfl 37 _ (0, 0) _ hrow2.out Try.underlying37 rfl hsz2 ?_) | (refine wpList_store_row rfl 37 _ _ rfl (w.heap.size + 1) _ rfl rfl 37 _ hZ2.out hsz2 hzs2 (TV_one _ _ _) ?_))
          exact bodyPost_ret (results_cell_row Try.results33 _ _ (w.heap.size + 1) 37 _ (0, 0) _ rfl (Row.row hZ2.out _) Try.underlying37 rfl hsz2) rfl ⟨by first | (rw [he.out]; done) | (rw [he.out, hcode]; done) | (rw [he.out, hcode, hq]; done), Mr.mk' (mr_row ((hm.setCell (by simp) _).setCell (by simp) _) (by omega) _)⟩
      · obtain ⟨q, hq⟩ := Int.eq_ofNat_of_zero_le (show 0 ≤ t'.pc by omega)
        have hqN : q < N := by omega
        have hqN' : (q : Int) < N := by omega
        obtain ⟨b, o, k, i, r, g, p, rfl, hb, hat, hok, hx0, hx1, hx2, hx3, hx4⟩ := (hI.mr hm).num q (by omega)
        have hsane := saneAt_iff.1 ((sane_iff.1 hs).1 q (by omega))
        rw [hat, eN] at hsane
        obtain ⟨⟨hk0, hk6⟩, hr, hg1, hg2⟩ := hsane
        simp only at hk0 hk6 hr hg1 hg2
        have hat' : at' t'.code t'.pc.toNat = ⟨k, i, r, g, p⟩ := by rw [hq, hcode]; exact hat
        have hrs' : Tk.rs (n + 1) t' = if k ≤ 2 then t' else if k = 6 then { t' with done := true, ans := wrap64 p } else if jump t' ⟨k, i, r, g, p⟩ then Tk.rs n { t' with pc := g } else Tk.rs n { t' with pc := (q : Int) + 1 } := by
          rw [Tk.rs, if_neg (by rw [hd]; decide), if_neg (by rw [hcode, eN]; exact hp)]
          simp only [hat']
          rw [hq]
        rw [hrs] at hrs'
        rw [hq] at hc1
        have hbne : ¬ b = wr.heap.size := by omega
        by_cases h2 : k ≤ 2
        · have he : Hid (rest t = t') := by rw [Hid, hrs', if_pos h2]
          have hrow' : Hid (Row (wr.alloc (.cells #[.int .i64 k, .int .i64 i, .int .i64 r, .int .i64 g, .int .u64 p] 49)) w.heap.size 37 (TV (some ⟨b, o, none⟩) cc t')) := hrow.alloc _
          have hZ' : Hid (Row (wr.alloc (.cells #[.int .i64 k, .int .i64 i, .int .i64 r, .int .i64 g, .int .u64 p] 49)) (w.heap.size + 1) 37 Z) := hZ.alloc _
          clear hrs hrs' hfuel hrow hZ hI hp
          go_wp2_with (first | (refine wpList_load_row rfl 37 _ rfl w.heap.size rfl 37 _ (0, 0) _ hrow'.out Try.underlying37 rfl hsz ?_) | (refine wpList_store_row rfl 37 _ _ rfl (w.heap.size + 1) _ rfl rfl 37 _ hZ'.out hsz hzs (TV_one _ _ _) ?_))
          exact bodyPost_ret (results_cell_row Try.results33 _ _ (w.heap.size + 1) 37 _ (0, 0) _ rfl (Row.row hZ'.out _) Try.underlying37 rfl hsz) rfl ⟨by first | (rw [he.out]; done) | (rw [he.out, hcode]; done) | (rw [he.out, hcode, hq]; done), Mr.mk' (mr_row (hm.alloc _) (by omega) _)⟩
        · rw [if_neg h2] at hrs'
          have h2' : ¬ k ≤ 2 := h2
          by_cases k6 : k = 6
          · subst k6
            have he : Hid (rest t = { t' with done := true, ans := wrap64 p }) := by rw [Hid, hrs', if_pos rfl]
            have hrow' : Hid (Row (((wr.setCell ⟨w.heap.size, 34, none⟩ (.bool true)).setCell ⟨w.heap.size, 35, none⟩ (.int .i64 (wrap64 p))).alloc (.cells #[.int .i64 6, .int .i64 i, .int .i64 r, .int .i64 g, .int .u64 p] 49)) w.heap.size 37 (TV (some ⟨b, o, none⟩) cc { t' with done := true, ans := wrap64 p })) := by
              have := (hrow.set 34 (.bool true)).set 35 (.int .i64 (wrap64 p))
              rw [TV_set34 hT'.len, TV_set35 (t := { t' with done := true }) hT'.len] at this
              exact this.alloc _
            have hZ' : Hid (Row (((wr.setCell ⟨w.heap.size, 34, none⟩ (.bool true)).setCell ⟨w.heap.size, 35, none⟩ (.int .i64 (wrap64 p))).alloc (.cells #[.int .i64 6, .int .i64 i, .int .i64 r, .int .i64 g, .int .u64 p] 49)) (w.heap.size + 1) 37 Z) := ((hZ.set_ne (a := ⟨w.heap.size, 34, none⟩) (by simp) _).set_ne (a := ⟨w.heap.size, 35, none⟩) (by simp) _).alloc _
            have hsz2 := sizeT (ca := some ⟨b, o, none⟩) (cc := cc) (t := { t' with done := true, ans := wrap64 p }) hT'.len
            have hzs2 : Z.size = (TV (some ⟨b, o, none⟩) cc { t' with done := true, ans := wrap64 p }).size := by rw [hZs, TV_size (t := { t' with done := true, ans := wrap64 p }) hT'.len]
            clear hrs hrs' hfuel hrow hZ hI hp
            go_wp2_with (first | (refine wpList_load_row rfl 37 _ rfl w.heap.size rfl 37 _ (0, 0) _ hrow'.out Try.underlying37 rfl hsz2 ?_) | (refine wpList_store_row rfl 37 _ _ rfl (w.heap.size + 1) _ rfl rfl 37 _ hZ'.out hsz2 hzs2 (TV_one _ _ _) ?_))
            exact bodyPost_ret (results_cell_row Try.results33 _ _ (w.heap.size + 1) 37 _ (0, 0) _ rfl (Row.row hZ'.out _) Try.underlying37 rfl hsz2) rfl ⟨by first | (rw [he.out]; done) | (rw [he.out, hcode]; done) | (rw [he.out, hcode, hq]; done), Mr.mk' (mr_row (((hm.setCell (by simp) _).setCell (by simp) _).alloc _) (by omega) _)⟩
          · have e6 : (k == 6) = false := by simpa using k6
            rw [if_neg k6] at hrs'
            have hrow' : Hid (Row (wr.alloc (.cells #[.int .i64 k, .int .i64 i, .int .i64 r, .int .i64 g, .int .u64 p] 49)) w.heap.size 37 (TV (some ⟨b, o, none⟩) cc t')) := hrow.alloc _
            have hZ' : Hid (Row (wr.alloc (.cells #[.int .i64 k, .int .i64 i, .int .i64 r, .int .i64 g, .int .u64 p] 49)) (w.heap.size + 1) 37 Z) := hZ.alloc _
            have hrs' : Hid _ := hrs'
            have hfuel' : Hid _ := hfuel
            obtain ⟨J, hJ⟩ : ∃ J, jump t' ⟨k, i, r, g, p⟩ = J := ⟨_, rfl⟩
            clear hrs hfuel hrow hZ hI hp
            cases J
            · go_wp2_with (first | (refine wpList_load_row rfl 37 _ rfl w.heap.size rfl 37 _ (0, 0) _ hrow'.out Try.underlying37 rfl hsz ?_) | (go_at_call 41; refine (rjump12_c _ hT' hr).mono ?_; rw [hJ]; rintro e w' ⟨rfl, x, rfl⟩))
              have hr5 := (hrow'.out.mr x.h).set 1 (.int .i64 ((q : Int) + 1))
              rw [TV_set1] at hr5
              have hZ5 := (hZ'.out.mr x.h).set_ne (a := ⟨w.heap.size, 1, none⟩) (by simp) (.int .i64 ((q : Int) + 1))
              have e5 := (hr5.cell 1).trans (TV_1 _ _ _)
              refine ⟨⟨n, { t' with pc := (q : Int) + 1 }, ?_, hcode, ⟨hT'.len, hT'.reg, ⟨by simp only; omega, by simp only; omega⟩, hT'.ans⟩, ?_, ?_, ((hm.alloc _).ext x).setCell (by simp) _, hr5, Z, hZ5, hZs⟩, ?_⟩
              · rw [hrs'.out, hJ]; rfl
              · intro _; have := hfuel'.out (by omega); simp only; omega
              · have := hfuel'.out (by omega); omega
              · have e6' : (((x.set ⟨w.heap.size, 1, none⟩ (.int .i64 ((q : Int) + 1))).u.cell? ⟨w.heap.size, 1, none⟩).getD undef) = .int .i64 ((q : Int) + 1) := by rw [show (x.set ⟨w.heap.size, 1, none⟩ (.int .i64 ((q : Int) + 1))).u.cell? ⟨w.heap.size, 1, none⟩ = _ from e5]; rfl
                rw [e6', hc1]
                simp only [Option.getD_some, intOf]
                omega
            · go_wp2_with (first | (refine wpList_load_row rfl 37 _ rfl w.heap.size rfl 37 _ (0, 0) _ hrow'.out Try.underlying37 rfl hsz ?_) | (go_at_call 41; refine (rjump12_c _ hT' hr).mono ?_; rw [hJ]; rintro e w' ⟨rfl, x, rfl⟩))
              have hr5 := (hrow'.out.mr x.h).set 1 (.int .i64 g)
              rw [TV_set1] at hr5
              have hZ5 := (hZ'.out.mr x.h).set_ne (a := ⟨w.heap.size, 1, none⟩) (by simp) (.int .i64 g)
              have e5 := (hr5.cell 1).trans (TV_1 _ _ _)
              refine ⟨⟨n, { t' with pc := g }, ?_, hcode, ⟨hT'.len, hT'.reg, ⟨by simp only; omega, by simp only; omega⟩, hT'.ans⟩, ?_, ?_, ((hm.alloc _).ext x).setCell (by simp) _, hr5, Z, hZ5, hZs⟩, ?_⟩
              · rw [hrs'.out, hJ]; rfl
              · intro _; have := hfuel'.out (by omega); simp only; omega
              · have := hfuel'.out (by omega); omega
              · have e6' : (((x.set ⟨w.heap.size, 1, none⟩ (.int .i64 g)).u.cell? ⟨w.heap.size, 1, none⟩).getD undef) = .int .i64 g := by rw [show (x.set ⟨w.heap.size, 1, none⟩ (.int .i64 g)).u.cell? ⟨w.heap.size, 1, none⟩ = _ from e5]; rfl
                rw [e6', hc1]
                simp only [Option.getD_some, intOf]
                omega
    · rw [hd] at hc34
      have he : Hid (rest t = t') := by
        rw [Hid, ← hrs]; unfold Tk.rs; rw [if_pos hd]
      have hrow' : Hid _ := hrow
      have hZ' : Hid _ := hZ
      clear hrs hfuel hrow hZ hI
      go_wp2_with (first | (refine wpList_load_row rfl 37 _ rfl w.heap.size rfl 37 _ (0, 0) _ hrow'.out Try.underlying37 rfl hsz ?_) | (refine wpList_store_row rfl 37 _ _ rfl (w.heap.size + 1) _ rfl rfl 37 _ hZ'.out hsz hzs (TV_one _ _ _) ?_))
      exact bodyPost_ret (results_cell_row Try.results33 _ _ (w.heap.size + 1) 37 _ (0, 0) _ rfl (Row.row hZ'.out _) Try.underlying37 rfl hsz) rfl ⟨by first | (rw [he.out]; done) | (rw [he.out, hcode]; done) | (rw [he.out, hcode, hq]; done), Mr.mk' (mr_row hm (by omega) _)⟩
end Tk
end Go.Proofs.Yteomkfgkhmdehaa
