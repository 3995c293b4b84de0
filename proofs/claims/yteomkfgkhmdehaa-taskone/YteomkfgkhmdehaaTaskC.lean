/- The contracts of package task, last part: Steps, Run. -/
import Derived.Test.YteomkfgkhmdehaaTaskC5
import Derived.Test.YteomkfgkhmdehaaTaskS2
import Derived.Test.YteomkfgkhmdehaaSumS
import Derived.Test.YteomkfgkhmdehaaRefC35
import Derived.Deep.RegionHeld3
import Derived.Laws.Cover3
namespace Go.Proofs.Yteomkfgkhmdehaa
open Go.ChangeShapes Go.WideShapes Go.ChangeAt Go.RowKit
set_option linter.unusedVariables false
set_option linter.unusedSimpArgs false
attribute [local go_sem] Ext.cell Ext.froz Ext.lt Ext.lt1 Ext.lt2 Ext.lt3 Ext.all drew_heap setCell_size Ext.set_size
attribute [-go_sem] Instr.build
namespace Tk
open Wl Ce Rw
set_option maxRecDepth 100000 in
set_option maxHeartbeats 4000000 in
theorem tsteps_c {ca a : Option Addr} {cc c n : Nat} {t : T} {m : List Int} {z : Int} (w : World) (h : Tis w ca cc t) (g : Wl.Is w a c m) (en : m.length = n) (hz : -9223372036854775808 ≤ z ∧ z ≤ 9223372036854775807) :
    Calls Try.prog 22 #[.agg (TV ca cc t), .slice a n c, .int .i64 z] w fun e w' => ∃ ca' cc' a' c', e = .returned (.tuple #[.agg (TV ca' cc' (runT (most z) t m).1), .slice a' (cut m).length c', .int .i64 ((runT (most z) t m).2.2 : Int)]) ∧ ∃ x : Ext w, w' = x.u ∧ Wl.Is x.u a' c' (runT (most z) t m).2.1 ∧ Tis x.u ca' cc' (runT (most z) t m).1 := by
  have hb := g.bd
  obtain ⟨V, hV⟩ : ∃ V, TV ca cc t = V := ⟨_, rfl⟩
  rw [hV]
  go_enter Try.func22, Try.ntmps22
  obtain ⟨K, hK⟩ : ∃ K, most z = K := ⟨_, rfl⟩
  have hK6 : K ≤ 1000 := by rw [← hK]; exact most_le z
  obtain ⟨N, hN⟩ : ∃ N, (cut m).length = N := ⟨_, rfl⟩
  have hB0 : Hid (Row ((w.alloc (.cells V 37)).alloc (.cells #[Value.slice none 0 0, Value.int IntKind.i64 0, Value.int IntKind.u64 0, Value.int IntKind.u64 0, Value.int IntKind.u64 0, Value.int IntKind.u64 0, Value.int IntKind.u64 0, Value.int IntKind.u64 0, Value.int IntKind.u64 0, Value.int IntKind.u64 0, Value.int IntKind.u64 0, Value.int IntKind.u64 0, Value.int IntKind.u64 0, Value.int IntKind.u64 0, Value.int IntKind.u64 0, Value.int IntKind.u64 0, Value.int IntKind.u64 0, Value.int IntKind.u64 0, Value.int IntKind.u64 0, Value.int IntKind.u64 0, Value.int IntKind.u64 0, Value.int IntKind.u64 0, Value.int IntKind.u64 0, Value.int IntKind.u64 0, Value.int IntKind.u64 0, Value.int IntKind.u64 0, Value.int IntKind.u64 0, Value.int IntKind.u64 0, Value.int IntKind.u64 0, Value.int IntKind.u64 0, Value.int IntKind.u64 0, Value.int IntKind.u64 0, Value.int IntKind.u64 0, Value.int IntKind.u64 0, Value.bool false, Value.int IntKind.i64 0] 37)) w.heap.size 37 V) := (Row.new _ _ _).alloc _
  have hZ0 : Hid (Row ((w.alloc (.cells V 37)).alloc (.cells #[Value.slice none 0 0, Value.int IntKind.i64 0, Value.int IntKind.u64 0, Value.int IntKind.u64 0, Value.int IntKind.u64 0, Value.int IntKind.u64 0, Value.int IntKind.u64 0, Value.int IntKind.u64 0, Value.int IntKind.u64 0, Value.int IntKind.u64 0, Value.int IntKind.u64 0, Value.int IntKind.u64 0, Value.int IntKind.u64 0, Value.int IntKind.u64 0, Value.int IntKind.u64 0, Value.int IntKind.u64 0, Value.int IntKind.u64 0, Value.int IntKind.u64 0, Value.int IntKind.u64 0, Value.int IntKind.u64 0, Value.int IntKind.u64 0, Value.int IntKind.u64 0, Value.int IntKind.u64 0, Value.int IntKind.u64 0, Value.int IntKind.u64 0, Value.int IntKind.u64 0, Value.int IntKind.u64 0, Value.int IntKind.u64 0, Value.int IntKind.u64 0, Value.int IntKind.u64 0, Value.int IntKind.u64 0, Value.int IntKind.u64 0, Value.int IntKind.u64 0, Value.int IntKind.u64 0, Value.bool false, Value.int IntKind.i64 0] 37)) (w.heap.size + 1) 37 #[Value.slice none 0 0, Value.int IntKind.i64 0, Value.int IntKind.u64 0, Value.int IntKind.u64 0, Value.int IntKind.u64 0, Value.int IntKind.u64 0, Value.int IntKind.u64 0, Value.int IntKind.u64 0, Value.int IntKind.u64 0, Value.int IntKind.u64 0, Value.int IntKind.u64 0, Value.int IntKind.u64 0, Value.int IntKind.u64 0, Value.int IntKind.u64 0, Value.int IntKind.u64 0, Value.int IntKind.u64 0, Value.int IntKind.u64 0, Value.int IntKind.u64 0, Value.int IntKind.u64 0, Value.int IntKind.u64 0, Value.int IntKind.u64 0, Value.int IntKind.u64 0, Value.int IntKind.u64 0, Value.int IntKind.u64 0, Value.int IntKind.u64 0, Value.int IntKind.u64 0, Value.int IntKind.u64 0, Value.int IntKind.u64 0, Value.int IntKind.u64 0, Value.int IntKind.u64 0, Value.int IntKind.u64 0, Value.int IntKind.u64 0, Value.int IntKind.u64 0, Value.int IntKind.u64 0, Value.bool false, Value.int IntKind.i64 0]) := row_new _ (by simp)
  rw [hK, hN]
  go_wp2_with (first | (go_at_call 27; refine (counted_c _ (g.mr (by repeat (first | (with_reducible exact Mr.refl _) | (with_reducible apply Mr.drew) | (with_reducible apply Mr.alloc) | (with_reducible apply Mr.ext) | (with_reducible refine Mr.setCell ?_ (by first | (simp; done) | (simp; omega) | omega | (refine leOf0 ?_; (repeat (first | (with_reducible exact Mr.refl _) | (with_reducible apply Mr.drew) | (with_reducible apply Mr.alloc) | (with_reducible apply Mr.ext) | (with_reducible refine Mr.setCell ?_ (by first | (simp; done) | (simp; omega) | omega) _))); done) | (refine leOf ?_; (repeat (first | (with_reducible exact Mr.refl _) | (with_reducible apply Mr.drew) | (with_reducible apply Mr.alloc) | (with_reducible apply Mr.ext) | (with_reducible refine Mr.setCell ?_ (by first | (simp; done) | (simp; omega) | omega) _))); done)) _)))) en).mono ?_; rw [hN]; rintro e w1 ⟨a', c', rfl, hnb, x, rfl, hIs⟩; replace hnb : Hid (∀ b o, a' = some ⟨b, o, none⟩ → w.heap.size + 2 ≤ b) := (fun b o e => by have := hnb b o e; simp at this; omega)))
  go_loopw [9, 10] (fun v i wr => ∃ (k : Nat) (t' : T) (m' : List Int) (ca' : Option Addr) (cc' : Nat) (a1 : Option Addr) (c1 : Nat) (Z : Array Value), k ≤ K ∧ i = .int .i64 k ∧ v = .slice a1 N c1 ∧ Hid (runT K t m = ((runT (K - k) t' m').1, (runT (K - k) t' m').2.1, k + (runT (K - k) t' m').2.2)) ∧ Tis w ca' cc' t' ∧ Wl.Is wr a1 c1 m' ∧ Hid (∀ b o, a1 = some ⟨b, o, none⟩ → w.heap.size + 2 ≤ b) ∧ m'.length = N ∧ cut m' = m' ∧ Row wr w.heap.size 37 (TV ca' cc' t') ∧ Row wr (w.heap.size + 1) 37 Z ∧ Z.size = 36 ∧ Mr w wr) (fun _ i _ => (1000 - intOf i).toNat)
  case atStart => exact ⟨0, t, cut m, ca, cc, _, _, _, by omega, rfl, rfl, by rw [Hid, Nat.sub_zero, runT_cut, Nat.zero_add], h, hIs, hnb, hN, cut_cut m, by rw [hV]; exact Row.mr hB0.out x.h, Row.mr hZ0.out x.h, rfl, (by repeat (first | (with_reducible exact Mr.refl _) | (with_reducible apply Mr.drew) | (with_reducible apply Mr.alloc) | (with_reducible apply Mr.ext) | (with_reducible refine Mr.setCell ?_ (by first | (simp; done) | (simp; omega) | omega | (refine leOf0 ?_; (repeat (first | (with_reducible exact Mr.refl _) | (with_reducible apply Mr.drew) | (with_reducible apply Mr.alloc) | (with_reducible apply Mr.ext) | (with_reducible refine Mr.setCell ?_ (by first | (simp; done) | (simp; omega) | omega) _))); done) | (refine leOf ?_; (repeat (first | (with_reducible exact Mr.refl _) | (with_reducible apply Mr.drew) | (with_reducible apply Mr.alloc) | (with_reducible apply Mr.ext) | (with_reducible refine Mr.setCell ?_ (by first | (simp; done) | (simp; omega) | omega) _))); done)) _)))⟩
  case round =>
    obtain ⟨k, t', m', ca', cc', a1, c1, Z, hk, rfl, rfl, hR, hT, hI, hnb, hmN, hcm, hrow, hZ, hZs, hm⟩ := hrel
    clear hB0 hZ0 hIs
    have hq1 := stepM_len t' m'
    have hq2 := stepM_all t' m'
    have hB := hrow.lt
    have hc34 := (hrow.cell 34).trans (TV_34 hT.2.len)
    have hsz := sizeT (ca := ca') (cc := cc') hT.2.len
    have hcN : (cut m').length = N := by rw [hcm]; exact hmN
    have hVs : Hid ((TV ca' cc' t').size = 36) := TV_size hT.2.len
    by_cases hlt : k < K
    · cases hd : t'.done
      · rw [hd] at hc34
        have hR2 : Hid (runT K t m = ((runT (K - (k + 1)) (stepT t' m') (stepM t' m')).1, (runT (K - (k + 1)) (stepT t' m') (stepM t' m')).2.1, k + 1 + (runT (K - (k + 1)) (stepT t' m') (stepM t' m')).2.2)) := by
          rw [Hid, hR.out, show K - k = (K - (k + 1)) + 1 by omega, runT, if_neg (by rw [hd]; decide)]
          simp only [Prod.mk.injEq, true_and]; omega
        rcases Int.lt_or_le 1000 z with hz1 | hz1
        · have hz2 : ¬ z ≤ 1000 := by omega
          have hz3 : ¬ z < 1000 := by omega
          have hk1 : (k : Int) < 1000 := by omega
          go_wp2_with (first | (refine wpList_load_row rfl 37 _ rfl w.heap.size rfl 37 _ (0, 0) _ hrow Try.underlying37 rfl hsz ?_) | (go_at_call 20; refine (tstep_v _ (hT.mr (hm.trans (by repeat (first | (with_reducible exact Mr.refl _) | (with_reducible apply Mr.drew) | (with_reducible apply Mr.alloc) | (with_reducible apply Mr.ext) | (with_reducible refine Mr.setCell ?_ (by first | (simp; done) | (simp; omega) | omega | (refine leOf0 ?_; (repeat (first | (with_reducible exact Mr.refl _) | (with_reducible apply Mr.drew) | (with_reducible apply Mr.alloc) | (with_reducible apply Mr.ext) | (with_reducible refine Mr.setCell ?_ (by first | (simp; done) | (simp; omega) | omega) _))); done) | (refine leOf ?_; (repeat (first | (with_reducible exact Mr.refl _) | (with_reducible apply Mr.drew) | (with_reducible apply Mr.alloc) | (with_reducible apply Mr.ext) | (with_reducible refine Mr.setCell ?_ (by first | (simp; done) | (simp; omega) | omega) _))); done)) _))))) (hI.mr (by repeat (first | (with_reducible exact Mr.refl _) | (with_reducible apply Mr.drew) | (with_reducible apply Mr.alloc) | (with_reducible apply Mr.ext) | (with_reducible refine Mr.setCell ?_ (by first | (simp; done) | (simp; omega) | omega | (refine leOf0 ?_; (repeat (first | (with_reducible exact Mr.refl _) | (with_reducible apply Mr.drew) | (with_reducible apply Mr.alloc) | (with_reducible apply Mr.ext) | (with_reducible refine Mr.setCell ?_ (by first | (simp; done) | (simp; omega) | omega) _))); done) | (refine leOf ?_; (repeat (first | (with_reducible exact Mr.refl _) | (with_reducible apply Mr.drew) | (with_reducible apply Mr.alloc) | (with_reducible apply Mr.ext) | (with_reducible refine Mr.setCell ?_ (by first | (simp; done) | (simp; omega) | omega) _))); done)) _)))) hmN).mono ?_; rw [hcN]; rintro e w' ⟨a2, c2, rfl, hnb2, y, rfl, hI2⟩; have hT2 := hT.step hI.bd; replace hnb2 : Hid (∀ b o, a2 = some ⟨b, o, none⟩ → w.heap.size + 2 ≤ b) := (fun b o e => by have := hnb2 b o e; have := hZ.lt; omega); have hrow2 := hrow.mr y.h; have hZ2 := hZ.mr y.h; have hm2 := hm.trans y.h; clear hT hI hrow hZ hm; generalize stepT t' m' = t2 at *; generalize stepM t' m' = m2 at *; generalize ta t' ca' = ca2 at *; generalize tc t' cc' = cc2 at *; have hV2 : Hid ((TV ca2 cc2 t2).size = 36) := TV_size hT2.2.len; have hVo2 := TV_one ca2 cc2 t2; have hsz2 := sizeT (ca := ca2) (cc := cc2) hT2.2.len; generalize y.u = W2 at *; clear y) | (refine wpList_store_row rfl 37 _ _ rfl w.heap.size _ rfl rfl 37 _ hrow2 hsz2 (hVs.out.trans hV2.out.symm) hVo2 ?_))
          go_roundw
          case rel => exact ⟨k + 1, t2, m2, ca2, cc2, a2, c2, Z, by omega, by go_num, rfl, hR2, hT2, wl_row hI2 (fun b o e => by have := hnb2.out b o e; omega) _, hnb2, by rw [hq1, hcN], hq2, hrow2.row _, hZ2.row_ne (by omega) _, hZs, mr_row hm2 (Nat.le_refl _) _⟩
          case measure => simp [intOf]; omega
        · have hz2 : ¬ 1000 < z := by omega
          have hk1 : (k : Int) < z := by unfold most at hK; omega
          by_cases hz3 : z < 1000
          · have hz4 : z ≤ 1000 := hz1
            go_wp2_with (first | (refine wpList_load_row rfl 37 _ rfl w.heap.size rfl 37 _ (0, 0) _ hrow Try.underlying37 rfl hsz ?_) | (go_at_call 20; refine (tstep_v _ (hT.mr (hm.trans (by repeat (first | (with_reducible exact Mr.refl _) | (with_reducible apply Mr.drew) | (with_reducible apply Mr.alloc) | (with_reducible apply Mr.ext) | (with_reducible refine Mr.setCell ?_ (by first | (simp; done) | (simp; omega) | omega | (refine leOf0 ?_; (repeat (first | (with_reducible exact Mr.refl _) | (with_reducible apply Mr.drew) | (with_reducible apply Mr.alloc) | (with_reducible apply Mr.ext) | (with_reducible refine Mr.setCell ?_ (by first | (simp; done) | (simp; omega) | omega) _))); done) | (refine leOf ?_; (repeat (first | (with_reducible exact Mr.refl _) | (with_reducible apply Mr.drew) | (with_reducible apply Mr.alloc) | (with_reducible apply Mr.ext) | (with_reducible refine Mr.setCell ?_ (by first | (simp; done) | (simp; omega) | omega) _))); done)) _))))) (hI.mr (by repeat (first | (with_reducible exact Mr.refl _) | (with_reducible apply Mr.drew) | (with_reducible apply Mr.alloc) | (with_reducible apply Mr.ext) | (with_reducible refine Mr.setCell ?_ (by first | (simp; done) | (simp; omega) | omega | (refine leOf0 ?_; (repeat (first | (with_reducible exact Mr.refl _) | (with_reducible apply Mr.drew) | (with_reducible apply Mr.alloc) | (with_reducible apply Mr.ext) | (with_reducible refine Mr.setCell ?_ (by first | (simp; done) | (simp; omega) | omega) _))); done) | (refine leOf ?_; (repeat (first | (with_reducible exact Mr.refl _) | (with_reducible apply Mr.drew) | (with_reducible apply Mr.alloc) | (with_reducible apply Mr.ext) | (with_reducible refine Mr.setCell ?_ (by first | (simp; done) | (simp; omega) | omega) _))); done)) _)))) hmN).mono ?_; rw [hcN]; rintro e w' ⟨a2, c2, rfl, hnb2, y, rfl, hI2⟩; have hT2 := hT.step hI.bd; replace hnb2 : Hid (∀ b o, a2 = some ⟨b, o, none⟩ → w.heap.size + 2 ≤ b) := (fun b o e => by have := hnb2 b o e; have := hZ.lt; omega); have hrow2 := hrow.mr y.h; have hZ2 := hZ.mr y.h; have hm2 := hm.trans y.h; clear hT hI hrow hZ hm; generalize stepT t' m' = t2 at *; generalize stepM t' m' = m2 at *; generalize ta t' ca' = ca2 at *; generalize tc t' cc' = cc2 at *; have hV2 : Hid ((TV ca2 cc2 t2).size = 36) := TV_size hT2.2.len; have hVo2 := TV_one ca2 cc2 t2; have hsz2 := sizeT (ca := ca2) (cc := cc2) hT2.2.len; generalize y.u = W2 at *; clear y) | (refine wpList_store_row rfl 37 _ _ rfl w.heap.size _ rfl rfl 37 _ hrow2 hsz2 (hVs.out.trans hV2.out.symm) hVo2 ?_))
            go_roundw
            case rel => exact ⟨k + 1, t2, m2, ca2, cc2, a2, c2, Z, by omega, by go_num, rfl, hR2, hT2, wl_row hI2 (fun b o e => by have := hnb2.out b o e; omega) _, hnb2, by rw [hq1, hcN], hq2, hrow2.row _, hZ2.row_ne (by omega) _, hZs, mr_row hm2 (Nat.le_refl _) _⟩
            case measure => simp [intOf]; omega
          · obtain rfl : z = 1000 := by omega
            go_wp2_with (first | (refine wpList_load_row rfl 37 _ rfl w.heap.size rfl 37 _ (0, 0) _ hrow Try.underlying37 rfl hsz ?_) | (go_at_call 20; refine (tstep_v _ (hT.mr (hm.trans (by repeat (first | (with_reducible exact Mr.refl _) | (with_reducible apply Mr.drew) | (with_reducible apply Mr.alloc) | (with_reducible apply Mr.ext) | (with_reducible refine Mr.setCell ?_ (by first | (simp; done) | (simp; omega) | omega | (refine leOf0 ?_; (repeat (first | (with_reducible exact Mr.refl _) | (with_reducible apply Mr.drew) | (with_reducible apply Mr.alloc) | (with_reducible apply Mr.ext) | (with_reducible refine Mr.setCell ?_ (by first | (simp; done) | (simp; omega) | omega) _))); done) | (refine leOf ?_; (repeat (first | (with_reducible exact Mr.refl _) | (with_reducible apply Mr.drew) | (with_reducible apply Mr.alloc) | (with_reducible apply Mr.ext) | (with_reducible refine Mr.setCell ?_ (by first | (simp; done) | (simp; omega) | omega) _))); done)) _))))) (hI.mr (by repeat (first | (with_reducible exact Mr.refl _) | (with_reducible apply Mr.drew) | (with_reducible apply Mr.alloc) | (with_reducible apply Mr.ext) | (with_reducible refine Mr.setCell ?_ (by first | (simp; done) | (simp; omega) | omega | (refine leOf0 ?_; (repeat (first | (with_reducible exact Mr.refl _) | (with_reducible apply Mr.drew) | (with_reducible apply Mr.alloc) | (with_reducible apply Mr.ext) | (with_reducible refine Mr.setCell ?_ (by first | (simp; done) | (simp; omega) | omega) _))); done) | (refine leOf ?_; (repeat (first | (with_reducible exact Mr.refl _) | (with_reducible apply Mr.drew) | (with_reducible apply Mr.alloc) | (with_reducible apply Mr.ext) | (with_reducible refine Mr.setCell ?_ (by first | (simp; done) | (simp; omega) | omega) _))); done)) _)))) hmN).mono ?_; rw [hcN]; rintro e w' ⟨a2, c2, rfl, hnb2, y, rfl, hI2⟩; have hT2 := hT.step hI.bd; replace hnb2 : Hid (∀ b o, a2 = some ⟨b, o, none⟩ → w.heap.size + 2 ≤ b) := (fun b o e => by have := hnb2 b o e; have := hZ.lt; omega); have hrow2 := hrow.mr y.h; have hZ2 := hZ.mr y.h; have hm2 := hm.trans y.h; clear hT hI hrow hZ hm; generalize stepT t' m' = t2 at *; generalize stepM t' m' = m2 at *; generalize ta t' ca' = ca2 at *; generalize tc t' cc' = cc2 at *; have hV2 : Hid ((TV ca2 cc2 t2).size = 36) := TV_size hT2.2.len; have hVo2 := TV_one ca2 cc2 t2; have hsz2 := sizeT (ca := ca2) (cc := cc2) hT2.2.len; generalize y.u = W2 at *; clear y) | (refine wpList_store_row rfl 37 _ _ rfl w.heap.size _ rfl rfl 37 _ hrow2 hsz2 (hVs.out.trans hV2.out.symm) hVo2 ?_))
            go_roundw
            case rel => exact ⟨k + 1, t2, m2, ca2, cc2, a2, c2, Z, by omega, by go_num, rfl, hR2, hT2, wl_row hI2 (fun b o e => by have := hnb2.out b o e; omega) _, hnb2, by rw [hq1, hcN], hq2, hrow2.row _, hZ2.row_ne (by omega) _, hZs, mr_row hm2 (Nat.le_refl _) _⟩
            case measure => simp [intOf]; omega
      · rw [hd] at hc34
        have hX : Hid (runT K t m = (t', m', k)) := by rw [Hid, hR.out, runT_done hd, hcm]; rfl
        clear hlt
        go_wp2_with (first | (refine wpList_load_row rfl 37 _ rfl w.heap.size rfl 37 _ (0, 0) _ hrow Try.underlying37 rfl hsz ?_) | (refine wpList_store_row rfl 37 _ _ rfl (w.heap.size + 1) _ rfl rfl 37 _ hZ hsz (hZs.trans hVs.out.symm) (TV_one _ _ _) ?_))
        exact bodyPost_ret (results_cell_slot2 Try.results22 _ _ (w.heap.size + 1) 37 (TV ca' cc' t') _ rfl rfl rfl (hZ.row _) Try.underlying37 rfl hsz) rfl ⟨ca', cc', a1, c1, by rw [hX.out]; rfl, ⟨_, mr_row hm (by simp) _⟩, rfl, by rw [hX.out]; exact wl_row hI (fun b o e => by have := hnb.out b o e; omega) _, by rw [hX.out]; exact hT.mr (mr_row hm (by simp) _)⟩
    · obtain rfl : k = K := by omega
      have hX : Hid (runT k t m = (t', m', k)) := by rw [Hid, hR.out, Nat.sub_self]; show (t', cut m', k + 0) = _; rw [hcm]; rfl
      cases hd : t'.done
      · rw [hd] at hc34
        rcases Int.lt_or_le 1000 z with hz1 | hz1
        · have hz2 : ¬ z ≤ 1000 := by omega
          have hz3 : ¬ z < 1000 := by omega
          have hk1 : ¬ (k : Int) < 1000 := by unfold most at hK; omega
          go_wp2_with (first | (refine wpList_load_row rfl 37 _ rfl w.heap.size rfl 37 _ (0, 0) _ hrow Try.underlying37 rfl hsz ?_) | (refine wpList_store_row rfl 37 _ _ rfl (w.heap.size + 1) _ rfl rfl 37 _ hZ hsz (hZs.trans hVs.out.symm) (TV_one _ _ _) ?_))
          exact bodyPost_ret (results_cell_slot2 Try.results22 _ _ (w.heap.size + 1) 37 (TV ca' cc' t') _ rfl rfl rfl (hZ.row _) Try.underlying37 rfl hsz) rfl ⟨ca', cc', a1, c1, by rw [hX.out]; rfl, ⟨_, mr_row hm (by simp) _⟩, rfl, by rw [hX.out]; exact wl_row hI (fun b o e => by have := hnb.out b o e; omega) _, by rw [hX.out]; exact hT.mr (mr_row hm (by simp) _)⟩
        · have hz2 : ¬ 1000 < z := by omega
          have hk1 : ¬ (k : Int) < z := by unfold most at hK; omega
          by_cases hz3 : z < 1000
          · have hz4 : z ≤ 1000 := hz1
            go_wp2_with (first | (refine wpList_load_row rfl 37 _ rfl w.heap.size rfl 37 _ (0, 0) _ hrow Try.underlying37 rfl hsz ?_) | (refine wpList_store_row rfl 37 _ _ rfl (w.heap.size + 1) _ rfl rfl 37 _ hZ hsz (hZs.trans hVs.out.symm) (TV_one _ _ _) ?_))
            exact bodyPost_ret (results_cell_slot2 Try.results22 _ _ (w.heap.size + 1) 37 (TV ca' cc' t') _ rfl rfl rfl (hZ.row _) Try.underlying37 rfl hsz) rfl ⟨ca', cc', a1, c1, by rw [hX.out]; rfl, ⟨_, mr_row hm (by simp) _⟩, rfl, by rw [hX.out]; exact wl_row hI (fun b o e => by have := hnb.out b o e; omega) _, by rw [hX.out]; exact hT.mr (mr_row hm (by simp) _)⟩
          · obtain rfl : z = 1000 := by omega
            go_wp2_with (first | (refine wpList_load_row rfl 37 _ rfl w.heap.size rfl 37 _ (0, 0) _ hrow Try.underlying37 rfl hsz ?_) | (refine wpList_store_row rfl 37 _ _ rfl (w.heap.size + 1) _ rfl rfl 37 _ hZ hsz (hZs.trans hVs.out.symm) (TV_one _ _ _) ?_))
            exact bodyPost_ret (results_cell_slot2 Try.results22 _ _ (w.heap.size + 1) 37 (TV ca' cc' t') _ rfl rfl rfl (hZ.row _) Try.underlying37 rfl hsz) rfl ⟨ca', cc', a1, c1, by rw [hX.out]; rfl, ⟨_, mr_row hm (by simp) _⟩, rfl, by rw [hX.out]; exact wl_row hI (fun b o e => by have := hnb.out b o e; omega) _, by rw [hX.out]; exact hT.mr (mr_row hm (by simp) _)⟩
      · rw [hd] at hc34
        clear hlt
        go_wp2_with (first | (refine wpList_load_row rfl 37 _ rfl w.heap.size rfl 37 _ (0, 0) _ hrow Try.underlying37 rfl hsz ?_) | (refine wpList_store_row rfl 37 _ _ rfl (w.heap.size + 1) _ rfl rfl 37 _ hZ hsz (hZs.trans hVs.out.symm) (TV_one _ _ _) ?_))
        exact bodyPost_ret (results_cell_slot2 Try.results22 _ _ (w.heap.size + 1) 37 (TV ca' cc' t') _ rfl rfl rfl (hZ.row _) Try.underlying37 rfl hsz) rfl ⟨ca', cc', a1, c1, by rw [hX.out]; rfl, ⟨_, mr_row hm (by simp) _⟩, rfl, by rw [hX.out]; exact wl_row hI (fun b o e => by have := hnb.out b o e; omega) _, by rw [hX.out]; exact hT.mr (mr_row hm (by simp) _)⟩
theorem eql_tasks (w : World) (a : Option Addr) (l c : Nat) : (binOp .eql 22 (.slice a l c) (.slice none 0 0)).run Try.prog w = .ok (.bool a.isNone) w := by
  have h := run_equal_slice_nil (P := Try.prog) w 22 37 a l c Try.underlying22
  simp only [binOp, Sem.run_bind, h]
  rfl
set_option maxHeartbeats 1000000 in
theorem clone_c {a : Option Addr} {c n : Nat} {L : List Te} (w : World) (h : Tes w a c L) (en : L.length = n) (hn : n ≤ 1000) :
    Calls Try.prog 26 #[.slice a n c] w fun e w' => ∃ a1 c1, e = .returned (.slice a1 n c1) ∧ Mr w w' ∧ Tes w' a1 c1 L ∧ (0 < n → ∃ G, a1 = some ⟨G, 0, none⟩ ∧ w.heap.size ≤ G ∧ n ≤ c1 ∧ c1 ≤ maxLen ∧ Tb w' G L) := by
  have heq := eql_tasks
  cases a with
  | none =>
    have hc := h.1.nil rfl
    have hl := h.1.le
    obtain rfl : c = 0 := hc
    obtain rfl : n = 0 := by omega
    go_enter Try.func26, Try.ntmps26
    go_wp2
    go_ret
    exact ⟨none, 0, rfl, Mr.refl _, h, fun q => absurd q (by omega)⟩
  | some ad =>
    have hown0 : (w.alloc (.cells #[] 37)).ownsRow w.heap.size 37 36 (.slice (some ⟨w.heap.size, 0, none⟩) 0 0) 0 (Lv.flat 36 Te.enc []) := World.ownsRow_made w #[] 0 (Nat.le_refl _) (by simp [maxLen]) rfl
    go_enter Try.func26, Try.ntmps26
    go_wp2_with (at_builtin; refine append_tasks rfl _ _ rfl w.heap.size _ 0 [] rfl hown0 rfl (h.mr (by repeat (first | (with_reducible exact Mr.refl _) | (with_reducible apply Mr.drew) | (with_reducible apply Mr.alloc) | (with_reducible apply Mr.ext) | (with_reducible refine Mr.setCell ?_ (by first | (simp; done) | (simp; omega) | omega | (refine leOf0 ?_; (repeat (first | (with_reducible exact Mr.refl _) | (with_reducible apply Mr.drew) | (with_reducible apply Mr.alloc) | (with_reducible apply Mr.ext) | (with_reducible refine Mr.setCell ?_ (by first | (simp; done) | (simp; omega) | omega) _))); done) | (refine leOf ?_; (repeat (first | (with_reducible exact Mr.refl _) | (with_reducible apply Mr.drew) | (with_reducible apply Mr.alloc) | (with_reducible apply Mr.ext) | (with_reducible refine Mr.setCell ?_ (by first | (simp; done) | (simp; omega) | omega) _))); done)) _)))) en (by omega) (by simp) ?_; intro v' w1 hown hgrow hnil; have hm1 : Mr w w1 := ((Mr.refl w).alloc _).grownBy hgrow (fun j e => Nat.le_of_eq (Option.some.inj e)); simp only [Nat.zero_add, List.nil_append] at hown)
    go_ret
    by_cases hn0 : n = 0
    · subst hn0
      obtain rfl : L = [] := List.eq_nil_of_length_eq_zero en
      obtain ⟨a3, c3, rfl, -, hLv⟩ := Lv.of_owns (by decide) hown
      exact ⟨a3, c3, rfl, hm1, ⟨hLv, fun x hx => by cases hx⟩, fun q => absurd q (by omega)⟩
    · obtain ⟨-, G, cap, rfl, hG, hcap1, hcap2, hTb⟩ := tb_owns hown (by omega)
      exact ⟨_, cap, rfl, hm1, ⟨hTb.list (by omega) hcap2, fun x hx => Tis.mr (h.2 x hx) hm1⟩, fun _ => ⟨G, rfl, hG, hcap1, hcap2, hTb⟩⟩
set_option maxRecDepth 100000 in
set_option maxHeartbeats 4000000 in
theorem trun_c {a b e : Option Addr} {c d f n nm np : Nat} {L : List Te} {m ps : List Int} (w : World) (h : Tes w a c L) (en : L.length = n) (g : Wl.Is w b d m) (em : m.length = nm) (q : Sl.Is w e f ps) (ep : ps.length = np) (hn : n ≤ 1000) (hp : np ≤ 100000) :
    Calls Try.prog 11 #[.slice a n c, .slice b nm d, .slice e np f] w fun r w' => ∃ a1 c1 L' a2 c2, r = .returned (.tuple #[.slice a1 n c1, .slice a2 (cut m).length c2]) ∧ L'.map Te.t = (runA (L.map Te.t) m ps).1 ∧ ∃ x : Ext w, w' = x.u ∧ Tes x.u a1 c1 L' ∧ Wl.Is x.u a2 c2 (runA (L.map Te.t) m ps).2 := by
  obtain ⟨N, hN⟩ : ∃ N, (cut m).length = N := ⟨_, rfl⟩
  rw [hN]
  by_cases hn0 : n = 0
  · subst hn0
    obtain rfl : L = [] := List.eq_nil_of_length_eq_zero en
    have hRA : Hid (runA (([] : List Te).map Te.t) m ps = ([], cut m)) := by cases ps <;> rfl
    go_enter Try.func11, Try.ntmps11
    go_wp2_with (first | (go_at_call 26; refine (clone_c _ (h.mr (by repeat (first | (with_reducible exact Mr.refl _) | (with_reducible apply Mr.drew) | (with_reducible apply Mr.alloc) | (with_reducible apply Mr.ext) | (with_reducible refine Mr.setCell ?_ (by first | (simp; done) | (simp; omega) | omega | (refine leOf0 ?_; (repeat (first | (with_reducible exact Mr.refl _) | (with_reducible apply Mr.drew) | (with_reducible apply Mr.alloc) | (with_reducible apply Mr.ext) | (with_reducible refine Mr.setCell ?_ (by first | (simp; done) | (simp; omega) | omega) _))); done) | (refine leOf ?_; (repeat (first | (with_reducible exact Mr.refl _) | (with_reducible apply Mr.drew) | (with_reducible apply Mr.alloc) | (with_reducible apply Mr.ext) | (with_reducible refine Mr.setCell ?_ (by first | (simp; done) | (simp; omega) | omega) _))); done)) _)))) en hn).mono ?_; rintro r w1 ⟨a1, c1, rfl, hm1, hTs, hTb⟩; obtain ⟨x, rfl⟩ := Mr.mk' hm1; clear hm1) | (go_at_call 27; refine (counted_c _ (g.mr (by repeat (first | (with_reducible exact Mr.refl _) | (with_reducible apply Mr.drew) | (with_reducible apply Mr.alloc) | (with_reducible apply Mr.ext) | (with_reducible refine Mr.setCell ?_ (by first | (simp; done) | (simp; omega) | omega | (refine leOf0 ?_; (repeat (first | (with_reducible exact Mr.refl _) | (with_reducible apply Mr.drew) | (with_reducible apply Mr.alloc) | (with_reducible apply Mr.ext) | (with_reducible refine Mr.setCell ?_ (by first | (simp; done) | (simp; omega) | omega) _))); done) | (refine leOf ?_; (repeat (first | (with_reducible exact Mr.refl _) | (with_reducible apply Mr.drew) | (with_reducible apply Mr.alloc) | (with_reducible apply Mr.ext) | (with_reducible refine Mr.setCell ?_ (by first | (simp; done) | (simp; omega) | omega) _))); done)) _)))) em).mono ?_; rw [hN]; rintro r w2 ⟨a', c', rfl, hnb, y, rfl, hIs⟩))
    go_ret2
    exact ⟨_, _, [], _, _, rfl, by rw [hRA.out]; rfl, ⟨_, (by repeat (first | (with_reducible exact Mr.refl _) | (with_reducible apply Mr.drew) | (with_reducible apply Mr.alloc) | (with_reducible apply Mr.ext) | (with_reducible refine Mr.setCell ?_ (by first | (simp; done) | (simp; omega) | omega | (refine leOf0 ?_; (repeat (first | (with_reducible exact Mr.refl _) | (with_reducible apply Mr.drew) | (with_reducible apply Mr.alloc) | (with_reducible apply Mr.ext) | (with_reducible refine Mr.setCell ?_ (by first | (simp; done) | (simp; omega) | omega) _))); done) | (refine leOf ?_; (repeat (first | (with_reducible exact Mr.refl _) | (with_reducible apply Mr.drew) | (with_reducible apply Mr.alloc) | (with_reducible apply Mr.ext) | (with_reducible refine Mr.setCell ?_ (by first | (simp; done) | (simp; omega) | omega) _))); done)) _)))⟩, rfl, hTs.mr y.h, by rw [hRA.out]; exact hIs⟩
  · have hn0' : 0 < n := by omega
    have hn1 : ((n : Int) == 0) = false := by simp; omega
    go_enter Try.func11, Try.ntmps11
    go_wp2_with (first | (go_at_call 26; refine (clone_c _ (h.mr (by repeat (first | (with_reducible exact Mr.refl _) | (with_reducible apply Mr.drew) | (with_reducible apply Mr.alloc) | (with_reducible apply Mr.ext) | (with_reducible refine Mr.setCell ?_ (by first | (simp; done) | (simp; omega) | omega | (refine leOf0 ?_; (repeat (first | (with_reducible exact Mr.refl _) | (with_reducible apply Mr.drew) | (with_reducible apply Mr.alloc) | (with_reducible apply Mr.ext) | (with_reducible refine Mr.setCell ?_ (by first | (simp; done) | (simp; omega) | omega) _))); done) | (refine leOf ?_; (repeat (first | (with_reducible exact Mr.refl _) | (with_reducible apply Mr.drew) | (with_reducible apply Mr.alloc) | (with_reducible apply Mr.ext) | (with_reducible refine Mr.setCell ?_ (by first | (simp; done) | (simp; omega) | omega) _))); done)) _)))) en hn).mono ?_; rintro r w1 ⟨a1, c1, rfl, hm1, hTs, hTb⟩; obtain ⟨x, rfl⟩ := Mr.mk' hm1; clear hm1) | (go_at_call 27; refine (counted_c _ (g.mr (by repeat (first | (with_reducible exact Mr.refl _) | (with_reducible apply Mr.drew) | (with_reducible apply Mr.alloc) | (with_reducible apply Mr.ext) | (with_reducible refine Mr.setCell ?_ (by first | (simp; done) | (simp; omega) | omega | (refine leOf0 ?_; (repeat (first | (with_reducible exact Mr.refl _) | (with_reducible apply Mr.drew) | (with_reducible apply Mr.alloc) | (with_reducible apply Mr.ext) | (with_reducible refine Mr.setCell ?_ (by first | (simp; done) | (simp; omega) | omega) _))); done) | (refine leOf ?_; (repeat (first | (with_reducible exact Mr.refl _) | (with_reducible apply Mr.drew) | (with_reducible apply Mr.alloc) | (with_reducible apply Mr.ext) | (with_reducible refine Mr.setCell ?_ (by first | (simp; done) | (simp; omega) | omega) _))); done)) _)))) em).mono ?_; rw [hN]; rintro r w2 ⟨a', c', rfl, hnb, y, rfl, hIs⟩))
    obtain ⟨G, rfl, hG, hcap1, hcap2, hTb0⟩ := hTb hn0'
    go_loopw [9, 24] (fun v i wr => ∃ (k : Nat) (L' : List Te) (m' : List Int) (a1 : Option Addr) (c1 : Nat), k ≤ np ∧ i = .int .i64 k ∧ v = .slice a1 N c1 ∧ Hid (runA (L.map Te.t) m (ps.take k) = (L'.map Te.t, m')) ∧ L'.length = n ∧ Hid (∀ x ∈ L', Te.is w x) ∧ Tb wr G L' ∧ Wl.Is wr a1 c1 m' ∧ Hid (∀ b o, a1 = some ⟨b, o, none⟩ → G < b) ∧ m'.length = N ∧ cut m' = m' ∧ Mr w wr) (fun _ i _ => (np - intOf i).toNat)
    case atStart => exact ⟨0, L, cut m, _, _, by omega, rfl, rfl, rfl, en, h.2, hTb0.mr y.h, hIs, (fun b o e => by have := hnb b o e; have := hTb0.lt; omega), hN, cut_cut m, x.h.trans y.h⟩
    case round =>
      obtain ⟨k, L', m', a1, c1, hk, rfl, rfl, hR, hL, hX, hT, hI, hnb1, hmN, hcm, hm⟩ := hrel
      clear hnb hIs hTb0 hTs
      by_cases hlt : k < np
      · have hlt' : (k : Int) < np := by omega
        obtain ⟨bp, op, rfl, hbp, hcp⟩ := (q.mr hm).at' k (by omega)
        replace hcp := hcp k (by omega)
        obtain ⟨p, hpk⟩ : ∃ p, Sl.gt ps k = p := ⟨_, rfl⟩
        rw [hpk] at hcp
        have hKn := whom_lt (show 0 < n by omega) p
        have hpK : Hid (p % (n : Int) = (whom n p : Int)) := by
          have h1 := Int.emod_nonneg p (b := (n : Int)) (by omega)
          unfold whom; rw [Hid]; omega
        have hR2 : Hid (runA (L.map Te.t) m (ps.take (k + 1)) = ((L'.map Te.t).set (whom n p) (stepT (tk (L'.map Te.t) (whom n p)) m'), stepM (tk (L'.map Te.t) (whom n p)) m')) := by
          have e1 : ps.take (k + 1) = ps.take k ++ [p] := by
            rw [List.take_add_one, List.getElem?_eq_getElem (by omega)]
            unfold Sl.gt at hpk
            rw [List.getD_eq_getElem?_getD, List.getElem?_eq_getElem (by omega)] at hpk
            rw [← hpk]; rfl
          rw [Hid, e1, runA_snoc _ _ _ _ (by rw [List.length_map]; omega), hR.out, List.length_map, en]
        generalize whom n p = K at *
        obtain ⟨X, hXK⟩ : ∃ X, L'[K]? = some X := ⟨_, List.getElem?_eq_getElem (by omega)⟩
        rw [tk_get hXK] at hR2
        have hXi := hX.out X (List.mem_of_getElem? hXK)
        have hrg := hT.range hXK hXi.2.len
        have hszl : (Try.prog.info? 37).map (·.size) = some (TV X.ca X.cc X.t).toList.length := by rw [Array.length_toList]; exact sizeT hXi.2.len
        have hcN : (cut m').length = N := by rw [hcm]; exact hmN
        have hq1 := stepM_len X.t m'
        have hq2 := stepM_all X.t m'
        have hKn' : (K : Int) < n := by omega
        go_wp2_with (first | (go_at_call 28; refine (modulo_c _ hn0' (by omega)).mono ?_; rw [hpK.out]; rintro r w2 ⟨rfl, rfl⟩) | (refine wpList_load_mid rfl 37 _ rfl G (K * 36) rfl (TV X.ca X.cc X.t).toList _ hrg Try.underlying37 rfl hszl ?_; simp only [Array.toArray_toList]) | (go_at_call 20; refine (tstep_v _ (Tis.mr hXi (hm.trans (by repeat (first | (with_reducible exact Mr.refl _) | (with_reducible apply Mr.drew) | (with_reducible apply Mr.alloc) | (with_reducible apply Mr.ext) | (with_reducible refine Mr.setCell ?_ (by first | (simp; done) | (simp; omega) | omega | (refine leOf0 ?_; (repeat (first | (with_reducible exact Mr.refl _) | (with_reducible apply Mr.drew) | (with_reducible apply Mr.alloc) | (with_reducible apply Mr.ext) | (with_reducible refine Mr.setCell ?_ (by first | (simp; done) | (simp; omega) | omega) _))); done) | (refine leOf ?_; (repeat (first | (with_reducible exact Mr.refl _) | (with_reducible apply Mr.drew) | (with_reducible apply Mr.alloc) | (with_reducible apply Mr.ext) | (with_reducible refine Mr.setCell ?_ (by first | (simp; done) | (simp; omega) | omega) _))); done)) _))))) (hI.mr (by repeat (first | (with_reducible exact Mr.refl _) | (with_reducible apply Mr.drew) | (with_reducible apply Mr.alloc) | (with_reducible apply Mr.ext) | (with_reducible refine Mr.setCell ?_ (by first | (simp; done) | (simp; omega) | omega | (refine leOf0 ?_; (repeat (first | (with_reducible exact Mr.refl _) | (with_reducible apply Mr.drew) | (with_reducible apply Mr.alloc) | (with_reducible apply Mr.ext) | (with_reducible refine Mr.setCell ?_ (by first | (simp; done) | (simp; omega) | omega) _))); done) | (refine leOf ?_; (repeat (first | (with_reducible exact Mr.refl _) | (with_reducible apply Mr.drew) | (with_reducible apply Mr.alloc) | (with_reducible apply Mr.ext) | (with_reducible refine Mr.setCell ?_ (by first | (simp; done) | (simp; omega) | omega) _))); done)) _)))) hmN).mono ?_; rw [hcN]; rintro r2 w' ⟨a2, c2, rfl, hnb2, x2, rfl, hI2⟩; have hT2 := hT.mr x2.h; have hm2 := hm.trans x2.h; have hY := Tis.step hXi hI.bd; replace hnb2 : Hid (∀ b o, a2 = some ⟨b, o, none⟩ → G < b) := (fun b o e => by have := hnb2 b o e; have := hT.lt; omega); clear hT hI hm hrg hszl; generalize stepT X.t m' = t2 at *; generalize stepM X.t m' = m2 at *; generalize ta X.t X.ca = ca2 at *; generalize tc X.t X.cc = cc2 at *; have hV2 : Hid ((TV ca2 cc2 t2).size = 36) := TV_size hY.2.len; have hVo2 := TV_one ca2 cc2 t2; have hsz2 := sizeT (ca := ca2) (cc := cc2) hY.2.len; generalize x2.u = W2 at *; clear x2; have ht2 : W2.there G (K * 36) (TV ca2 cc2 t2).size := (by rw [hV2.out]; exact hT2.there (by omega))) | (refine wpList_store_mid rfl 37 _ _ rfl G (K * 36) (TV ca2 cc2 t2) rfl rfl ht2 hsz2 hVo2 ?_))
        go_roundw
        case rel => exact ⟨k + 1, L'.set K ⟨ca2, cc2, t2⟩, m2, a2, c2, by omega, by go_num, rfl, by rw [List.map_set]; exact hR2, by rw [List.length_set]; exact hL, (fun x hx => by rcases List.mem_or_eq_of_mem_set hx with q | q; exact hX.out x q; subst q; exact hY), hT2.set (y := ⟨ca2, cc2, t2⟩) (by omega) hY.2.len, wl_cells hI2 (fun b o e => by have := hnb2.out b o e; omega) _ _, hnb2, by rw [hq1, hcN], hq2, mr_cells hm2 hG _ _⟩
        case measure => simp [intOf]; omega
      · obtain rfl : k = np := by omega
        rw [List.take_of_length_le (by omega)] at hR
        go_wp2
        go_ret2
        exact ⟨_, _, L', _, _, rfl, by rw [hR.out], ⟨wr, hm⟩, rfl, ⟨hT.list (by omega) hcap2, fun x hx => Tis.mr (hX.out x hx) hm⟩, by rw [hR.out]; exact hI⟩
end Tk
end Go.Proofs.Yteomkfgkhmdehaa
