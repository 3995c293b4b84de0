/- The contracts of package task, fifth part: Start, Step. -/
import Derived.Test.YtnbejkhcifeeiaaTaskC4
import Derived.Test.YtnbejkhcifeeiaaTaskS2
import Derived.Test.YtnbejkhcifeeiaaSumS
import Derived.Test.YtnbejkhcifeeiaaRefC35
import Derived.Deep.RegionHeld3
namespace Go.Proofs.Ytnbejkhcifeeiaa
open Go.ChangeShapes Go.WideShapes Go.ChangeAt Go.RowKit
set_option linter.unusedVariables false
set_option linter.unusedSimpArgs false
attribute [local go_sem] Ext.cell Ext.froz Ext.lt Ext.lt1 Ext.lt2 Ext.lt3 Ext.all drew_heap setCell_size Ext.set_size
attribute [-go_sem] Instr.build
namespace Tk
open Wl Ce Rw
theorem tstart_c {a : Option Addr} {c n : Nat} {l : List Ins} (w : World) (h : Inss w a c l) (en : l.length = n) :
    Calls Try.prog 24 #[.slice a n c] w fun e w' => ∃ ca cc, e = .returned (.agg (TV ca cc (start l))) ∧ ∃ x : Ext w, w' = x.u ∧ Tis x.u ca cc (start l) := by
  refine (tstart_v w h en).mono ?_
  rintro e w' ⟨rfl, x, rfl⟩
  refine ⟨_, _, rfl, x, rfl, ?_⟩
  cases hs : sane l
  · have e1 : start l = nought := by unfold start; rw [hs]; rfl
    have e2 : sa l a = none := by unfold sa; rw [hs]; rfl
    have e3 : sc l c = 0 := by unfold sc; rw [hs]; rfl
    rw [e1, e2, e3]
    exact ⟨inss_nil, tok_nought⟩
  · have e1 : start l = rest ⟨l, 0, zeros, false, 0⟩ := by unfold start; rw [hs]; rfl
    have e2 : sa l a = a := by unfold sa; rw [hs]; rfl
    have e3 : sc l c = c := by unfold sc; rw [hs]; rfl
    rw [e1, e2, e3]
    have hT : Tok ⟨l, 0, zeros, false, 0⟩ := tok_zeros l false 0 (by omega)
    exact ⟨by rw [(rest_code _).1]; exact h.mr x.h, hT.rest hs⟩
set_option maxRecDepth 100000 in
set_option maxHeartbeats 2000000 in
theorem tstep_done {ca a : Option Addr} {cc c n : Nat} {t : T} {m : List Int} (w : World) (h : Tis w ca cc t) (g : Wl.Is w a c m) (en : m.length = n) (hd : (rdy t).done = true) (hT2 : Tok (rdy t)) :
    Calls Try.prog 31 #[.agg (TV ca cc t), .slice a n c] w fun e w' => ∃ a' c', e = .returned (.tuple #[.agg (TV (ta t ca) (tc t cc) (rdy t)), .slice a' (cut m).length c']) ∧ (∀ b o, a' = some ⟨b, o, none⟩ → w.heap.size ≤ b) ∧ ∃ x : Ext w, w' = x.u ∧ Wl.Is x.u a' c' (cut m) := by
  obtain ⟨hI, hT⟩ := h
  have h34b := TV_34 (ca := ta t ca) (cc := tc t cc) hT2.len
  rw [hd] at h34b
  have h0b := TV_0 (ta t ca) (tc t cc) (rdy t)
  have h1b := TV_1 (ta t ca) (tc t cc) (rdy t)
  have hrd : ∀ W, Mr w W → Calls Try.prog 37 #[.agg (TV ca cc t)] W fun e w' => e = .returned (.agg (TV (ta t ca) (tc t cc) (rdy t))) ∧ ∃ x : Ext W, w' = x.u := fun W q => ready_c W ⟨hI.mr q, hT⟩
  have hVs : Hid ((TV ca cc t).size = 36) := TV_size hT.len
  have hVs2 : Hid ((TV (ta t ca) (tc t cc) (rdy t)).size = 36) := TV_size hT2.len
  have hVo2 := TV_one (ta t ca) (tc t cc) (rdy t)
  have hsz := sizeT (ca := ca) (cc := cc) hT.len
  have hsz2 := sizeT (ca := ta t ca) (cc := tc t cc) hT2.len
  generalize TV (ta t ca) (tc t cc) (rdy t) = V2 at *
  generalize TV ca cc t = V at *
  have hB : Hid (Row ((w.alloc (.cells V 27)).alloc (.cells #[Value.slice none 0 0, Value.int IntKind.i64 0, Value.int IntKind.u64 0, Value.int IntKind.u64 0, Value.int IntKind.u64 0, Value.int IntKind.u64 0, Value.int IntKind.u64 0, Value.int IntKind.u64 0, Value.int IntKind.u64 0, Value.int IntKind.u64 0, Value.int IntKind.u64 0, Value.int IntKind.u64 0, Value.int IntKind.u64 0, Value.int IntKind.u64 0, Value.int IntKind.u64 0, Value.int IntKind.u64 0, Value.int IntKind.u64 0, Value.int IntKind.u64 0, Value.int IntKind.u64 0, Value.int IntKind.u64 0, Value.int IntKind.u64 0, Value.int IntKind.u64 0, Value.int IntKind.u64 0, Value.int IntKind.u64 0, Value.int IntKind.u64 0, Value.int IntKind.u64 0, Value.int IntKind.u64 0, Value.int IntKind.u64 0, Value.int IntKind.u64 0, Value.int IntKind.u64 0, Value.int IntKind.u64 0, Value.int IntKind.u64 0, Value.int IntKind.u64 0, Value.int IntKind.u64 0, Value.bool false, Value.int IntKind.i64 0] 27)) w.heap.size 27 V) := (Row.new _ _ _).alloc _
  have hZ : Hid (Row ((w.alloc (.cells V 27)).alloc (.cells #[Value.slice none 0 0, Value.int IntKind.i64 0, Value.int IntKind.u64 0, Value.int IntKind.u64 0, Value.int IntKind.u64 0, Value.int IntKind.u64 0, Value.int IntKind.u64 0, Value.int IntKind.u64 0, Value.int IntKind.u64 0, Value.int IntKind.u64 0, Value.int IntKind.u64 0, Value.int IntKind.u64 0, Value.int IntKind.u64 0, Value.int IntKind.u64 0, Value.int IntKind.u64 0, Value.int IntKind.u64 0, Value.int IntKind.u64 0, Value.int IntKind.u64 0, Value.int IntKind.u64 0, Value.int IntKind.u64 0, Value.int IntKind.u64 0, Value.int IntKind.u64 0, Value.int IntKind.u64 0, Value.int IntKind.u64 0, Value.int IntKind.u64 0, Value.int IntKind.u64 0, Value.int IntKind.u64 0, Value.int IntKind.u64 0, Value.int IntKind.u64 0, Value.int IntKind.u64 0, Value.int IntKind.u64 0, Value.int IntKind.u64 0, Value.int IntKind.u64 0, Value.int IntKind.u64 0, Value.bool false, Value.int IntKind.i64 0] 27)) (w.heap.size + 1) 27 #[Value.slice none 0 0, Value.int IntKind.i64 0, Value.int IntKind.u64 0, Value.int IntKind.u64 0, Value.int IntKind.u64 0, Value.int IntKind.u64 0, Value.int IntKind.u64 0, Value.int IntKind.u64 0, Value.int IntKind.u64 0, Value.int IntKind.u64 0, Value.int IntKind.u64 0, Value.int IntKind.u64 0, Value.int IntKind.u64 0, Value.int IntKind.u64 0, Value.int IntKind.u64 0, Value.int IntKind.u64 0, Value.int IntKind.u64 0, Value.int IntKind.u64 0, Value.int IntKind.u64 0, Value.int IntKind.u64 0, Value.int IntKind.u64 0, Value.int IntKind.u64 0, Value.int IntKind.u64 0, Value.int IntKind.u64 0, Value.int IntKind.u64 0, Value.int IntKind.u64 0, Value.int IntKind.u64 0, Value.int IntKind.u64 0, Value.int IntKind.u64 0, Value.int IntKind.u64 0, Value.int IntKind.u64 0, Value.int IntKind.u64 0, Value.int IntKind.u64 0, Value.int IntKind.u64 0, Value.bool false, Value.int IntKind.i64 0]) := row_new _ (by simp)
  clear hI
  go_enter Try.func31, Try.ntmps31
  go_wp2_with (first | (refine wpList_load_row rfl 27 _ rfl w.heap.size rfl 27 _ (0, 0) _ hB.out Try.underlying27 rfl hsz ?_) | (go_at_call 37; refine (hrd _ (by repeat (first | (with_reducible exact Mr.refl _) | (with_reducible apply Mr.drew) | (with_reducible apply Mr.alloc) | (with_reducible apply Mr.ext) | (with_reducible refine Mr.setCell ?_ (by first | (simp; done) | (simp; omega) | omega | (refine leOf0 ?_; (repeat (first | (with_reducible exact Mr.refl _) | (with_reducible apply Mr.drew) | (with_reducible apply Mr.alloc) | (with_reducible apply Mr.ext) | (with_reducible refine Mr.setCell ?_ (by first | (simp; done) | (simp; omega) | omega) _))); done) | (refine leOf ?_; (repeat (first | (with_reducible exact Mr.refl _) | (with_reducible apply Mr.drew) | (with_reducible apply Mr.alloc) | (with_reducible apply Mr.ext) | (with_reducible refine Mr.setCell ?_ (by first | (simp; done) | (simp; omega) | omega) _))); done)) _)))).mono ?_; rintro e w' ⟨rfl, x, rfl⟩; have hBx := Row.mr hB.out x.h; have hZx := Row.mr hZ.out x.h; have hmx : Mr w x.u := (by repeat (first | (with_reducible exact Mr.refl _) | (with_reducible apply Mr.drew) | (with_reducible apply Mr.alloc) | (with_reducible apply Mr.ext) | (with_reducible refine Mr.setCell ?_ (by first | (simp; done) | (simp; omega) | omega | (refine leOf0 ?_; (repeat (first | (with_reducible exact Mr.refl _) | (with_reducible apply Mr.drew) | (with_reducible apply Mr.alloc) | (with_reducible apply Mr.ext) | (with_reducible refine Mr.setCell ?_ (by first | (simp; done) | (simp; omega) | omega) _))); done) | (refine leOf ?_; (repeat (first | (with_reducible exact Mr.refl _) | (with_reducible apply Mr.drew) | (with_reducible apply Mr.alloc) | (with_reducible apply Mr.ext) | (with_reducible refine Mr.setCell ?_ (by first | (simp; done) | (simp; omega) | omega) _))); done)) _)))) | (refine wpList_store_row rfl 27 _ _ rfl w.heap.size _ rfl rfl 27 _ hBx hsz2 (hVs.out.trans hVs2.out.symm) hVo2 ?_; have hB1 := Row.row hBx V2; have hZ1 := Row.row_ne hZx (g := w.heap.size) (by omega) V2; have hm1 := mr_row hmx (Nat.le_refl _) V2; clear hBx hZx hmx; generalize x.u.setRow w.heap.size V2 = W1 at *; have c34 := (hB1.cell 34).trans h34b; have c0 := (hB1.cell 0).trans h0b; have c1 := (hB1.cell 1).trans h1b; have l34 := hB1.lt))
  refine wp_region_held_drew (S := fun w' => Row w' w.heap.size 27 V2 ∧ ∃ Z' : Array Value, Row w' (w.heap.size + 1) 27 Z' ∧ Z'.size = 36) (by kernel_rfl) ⟨hB1.mr (Mr.refl _).drew, _, hZ1.mr (Mr.refl _).drew, rfl⟩ (fun hHeld => ?_)
  refine wpAnyH_take (i := 0) (v := .agg V2) rfl (by kernel_rfl) (by kernel_rfl) (by kernel_rfl) (fun _ _ _ h => h) (yields_row _ _ rfl (by rfl) w.heap.size rfl 27 V2 _ (fun _ h => h.1) Try.underlying27 rfl hsz2) hHeld ?_
  try simp only [Act.put, List.setIfInBounds_toArray, List.set_cons_zero, List.set_cons_succ]
  refine wpAnyH_take (i := 1) (v := .slice a n c) rfl (by kernel_rfl) (by kernel_rfl) (by kernel_rfl) (fun _ _ _ h => h) (Or.inl ⟨by rfl, fun w9 hSw => by simp [go_sem]⟩) hHeld ?_
  try simp only [Act.put, List.setIfInBounds_toArray, List.set_cons_zero, List.set_cons_succ]
  refine wpAnyH_ready (rs := [2]) (by kernel_rfl) (by simp) ?_
  refine AllReadyH.cons rfl (fun K hK => ?_) AllReadyH.nil
  go_simp
  (go_at_call 33; refine (counted_c _ (g.mr (hm1.trans (by repeat (first | (with_reducible exact Mr.refl _) | (with_reducible apply Mr.drew) | (with_reducible apply Mr.alloc) | (with_reducible apply Mr.ext) | (with_reducible refine Mr.setCell ?_ (by first | (simp; done) | (simp; omega) | omega | (refine leOf0 ?_; (repeat (first | (with_reducible exact Mr.refl _) | (with_reducible apply Mr.drew) | (with_reducible apply Mr.alloc) | (with_reducible apply Mr.ext) | (with_reducible refine Mr.setCell ?_ (by first | (simp; done) | (simp; omega) | omega) _))); done) | (refine leOf ?_; (repeat (first | (with_reducible exact Mr.refl _) | (with_reducible apply Mr.drew) | (with_reducible apply Mr.alloc) | (with_reducible apply Mr.ext) | (with_reducible refine Mr.setCell ?_ (by first | (simp; done) | (simp; omega) | omega) _))); done)) _))))) en).mono ?_; rintro e w1 ⟨a', c', rfl, hnb, x3, rfl, hIs⟩; have hnb : ∀ b o, a' = some ⟨b, o, none⟩ → w.heap.size + 2 ≤ b := (fun b o e => by have := hnb b o e; have q2 := hZ1.lt; simp [drew_heap] at this; omega))
  obtain ⟨hB3, Z3, hZ3, hZs3⟩ : Row x3.u w.heap.size 27 V2 ∧ ∃ Z' : Array Value, Row x3.u (w.heap.size + 1) 27 Z' ∧ Z'.size = 36 := ⟨(hB1.mr (Mr.refl _).drew).mr x3.h, _, (hZ1.mr (Mr.refl _).drew).mr x3.h, rfl⟩
  refine hK.out _ _ ⟨hB3, Z3, hZ3, hZs3⟩ (fun hHeld => ?_)
  clear hK K
  try simp only [Act.put, List.setIfInBounds_toArray, List.set_cons_zero, List.set_cons_succ]
  refine wpAnyH_ready (rs := [3]) (by kernel_rfl) (by simp) ?_
  refine AllReadyH.cons rfl (fun K hK => ?_) AllReadyH.nil
  rw [if_pos (by rfl)]
  refine wp_store_row _ _ _ rfl (w.heap.size + 1) V2 rfl rfl 27 Z3 hZ3 hsz2 (hZs3.trans hVs2.out.symm) hVo2 ?_
  refine hK.out _ _ ⟨hB3.row_ne (by omega) V2, V2, hZ3.row V2, hVs2.out⟩ (fun hHeld => ?_)
  clear hK K
  try simp only [Act.put, List.setIfInBounds_toArray, List.set_cons_zero, List.set_cons_succ]
  refine wpAnyH_ready (rs := [4]) (by kernel_rfl) (by simp) ?_
  refine AllReadyH.cons rfl (fun K hK => ?_) AllReadyH.nil
  go_simp
  refine hK.out _ _ hHeld (fun hHeld => ?_)
  clear hK K
  refine wpAnyH_done (by kernel_rfl) ?_ _
  go_wp2_with fail
  exact bodyPost_ret (results_cell_slot Try.results31 _ _ (w.heap.size + 1) 27 V2 _ rfl rfl (hZ3.row V2) Try.underlying27 rfl hsz2) rfl ⟨_, _, rfl, (fun b o e => by have := hnb b o e; omega), ⟨_, mr_row (hm1.trans (by repeat (first | (with_reducible exact Mr.refl _) | (with_reducible apply Mr.drew) | (with_reducible apply Mr.alloc) | (with_reducible apply Mr.ext) | (with_reducible refine Mr.setCell ?_ (by first | (simp; done) | (simp; omega) | omega | (refine leOf0 ?_; (repeat (first | (with_reducible exact Mr.refl _) | (with_reducible apply Mr.drew) | (with_reducible apply Mr.alloc) | (with_reducible apply Mr.ext) | (with_reducible refine Mr.setCell ?_ (by first | (simp; done) | (simp; omega) | omega) _))); done) | (refine leOf ?_; (repeat (first | (with_reducible exact Mr.refl _) | (with_reducible apply Mr.drew) | (with_reducible apply Mr.alloc) | (with_reducible apply Mr.ext) | (with_reducible refine Mr.setCell ?_ (by first | (simp; done) | (simp; omega) | omega) _))); done)) _)))) (by simp) _⟩, rfl, wl_row hIs (fun b o e => by have := hnb b o e; omega) V2⟩
theorem tok_rdy {t : T} (h : Tok t) : Tok (rdy t) := by
  unfold rdy
  split
  · exact h
  · split
    · exact tok_nought
    · rename_i hs; exact h.rest (by simpa using hs)
set_option maxRecDepth 100000 in
set_option maxHeartbeats 2000000 in
theorem tstep_go {ca a : Option Addr} {cc c n : Nat} {t : T} {m : List Int} (w : World) (h : Tis w ca cc t) (g : Wl.Is w a c m) (en : m.length = n) (hd : t.done = false) (hs : sane t.code = true) (hr : (rest t).done = false) :
    Calls Try.prog 31 #[.agg (TV ca cc t), .slice a n c] w fun e w' => ∃ a' c', e = .returned (.tuple #[.agg (TV ca cc (stepT t m)), .slice a' (cut m).length c']) ∧ (∀ b o, a' = some ⟨b, o, none⟩ → w.heap.size ≤ b) ∧ ∃ x : Ext w, w' = x.u ∧ Wl.Is x.u a' c' (stepM t m) := by
  have eT : stepT t m = rest (after (rest t) m) := by unfold stepT; rw [hd, hs, hr]; rfl
  have eM : stepM t m = doM m (accOf (at' (rest t).code (rest t).pc.toNat)) := by unfold stepM; rw [hd, hs, hr]; rfl
  rw [eT, eM]
  have hrd : ∀ W, Mr w W → Calls Try.prog 37 #[.agg (TV ca cc t)] W fun e w' => e = .returned (.agg (TV ca cc (rest t))) ∧ ∃ x : Ext W, w' = x.u := fun W q => by
    have e1 : ta t ca = ca := by unfold ta; rw [hd, hs]; rfl
    have e2 : tc t cc = cc := by unfold tc; rw [hd, hs]; rfl
    have e3 : rdy t = rest t := by unfold rdy; rw [hd, hs]; rfl
    have := ready_c W (h.mr q)
    rwa [e1, e2, e3] at this
  obtain ⟨hI, hT⟩ := h
  have hT2 := hT.rest hs
  have h34b := TV_34 (ca := ca) (cc := cc) hT2.len
  rw [hr] at h34b
  have h0b := TV_0 ca cc (rest t)
  have h1b := TV_1 ca cc (rest t)
  have hsu : sane (rest t).code = true := by rw [(rest_code t).1]; exact hs
  have hI2 : Inss w ca cc (rest t).code := by rw [(rest_code t).1]; exact hI
  rcases rest_still hs with hdn | ⟨p0, p1, p2⟩
  · rw [hr] at hdn; cases hdn
  have hVs : Hid ((TV ca cc t).size = 36) := TV_size hT.len
  have hVs2 : Hid ((TV ca cc (rest t)).size = 36) := TV_size hT2.len
  have hVo2 := TV_one ca cc (rest t)
  have hsz := sizeT (ca := ca) (cc := cc) hT.len
  have hsz2 := sizeT (ca := ca) (cc := cc) hT2.len
  generalize rest t = u at *
  obtain ⟨j, ej⟩ := Int.eq_ofNat_of_zero_le p0
  have hj : j < u.code.length := by omega
  have hsa := saneAt_iff.1 ((sane_iff.1 hsu).1 j hj)
  rw [ej, Int.toNat_natCast] at p2
  rw [ej] at h1b
  generalize hN : u.code.length = N at *
  have hj' : (j : Int) < N := by omega
  have hRb : Hid (∀ q, q < 32 → (TV ca cc u)[2 + q]? = some (.int .u64 (gt u.R q))) := fun q hq => TV_R hT2.len hq
  have hT3 : Tok (after u m) := tok_after hT2 (by have := (sane_iff.1 hsu).2.2; omega) g.bd
  have hs3 : sane (after u m).code = true := hsu
  have hI3 : Inss w ca cc (after u m).code := hI2
  have hT4 := hT3.rest hs3
  have hrest3 : ∀ W, Mr w W → Calls Try.prog 36 #[.agg (TV ca cc (after u m))] W fun e w' => e = .returned (.agg (TV ca cc (rest (after u m)))) ∧ ∃ x : Ext W, w' = x.u := fun W q => rest_c W ⟨hI3.mr q, hT3⟩ hs3 hr
  have hsz3 := sizeT (ca := ca) (cc := cc) hT3.len
  have hsz4 := sizeT (ca := ca) (cc := cc) hT4.len
  have hVs4 : Hid ((TV ca cc (rest (after u m))).size = 36) := TV_size hT4.len
  have hVo4 := TV_one ca cc (rest (after u m))
  have hset0 : Hid (∀ i1 g1 p1 (rr : Nat), at' u.code j = ⟨0, i1, rr, g1, p1⟩ → rr < 32 → ((TV ca cc u).setIfInBounds (2 + rr) (.int .u64 (doW m ⟨0, i1, p1, 0⟩))).setIfInBounds 1 (.int .i64 ((j : Int) + 1)) = TV ca cc (after u m)) := fun i1 g1 p1 rr e hq => by
    rw [TV_setR hT2.len hq, TV_set1]
    unfold after; rw [ej, Int.toNat_natCast, e]; rfl
  have hset1 : Hid (∀ k1 i1 r1 g1 p1, at' u.code j = ⟨k1, i1, r1, g1, p1⟩ → k1 ≠ 0 → (TV ca cc u).setIfInBounds 1 (.int .i64 ((j : Int) + 1)) = TV ca cc (after u m)) := fun k1 i1 r1 g1 p1 e hk => by
    rw [TV_set1]
    unfold after; rw [ej, Int.toNat_natCast, e]; simp only; rw [if_neg hk]
  have hmem : Hid (∀ k1 i1 r1 g1 p1, at' u.code j = ⟨k1, i1, r1, g1, p1⟩ → doM m (accOf (at' u.code u.pc.toNat)) = doM m ⟨kind k1, i1, p1, 0⟩) := fun k1 i1 r1 g1 p1 e => by
    rw [ej, Int.toNat_natCast, e]; rfl
  generalize doM m (accOf (at' u.code u.pc.toNat)) = M4 at *
  generalize TV ca cc (rest (after u m)) = V4 at *
  generalize TV ca cc (after u m) = V3 at *
  clear hT3 hT4 hI3 hs3 eT eM
  generalize TV ca cc u = V2 at *
  generalize TV ca cc t = V at *
  obtain ⟨X, hX⟩ : ∃ X, at' u.code j = X := ⟨_, rfl⟩
  rw [hX] at hsa p2
  obtain ⟨k0, i0, r0, g0, q0⟩ := X
  obtain ⟨⟨hk0, -⟩, ⟨hr0, hr1⟩, -, -⟩ := hsa
  simp only at hk0 hr0 hr1 p2
  obtain ⟨rr, rfl⟩ := Int.eq_ofNat_of_zero_le hr0
  have hrr : rr < 32 := by omega
  have hrr' : (rr : Int) < 32 := by omega
  have hN2 : N ≤ 200 := by rw [← hN]; exact (sane_iff.1 hsu).2.2
  have hw1 : wrap64 ((j : Int) + 1) = (j : Int) + 1 := by unfold wrap64; omega
  have hok1 : Ins.ok ⟨k0, i0, rr, g0, q0⟩ := by
    obtain ⟨b1, o1, k1, i1, r1, g1, p1, ea, lb1, ei, hok1, -⟩ := hI2.num j (by omega)
    rw [hX] at ei; rw [ei]; exact hok1
  have hok : Acc.ok ⟨(ac ⟨k0, i0, rr, g0, q0⟩).k, (ac ⟨k0, i0, rr, g0, q0⟩).i, (ac ⟨k0, i0, rr, g0, q0⟩).a, 0⟩ := by
    refine ⟨?_, hok1.2.1, ?_, by simp only; omega⟩
    · unfold ac kind; simp only; split <;> (try split) <;> omega
    · have := hok1.2.2.2.2
      unfold ac; simp only at this ⊢; split <;> omega
  have hM : Hid (doM m ⟨(ac ⟨k0, i0, rr, g0, q0⟩).k, (ac ⟨k0, i0, rr, g0, q0⟩).i, (ac ⟨k0, i0, rr, g0, q0⟩).a, 0⟩ = M4) := by
    rw [Hid, hmem.out _ _ _ _ _ hX]; exact ac_M m ⟨k0, i0, rr, g0, q0⟩ ⟨hk0, p2⟩
  have hW : Hid (doW m ⟨(ac ⟨k0, i0, rr, g0, q0⟩).k, (ac ⟨k0, i0, rr, g0, q0⟩).i, (ac ⟨k0, i0, rr, g0, q0⟩).a, 0⟩ = doW m ⟨kind k0, i0, q0, 0⟩) := ac_W m ⟨k0, i0, rr, g0, q0⟩ ⟨hk0, p2⟩
  replace hset0 := hset0.out i0 g0 q0 rr
  replace hset1 := hset1.out k0 i0 rr g0 q0 hX
  clear hmem
  replace hk0 : Hid _ := hk0
  have hk2 : Hid (k0 ≤ 2) := p2
  obtain ⟨hmx, hmxl⟩ : ∃ L, (cut m).length = L := ⟨_, rfl⟩
  rw [hmxl]
  have hB : Hid (Row ((w.alloc (.cells V 27)).alloc (.cells #[Value.slice none 0 0, Value.int IntKind.i64 0, Value.int IntKind.u64 0, Value.int IntKind.u64 0, Value.int IntKind.u64 0, Value.int IntKind.u64 0, Value.int IntKind.u64 0, Value.int IntKind.u64 0, Value.int IntKind.u64 0, Value.int IntKind.u64 0, Value.int IntKind.u64 0, Value.int IntKind.u64 0, Value.int IntKind.u64 0, Value.int IntKind.u64 0, Value.int IntKind.u64 0, Value.int IntKind.u64 0, Value.int IntKind.u64 0, Value.int IntKind.u64 0, Value.int IntKind.u64 0, Value.int IntKind.u64 0, Value.int IntKind.u64 0, Value.int IntKind.u64 0, Value.int IntKind.u64 0, Value.int IntKind.u64 0, Value.int IntKind.u64 0, Value.int IntKind.u64 0, Value.int IntKind.u64 0, Value.int IntKind.u64 0, Value.int IntKind.u64 0, Value.int IntKind.u64 0, Value.int IntKind.u64 0, Value.int IntKind.u64 0, Value.int IntKind.u64 0, Value.int IntKind.u64 0, Value.bool false, Value.int IntKind.i64 0] 27)) w.heap.size 27 V) := (Row.new _ _ _).alloc _
  have hZ : Hid (Row ((w.alloc (.cells V 27)).alloc (.cells #[Value.slice none 0 0, Value.int IntKind.i64 0, Value.int IntKind.u64 0, Value.int IntKind.u64 0, Value.int IntKind.u64 0, Value.int IntKind.u64 0, Value.int IntKind.u64 0, Value.int IntKind.u64 0, Value.int IntKind.u64 0, Value.int IntKind.u64 0, Value.int IntKind.u64 0, Value.int IntKind.u64 0, Value.int IntKind.u64 0, Value.int IntKind.u64 0, Value.int IntKind.u64 0, Value.int IntKind.u64 0, Value.int IntKind.u64 0, Value.int IntKind.u64 0, Value.int IntKind.u64 0, Value.int IntKind.u64 0, Value.int IntKind.u64 0, Value.int IntKind.u64 0, Value.int IntKind.u64 0, Value.int IntKind.u64 0, Value.int IntKind.u64 0, Value.int IntKind.u64 0, Value.int IntKind.u64 0, Value.int IntKind.u64 0, Value.int IntKind.u64 0, Value.int IntKind.u64 0, Value.int IntKind.u64 0, Value.int IntKind.u64 0, Value.int IntKind.u64 0, Value.int IntKind.u64 0, Value.bool false, Value.int IntKind.i64 0] 27)) (w.heap.size + 1) 27 #[Value.slice none 0 0, Value.int IntKind.i64 0, Value.int IntKind.u64 0, Value.int IntKind.u64 0, Value.int IntKind.u64 0, Value.int IntKind.u64 0, Value.int IntKind.u64 0, Value.int IntKind.u64 0, Value.int IntKind.u64 0, Value.int IntKind.u64 0, Value.int IntKind.u64 0, Value.int IntKind.u64 0, Value.int IntKind.u64 0, Value.int IntKind.u64 0, Value.int IntKind.u64 0, Value.int IntKind.u64 0, Value.int IntKind.u64 0, Value.int IntKind.u64 0, Value.int IntKind.u64 0, Value.int IntKind.u64 0, Value.int IntKind.u64 0, Value.int IntKind.u64 0, Value.int IntKind.u64 0, Value.int IntKind.u64 0, Value.int IntKind.u64 0, Value.int IntKind.u64 0, Value.int IntKind.u64 0, Value.int IntKind.u64 0, Value.int IntKind.u64 0, Value.int IntKind.u64 0, Value.int IntKind.u64 0, Value.int IntKind.u64 0, Value.int IntKind.u64 0, Value.int IntKind.u64 0, Value.bool false, Value.int IntKind.i64 0]) := row_new _ (by simp)
  obtain ⟨D, hD⟩ : ∃ D, doW m ⟨kind k0, i0, q0, 0⟩ = D := ⟨_, rfl⟩
  rw [hD] at hW
  by_cases h0 : k0 = 0
  · have e0 : (k0 == 0) = true := by simpa using h0
    have hS := hset0 (by rw [hX, h0]) hrr
    rw [h0] at hD
    rw [show doW m ⟨0, i0, q0, 0⟩ = D from hD] at hS
    replace hS : Hid _ := hS
    clear hset0 hset1 p2 hD h0
    go_enter Try.func31, Try.ntmps31
    go_wp2_with (first | (refine wpList_load_row rfl 27 _ rfl w.heap.size rfl 27 _ (0, 0) _ hB.out Try.underlying27 rfl hsz ?_) | (go_at_call 37; refine (hrd _ (by repeat (first | (with_reducible exact Mr.refl _) | (with_reducible apply Mr.drew) | (with_reducible apply Mr.alloc) | (with_reducible apply Mr.ext) | (with_reducible refine Mr.setCell ?_ (by first | (simp; done) | (simp; omega) | omega | (refine leOf0 ?_; (repeat (first | (with_reducible exact Mr.refl _) | (with_reducible apply Mr.drew) | (with_reducible apply Mr.alloc) | (with_reducible apply Mr.ext) | (with_reducible refine Mr.setCell ?_ (by first | (simp; done) | (simp; omega) | omega) _))); done) | (refine leOf ?_; (repeat (first | (with_reducible exact Mr.refl _) | (with_reducible apply Mr.drew) | (with_reducible apply Mr.alloc) | (with_reducible apply Mr.ext) | (with_reducible refine Mr.setCell ?_ (by first | (simp; done) | (simp; omega) | omega) _))); done)) _)))).mono ?_; rintro e w' ⟨rfl, x, rfl⟩; have hBx := Row.mr hB.out x.h; have hZx := Row.mr hZ.out x.h; have hmx : Mr w x.u := (by repeat (first | (with_reducible exact Mr.refl _) | (with_reducible apply Mr.drew) | (with_reducible apply Mr.alloc) | (with_reducible apply Mr.ext) | (with_reducible refine Mr.setCell ?_ (by first | (simp; done) | (simp; omega) | omega | (refine leOf0 ?_; (repeat (first | (with_reducible exact Mr.refl _) | (with_reducible apply Mr.drew) | (with_reducible apply Mr.alloc) | (with_reducible apply Mr.ext) | (with_reducible refine Mr.setCell ?_ (by first | (simp; done) | (simp; omega) | omega) _))); done) | (refine leOf ?_; (repeat (first | (with_reducible exact Mr.refl _) | (with_reducible apply Mr.drew) | (with_reducible apply Mr.alloc) | (with_reducible apply Mr.ext) | (with_reducible refine Mr.setCell ?_ (by first | (simp; done) | (simp; omega) | omega) _))); done)) _)))) | ((refine wpList_store_row rfl 27 _ _ rfl w.heap.size _ rfl rfl 27 _ hBx hsz2 (hVs.out.trans hVs2.out.symm) hVo2 ?_; have hB1 := Row.row hBx V2; have hZ1 := Row.row_ne hZx (g := w.heap.size) (by omega) V2; have hm1 := mr_row hmx (Nat.le_refl _) V2; clear hBx hZx hmx; generalize x.u.setRow w.heap.size V2 = W1 at *; have c34 := (hB1.cell 34).trans h34b; have c0 := (hB1.cell 0).trans h0b; have c1 := (hB1.cell 1).trans h1b; have l34 := hB1.lt); obtain ⟨b1, o1, k1, i1, r1, g1, p1, ea, lb1, ei, -, d0, d1, d2, d3, d4⟩ := (hI2.mr hm1).num j (by omega); rw [hX] at ei; simp only [Ins.mk.injEq] at ei; obtain ⟨rfl, rfl, rfl, rfl, rfl⟩ := ei) | (go_at_call 39; refine (access_c _ ⟨hk0.out, hk2.out⟩).mono ?_; rintro e w' ⟨rfl, x2, rfl⟩) | ((go_at_call 38; refine (cdo_n _ (g.mr (hm1.trans (by repeat (first | (with_reducible exact Mr.refl _) | (with_reducible apply Mr.drew) | (with_reducible apply Mr.alloc) | (with_reducible apply Mr.ext) | (with_reducible refine Mr.setCell ?_ (by first | (simp; done) | (simp; omega) | omega | (refine leOf0 ?_; (repeat (first | (with_reducible exact Mr.refl _) | (with_reducible apply Mr.drew) | (with_reducible apply Mr.alloc) | (with_reducible apply Mr.ext) | (with_reducible refine Mr.setCell ?_ (by first | (simp; done) | (simp; omega) | omega) _))); done) | (refine leOf ?_; (repeat (first | (with_reducible exact Mr.refl _) | (with_reducible apply Mr.drew) | (with_reducible apply Mr.alloc) | (with_reducible apply Mr.ext) | (with_reducible refine Mr.setCell ?_ (by first | (simp; done) | (simp; omega) | omega) _))); done)) _))))) en hok).mono ?_; rw [hW.out, hM.out, hmxl]; rintro e w1 ⟨a', c', rfl, hnb, z, rfl, hIs⟩; have q1 := hB1.lt; have q2 := hZ1.lt; have q3 := x2.h.below.size; have q4 := z.h.below.size; have hB2 := ((hB1.alloc _).mr x2.h).mr z.h; have hZ2 := ((hZ1.alloc _).mr x2.h).mr z.h; have hm3 : Mr w z.u := hm1.trans (by repeat (first | (with_reducible exact Mr.refl _) | (with_reducible apply Mr.drew) | (with_reducible apply Mr.alloc) | (with_reducible apply Mr.ext) | (with_reducible refine Mr.setCell ?_ (by first | (simp; done) | (simp; omega) | omega | (refine leOf0 ?_; (repeat (first | (with_reducible exact Mr.refl _) | (with_reducible apply Mr.drew) | (with_reducible apply Mr.alloc) | (with_reducible apply Mr.ext) | (with_reducible refine Mr.setCell ?_ (by first | (simp; done) | (simp; omega) | omega) _))); done) | (refine leOf ?_; (repeat (first | (with_reducible exact Mr.refl _) | (with_reducible apply Mr.drew) | (with_reducible apply Mr.alloc) | (with_reducible apply Mr.ext) | (with_reducible refine Mr.setCell ?_ (by first | (simp; done) | (simp; omega) | omega) _))); done)) _))); have y0 : z.u.cell? ⟨W1.heap.size, 0, none⟩ = some (.int .i64 k0) := (by simp [go_sem]); have y2 : z.u.cell? ⟨W1.heap.size, 2, none⟩ = some (.int .i64 rr) := (by simp [go_sem]); have lX : W1.heap.size < z.u.heap.size := (by simp at q3; omega); replace hnb : Hid (∀ b o, a' = some ⟨b, o, none⟩ → w.heap.size + 2 ≤ b) := (fun b o e => by have := hnb b o e; simp at q3; omega); clear hB1 hZ1 hm1 d0 d1 d2 d3 d4 c34 c0 c1 l34 lb1 q1 q3 q4; generalize z.u = W2 at *; clear z x2; generalize W1.heap.size = U at *; have nU : ¬ U = w.heap.size := (by omega); have c1 := (hB2.cell 1).trans h1b; have f1 := hB2.froz 1; have cR := (hB2.cell (2 + rr)).trans (hRb.out rr hrr); have fR := hB2.froz (2 + rr); have lB := hB2.lt; have hB2 : Hid _ := hB2); have hB3 := (Row.set hB2.out (2 + rr) (.int .u64 D)).set 1 (.int .i64 ((j : Int) + 1)); rw [hS.out] at hB3; have hZ3 := (hZ2.set_ne (a := ⟨w.heap.size, 2 + rr, none⟩) (by simp) (.int .u64 D)).set_ne (a := ⟨w.heap.size, 1, none⟩) (by simp) (.int .i64 ((j : Int) + 1)); have hIs3 := wl_set (k := 1) (wl_set (g := w.heap.size) (k := 2 + rr) hIs (fun b o e => by have := hnb.out b o e; omega) (.int .u64 D)) (g := w.heap.size) (fun b o e => by have := hnb.out b o e; omega) (.int .i64 ((j : Int) + 1)); have hm4 := (hm3.setCell (a := ⟨w.heap.size, 2 + rr, none⟩) (Nat.le_refl _) (.int .u64 D)).setCell (a := ⟨w.heap.size, 1, none⟩) (Nat.le_refl _) (.int .i64 ((j : Int) + 1)); clear hZ2 hIs hm3 hB2; replace hB3 : Hid _ := hB3; replace hZ3 : Hid _ := hZ3) | (refine wpList_load_row rfl 27 _ rfl w.heap.size rfl 27 _ (0, 0) _ hB3.out Try.underlying27 rfl hsz3 ?_) | (go_at_call 36; refine (hrest3 _ hm4).mono ?_; rintro e w' ⟨rfl, y, rfl⟩; have hZ4 := Row.mr hZ3.out y.h; have hm5 := hm4.trans y.h; have hIs4 := hIs3.mr y.h) | (refine wpList_store_row rfl 27 _ _ rfl (w.heap.size + 1) _ rfl rfl 27 _ hZ4 hsz4 (z36_s.trans hVs4.out.symm) hVo4 ?_))
    exact bodyPost_ret (results_cell_slot Try.results31 _ _ (w.heap.size + 1) 27 V4 _ rfl rfl (Row.row hZ4 V4) Try.underlying27 rfl hsz4) rfl ⟨_, _, rfl, (fun b o e => by have := hnb.out b o e; omega), ⟨_, mr_row hm5 (by simp) _⟩, rfl, wl_row hIs4 (fun b o e => by have := hnb.out b o e; omega) V4⟩
  · have e0 : (k0 == 0) = false := by simpa using h0
    have hS : Hid _ := hset1 h0
    clear hset0 hset1 p2 h0 hD
    go_enter Try.func31, Try.ntmps31
    go_wp2_with (first | (refine wpList_load_row rfl 27 _ rfl w.heap.size rfl 27 _ (0, 0) _ hB.out Try.underlying27 rfl hsz ?_) | (go_at_call 37; refine (hrd _ (by repeat (first | (with_reducible exact Mr.refl _) | (with_reducible apply Mr.drew) | (with_reducible apply Mr.alloc) | (with_reducible apply Mr.ext) | (with_reducible refine Mr.setCell ?_ (by first | (simp; done) | (simp; omega) | omega | (refine leOf0 ?_; (repeat (first | (with_reducible exact Mr.refl _) | (with_reducible apply Mr.drew) | (with_reducible apply Mr.alloc) | (with_reducible apply Mr.ext) | (with_reducible refine Mr.setCell ?_ (by first | (simp; done) | (simp; omega) | omega) _))); done) | (refine leOf ?_; (repeat (first | (with_reducible exact Mr.refl _) | (with_reducible apply Mr.drew) | (with_reducible apply Mr.alloc) | (with_reducible apply Mr.ext) | (with_reducible refine Mr.setCell ?_ (by first | (simp; done) | (simp; omega) | omega) _))); done)) _)))).mono ?_; rintro e w' ⟨rfl, x, rfl⟩; have hBx := Row.mr hB.out x.h; have hZx := Row.mr hZ.out x.h; have hmx : Mr w x.u := (by repeat (first | (with_reducible exact Mr.refl _) | (with_reducible apply Mr.drew) | (with_reducible apply Mr.alloc) | (with_reducible apply Mr.ext) | (with_reducible refine Mr.setCell ?_ (by first | (simp; done) | (simp; omega) | omega | (refine leOf0 ?_; (repeat (first | (with_reducible exact Mr.refl _) | (with_reducible apply Mr.drew) | (with_reducible apply Mr.alloc) | (with_reducible apply Mr.ext) | (with_reducible refine Mr.setCell ?_ (by first | (simp; done) | (simp; omega) | omega) _))); done) | (refine leOf ?_; (repeat (first | (with_reducible exact Mr.refl _) | (with_reducible apply Mr.drew) | (with_reducible apply Mr.alloc) | (with_reducible apply Mr.ext) | (with_reducible refine Mr.setCell ?_ (by first | (simp; done) | (simp; omega) | omega) _))); done)) _)))) | ((refine wpList_store_row rfl 27 _ _ rfl w.heap.size _ rfl rfl 27 _ hBx hsz2 (hVs.out.trans hVs2.out.symm) hVo2 ?_; have hB1 := Row.row hBx V2; have hZ1 := Row.row_ne hZx (g := w.heap.size) (by omega) V2; have hm1 := mr_row hmx (Nat.le_refl _) V2; clear hBx hZx hmx; generalize x.u.setRow w.heap.size V2 = W1 at *; have c34 := (hB1.cell 34).trans h34b; have c0 := (hB1.cell 0).trans h0b; have c1 := (hB1.cell 1).trans h1b; have l34 := hB1.lt); obtain ⟨b1, o1, k1, i1, r1, g1, p1, ea, lb1, ei, -, d0, d1, d2, d3, d4⟩ := (hI2.mr hm1).num j (by omega); rw [hX] at ei; simp only [Ins.mk.injEq] at ei; obtain ⟨rfl, rfl, rfl, rfl, rfl⟩ := ei) | (go_at_call 39; refine (access_c _ ⟨hk0.out, hk2.out⟩).mono ?_; rintro e w' ⟨rfl, x2, rfl⟩) | ((go_at_call 38; refine (cdo_n _ (g.mr (hm1.trans (by repeat (first | (with_reducible exact Mr.refl _) | (with_reducible apply Mr.drew) | (with_reducible apply Mr.alloc) | (with_reducible apply Mr.ext) | (with_reducible refine Mr.setCell ?_ (by first | (simp; done) | (simp; omega) | omega | (refine leOf0 ?_; (repeat (first | (with_reducible exact Mr.refl _) | (with_reducible apply Mr.drew) | (with_reducible apply Mr.alloc) | (with_reducible apply Mr.ext) | (with_reducible refine Mr.setCell ?_ (by first | (simp; done) | (simp; omega) | omega) _))); done) | (refine leOf ?_; (repeat (first | (with_reducible exact Mr.refl _) | (with_reducible apply Mr.drew) | (with_reducible apply Mr.alloc) | (with_reducible apply Mr.ext) | (with_reducible refine Mr.setCell ?_ (by first | (simp; done) | (simp; omega) | omega) _))); done)) _))))) en hok).mono ?_; rw [hW.out, hM.out, hmxl]; rintro e w1 ⟨a', c', rfl, hnb, z, rfl, hIs⟩; have q1 := hB1.lt; have q2 := hZ1.lt; have q3 := x2.h.below.size; have q4 := z.h.below.size; have hB2 := ((hB1.alloc _).mr x2.h).mr z.h; have hZ2 := ((hZ1.alloc _).mr x2.h).mr z.h; have hm3 : Mr w z.u := hm1.trans (by repeat (first | (with_reducible exact Mr.refl _) | (with_reducible apply Mr.drew) | (with_reducible apply Mr.alloc) | (with_reducible apply Mr.ext) | (with_reducible refine Mr.setCell ?_ (by first | (simp; done) | (simp; omega) | omega | (refine leOf0 ?_; (repeat (first | (with_reducible exact Mr.refl _) | (with_reducible apply Mr.drew) | (with_reducible apply Mr.alloc) | (with_reducible apply Mr.ext) | (with_reducible refine Mr.setCell ?_ (by first | (simp; done) | (simp; omega) | omega) _))); done) | (refine leOf ?_; (repeat (first | (with_reducible exact Mr.refl _) | (with_reducible apply Mr.drew) | (with_reducible apply Mr.alloc) | (with_reducible apply Mr.ext) | (with_reducible refine Mr.setCell ?_ (by first | (simp; done) | (simp; omega) | omega) _))); done)) _))); have y0 : z.u.cell? ⟨W1.heap.size, 0, none⟩ = some (.int .i64 k0) := (by simp [go_sem]); have y2 : z.u.cell? ⟨W1.heap.size, 2, none⟩ = some (.int .i64 rr) := (by simp [go_sem]); have lX : W1.heap.size < z.u.heap.size := (by simp at q3; omega); replace hnb : Hid (∀ b o, a' = some ⟨b, o, none⟩ → w.heap.size + 2 ≤ b) := (fun b o e => by have := hnb b o e; simp at q3; omega); clear hB1 hZ1 hm1 d0 d1 d2 d3 d4 c34 c0 c1 l34 lb1 q1 q3 q4; generalize z.u = W2 at *; clear z x2; generalize W1.heap.size = U at *; have nU : ¬ U = w.heap.size := (by omega); have c1 := (hB2.cell 1).trans h1b; have f1 := hB2.froz 1; have cR := (hB2.cell (2 + rr)).trans (hRb.out rr hrr); have fR := hB2.froz (2 + rr); have lB := hB2.lt; have hB2 : Hid _ := hB2); have hB3 := Row.set hB2.out 1 (.int .i64 ((j : Int) + 1)); rw [hS.out] at hB3; have hZ3 := hZ2.set_ne (a := ⟨w.heap.size, 1, none⟩) (by simp) (.int .i64 ((j : Int) + 1)); have hIs3 := wl_set (k := 1) hIs (g := w.heap.size) (fun b o e => by have := hnb.out b o e; omega) (.int .i64 ((j : Int) + 1)); have hm4 := hm3.setCell (a := ⟨w.heap.size, 1, none⟩) (Nat.le_refl _) (.int .i64 ((j : Int) + 1)); clear hZ2 hIs hm3 hB2; replace hB3 : Hid _ := hB3; replace hZ3 : Hid _ := hZ3) | (refine wpList_load_row rfl 27 _ rfl w.heap.size rfl 27 _ (0, 0) _ hB3.out Try.underlying27 rfl hsz3 ?_) | (go_at_call 36; refine (hrest3 _ hm4).mono ?_; rintro e w' ⟨rfl, y, rfl⟩; have hZ4 := Row.mr hZ3.out y.h; have hm5 := hm4.trans y.h; have hIs4 := hIs3.mr y.h) | (refine wpList_store_row rfl 27 _ _ rfl (w.heap.size + 1) _ rfl rfl 27 _ hZ4 hsz4 (z36_s.trans hVs4.out.symm) hVo4 ?_))
    exact bodyPost_ret (results_cell_slot Try.results31 _ _ (w.heap.size + 1) 27 V4 _ rfl rfl (Row.row hZ4 V4) Try.underlying27 rfl hsz4) rfl ⟨_, _, rfl, (fun b o e => by have := hnb.out b o e; omega), ⟨_, mr_row hm5 (by simp) _⟩, rfl, wl_row hIs4 (fun b o e => by have := hnb.out b o e; omega) V4⟩
theorem tstep_v {ca a : Option Addr} {cc c n : Nat} {t : T} {m : List Int} (w : World) (h : Tis w ca cc t) (g : Wl.Is w a c m) (en : m.length = n) :
    Calls Try.prog 31 #[.agg (TV ca cc t), .slice a n c] w fun e w' => ∃ a' c', e = .returned (.tuple #[.agg (TV (ta t ca) (tc t cc) (stepT t m)), .slice a' (cut m).length c']) ∧ (∀ b o, a' = some ⟨b, o, none⟩ → w.heap.size ≤ b) ∧ ∃ x : Ext w, w' = x.u ∧ Wl.Is x.u a' c' (stepM t m) := by
  cases hd : t.done
  · cases hs : sane t.code
    · have e0 : rdy t = nought := by unfold rdy; rw [hd, hs]; rfl
      have e1 : stepT t m = rdy t := by unfold stepT; rw [hd, hs, e0]; rfl
      have e2 : stepM t m = cut m := by unfold stepM; rw [hd, hs]; rfl
      rw [e1, e2]
      exact tstep_done w h g en (by rw [e0]; rfl) (tok_rdy h.2)
    · have e0 : rdy t = rest t := by unfold rdy; rw [hd, hs]; rfl
      have e4 : ta t ca = ca := by unfold ta; rw [hd, hs]; rfl
      have e5 : tc t cc = cc := by unfold tc; rw [hd, hs]; rfl
      cases hr : (rest t).done
      · rw [e4, e5]; exact tstep_go w h g en hd hs hr
      · have e1 : stepT t m = rdy t := by unfold stepT; rw [hd, hs, hr, e0]; rfl
        have e2 : stepM t m = cut m := by unfold stepM; rw [hd, hs, hr]; rfl
        rw [e1, e2]
        exact tstep_done w h g en (by rw [e0]; exact hr) (tok_rdy h.2)
  · have e0 : rdy t = t := by unfold rdy; rw [hd]; rfl
    have e1 : stepT t m = rdy t := by unfold stepT; rw [hd, e0]; rfl
    have e2 : stepM t m = cut m := by unfold stepM; rw [hd]; rfl
    rw [e1, e2]
    exact tstep_done w h g en (by rw [e0]; exact hd) (tok_rdy h.2)
theorem tstep_c {ca a : Option Addr} {cc c n : Nat} {t : T} {m : List Int} (w : World) (h : Tis w ca cc t) (g : Wl.Is w a c m) (en : m.length = n) :
    Calls Try.prog 31 #[.agg (TV ca cc t), .slice a n c] w fun e w' => ∃ ca' cc' a' c', e = .returned (.tuple #[.agg (TV ca' cc' (stepT t m)), .slice a' (cut m).length c']) ∧ ((stepT t m).code ≠ [] → ∀ b o, ca' = some ⟨b, o, none⟩ → (∃ o', ca = some ⟨b, o', none⟩) ∨ w.heap.size ≤ b) ∧ ∃ x : Ext w, w' = x.u ∧ Tis x.u ca' cc' (stepT t m) ∧ Wl.Is x.u a' c' (stepM t m) := by
  refine (tstep_v w h g en).mono ?_
  rintro e w' ⟨a', c', rfl, -, x, rfl, hI⟩
  refine ⟨_, _, a', c', rfl, fun _ b o e => .inl ⟨o, ?_⟩, x, rfl, (Tis.step h g.bd).mr x.h, hI⟩
  unfold ta at e
  split at e
  · exact e
  · cases e
end Tk
end Go.Proofs.Ytnbejkhcifeeiaa
