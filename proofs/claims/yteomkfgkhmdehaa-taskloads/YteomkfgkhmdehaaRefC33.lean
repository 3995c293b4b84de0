/- The contracts of the document's own answers of layer 12, fourth part: Step where it does an access. -/
import Derived.Test.YteomkfgkhmdehaaRefC32
namespace Go.Proofs.Yteomkfgkhmdehaa
open Go.ChangeShapes Go.WideShapes Go.ChangeAt Go.RowKit
set_option linter.unusedVariables false
set_option linter.unusedSimpArgs false
attribute [local go_sem] Ext.cell Ext.froz Ext.lt Ext.lt1 Ext.lt2 Ext.lt3 Ext.all drew_heap setCell_size Ext.set_size
attribute [-go_sem] Instr.build
namespace Tk
open Wl Ce Rw
theorem build_acc (k i p : Int) (w : World) : (Instr.build 64 #[(0, .int .i64 k), (1, .int .i64 i), (2, .int .u64 p)]).run Try.prog w = .ok (.agg #[.int .i64 k, .int .i64 i, .int .u64 p, .int .u64 0]) w := run_build w _ _ _ (by kernel_rfl)
theorem tok_after {t : T} {m : List Int} (h : Tok t) (hp : 0 ≤ t.pc ∧ t.pc ≤ 1000) (hb : Wb m) : Tok (after t m) := by
  refine ⟨?_, ?_, by unfold after; simp only; omega, h.ans⟩
  · unfold after
    simp only
    split
    · rw [List.length_set]; exact h.len
    · exact h.len
  · unfold after
    simp only
    split
    · exact h.reg.set _ (hb.doW _)
    · exact h.reg
theorem wl_set {W : World} {a : Option Addr} {c g k : Nat} {l : List Int} (h : Wl.Is W a c l) (ne : ∀ b o, a = some ⟨b, o, none⟩ → b ≠ g) (v : Value) : Wl.Is (W.setCell ⟨g, k, none⟩ v) a c l :=
  ⟨h.le, h.max, h.nil, fun j hj => by
    obtain ⟨b, o, e, hlt, hc⟩ := h.at' j hj
    have hs : (W.setCell ⟨g, k, none⟩ v).heap[b]? = W.heap[b]? := by
      simp only [World.setCell, Array.getElem?_modify]
      rw [if_neg (fun q => ne b o e q.symm)]
    refine ⟨b, o, e, by simpa [World.setCell] using hlt, fun i hi => ?_⟩
    rw [← hc i hi]
    exact World.cell?_of_block (a := ⟨b, o + i, none⟩) hs, h.bd⟩
set_option maxRecDepth 100000 in
set_option maxHeartbeats 2000000 in
theorem rstep12_go {ca a : Option Addr} {cc c n : Nat} {t : T} {m : List Int} (w : World) (h : Tis w ca cc t) (g : Wl.Is w a c m) (en : m.length = n) (hd : t.done = false) (hs : sane t.code = true) (hr : (rest t).done = false) :
    Calls Try.prog 21 #[.agg (TV ca cc t), .slice a n c] w fun e w' => ∃ a' c', e = .returned (.tuple #[.agg (TV ca cc (stepT t m)), .slice a' (cut m).length c']) ∧ (∀ b o, a' = some ⟨b, o, none⟩ → w.heap.size ≤ b) ∧ ∃ x : Ext w, w' = x.u ∧ Wl.Is x.u a' c' (stepM t m) := by
  have eT : stepT t m = rest (after (rest t) m) := by unfold stepT; rw [hd, hs, hr]; rfl
  have eM : stepM t m = doM m (accOf (at' (rest t).code (rest t).pc.toNat)) := by unfold stepM; rw [hd, hs, hr]; rfl
  rw [eT, eM]
  obtain ⟨hI, hT⟩ := h
  have hT2 := hT.rest hs
  have h34 := TV_34 (ca := ca) (cc := cc) hT.len
  rw [hd] at h34
  have h34b := TV_34 (ca := ca) (cc := cc) hT2.len
  rw [hr] at h34b
  have h0 := TV_0 ca cc t
  have h0b := TV_0 ca cc (rest t)
  have h1b := TV_1 ca cc (rest t)
  have hrest : ∀ W, Mr w W → Calls Try.prog 33 #[.agg (TV ca cc t)] W fun e w' => e = .returned (.agg (TV ca cc (rest t))) ∧ ∃ x : Ext W, w' = x.u := fun W q => rrest12_c W ⟨hI.mr q, hT⟩ hs
  have hsu : sane (rest t).code = true := by rw [(rest_code t).1]; exact hs
  have hI2 : Inss w ca cc (rest t).code := by rw [(rest_code t).1]; exact hI
  rcases rest_still hs with hdn | ⟨p0, p1, p2⟩
  · rw [hr] at hdn; cases hdn
  have hVs := TV_size (ca := ca) (cc := cc) hT.len
  have hVs2 := TV_size (ca := ca) (cc := cc) hT2.len
  have hVo2 := TV_one ca cc (rest t)
  have hsz := sizeT (ca := ca) (cc := cc) hT.len
  have hsz2 := sizeT (ca := ca) (cc := cc) hT2.len
  generalize rest t = u at *
  obtain ⟨j, ej⟩ := Int.eq_ofNat_of_zero_le p0
  have hj : j < u.code.length := by omega
  have hsa := saneAt_iff.1 ((sane_iff.1 hsu).1 j hj)
  rw [ej, Int.toNat_natCast] at p2
  rw [ej] at h1b
  generalize hN : u.code.length = N at *
  have hj' : (j : Int) < N := by omega
  have hRb : Hid (∀ q, q < 32 → (TV ca cc u)[2 + q]? = some (.int .u64 (gt u.R q))) := fun q hq => TV_R hT2.len hq
  have hT3 : Tok (after u m) := tok_after hT2 (by have := (sane_iff.1 hsu).2.2; omega) g.bd
  have hs3 : sane (after u m).code = true := hsu
  have hI3 : Inss w ca cc (after u m).code := hI2
  have hT4 := hT3.rest hs3
  have hrest3 : ∀ W, Mr w W → Calls Try.prog 33 #[.agg (TV ca cc (after u m))] W fun e w' => e = .returned (.agg (TV ca cc (rest (after u m)))) ∧ ∃ x : Ext W, w' = x.u := fun W q => rrest12_c W ⟨hI3.mr q, hT3⟩ hs3
  have hsz3 := sizeT (ca := ca) (cc := cc) hT3.len
  have hsz4 := sizeT (ca := ca) (cc := cc) hT4.len
  have hVs4 : Hid ((TV ca cc (rest (after u m))).size = 36) := TV_size hT4.len
  have hVo4 := TV_one ca cc (rest (after u m))
  have hset0 : Hid (∀ i1 g1 p1 (rr : Nat), at' u.code j = ⟨0, i1, rr, g1, p1⟩ → rr < 32 → ((TV ca cc u).setIfInBounds (2 + rr) (.int .u64 (doW m ⟨0, i1, p1, 0⟩))).setIfInBounds 1 (.int .i64 ((j : Int) + 1)) = TV ca cc (after u m)) := fun i1 g1 p1 rr e hq => by
    rw [TV_setR hT2.len hq, TV_set1]
    unfold after; rw [ej, Int.toNat_natCast, e]; rfl
  have hset1 : Hid (∀ k1 i1 r1 g1 p1, at' u.code j = ⟨k1, i1, r1, g1, p1⟩ → k1 ≠ 0 → (TV ca cc u).setIfInBounds 1 (.int .i64 ((j : Int) + 1)) = TV ca cc (after u m)) := fun k1 i1 r1 g1 p1 e hk => by
    rw [TV_set1]
    unfold after; rw [ej, Int.toNat_natCast, e]; simp only; rw [if_neg hk]
  have hmem : Hid (∀ k1 i1 r1 g1 p1, at' u.code j = ⟨k1, i1, r1, g1, p1⟩ → doM m (accOf (at' u.code u.pc.toNat)) = doM m ⟨kind k1, i1, p1, 0⟩) := fun k1 i1 r1 g1 p1 e => by
    rw [ej, Int.toNat_natCast, e]; rfl
  generalize doM m (accOf (at' u.code u.pc.toNat)) = M4 at *
  generalize TV ca cc (rest (after u m)) = V4 at *
  generalize TV ca cc (after u m) = V3 at *
  clear hT3 hT4 hI3 hs3 eT eM
  generalize TV ca cc u = V2 at *
  generalize TV ca cc t = V at *
  obtain ⟨Z, hZe⟩ : ∃ Z, Z = TV none 0 ⟨[], 0, zeros, false, 0⟩ := ⟨_, rfl⟩
  have hZs : Z.size = 36 := by rw [hZe]; exact TV_size rfl
  have hZ : Row ((w.alloc (.cells V 37)).alloc (.cells (TV none 0 ⟨[], 0, zeros, false, 0⟩) 37)) (w.heap.size + 1) 37 Z := by rw [hZe]; exact row_new _ (by simp)
  have hB : Row ((w.alloc (.cells V 37)).alloc (.cells (TV none 0 ⟨[], 0, zeros, false, 0⟩) 37)) w.heap.size 37 V := (Row.new _ _ _).alloc _
  have hm0 : Mr w ((w.alloc (.cells V 37)).alloc (.cells (TV none 0 ⟨[], 0, zeros, false, 0⟩) 37)) := ((Mr.refl w).alloc _).alloc _
  replace hVs : Hid (V.size = 36) := hVs
  replace hVs2 : Hid (V2.size = 36) := hVs2
  clear hZe
  go_enter Try.func21, Try.ntmps21
  go_wp2_with (first | (go_at_call 16; refine (rsane12_c _ (hI.mr (by repeat (first | (with_reducible exact Mr.refl _) | (with_reducible apply Mr.drew) | (with_reducible apply Mr.alloc) | (with_reducible apply Mr.ext) | (with_reducible refine Mr.setCell ?_ (by first | (simp; done) | (simp; omega) | omega | (refine leOf0 ?_; (repeat (first | (with_reducible exact Mr.refl _) | (with_reducible apply Mr.drew) | (with_reducible apply Mr.alloc) | (with_reducible apply Mr.ext) | (with_reducible refine Mr.setCell ?_ (by first | (simp; done) | (simp; omega) | omega) _))); done) | (refine leOf ?_; (repeat (first | (with_reducible exact Mr.refl _) | (with_reducible apply Mr.drew) | (with_reducible apply Mr.alloc) | (with_reducible apply Mr.ext) | (with_reducible refine Mr.setCell ?_ (by first | (simp; done) | (simp; omega) | omega) _))); done)) _)))) rfl).mono ?_; rw [hs]; rintro e w' ⟨rfl, x, rfl⟩; have hBx := hB.mr x.h; have hZx := hZ.mr x.h; have hmx := hm0.trans x.h; clear hB hZ hm0) | (refine wpList_load_row rfl 37 _ rfl w.heap.size rfl 37 _ (0, 0) _ hBx Try.underlying37 rfl hsz ?_) | (go_at_call 33; refine (hrest _ hmx).mono ?_; rintro e w' ⟨rfl, y, rfl⟩; have hBy := hBx.mr y.h; have hZy := hZx.mr y.h; have hmy := hmx.trans y.h; clear hBx hZx hmx) | (refine wpList_store_row rfl 37 _ _ rfl w.heap.size _ rfl rfl 37 _ hBy hsz2 (hVs.out.trans hVs2.out.symm) hVo2 ?_; have hB1 := Row.row hBy V2; have hZ1 := Row.row_ne hZy (g := w.heap.size) (by omega) V2; have hm1 := mr_row hmy (Nat.le_refl _) V2; clear hBy hZy hmy; generalize y.u.setRow w.heap.size V2 = W1 at *; have c34 := (hB1.cell 34).trans h34b; have c0 := (hB1.cell 0).trans h0b; have c1 := (hB1.cell 1).trans h1b; have l34 := hB1.lt; obtain ⟨b1, o1, k1, i1, r1, g1, p1, ea, lb1, ei, hok1, d0, d1, d2, d3, d4⟩ := (hI2.mr hm1).num j (by omega)))
  have hok : Acc.ok (accOf ⟨k1, i1, r1, g1, p1⟩) := ⟨by unfold accOf kind; simp only; split <;> (try split) <;> omega, hok1.2.1, hok1.2.2.2.2, by unfold accOf; simp only; omega⟩
  rw [ei] at p2 hsa
  simp only at p2 hsa
  have hm2 := hm1.below.size
  have hbld := build_acc
  obtain ⟨rr, rfl⟩ := Int.eq_ofNat_of_zero_le hsa.2.1.1
  have hrr : rr < 32 := by omega
  have hN2 : N ≤ 200 := by rw [← hN]; exact (sane_iff.1 hsu).2.2
  have hw1 : wrap64 ((j : Int) + 1) = (j : Int) + 1 := by unfold wrap64; omega
  obtain rfl | rfl | rfl : k1 = 0 ∨ k1 = 1 ∨ k1 = 2 := by omega
  · have hok : Acc.ok ⟨0, i1, p1, 0⟩ := hok
    go_region_held3 (fun w' => w'.cell? ⟨W1.heap.size, 0, none⟩ = some (.int .i64 0) ∧ w'.cell? ⟨W1.heap.size, 1, none⟩ = some (.int .i64 i1) ∧ w'.cell? ⟨W1.heap.size, 4, none⟩ = some (.int .u64 p1) ∧ w'.cell? ⟨W1.heap.size + 1, 0, none⟩ = some (.int .i64 0)) ((simp [go_sem]; done)) (first | (go_at_call 37; refine (rdo11_c _ (g.mr (hm1.trans (by repeat (first | (with_reducible exact Mr.refl _) | (with_reducible apply Mr.drew) | (with_reducible apply Mr.alloc) | (with_reducible apply Mr.ext) | (with_reducible refine Mr.setCell ?_ (by first | (simp; done) | (simp; omega) | omega | (refine leOf0 ?_; (repeat (first | (with_reducible exact Mr.refl _) | (with_reducible apply Mr.drew) | (with_reducible apply Mr.alloc) | (with_reducible apply Mr.ext) | (with_reducible refine Mr.setCell ?_ (by first | (simp; done) | (simp; omega) | omega) _))); done) | (refine leOf ?_; (repeat (first | (with_reducible exact Mr.refl _) | (with_reducible apply Mr.drew) | (with_reducible apply Mr.alloc) | (with_reducible apply Mr.ext) | (with_reducible refine Mr.setCell ?_ (by first | (simp; done) | (simp; omega) | omega) _))); done)) _))))) en hok).mono ?_; rintro e w1 ⟨a', c', rfl, hnb, z, rfl, hIs⟩))
    obtain ⟨X, hX⟩ : ∃ X, X = W1.heap.size := ⟨_, rfl⟩
    have hB2 : Row z.u w.heap.size 37 V2 := (((hB1.alloc _).alloc _).mr ((Mr.refl _).drew)).mr z.h
    have hZ2 : Row z.u (w.heap.size + 1) 37 Z := (((hZ1.alloc _).alloc _).mr ((Mr.refl _).drew)).mr z.h
    have hm3 : Mr w z.u := hm1.trans (by repeat (first | (with_reducible exact Mr.refl _) | (with_reducible apply Mr.drew) | (with_reducible apply Mr.alloc) | (with_reducible apply Mr.ext) | (with_reducible refine Mr.setCell ?_ (by first | (simp; done) | (simp; omega) | omega | (refine leOf0 ?_; (repeat (first | (with_reducible exact Mr.refl _) | (with_reducible apply Mr.drew) | (with_reducible apply Mr.alloc) | (with_reducible apply Mr.ext) | (with_reducible refine Mr.setCell ?_ (by first | (simp; done) | (simp; omega) | omega) _))); done) | (refine leOf ?_; (repeat (first | (with_reducible exact Mr.refl _) | (with_reducible apply Mr.drew) | (with_reducible apply Mr.alloc) | (with_reducible apply Mr.ext) | (with_reducible refine Mr.setCell ?_ (by first | (simp; done) | (simp; omega) | omega) _))); done)) _)))
    have x0 : z.u.cell? ⟨X, 0, none⟩ = some (.int .i64 0) := by subst hX; simp [go_sem]
    have x2 : z.u.cell? ⟨X, 2, none⟩ = some (.int .i64 rr) := by subst hX; simp [go_sem]
    have lX : X < z.u.heap.size := by have := z.h.below.size; simp [drew_heap] at this; omega
    have hnb : Hid (∀ b o, a' = some ⟨b, o, none⟩ → X + 2 ≤ b) := fun b o e => by have := hnb b o e; simp [drew_heap] at this; omega
    have hXB : w.heap.size + 2 ≤ X := by have := hZ1.lt; omega
    have nX1 : ¬ X = w.heap.size := by omega
    have nX2 : ¬ w.heap.size = X := by omega
    rw [← hX]
    clear hB1 hZ1 hm1 c34 c0 c1 l34 d0 d1 d2 d3 d4 lb1 hm2 hX
    generalize z.u = W2 at *
    clear z
    have c1 := (hB2.cell 1).trans h1b
    have f1 := hB2.froz 1
    have cR := (hB2.cell (2 + rr)).trans (hRb.out rr hrr)
    have fR := hB2.froz (2 + rr)
    have lB := hB2.lt
    have hB3 := (hB2.set (2 + rr) (.int .u64 (doW m ⟨0, i1, p1, 0⟩))).set 1 (.int .i64 ((j : Int) + 1))
    rw [hset0.out _ _ _ _ ei hrr] at hB3
    have hZ3 := (hZ2.set_ne (a := ⟨w.heap.size, 2 + rr, none⟩) (by simp) (.int .u64 (doW m ⟨0, i1, p1, 0⟩))).set_ne (a := ⟨w.heap.size, 1, none⟩) (by simp) (.int .i64 ((j : Int) + 1))
    have hIs3 := wl_set (k := 1) (wl_set (g := w.heap.size) (k := 2 + rr) hIs (fun b o e => by have := hnb.out b o e; omega) (.int .u64 (doW m ⟨0, i1, p1, 0⟩))) (g := w.heap.size) (fun b o e => by have := hnb.out b o e; omega) (.int .i64 ((j : Int) + 1))
    have hm4 := (hm3.setCell (a := ⟨w.heap.size, 2 + rr, none⟩) (Nat.le_refl _) (.int .u64 (doW m ⟨0, i1, p1, 0⟩))).setCell (a := ⟨w.heap.size, 1, none⟩) (Nat.le_refl _) (.int .i64 ((j : Int) + 1))
    obtain rfl : M4 = doM m ⟨0, i1, p1, 0⟩ := hmem.out _ _ _ _ _ ei
    clear hset0 hset1 hmem ei ej
    go_wp2_with (first | (refine wpList_load_row rfl 37 _ rfl w.heap.size rfl 37 _ (0, 0) _ hB3 Try.underlying37 rfl hsz3 ?_) | (go_at_call 33; refine (hrest3 _ hm4).mono ?_; rintro e w' ⟨rfl, y, rfl⟩; have hZ4 := hZ3.mr y.h; have hm5 := hm4.trans y.h; have hIs4 := hIs3.mr y.h) | (refine wpList_store_row rfl 37 _ _ rfl (w.heap.size + 1) _ rfl rfl 37 _ hZ4 hsz4 (hZs.trans hVs4.out.symm) hVo4 ?_))
    exact bodyPost_ret (results_cell_slot Try.results21 _ _ (w.heap.size + 1) 37 V4 _ rfl rfl (hZ4.row V4) Try.underlying37 rfl hsz4) rfl ⟨_, _, rfl, (fun b o e => by have := hnb.out b o e; omega), ⟨_, mr_row hm5 (by simp) _⟩, rfl, wl_row hIs4 (fun b o e => by have := hnb.out b o e; omega) V4⟩
  · have hok : Acc.ok ⟨1, i1, p1, 0⟩ := hok
    go_region_held3 (fun w' => w'.cell? ⟨W1.heap.size, 0, none⟩ = some (.int .i64 1) ∧ w'.cell? ⟨W1.heap.size, 1, none⟩ = some (.int .i64 i1) ∧ w'.cell? ⟨W1.heap.size, 4, none⟩ = some (.int .u64 p1) ∧ w'.cell? ⟨W1.heap.size + 1, 1, none⟩ = some (.int .i64 1)) ((simp [go_sem]; done)) (first | (go_at_call 37; refine (rdo11_c _ (g.mr (hm1.trans (by repeat (first | (with_reducible exact Mr.refl _) | (with_reducible apply Mr.drew) | (with_reducible apply Mr.alloc) | (with_reducible apply Mr.ext) | (with_reducible refine Mr.setCell ?_ (by first | (simp; done) | (simp; omega) | omega | (refine leOf0 ?_; (repeat (first | (with_reducible exact Mr.refl _) | (with_reducible apply Mr.drew) | (with_reducible apply Mr.alloc) | (with_reducible apply Mr.ext) | (with_reducible refine Mr.setCell ?_ (by first | (simp; done) | (simp; omega) | omega) _))); done) | (refine leOf ?_; (repeat (first | (with_reducible exact Mr.refl _) | (with_reducible apply Mr.drew) | (with_reducible apply Mr.alloc) | (with_reducible apply Mr.ext) | (with_reducible refine Mr.setCell ?_ (by first | (simp; done) | (simp; omega) | omega) _))); done)) _))))) en hok).mono ?_; rintro e w1 ⟨a', c', rfl, hnb, z, rfl, hIs⟩))
    obtain ⟨X, hX⟩ : ∃ X, X = W1.heap.size := ⟨_, rfl⟩
    have hB2 : Row z.u w.heap.size 37 V2 := (((hB1.alloc _).alloc _).mr ((Mr.refl _).drew)).mr z.h
    have hZ2 : Row z.u (w.heap.size + 1) 37 Z := (((hZ1.alloc _).alloc _).mr ((Mr.refl _).drew)).mr z.h
    have hm3 : Mr w z.u := hm1.trans (by repeat (first | (with_reducible exact Mr.refl _) | (with_reducible apply Mr.drew) | (with_reducible apply Mr.alloc) | (with_reducible apply Mr.ext) | (with_reducible refine Mr.setCell ?_ (by first | (simp; done) | (simp; omega) | omega | (refine leOf0 ?_; (repeat (first | (with_reducible exact Mr.refl _) | (with_reducible apply Mr.drew) | (with_reducible apply Mr.alloc) | (with_reducible apply Mr.ext) | (with_reducible refine Mr.setCell ?_ (by first | (simp; done) | (simp; omega) | omega) _))); done) | (refine leOf ?_; (repeat (first | (with_reducible exact Mr.refl _) | (with_reducible apply Mr.drew) | (with_reducible apply Mr.alloc) | (with_reducible apply Mr.ext) | (with_reducible refine Mr.setCell ?_ (by first | (simp; done) | (simp; omega) | omega) _))); done)) _)))
    have x0 : z.u.cell? ⟨X, 0, none⟩ = some (.int .i64 1) := by subst hX; simp [go_sem]
    have x2 : z.u.cell? ⟨X, 2, none⟩ = some (.int .i64 rr) := by subst hX; simp [go_sem]
    have lX : X < z.u.heap.size := by have := z.h.below.size; simp [drew_heap] at this; omega
    have hnb : Hid (∀ b o, a' = some ⟨b, o, none⟩ → X + 2 ≤ b) := fun b o e => by have := hnb b o e; simp [drew_heap] at this; omega
    have hXB : w.heap.size + 2 ≤ X := by have := hZ1.lt; omega
    have nX1 : ¬ X = w.heap.size := by omega
    have nX2 : ¬ w.heap.size = X := by omega
    rw [← hX]
    clear hB1 hZ1 hm1 c34 c0 c1 l34 d0 d1 d2 d3 d4 lb1 hm2 hX
    generalize z.u = W2 at *
    clear z
    have c1 := (hB2.cell 1).trans h1b
    have f1 := hB2.froz 1
    have cR := (hB2.cell (2 + rr)).trans (hRb.out rr hrr)
    have fR := hB2.froz (2 + rr)
    have lB := hB2.lt
    have hB3 := hB2.set 1 (.int .i64 ((j : Int) + 1))
    rw [hset1.out _ _ _ _ _ ei (by decide)] at hB3
    have hZ3 := hZ2.set_ne (a := ⟨w.heap.size, 1, none⟩) (by simp) (.int .i64 ((j : Int) + 1))
    have hIs3 := wl_set (k := 1) hIs (g := w.heap.size) (fun b o e => by have := hnb.out b o e; omega) (.int .i64 ((j : Int) + 1))
    have hm4 := hm3.setCell (a := ⟨w.heap.size, 1, none⟩) (Nat.le_refl _) (.int .i64 ((j : Int) + 1))
    obtain rfl : M4 = doM m ⟨1, i1, p1, 0⟩ := hmem.out _ _ _ _ _ ei
    clear hset0 hset1 hmem ei ej
    go_wp2_with (first | (refine wpList_load_row rfl 37 _ rfl w.heap.size rfl 37 _ (0, 0) _ hB3 Try.underlying37 rfl hsz3 ?_) | (go_at_call 33; refine (hrest3 _ hm4).mono ?_; rintro e w' ⟨rfl, y, rfl⟩; have hZ4 := hZ3.mr y.h; have hm5 := hm4.trans y.h; have hIs4 := hIs3.mr y.h) | (refine wpList_store_row rfl 37 _ _ rfl (w.heap.size + 1) _ rfl rfl 37 _ hZ4 hsz4 (hZs.trans hVs4.out.symm) hVo4 ?_))
    exact bodyPost_ret (results_cell_slot Try.results21 _ _ (w.heap.size + 1) 37 V4 _ rfl rfl (hZ4.row V4) Try.underlying37 rfl hsz4) rfl ⟨_, _, rfl, (fun b o e => by have := hnb.out b o e; omega), ⟨_, mr_row hm5 (by simp) _⟩, rfl, wl_row hIs4 (fun b o e => by have := hnb.out b o e; omega) V4⟩
  · have hok : Acc.ok ⟨3, i1, p1, 0⟩ := hok
    go_region_held3 (fun w' => w'.cell? ⟨W1.heap.size, 0, none⟩ = some (.int .i64 2) ∧ w'.cell? ⟨W1.heap.size, 1, none⟩ = some (.int .i64 i1) ∧ w'.cell? ⟨W1.heap.size, 4, none⟩ = some (.int .u64 p1) ∧ w'.cell? ⟨W1.heap.size + 1, 2, none⟩ = some (.int .i64 3)) ((simp [go_sem]; done)) (first | (go_at_call 37; refine (rdo11_c _ (g.mr (hm1.trans (by repeat (first | (with_reducible exact Mr.refl _) | (with_reducible apply Mr.drew) | (with_reducible apply Mr.alloc) | (with_reducible apply Mr.ext) | (with_reducible refine Mr.setCell ?_ (by first | (simp; done) | (simp; omega) | omega | (refine leOf0 ?_; (repeat (first | (with_reducible exact Mr.refl _) | (with_reducible apply Mr.drew) | (with_reducible apply Mr.alloc) | (with_reducible apply Mr.ext) | (with_reducible refine Mr.setCell ?_ (by first | (simp; done) | (simp; omega) | omega) _))); done) | (refine leOf ?_; (repeat (first | (with_reducible exact Mr.refl _) | (with_reducible apply Mr.drew) | (with_reducible apply Mr.alloc) | (with_reducible apply Mr.ext) | (with_reducible refine Mr.setCell ?_ (by first | (simp; done) | (simp; omega) | omega) _))); done)) _))))) en hok).mono ?_; rintro e w1 ⟨a', c', rfl, hnb, z, rfl, hIs⟩))
    obtain ⟨X, hX⟩ : ∃ X, X = W1.heap.size := ⟨_, rfl⟩
    have hB2 : Row z.u w.heap.size 37 V2 := (((hB1.alloc _).alloc _).mr ((Mr.refl _).drew)).mr z.h
    have hZ2 : Row z.u (w.heap.size + 1) 37 Z := (((hZ1.alloc _).alloc _).mr ((Mr.refl _).drew)).mr z.h
    have hm3 : Mr w z.u := hm1.trans (by repeat (first | (with_reducible exact Mr.refl _) | (with_reducible apply Mr.drew) | (with_reducible apply Mr.alloc) | (with_reducible apply Mr.ext) | (with_reducible refine Mr.setCell ?_ (by first | (simp; done) | (simp; omega) | omega | (refine leOf0 ?_; (repeat (first | (with_reducible exact Mr.refl _) | (with_reducible apply Mr.drew) | (with_reducible apply Mr.alloc) | (with_reducible apply Mr.ext) | (with_reducible refine Mr.setCell ?_ (by first | (simp; done) | (simp; omega) | omega) _))); done) | (refine leOf ?_; (repeat (first | (with_reducible exact Mr.refl _) | (with_reducible apply Mr.drew) | (with_reducible apply Mr.alloc) | (with_reducible apply Mr.ext) | (with_reducible refine Mr.setCell ?_ (by first | (simp; done) | (simp; omega) | omega) _))); done)) _)))
    have x0 : z.u.cell? ⟨X, 0, none⟩ = some (.int .i64 2) := by subst hX; simp [go_sem]
    have x2 : z.u.cell? ⟨X, 2, none⟩ = some (.int .i64 rr) := by subst hX; simp [go_sem]
    have lX : X < z.u.heap.size := by have := z.h.below.size; simp [drew_heap] at this; omega
    have hnb : Hid (∀ b o, a' = some ⟨b, o, none⟩ → X + 2 ≤ b) := fun b o e => by have := hnb b o e; simp [drew_heap] at this; omega
    have hXB : w.heap.size + 2 ≤ X := by have := hZ1.lt; omega
    have nX1 : ¬ X = w.heap.size := by omega
    have nX2 : ¬ w.heap.size = X := by omega
    rw [← hX]
    clear hB1 hZ1 hm1 c34 c0 c1 l34 d0 d1 d2 d3 d4 lb1 hm2 hX
    generalize z.u = W2 at *
    clear z
    have c1 := (hB2.cell 1).trans h1b
    have f1 := hB2.froz 1
    have cR := (hB2.cell (2 + rr)).trans (hRb.out rr hrr)
    have fR := hB2.froz (2 + rr)
    have lB := hB2.lt
    have hB3 := hB2.set 1 (.int .i64 ((j : Int) + 1))
    rw [hset1.out _ _ _ _ _ ei (by decide)] at hB3
    have hZ3 := hZ2.set_ne (a := ⟨w.heap.size, 1, none⟩) (by simp) (.int .i64 ((j : Int) + 1))
    have hIs3 := wl_set (k := 1) hIs (g := w.heap.size) (fun b o e => by have := hnb.out b o e; omega) (.int .i64 ((j : Int) + 1))
    have hm4 := hm3.setCell (a := ⟨w.heap.size, 1, none⟩) (Nat.le_refl _) (.int .i64 ((j : Int) + 1))
    obtain rfl : M4 = doM m ⟨3, i1, p1, 0⟩ := hmem.out _ _ _ _ _ ei
    clear hset0 hset1 hmem ei ej
    go_wp2_with (first | (refine wpList_load_row rfl 37 _ rfl w.heap.size rfl 37 _ (0, 0) _ hB3 Try.underlying37 rfl hsz3 ?_) | (go_at_call 33; refine (hrest3 _ hm4).mono ?_; rintro e w' ⟨rfl, y, rfl⟩; have hZ4 := hZ3.mr y.h; have hm5 := hm4.trans y.h; have hIs4 := hIs3.mr y.h) | (refine wpList_store_row rfl 37 _ _ rfl (w.heap.size + 1) _ rfl rfl 37 _ hZ4 hsz4 (hZs.trans hVs4.out.symm) hVo4 ?_))
    exact bodyPost_ret (results_cell_slot Try.results21 _ _ (w.heap.size + 1) 37 V4 _ rfl rfl (hZ4.row V4) Try.underlying37 rfl hsz4) rfl ⟨_, _, rfl, (fun b o e => by have := hnb.out b o e; omega), ⟨_, mr_row hm5 (by simp) _⟩, rfl, wl_row hIs4 (fun b o e => by have := hnb.out b o e; omega) V4⟩
end Tk
end Go.Proofs.Yteomkfgkhmdehaa
