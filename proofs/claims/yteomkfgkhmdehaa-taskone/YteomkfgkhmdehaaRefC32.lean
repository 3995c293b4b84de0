/- The contracts of the document's own answers of layer 12, third part: Step. -/
import Derived.Test.YteomkfgkhmdehaaRefC31
import Derived.Test.YteomkfgkhmdehaaRowW
import Derived.Deep.RegionHeld3
namespace Go.Proofs.Yteomkfgkhmdehaa
open Go.ChangeShapes Go.WideShapes Go.ChangeAt Go.RowKit
set_option linter.unusedVariables false
set_option linter.unusedSimpArgs false
attribute [local go_sem] Ext.cell Ext.froz Ext.lt Ext.lt1 Ext.lt2 Ext.lt3 Ext.all drew_heap setCell_size Ext.set_size
attribute [-go_sem] Instr.build
namespace Tk
open Wl Ce Rw
theorem wl_row {W : World} {a : Option Addr} {c g : Nat} {l : List Int} (h : Wl.Is W a c l) (ne : ∀ b o, a = some ⟨b, o, none⟩ → b ≠ g) (V : Array Value) : Wl.Is (W.setRow g V) a c l :=
  ⟨h.le, h.max, h.nil, fun j hj => by
    obtain ⟨b, o, e, hlt, hc⟩ := h.at' j hj
    have hs : (W.setRow g V).heap[b]? = W.heap[b]? := by
      unfold World.setRow
      simp only [Array.getElem?_modify]
      rw [if_neg (fun q => ne b o e q.symm)]
    refine ⟨b, o, e, by simpa [World.setRow] using hlt, fun i hi => ?_⟩
    rw [← hc i hi]
    exact World.cell?_of_block (a := ⟨b, o + i, none⟩) hs, h.bd⟩
set_option maxRecDepth 100000 in
set_option maxHeartbeats 2000000 in
theorem rstep12_done {ca a : Option Addr} {cc c n : Nat} {t : T} {m : List Int} (w : World) (h : Tis w ca cc t) (g : Wl.Is w a c m) (en : m.length = n) (hd : t.done = true) :
    Calls Try.prog 21 #[.agg (TV ca cc t), .slice a n c] w fun e w' => ∃ a' c', e = .returned (.tuple #[.agg (TV ca cc t), .slice a' (cut m).length c']) ∧ (∀ b o, a' = some ⟨b, o, none⟩ → w.heap.size ≤ b) ∧ ∃ x : Ext w, w' = x.u ∧ Wl.Is x.u a' c' (cut m) := by
  obtain ⟨hI, hT⟩ := h
  have h34 := TV_34 (ca := ca) (cc := cc) hT.len
  rw [hd] at h34
  have hVs := TV_size (ca := ca) (cc := cc) hT.len
  have hVo := TV_one ca cc t
  replace hVs : Hid ((TV ca cc t).size = 36) := hVs
  have hsz := sizeT (ca := ca) (cc := cc) hT.len
  generalize TV ca cc t = V at *
  obtain ⟨Z, hZe⟩ : ∃ Z, Z = TV none 0 ⟨[], 0, zeros, false, 0⟩ := ⟨_, rfl⟩
  have hZs : Z.size = 36 := by rw [hZe]; exact TV_size rfl
  have hZ : Row ((w.alloc (.cells V 37)).alloc (.cells (TV none 0 ⟨[], 0, zeros, false, 0⟩) 37)) (w.heap.size + 1) 37 Z := by rw [hZe]; exact row_new _ (by simp)
  have hB : Row ((w.alloc (.cells V 37)).alloc (.cells (TV none 0 ⟨[], 0, zeros, false, 0⟩) 37)) w.heap.size 37 V := (Row.new _ _ _).alloc _
  have hm0 : Mr w ((w.alloc (.cells V 37)).alloc (.cells (TV none 0 ⟨[], 0, zeros, false, 0⟩) 37)) := ((Mr.refl w).alloc _).alloc _
  have d34 : (w.alloc (.cells V 37)).cell? ⟨w.heap.size, 34, none⟩ = some (.bool true) := ((Row.new w _ V).cell 34).trans h34
  clear hZe hI
  go_enter Try.func21, Try.ntmps21
  go_wp2
  refine wp_region_held_drew (S := fun w' => Row w' w.heap.size 37 V ∧ ∃ Z' : Array Value, Row w' (w.heap.size + 1) 37 Z' ∧ Z'.size = 36) (by kernel_rfl) ⟨hB.mr (Mr.refl _).drew, Z, hZ.mr (Mr.refl _).drew, hZs⟩ (fun hHeld => ?_)
  refine wpAnyH_take (i := 0) (v := .agg V) rfl (by kernel_rfl) (by kernel_rfl) (by kernel_rfl) (fun _ _ _ h => h) (yields_row _ _ rfl (by rfl) w.heap.size rfl 37 V _ (fun _ h => h.1) Try.underlying37 rfl hsz) hHeld ?_
  try simp only [Act.put, List.setIfInBounds_toArray, List.set_cons_zero, List.set_cons_succ]
  refine wpAnyH_take (i := 1) (v := .slice a n c) rfl (by kernel_rfl) (by kernel_rfl) (by kernel_rfl) (fun _ _ _ h => h) (Or.inl ⟨by rfl, fun w9 hSw => by simp [go_sem]⟩) hHeld ?_
  try simp only [Act.put, List.setIfInBounds_toArray, List.set_cons_zero, List.set_cons_succ]
  refine wpAnyH_ready (rs := [2]) (by kernel_rfl) (by simp) ?_
  refine AllReadyH.cons rfl (fun K hK => ?_) AllReadyH.nil
  go_simp
  (go_at_call 29; refine (ras11_c _ (g.mr (by repeat (first | (with_reducible exact Mr.refl _) | (with_reducible apply Mr.drew) | (with_reducible apply Mr.alloc) | (with_reducible apply Mr.ext) | (with_reducible refine Mr.setCell ?_ (by first | (simp; done) | (simp; omega) | omega | (refine leOf0 ?_; (repeat (first | (with_reducible exact Mr.refl _) | (with_reducible apply Mr.drew) | (with_reducible apply Mr.alloc) | (with_reducible apply Mr.ext) | (with_reducible refine Mr.setCell ?_ (by first | (simp; done) | (simp; omega) | omega) _))); done) | (refine leOf ?_; (repeat (first | (with_reducible exact Mr.refl _) | (with_reducible apply Mr.drew) | (with_reducible apply Mr.alloc) | (with_reducible apply Mr.ext) | (with_reducible refine Mr.setCell ?_ (by first | (simp; done) | (simp; omega) | omega) _))); done)) _)))) en).mono ?_; rintro e w1 ⟨v, rfl, x, rfl, hown⟩; obtain ⟨a', c', rfl, -, hIs, hnb⟩ := owns_is hown (Wb.cut g.bd); have hnb : ∀ b o, a' = some ⟨b, o, none⟩ → w.heap.size + 2 ≤ b := (fun b o e => by have := hnb b o e; simp [drew_heap] at this; omega); clear hown)
  obtain ⟨hB1, Z1, hZ1, hZs1⟩ : Row x.u w.heap.size 37 V ∧ ∃ Z' : Array Value, Row x.u (w.heap.size + 1) 37 Z' ∧ Z'.size = 36 := ⟨(hB.mr (Mr.refl _).drew).mr x.h, Z, (hZ.mr (Mr.refl _).drew).mr x.h, hZs⟩
  refine hK.out _ _ ⟨hB1, Z1, hZ1, hZs1⟩ (fun hHeld => ?_)
  clear hK K
  try simp only [Act.put, List.setIfInBounds_toArray, List.set_cons_zero, List.set_cons_succ]
  refine wpAnyH_ready (rs := [3]) (by kernel_rfl) (by simp) ?_
  refine AllReadyH.cons rfl (fun K hK => ?_) AllReadyH.nil
  rw [if_pos (by rfl)]
  refine wp_store_row _ _ _ rfl (w.heap.size + 1) V rfl rfl 37 Z1 hZ1 hsz (hZs1.trans hVs.out.symm) hVo ?_
  refine hK.out _ _ ⟨hB1.row_ne (by omega) V, V, hZ1.row V, hVs.out⟩ (fun hHeld => ?_)
  clear hK K
  try simp only [Act.put, List.setIfInBounds_toArray, List.set_cons_zero, List.set_cons_succ]
  refine wpAnyH_ready (rs := [4]) (by kernel_rfl) (by simp) ?_
  refine AllReadyH.cons rfl (fun K hK => ?_) AllReadyH.nil
  go_simp
  refine hK.out _ _ hHeld (fun hHeld => ?_)
  clear hK K
  refine wpAnyH_done (by kernel_rfl) ?_ _
  go_wp2_with fail
  exact bodyPost_ret (results_cell_slot Try.results21 _ _ (w.heap.size + 1) 37 V _ rfl rfl (hZ1.row V) Try.underlying37 rfl hsz) rfl ⟨_, _, rfl, (fun b o e => by have := hnb b o e; omega), ⟨_, mr_row (by repeat (first | (with_reducible exact Mr.refl _) | (with_reducible apply Mr.drew) | (with_reducible apply Mr.alloc) | (with_reducible apply Mr.ext) | (with_reducible refine Mr.setCell ?_ (by first | (simp; done) | (simp; omega) | omega | (refine leOf0 ?_; (repeat (first | (with_reducible exact Mr.refl _) | (with_reducible apply Mr.drew) | (with_reducible apply Mr.alloc) | (with_reducible apply Mr.ext) | (with_reducible refine Mr.setCell ?_ (by first | (simp; done) | (simp; omega) | omega) _))); done) | (refine leOf ?_; (repeat (first | (with_reducible exact Mr.refl _) | (with_reducible apply Mr.drew) | (with_reducible apply Mr.alloc) | (with_reducible apply Mr.ext) | (with_reducible refine Mr.setCell ?_ (by first | (simp; done) | (simp; omega) | omega) _))); done)) _))) (by simp) _⟩, rfl, wl_row hIs (fun b o e => by have := hnb b o e; omega) V⟩
set_option maxRecDepth 100000 in
set_option maxHeartbeats 2000000 in
theorem rstep12_bad {ca a : Option Addr} {cc c n : Nat} {t : T} {m : List Int} (w : World) (h : Tis w ca cc t) (g : Wl.Is w a c m) (en : m.length = n) (hd : t.done = false) (hs : sane t.code = false) :
    Calls Try.prog 21 #[.agg (TV ca cc t), .slice a n c] w fun e w' => ∃ a' c', e = .returned (.tuple #[.agg (TV none 0 nought), .slice a' (cut m).length c']) ∧ (∀ b o, a' = some ⟨b, o, none⟩ → w.heap.size ≤ b) ∧ ∃ x : Ext w, w' = x.u ∧ Wl.Is x.u a' c' (cut m) := by
  obtain ⟨hI, hT⟩ := h
  have h34 := TV_34 (ca := ca) (cc := cc) hT.len
  rw [hd] at h34
  have h0 := TV_0 ca cc t
  have hstart : ∀ W, Mr w W → Calls Try.prog 19 #[.slice ca t.code.length cc] W fun e w' => e = .returned (.agg (TV none 0 nought)) ∧ ∃ x : Ext W, w' = x.u := fun W q => by
    have e1 : start t.code = nought := by unfold start; rw [hs]; rfl
    have e2 : sa t.code ca = none := by unfold sa; rw [hs]; rfl
    have e3 : sc t.code cc = 0 := by unfold sc; rw [hs]; rfl
    have := rstart12_c W (hI.mr q) rfl
    rw [e1, e2, e3] at this
    exact this
  have hVs2 := TV_size (ca := none) (cc := 0) tok_nought.len
  have hVo2 := TV_one none 0 nought
  have hsz2 := sizeT (ca := none) (cc := 0) tok_nought.len
  generalize TV ca cc t = V at *
  generalize TV none 0 nought = V2 at *
  obtain ⟨Z, hZe⟩ : ∃ Z, Z = TV none 0 ⟨[], 0, zeros, false, 0⟩ := ⟨_, rfl⟩
  have hZs : Z.size = 36 := by rw [hZe]; exact TV_size rfl
  have hZ : Row ((w.alloc (.cells V 37)).alloc (.cells (TV none 0 ⟨[], 0, zeros, false, 0⟩) 37)) (w.heap.size + 1) 37 Z := by rw [hZe]; exact row_new _ (by simp)
  replace hVs2 : Hid (V2.size = 36) := hVs2
  clear hZe
  go_enter Try.func21, Try.ntmps21
  go_wp2_with (first | (go_at_call 16; refine (rsane12_c _ (hI.mr (by repeat (first | (with_reducible exact Mr.refl _) | (with_reducible apply Mr.drew) | (with_reducible apply Mr.alloc) | (with_reducible apply Mr.ext) | (with_reducible refine Mr.setCell ?_ (by first | (simp; done) | (simp; omega) | omega | (refine leOf0 ?_; (repeat (first | (with_reducible exact Mr.refl _) | (with_reducible apply Mr.drew) | (with_reducible apply Mr.alloc) | (with_reducible apply Mr.ext) | (with_reducible refine Mr.setCell ?_ (by first | (simp; done) | (simp; omega) | omega) _))); done) | (refine leOf ?_; (repeat (first | (with_reducible exact Mr.refl _) | (with_reducible apply Mr.drew) | (with_reducible apply Mr.alloc) | (with_reducible apply Mr.ext) | (with_reducible refine Mr.setCell ?_ (by first | (simp; done) | (simp; omega) | omega) _))); done)) _)))) rfl).mono ?_; rw [hs]; rintro e w' ⟨rfl, x, rfl⟩) | (go_at_call 19; refine (hstart _ (by repeat (first | (with_reducible exact Mr.refl _) | (with_reducible apply Mr.drew) | (with_reducible apply Mr.alloc) | (with_reducible apply Mr.ext) | (with_reducible refine Mr.setCell ?_ (by first | (simp; done) | (simp; omega) | omega | (refine leOf0 ?_; (repeat (first | (with_reducible exact Mr.refl _) | (with_reducible apply Mr.drew) | (with_reducible apply Mr.alloc) | (with_reducible apply Mr.ext) | (with_reducible refine Mr.setCell ?_ (by first | (simp; done) | (simp; omega) | omega) _))); done) | (refine leOf ?_; (repeat (first | (with_reducible exact Mr.refl _) | (with_reducible apply Mr.drew) | (with_reducible apply Mr.alloc) | (with_reducible apply Mr.ext) | (with_reducible refine Mr.setCell ?_ (by first | (simp; done) | (simp; omega) | omega) _))); done)) _)))).mono ?_; rintro e w' ⟨rfl, z, rfl⟩) | (go_at_call 29; refine (ras11_c _ (g.mr (by repeat (first | (with_reducible exact Mr.refl _) | (with_reducible apply Mr.drew) | (with_reducible apply Mr.alloc) | (with_reducible apply Mr.ext) | (with_reducible refine Mr.setCell ?_ (by first | (simp; done) | (simp; omega) | omega | (refine leOf0 ?_; (repeat (first | (with_reducible exact Mr.refl _) | (with_reducible apply Mr.drew) | (with_reducible apply Mr.alloc) | (with_reducible apply Mr.ext) | (with_reducible refine Mr.setCell ?_ (by first | (simp; done) | (simp; omega) | omega) _))); done) | (refine leOf ?_; (repeat (first | (with_reducible exact Mr.refl _) | (with_reducible apply Mr.drew) | (with_reducible apply Mr.alloc) | (with_reducible apply Mr.ext) | (with_reducible refine Mr.setCell ?_ (by first | (simp; done) | (simp; omega) | omega) _))); done)) _)))) en).mono ?_; rintro e w1 ⟨v, rfl, y, rfl, hown⟩; obtain ⟨a', c', rfl, -, hIs, hnb⟩ := owns_is hown (Wb.cut g.bd); have q1 := z.h.below.size; have hnb : ∀ b o, a' = some ⟨b, o, none⟩ → w.heap.size + 2 ≤ b := (fun b o e => by have := hnb b o e; have q2 := x.h.below.size; simp at q1 q2; omega); clear hown; have hZ1 := ((hZ.mr x.h).mr z.h).mr y.h) | (refine wpList_store_row rfl 37 _ _ rfl (w.heap.size + 1) _ rfl rfl 37 _ hZ1 hsz2 (hZs.trans hVs2.out.symm) hVo2 ?_))
  exact bodyPost_ret (results_cell_slot Try.results21 _ _ (w.heap.size + 1) 37 V2 _ rfl rfl (hZ1.row V2) Try.underlying37 rfl hsz2) rfl ⟨_, _, rfl, (fun b o e => by have := hnb b o e; omega), ⟨_, mr_row (by repeat (first | (with_reducible exact Mr.refl _) | (with_reducible apply Mr.drew) | (with_reducible apply Mr.alloc) | (with_reducible apply Mr.ext) | (with_reducible refine Mr.setCell ?_ (by first | (simp; done) | (simp; omega) | omega | (refine leOf0 ?_; (repeat (first | (with_reducible exact Mr.refl _) | (with_reducible apply Mr.drew) | (with_reducible apply Mr.alloc) | (with_reducible apply Mr.ext) | (with_reducible refine Mr.setCell ?_ (by first | (simp; done) | (simp; omega) | omega) _))); done) | (refine leOf ?_; (repeat (first | (with_reducible exact Mr.refl _) | (with_reducible apply Mr.drew) | (with_reducible apply Mr.alloc) | (with_reducible apply Mr.ext) | (with_reducible refine Mr.setCell ?_ (by first | (simp; done) | (simp; omega) | omega) _))); done)) _))) (by simp) _⟩, rfl, wl_row hIs (fun b o e => by have := hnb b o e; omega) V2⟩
set_option maxRecDepth 100000 in
set_option maxHeartbeats 2000000 in
theorem rstep12_still {ca a : Option Addr} {cc c n : Nat} {t : T} {m : List Int} (w : World) (h : Tis w ca cc t) (g : Wl.Is w a c m) (en : m.length = n) (hd : t.done = false) (hs : sane t.code = true) (hr : (rest t).done = true) :
    Calls Try.prog 21 #[.agg (TV ca cc t), .slice a n c] w fun e w' => ∃ a' c', e = .returned (.tuple #[.agg (TV ca cc (rest t)), .slice a' (cut m).length c']) ∧ (∀ b o, a' = some ⟨b, o, none⟩ → w.heap.size ≤ b) ∧ ∃ x : Ext w, w' = x.u ∧ Wl.Is x.u a' c' (cut m) := by
  obtain ⟨hI, hT⟩ := h
  have hT2 := hT.rest hs
  have h34 := TV_34 (ca := ca) (cc := cc) hT.len
  rw [hd] at h34
  have h34b := TV_34 (ca := ca) (cc := cc) hT2.len
  rw [hr] at h34b
  have h0 := TV_0 ca cc t
  have hrest : ∀ W, Mr w W → Calls Try.prog 33 #[.agg (TV ca cc t)] W fun e w' => e = .returned (.agg (TV ca cc (rest t))) ∧ ∃ x : Ext W, w' = x.u := fun W q => rrest12_c W ⟨hI.mr q, hT⟩ hs
  have hVs := TV_size (ca := ca) (cc := cc) hT.len
  have hVs2 := TV_size (ca := ca) (cc := cc) hT2.len
  have hVo2 := TV_one ca cc (rest t)
  have hsz := sizeT (ca := ca) (cc := cc) hT.len
  have hsz2 := sizeT (ca := ca) (cc := cc) hT2.len
  generalize TV ca cc (rest t) = V2 at *
  generalize TV ca cc t = V at *
  obtain ⟨Z, hZe⟩ : ∃ Z, Z = TV none 0 ⟨[], 0, zeros, false, 0⟩ := ⟨_, rfl⟩
  have hZs : Z.size = 36 := by rw [hZe]; exact TV_size rfl
  have hZ : Row ((w.alloc (.cells V 37)).alloc (.cells (TV none 0 ⟨[], 0, zeros, false, 0⟩) 37)) (w.heap.size + 1) 37 Z := by rw [hZe]; exact row_new _ (by simp)
  have hB : Row ((w.alloc (.cells V 37)).alloc (.cells (TV none 0 ⟨[], 0, zeros, false, 0⟩) 37)) w.heap.size 37 V := (Row.new _ _ _).alloc _
  have hm0 : Mr w ((w.alloc (.cells V 37)).alloc (.cells (TV none 0 ⟨[], 0, zeros, false, 0⟩) 37)) := ((Mr.refl w).alloc _).alloc _
  replace hVs : Hid (V.size = 36) := hVs
  replace hVs2 : Hid (V2.size = 36) := hVs2
  clear hZe
  go_enter Try.func21, Try.ntmps21
  go_wp2_with (first | (go_at_call 16; refine (rsane12_c _ (hI.mr (by repeat (first | (with_reducible exact Mr.refl _) | (with_reducible apply Mr.drew) | (with_reducible apply Mr.alloc) | (with_reducible apply Mr.ext) | (with_reducible refine Mr.setCell ?_ (by first | (simp; done) | (simp; omega) | omega | (refine leOf0 ?_; (repeat (first | (with_reducible exact Mr.refl _) | (with_reducible apply Mr.drew) | (with_reducible apply Mr.alloc) | (with_reducible apply Mr.ext) | (with_reducible refine Mr.setCell ?_ (by first | (simp; done) | (simp; omega) | omega) _))); done) | (refine leOf ?_; (repeat (first | (with_reducible exact Mr.refl _) | (with_reducible apply Mr.drew) | (with_reducible apply Mr.alloc) | (with_reducible apply Mr.ext) | (with_reducible refine Mr.setCell ?_ (by first | (simp; done) | (simp; omega) | omega) _))); done)) _)))) rfl).mono ?_; rw [hs]; rintro e w' ⟨rfl, x, rfl⟩; have hBx := hB.mr x.h; have hZx := hZ.mr x.h; have hmx := hm0.trans x.h; clear hB hZ hm0) | (refine wpList_load_row rfl 37 _ rfl w.heap.size rfl 37 _ (0, 0) _ hBx Try.underlying37 rfl hsz ?_) | (go_at_call 33; refine (hrest _ hmx).mono ?_; rintro e w' ⟨rfl, y, rfl⟩; have hBy := hBx.mr y.h; have hZy := hZx.mr y.h; have hmy := hmx.trans y.h; clear hBx hZx hmx) | (refine wpList_store_row rfl 37 _ _ rfl w.heap.size _ rfl rfl 37 _ hBy hsz2 (hVs.out.trans hVs2.out.symm) hVo2 ?_; have hB1 := Row.row hBy V2; have hZ1 := Row.row_ne hZy (g := w.heap.size) (by omega) V2; have hm1 := mr_row hmy (Nat.le_refl _) V2; clear hBy hZy hmy; generalize y.u.setRow w.heap.size V2 = W1 at *; have c34 := (hB1.cell 34).trans h34b; have l34 := hB1.lt))
  refine wp_region_held_drew (S := fun w' => Row w' w.heap.size 37 V2 ∧ ∃ Z' : Array Value, Row w' (w.heap.size + 1) 37 Z' ∧ Z'.size = 36) (by kernel_rfl) ⟨hB1.mr (Mr.refl _).drew, Z, hZ1.mr (Mr.refl _).drew, hZs⟩ (fun hHeld => ?_)
  refine wpAnyH_take (i := 0) (v := .agg V2) rfl (by kernel_rfl) (by kernel_rfl) (by kernel_rfl) (fun _ _ _ h => h) (yields_row _ _ rfl (by rfl) w.heap.size rfl 37 V2 _ (fun _ h => h.1) Try.underlying37 rfl hsz2) hHeld ?_
  try simp only [Act.put, List.setIfInBounds_toArray, List.set_cons_zero, List.set_cons_succ]
  refine wpAnyH_take (i := 1) (v := .slice a n c) rfl (by kernel_rfl) (by kernel_rfl) (by kernel_rfl) (fun _ _ _ h => h) (Or.inl ⟨by rfl, fun w9 hSw => by simp [go_sem]⟩) hHeld ?_
  try simp only [Act.put, List.setIfInBounds_toArray, List.set_cons_zero, List.set_cons_succ]
  refine wpAnyH_ready (rs := [2]) (by kernel_rfl) (by simp) ?_
  refine AllReadyH.cons rfl (fun K hK => ?_) AllReadyH.nil
  go_simp
  (go_at_call 29; refine (ras11_c _ (g.mr (hm1.trans (by repeat (first | (with_reducible exact Mr.refl _) | (with_reducible apply Mr.drew) | (with_reducible apply Mr.alloc) | (with_reducible apply Mr.ext) | (with_reducible refine Mr.setCell ?_ (by first | (simp; done) | (simp; omega) | omega | (refine leOf0 ?_; (repeat (first | (with_reducible exact Mr.refl _) | (with_reducible apply Mr.drew) | (with_reducible apply Mr.alloc) | (with_reducible apply Mr.ext) | (with_reducible refine Mr.setCell ?_ (by first | (simp; done) | (simp; omega) | omega) _))); done) | (refine leOf ?_; (repeat (first | (with_reducible exact Mr.refl _) | (with_reducible apply Mr.drew) | (with_reducible apply Mr.alloc) | (with_reducible apply Mr.ext) | (with_reducible refine Mr.setCell ?_ (by first | (simp; done) | (simp; omega) | omega) _))); done)) _))))) en).mono ?_; rintro e w1 ⟨v, rfl, x3, rfl, hown⟩; obtain ⟨a', c', rfl, -, hIs, hnb⟩ := owns_is hown (Wb.cut g.bd); have hnb : ∀ b o, a' = some ⟨b, o, none⟩ → w.heap.size + 2 ≤ b := (fun b o e => by have := hnb b o e; have q2 := hZ1.lt; simp [drew_heap] at this; omega); clear hown)
  obtain ⟨hB3, Z3, hZ3, hZs3⟩ : Row x3.u w.heap.size 37 V2 ∧ ∃ Z' : Array Value, Row x3.u (w.heap.size + 1) 37 Z' ∧ Z'.size = 36 := ⟨(hB1.mr (Mr.refl _).drew).mr x3.h, Z, (hZ1.mr (Mr.refl _).drew).mr x3.h, hZs⟩
  refine hK.out _ _ ⟨hB3, Z3, hZ3, hZs3⟩ (fun hHeld => ?_)
  clear hK K
  try simp only [Act.put, List.setIfInBounds_toArray, List.set_cons_zero, List.set_cons_succ]
  refine wpAnyH_ready (rs := [3]) (by kernel_rfl) (by simp) ?_
  refine AllReadyH.cons rfl (fun K hK => ?_) AllReadyH.nil
  rw [if_pos (by rfl)]
  refine wp_store_row _ _ _ rfl (w.heap.size + 1) V2 rfl rfl 37 Z3 hZ3 hsz2 (hZs3.trans hVs2.out.symm) hVo2 ?_
  refine hK.out _ _ ⟨hB3.row_ne (by omega) V2, V2, hZ3.row V2, hVs2.out⟩ (fun hHeld => ?_)
  clear hK K
  try simp only [Act.put, List.setIfInBounds_toArray, List.set_cons_zero, List.set_cons_succ]
  refine wpAnyH_ready (rs := [4]) (by kernel_rfl) (by simp) ?_
  refine AllReadyH.cons rfl (fun K hK => ?_) AllReadyH.nil
  go_simp
  refine hK.out _ _ hHeld (fun hHeld => ?_)
  clear hK K
  refine wpAnyH_done (by kernel_rfl) ?_ _
  go_wp2_with fail
  exact bodyPost_ret (results_cell_slot Try.results21 _ _ (w.heap.size + 1) 37 V2 _ rfl rfl (hZ3.row V2) Try.underlying37 rfl hsz2) rfl ⟨_, _, rfl, (fun b o e => by have := hnb b o e; omega), ⟨_, mr_row (hm1.trans (by repeat (first | (with_reducible exact Mr.refl _) | (with_reducible apply Mr.drew) | (with_reducible apply Mr.alloc) | (with_reducible apply Mr.ext) | (with_reducible refine Mr.setCell ?_ (by first | (simp; done) | (simp; omega) | omega | (refine leOf0 ?_; (repeat (first | (with_reducible exact Mr.refl _) | (with_reducible apply Mr.drew) | (with_reducible apply Mr.alloc) | (with_reducible apply Mr.ext) | (with_reducible refine Mr.setCell ?_ (by first | (simp; done) | (simp; omega) | omega) _))); done) | (refine leOf ?_; (repeat (first | (with_reducible exact Mr.refl _) | (with_reducible apply Mr.drew) | (with_reducible apply Mr.alloc) | (with_reducible apply Mr.ext) | (with_reducible refine Mr.setCell ?_ (by first | (simp; done) | (simp; omega) | omega) _))); done)) _)))) (by simp) _⟩, rfl, wl_row hIs (fun b o e => by have := hnb b o e; omega) V2⟩
end Tk
end Go.Proofs.Yteomkfgkhmdehaa
