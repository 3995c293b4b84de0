/- The contracts of the document's own answers of layer 13, second part: Read. -/
import Derived.Test.YthdjldbieajebaaDoorRefC37
import Derived.Test.YthdjldbieajebaaDoorRowW
import Derived.Deep.RegionHeld3
namespace Go.Proofs.YthdjldbieajebaaDoor
open Go.ChangeShapes Go.WideShapes Go.ChangeAt Go.RowKit
set_option linter.unusedVariables false
attribute [local go_sem] Ext.cell Ext.froz Ext.lt Ext.lt1 Ext.lt2 Ext.lt3 Ext.all Ext.set_u drew_heap setCell_size Ext.set_size
namespace Sp
open Wl Rw
theorem infoS : (Tryd.prog.info? 24).map (·.size) = some 5 := by kernel_rfl
def vS (s : Smp) : Value := .agg #[.int .i64 s.t, .int .i64 s.s, .int .i64 s.x, .int .i64 s.y, .int .i64 s.z]
set_option maxRecDepth 100000 in
set_option maxHeartbeats 2000000 in
theorem rread13_c {a : Option Addr} {c n : Nat} {l : List Int} (w : World) (h : Wl.Is w a c l) (en : l.length = n) :
    Calls Tryd.prog 11 #[.slice a n c] w fun e w' => e = .returned (.tuple #[vS (readS l).1, .int .i64 (readS l).2]) ∧ ∃ x : Ext w, w' = x.u := by
  by_cases h6 : n = 6
  · subst h6
    obtain ⟨b, o, rfl, hb, -⟩ := h.num 0 (by omega)
    have hc : ∀ j, j < 6 → w.cell? ⟨b, o + j, none⟩ = some (.int .u64 (gt l j)) := fun j hj => by
      obtain ⟨b', o', e, -, q⟩ := h.num j (by omega)
      simp only [Option.some.injEq, Addr.mk.injEq] at e
      obtain ⟨rfl, rfl, -⟩ := e
      exact q
    have h5 := h.take 5
    have e5 : (l.take 5).length = 5 := by rw [List.length_take]; omega
    have hR : readS l = if gt l 5 ≠ sm (l.take 5) then (zero, 2) else if saneS (rd l) then (rd l, 0) else (zero, 1) := by unfold readS; rw [if_neg (by rw [en]; decide)]
    rw [hR]
    have d0 := hc 0 (by omega)
    have d1 := hc 1 (by omega)
    have d2 := hc 2 (by omega)
    have d3 := hc 3 (by omega)
    have d4 := hc 4 (by omega)
    have d5 := hc 5 (by omega)
    have hc6 : 6 ≤ c := by have := h.le; omega
    have hc5 : (5 : Int) ≤ c := by omega
    have hc0 : ¬ c = 0 := by omega
    have hcn : 5 ≤ c := by omega
    clear hR hc h
    obtain ⟨H, hH⟩ : ∃ H, sm (l.take 5) = H := ⟨_, rfl⟩
    have hrd : Hid (rd l = ⟨wrap64 (gt l 0), wrap64 (gt l 1), wrap64 (gt l 2), wrap64 (gt l 3), wrap64 (gt l 4)⟩) := rfl
    rw [hH]
    have hsum : ∀ W, Mr w W → Calls Tryd.prog 13 #[.slice (some ⟨b, o, none⟩) 5 c] W fun e w' => e = .returned (.int .u64 H) ∧ w' = W := fun W m => by rw [← hH]; exact rsum13_c W (h5.mr m) e5
    clear hH
    generalize gt l 0 = g0 at *
    generalize gt l 1 = g1 at *
    generalize gt l 2 = g2 at *
    generalize gt l 3 = g3 at *
    generalize gt l 4 = g4 at *
    generalize gt l 5 = g5 at *
    by_cases hs : g5 = H
    · subst hs
      rw [if_neg (by simp)]
      have hT : rd l = ⟨IntKind.i64.wrap g0, IntKind.i64.wrap g1, IntKind.i64.wrap g2, IntKind.i64.wrap g3, IntKind.i64.wrap g4⟩ := by
        rw [hrd.out]; simp only [IntKind.wrap_i64, wrap64]
      rw [hT]
      clear hrd hT
      generalize ht0 : IntKind.i64.wrap g0 = t0 at *
      generalize ht1 : IntKind.i64.wrap g1 = t1 at *
      generalize ht2 : IntKind.i64.wrap g2 = t2 at *
      generalize ht3 : IntKind.i64.wrap g3 = t3 at *
      generalize ht4 : IntKind.i64.wrap g4 = t4 at *
      obtain ⟨R1, R2, hR⟩ : ∃ R1 R2, (if saneS ⟨t0, t1, t2, t3, t4⟩ = true then ((⟨t0, t1, t2, t3, t4⟩ : Smp), (0 : Int)) else (zero, 1)) = (R1, R2) := ⟨_, _, rfl⟩
      rw [hR]
      replace hR : Hid _ := hR
      go_enter Tryd.func11, Tryd.ntmps11
      go_wp2
      refine wp_region_ext (by kernel_rfl) (by kernel_rfl) ?_
      (repeat (go_big_quiet_step ((go_at_call 13; exact extCall0 (hsum _ (Mr.ext ((Mr.refl w).alloc _) _))))))
      refine wpQuiet_nil ?_
      rintro w1 ⟨x1, rfl⟩
      go_wp2
      have hm1 : Mr w x1.u := Mr.ext ((Mr.refl w).alloc _) x1
      have hB : Row x1.u w.heap.size 24 #[.int .i64 0, .int .i64 0, .int .i64 0, .int .i64 0, .int .i64 0] := (Row.new w _ _).mr x1.h
      rw [Nat.add_zero] at d0
      replace d0 := (hm1.below.cell (p := ⟨b, o, none⟩) hb).trans d0
      replace d1 := (hm1.below.cell (p := ⟨b, o + 1, none⟩) hb).trans d1
      replace d2 := (hm1.below.cell (p := ⟨b, o + 2, none⟩) hb).trans d2
      replace d3 := (hm1.below.cell (p := ⟨b, o + 3, none⟩) hb).trans d3
      replace d4 := (hm1.below.cell (p := ⟨b, o + 4, none⟩) hb).trans d4
      have hbW : b < x1.u.heap.size := Nat.lt_of_lt_of_le hb hm1.below.size
      clear hsum d5
      generalize x1.u = W at *
      clear x1
      go_region_held3 (fun w' => w'.cell? ⟨b, o, none⟩ = some (.int .u64 g0) ∧ w'.cell? ⟨b, o + 1, none⟩ = some (.int .u64 g1) ∧ w'.cell? ⟨b, o + 2, none⟩ = some (.int .u64 g2) ∧ w'.cell? ⟨b, o + 3, none⟩ = some (.int .u64 g3) ∧ w'.cell? ⟨b, o + 4, none⟩ = some (.int .u64 g4)) ((simp [go_sem, *]; done)) (fail)
      have hl := hB.lt
      try rw [ht0, ht1, ht2, ht3, ht4]
      clear d0 d1 d2 d3 d4 ht0 ht1 ht2 ht3 ht4
      have hX : Row (W.alloc (.cells #[.int .i64 t0, .int .i64 t1, .int .i64 t2, .int .i64 t3, .int .i64 t4] 24)).drew W.heap.size 24 #[.int .i64 t0, .int .i64 t1, .int .i64 t2, .int .i64 t3, .int .i64 t4] := (Row.new W _ _).mr (Mr.refl _).drew
      have hB2 : Row (W.alloc (.cells #[.int .i64 t0, .int .i64 t1, .int .i64 t2, .int .i64 t3, .int .i64 t4] 24)).drew w.heap.size 24 #[.int .i64 0, .int .i64 0, .int .i64 0, .int .i64 0, .int .i64 0] := (hB.alloc _).mr (Mr.refl _).drew
      have hm2 : Mr w (W.alloc (.cells #[.int .i64 t0, .int .i64 t1, .int .i64 t2, .int .i64 t3, .int .i64 t4] 24)).drew := (hm1.alloc _).drew
      generalize hu : W.heap.size = U at *
      have hne : ¬ U = w.heap.size := by omega
      have hne2 : ¬ w.heap.size = U := by omega
      generalize (W.alloc (.cells #[.int .i64 t0, .int .i64 t1, .int .i64 t2, .int .i64 t3, .int .i64 t4] 24)).drew = W2 at *
      have y0 : W2.cell? ⟨U, 0, none⟩ = some (.int .i64 t0) := hX.cell 0
      have y1 : W2.cell? ⟨U, 1, none⟩ = some (.int .i64 t1) := hX.cell 1
      have y2 : W2.cell? ⟨U, 2, none⟩ = some (.int .i64 t2) := hX.cell 2
      have y3 : W2.cell? ⟨U, 3, none⟩ = some (.int .i64 t3) := hX.cell 3
      have y4 : W2.cell? ⟨U, 4, none⟩ = some (.int .i64 t4) := hX.cell 4
      cases hS : saneS ⟨t0, t1, t2, t3, t4⟩
      · have hR' := hR.out
        rw [hS, if_neg (by decide)] at hR'
        simp only [Prod.mk.injEq] at hR'
        obtain ⟨rfl, rfl⟩ := hR'
        clear hR
        go_wp2_with (go_at_call 15; refine (rsane13_c ⟨t0, t1, t2, t3, t4⟩ _).mono ?_; rw [hS]; rintro e w' ⟨rfl, x2, rfl⟩; have hm3 := hm2.trans x2.h; have hX3 := hX.mr x2.h; have hB3 := hB2.mr x2.h; clear hX hB2 hm2 y0 y1 y2 y3 y4; generalize x2.u = W3 at *; clear x2; have y0 : W3.cell? ⟨U, 0, none⟩ = some (.int .i64 t0) := hX3.cell 0; have y1 : W3.cell? ⟨U, 1, none⟩ = some (.int .i64 t1) := hX3.cell 1; have y2 : W3.cell? ⟨U, 2, none⟩ = some (.int .i64 t2) := hX3.cell 2; have y3 : W3.cell? ⟨U, 3, none⟩ = some (.int .i64 t3) := hX3.cell 3; have y4 : W3.cell? ⟨U, 4, none⟩ = some (.int .i64 t4) := hX3.cell 4; have z0 : W3.cell? ⟨w.heap.size, 0, none⟩ = some (.int .i64 0) := hB3.cell 0; have z1 : W3.cell? ⟨w.heap.size, 1, none⟩ = some (.int .i64 0) := hB3.cell 1; have z2 : W3.cell? ⟨w.heap.size, 2, none⟩ = some (.int .i64 0) := hB3.cell 2; have z3 : W3.cell? ⟨w.heap.size, 3, none⟩ = some (.int .i64 0) := hB3.cell 3; have z4 : W3.cell? ⟨w.heap.size, 4, none⟩ = some (.int .i64 0) := hB3.cell 4; have f0 := hB3.froz 0; have f1 := hB3.froz 1; have f2 := hB3.froz 2; have f3 := hB3.froz 3; have f4 := hB3.froz 4; have l3 := hB3.lt)
        exact bodyPost_ret (results_cell_slot Tryd.results11 _ _ w.heap.size 24 #[.int .i64 0, .int .i64 0, .int .i64 0, .int .i64 0, .int .i64 0] _ rfl rfl (((((hB3.set 0 _).set 1 _).set 2 _).set 3 _).set 4 _) Tryd.underlying24 rfl infoS) rfl ⟨rfl, Mr.mk' (((((hm3.setCell (Nat.le_refl _) _).setCell (Nat.le_refl _) _).setCell (Nat.le_refl _) _).setCell (Nat.le_refl _) _).setCell (Nat.le_refl _) _)⟩
      · have hR' := hR.out
        rw [hS, if_pos rfl] at hR'
        simp only [Prod.mk.injEq] at hR'
        obtain ⟨rfl, rfl⟩ := hR'
        clear hR
        go_wp2_with (go_at_call 15; refine (rsane13_c ⟨t0, t1, t2, t3, t4⟩ _).mono ?_; rw [hS]; rintro e w' ⟨rfl, x2, rfl⟩; have hm3 := hm2.trans x2.h; have hX3 := hX.mr x2.h; have hB3 := hB2.mr x2.h; clear hX hB2 hm2 y0 y1 y2 y3 y4; generalize x2.u = W3 at *; clear x2; have y0 : W3.cell? ⟨U, 0, none⟩ = some (.int .i64 t0) := hX3.cell 0; have y1 : W3.cell? ⟨U, 1, none⟩ = some (.int .i64 t1) := hX3.cell 1; have y2 : W3.cell? ⟨U, 2, none⟩ = some (.int .i64 t2) := hX3.cell 2; have y3 : W3.cell? ⟨U, 3, none⟩ = some (.int .i64 t3) := hX3.cell 3; have y4 : W3.cell? ⟨U, 4, none⟩ = some (.int .i64 t4) := hX3.cell 4; have z0 : W3.cell? ⟨w.heap.size, 0, none⟩ = some (.int .i64 0) := hB3.cell 0; have z1 : W3.cell? ⟨w.heap.size, 1, none⟩ = some (.int .i64 0) := hB3.cell 1; have z2 : W3.cell? ⟨w.heap.size, 2, none⟩ = some (.int .i64 0) := hB3.cell 2; have z3 : W3.cell? ⟨w.heap.size, 3, none⟩ = some (.int .i64 0) := hB3.cell 3; have z4 : W3.cell? ⟨w.heap.size, 4, none⟩ = some (.int .i64 0) := hB3.cell 4; have f0 := hB3.froz 0; have f1 := hB3.froz 1; have f2 := hB3.froz 2; have f3 := hB3.froz 3; have f4 := hB3.froz 4; have l3 := hB3.lt)
        exact bodyPost_ret (results_cell_slot Tryd.results11 _ _ w.heap.size 24 #[.int .i64 t0, .int .i64 t1, .int .i64 t2, .int .i64 t3, .int .i64 t4] _ rfl rfl (((((hB3.set 0 _).set 1 _).set 2 _).set 3 _).set 4 _) Tryd.underlying24 rfl infoS) rfl ⟨rfl, Mr.mk' (((((hm3.setCell (Nat.le_refl _) _).setCell (Nat.le_refl _) _).setCell (Nat.le_refl _) _).setCell (Nat.le_refl _) _).setCell (Nat.le_refl _) _)⟩
    · have hs' : (g5 != H) = true := by simpa using hs
      rw [if_pos hs]
      go_enter Tryd.func11, Tryd.ntmps11
      go_wp2
      refine wp_region_ext (by kernel_rfl) (by kernel_rfl) ?_
      (repeat (go_big_quiet_step ((go_at_call 13; exact extCall0 (hsum _ (Mr.ext ((Mr.refl w).alloc _) _))))))
      refine wpQuiet_nil ?_
      rintro w1 ⟨x1, rfl⟩
      go_wp2
      exact bodyPost_ret (v := .tuple #[vS zero, .int .i64 2]) (by simp [results, Tryd.results11, go_sem, vS, zero]) rfl ⟨rfl, Mr.mk' (by repeat (first | (with_reducible exact Mr.refl _) | (with_reducible apply Mr.drew) | (with_reducible apply Mr.alloc) | (with_reducible apply Mr.ext) | (with_reducible refine Mr.setCell ?_ (by first | (simp; done) | (simp; omega) | omega | (refine leOf0 ?_; (repeat (first | (with_reducible exact Mr.refl _) | (with_reducible apply Mr.drew) | (with_reducible apply Mr.alloc) | (with_reducible apply Mr.ext) | (with_reducible refine Mr.setCell ?_ (by first | (simp; done) | (simp; omega) | omega) _))); done) | (refine leOf ?_; (repeat (first | (with_reducible exact Mr.refl _) | (with_reducible apply Mr.drew) | (with_reducible apply Mr.alloc) | (with_reducible apply Mr.ext) | (with_reducible refine Mr.setCell ?_ (by first | (simp; done) | (simp; omega) | omega) _))); done)) _)))⟩
  · have e : readS l = (zero, 5) := by unfold readS; rw [if_pos (by rw [en]; exact h6)]
    have h6' : ((n : Int) == 6) = false := by simp only [beq_eq_false_iff_ne, ne_eq]; omega
    have h6'' : ¬ (n : Int) = 6 := by omega
    rw [e]
    go_enter Tryd.func11, Tryd.ntmps11
    go_wp2
    exact bodyPost_ret (v := .tuple #[vS zero, .int .i64 5]) (by simp [results, Tryd.results11, go_sem, vS, zero]) rfl ⟨rfl, Mr.mk' (by repeat (first | (with_reducible exact Mr.refl _) | (with_reducible apply Mr.drew) | (with_reducible apply Mr.alloc) | (with_reducible apply Mr.ext) | (with_reducible refine Mr.setCell ?_ (by first | (simp; done) | (simp; omega) | omega | (refine leOf0 ?_; (repeat (first | (with_reducible exact Mr.refl _) | (with_reducible apply Mr.drew) | (with_reducible apply Mr.alloc) | (with_reducible apply Mr.ext) | (with_reducible refine Mr.setCell ?_ (by first | (simp; done) | (simp; omega) | omega) _))); done) | (refine leOf ?_; (repeat (first | (with_reducible exact Mr.refl _) | (with_reducible apply Mr.drew) | (with_reducible apply Mr.alloc) | (with_reducible apply Mr.ext) | (with_reducible refine Mr.setCell ?_ (by first | (simp; done) | (simp; omega) | omega) _))); done)) _)))⟩
end Sp
end Go.Proofs.YthdjldbieajebaaDoor
