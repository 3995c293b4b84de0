/- Both at their first program (layer 14's law RingTurns). -/
import Derived.Test.YtnbejkhcifeeiaaRingP2
namespace Go.Proofs.Ytnbejkhcifeeiaa
open Go.ChangeShapes Go.WideShapes Go.ChangeAt Go.RowKit
set_option linter.unusedVariables false
set_option linter.unusedSimpArgs false
attribute [local go_sem] Ext.cell Ext.froz Ext.lt Ext.lt1 Ext.lt2 Ext.lt3 Ext.all drew_heap setCell_size Ext.set_size
attribute [-go_sem] loadCells
attribute [-go_sem] Instr.build
namespace Rg
open Wl Ce Tk Rw
def first (am : Option Addr) (km : Nat) (M : List Int) (B C : Int) (ca1 : Option Addr) (cc1 : Nat) (ca2 : Option Addr) (cc2 : Nat) : Pl :=
  ⟨am, km, M, B, C, 0, none, 0, [], 0, 0, ⟨ca1, cc1, ⟨pushL B C 0 (wn 0), 0, zeros, false, 0⟩⟩, ⟨ca2, cc2, ⟨popL B C 0, 0, zeros, false, 0⟩⟩, 0, 0, true⟩
theorem build42 (am : Option Addr) (km : Nat) (M : List Int) (B C : Int) (ca1 : Option Addr) (cc1 : Nat) (ca2 : Option Addr) (cc2 : Nat) (w : World) :
    (Instr.build 42 #[(0, .slice am M.length km), (1, .int .i64 B), (2, .int .i64 C), (7, .agg (TV ca1 cc1 ⟨pushL B C 0 (wn 0), 0, zeros, false, 0⟩)), (8, .agg (TV ca2 cc2 ⟨popL B C 0, 0, zeros, false, 0⟩)), (11, .bool true)]).run Try.prog w = .ok (.agg (PV (first am km M B C ca1 cc1 ca2 cc2))) w :=
  run_build w _ _ _ (by kernel_rfl)
set_option maxRecDepth 100000 in
set_option maxHeartbeats 4000000 in
theorem begun_c {B C : Nat} (hC : 1 ≤ C ∧ C ≤ 8) (hB : B ≤ 100) (w : World) :
    Calls Try.prog 19 #[.int .i64 B, .int .i64 C] w fun e w' => ∃ P am km ca1 cc1 ca2 cc2, e = .returned (.pointer (some ⟨P, 0, none⟩)) ∧ w.heap.size ≤ P ∧ Mr w w' ∧ Pin w' P (first am km (List.replicate (B + 3 + 6 * C) 0) B C ca1 cc1 ca2 cc2) := by
  have z0 : -9223372036854775808 ≤ (B : Int) ∧ (B : Int) ≤ 9223372036854775807 := by omega
  have z1 : -9223372036854775808 ≤ (C : Int) ∧ (C : Int) ≤ 9223372036854775807 := by omega
  have hsz := size_is hC
  have hnw := new_is hC hB
  have zn : -9223372036854775808 ≤ (B : Int) + (3 + 6 * C) ∧ (B : Int) + (3 + 6 * C) ≤ 9223372036854775807 := by omega
  have hp1 : push (B : Int) C 0 (wn 0) = pushL B C 0 (wn 0) := push_is (N := 0) hC hB 0
  have hp2 : pop (B : Int) C 0 = popL B C 0 := pop_is (N := 0) hC hB
  obtain ⟨M, hM⟩ : ∃ M, List.replicate (B + 3 + 6 * C) (0 : Int) = M := ⟨_, rfl⟩
  have hMl : B + 3 + 6 * C = M.length := by rw [← hM, List.length_replicate]
  rw [hM]
  have hMM : List.replicate M.length (0 : Int) = M := by rw [← hMl]; exact hM
  rw [hMl] at hnw
  have hM9 : 0 < M.length := by omega
  have hbd := build42
  have t1 : Unit := ()
  clear hMl hM
  go_enter Try.func19, Try.ntmps19
  go_wp2_with (first | (go_at_call 11; refine (gsize_c _ _ z1).mono ?_; rw [hsz]; rintro e w' ⟨rfl, xs, rfl⟩) | (go_at_call 22; refine (cnew_c _ zn).mono ?_; rw [hnw]; rintro e w' ⟨an, kn, rfl, xn, rfl, hM0⟩) | (go_at_call 25; refine (words14_c _ _ (by decide)).mono ?_; rintro e w' ⟨aw, kw, rfl, xw, rfl, hW⟩) | (go_at_call 14; refine (gpush_c _ _ _ _ z0 z1 (by decide) (hW.mr (by repeat (first | (with_reducible exact Mr.refl _) | (with_reducible assumption) | (with_reducible apply Mr.drew) | (with_reducible apply Mr.alloc) | (with_reducible apply Mr.ext) | (with_reducible refine Mr.setCell ?_ (by first | (simp; done) | (simp; omega) | omega | (refine leOf0 ?_; (repeat (first | (with_reducible exact Mr.refl _) | (with_reducible apply Mr.drew) | (with_reducible apply Mr.alloc) | (with_reducible apply Mr.ext) | (with_reducible refine Mr.setCell ?_ (by first | (simp; done) | (simp; omega) | omega) _))); done) | (refine leOf ?_; (repeat (first | (with_reducible exact Mr.refl _) | (with_reducible apply Mr.drew) | (with_reducible apply Mr.alloc) | (with_reducible apply Mr.ext) | (with_reducible refine Mr.setCell ?_ (by first | (simp; done) | (simp; omega) | omega) _))); done)) _)))) (wn_len _)).mono ?_; rw [hp1]; rintro e w' ⟨ap, kp, rfl, xp, rfl, hC1⟩) | (go_at_call 16; refine (gpop_c _ _ _ _ z0 z1 (by decide)).mono ?_; rw [hp2]; rintro e w' ⟨aq, kq, rfl, xq, rfl, hC2⟩) | (go_at_call 24; (have := t1; clear this t1); refine (tstart_c _ (hC1.mr (by repeat (first | (with_reducible exact Mr.refl _) | (with_reducible assumption) | (with_reducible apply Mr.drew) | (with_reducible apply Mr.alloc) | (with_reducible apply Mr.ext) | (with_reducible refine Mr.setCell ?_ (by first | (simp; done) | (simp; omega) | omega | (refine leOf0 ?_; (repeat (first | (with_reducible exact Mr.refl _) | (with_reducible apply Mr.drew) | (with_reducible apply Mr.alloc) | (with_reducible apply Mr.ext) | (with_reducible refine Mr.setCell ?_ (by first | (simp; done) | (simp; omega) | omega) _))); done) | (refine leOf ?_; (repeat (first | (with_reducible exact Mr.refl _) | (with_reducible apply Mr.drew) | (with_reducible apply Mr.alloc) | (with_reducible apply Mr.ext) | (with_reducible refine Mr.setCell ?_ (by first | (simp; done) | (simp; omega) | omega) _))); done)) _)))) rfl).mono ?_; rw [push_start]; rintro e w' ⟨cs, ks, rfl, xt, rfl, hS1⟩) | (go_at_call 24; refine (tstart_c _ (hC2.mr (by repeat (first | (with_reducible exact Mr.refl _) | (with_reducible assumption) | (with_reducible apply Mr.drew) | (with_reducible apply Mr.alloc) | (with_reducible apply Mr.ext) | (with_reducible refine Mr.setCell ?_ (by first | (simp; done) | (simp; omega) | omega | (refine leOf0 ?_; (repeat (first | (with_reducible exact Mr.refl _) | (with_reducible apply Mr.drew) | (with_reducible apply Mr.alloc) | (with_reducible apply Mr.ext) | (with_reducible refine Mr.setCell ?_ (by first | (simp; done) | (simp; omega) | omega) _))); done) | (refine leOf ?_; (repeat (first | (with_reducible exact Mr.refl _) | (with_reducible apply Mr.drew) | (with_reducible apply Mr.alloc) | (with_reducible apply Mr.ext) | (with_reducible refine Mr.setCell ?_ (by first | (simp; done) | (simp; omega) | omega) _))); done)) _)))) rfl).mono ?_; rw [pop_start]; rintro e w' ⟨ct, kt, rfl, xu, rfl, hS2⟩))
  rw [hMM] at hM0
  have mE : Mr w xu.u := (by repeat (first | (with_reducible exact Mr.refl _) | (with_reducible assumption) | (with_reducible apply Mr.drew) | (with_reducible apply Mr.alloc) | (with_reducible apply Mr.ext) | (with_reducible refine Mr.setCell ?_ (by first | (simp; done) | (simp; omega) | omega | (refine leOf0 ?_; (repeat (first | (with_reducible exact Mr.refl _) | (with_reducible apply Mr.drew) | (with_reducible apply Mr.alloc) | (with_reducible apply Mr.ext) | (with_reducible refine Mr.setCell ?_ (by first | (simp; done) | (simp; omega) | omega) _))); done) | (refine leOf ?_; (repeat (first | (with_reducible exact Mr.refl _) | (with_reducible apply Mr.drew) | (with_reducible apply Mr.alloc) | (with_reducible apply Mr.ext) | (with_reducible refine Mr.setCell ?_ (by first | (simp; done) | (simp; omega) | omega) _))); done)) _)))
  have gM : Wl.Is xu.u an kn M := hM0.mr (by repeat (first | (with_reducible exact Mr.refl _) | (with_reducible assumption) | (with_reducible apply Mr.drew) | (with_reducible apply Mr.alloc) | (with_reducible apply Mr.ext) | (with_reducible refine Mr.setCell ?_ (by first | (simp; done) | (simp; omega) | omega | (refine leOf0 ?_; (repeat (first | (with_reducible exact Mr.refl _) | (with_reducible apply Mr.drew) | (with_reducible apply Mr.alloc) | (with_reducible apply Mr.ext) | (with_reducible refine Mr.setCell ?_ (by first | (simp; done) | (simp; omega) | omega) _))); done) | (refine leOf ?_; (repeat (first | (with_reducible exact Mr.refl _) | (with_reducible apply Mr.drew) | (with_reducible apply Mr.alloc) | (with_reducible apply Mr.ext) | (with_reducible refine Mr.setCell ?_ (by first | (simp; done) | (simp; omega) | omega) _))); done)) _)))
  have g1 : Tis xu.u cs ks ⟨pushL B C 0 (wn 0), 0, zeros, false, 0⟩ := hS1.mr (by repeat (first | (with_reducible exact Mr.refl _) | (with_reducible assumption) | (with_reducible apply Mr.drew) | (with_reducible apply Mr.alloc) | (with_reducible apply Mr.ext) | (with_reducible refine Mr.setCell ?_ (by first | (simp; done) | (simp; omega) | omega | (refine leOf0 ?_; (repeat (first | (with_reducible exact Mr.refl _) | (with_reducible apply Mr.drew) | (with_reducible apply Mr.alloc) | (with_reducible apply Mr.ext) | (with_reducible refine Mr.setCell ?_ (by first | (simp; done) | (simp; omega) | omega) _))); done) | (refine leOf ?_; (repeat (first | (with_reducible exact Mr.refl _) | (with_reducible apply Mr.drew) | (with_reducible apply Mr.alloc) | (with_reducible apply Mr.ext) | (with_reducible refine Mr.setCell ?_ (by first | (simp; done) | (simp; omega) | omega) _))); done)) _)))
  have g2 : Tis xu.u ct kt ⟨popL B C 0, 0, zeros, false, 0⟩ := hS2.mr (by repeat (first | (with_reducible exact Mr.refl _) | (with_reducible assumption) | (with_reducible apply Mr.drew) | (with_reducible apply Mr.alloc) | (with_reducible apply Mr.ext) | (with_reducible refine Mr.setCell ?_ (by first | (simp; done) | (simp; omega) | omega | (refine leOf0 ?_; (repeat (first | (with_reducible exact Mr.refl _) | (with_reducible apply Mr.drew) | (with_reducible apply Mr.alloc) | (with_reducible apply Mr.ext) | (with_reducible refine Mr.setCell ?_ (by first | (simp; done) | (simp; omega) | omega) _))); done) | (refine leOf ?_; (repeat (first | (with_reducible exact Mr.refl _) | (with_reducible apply Mr.drew) | (with_reducible apply Mr.alloc) | (with_reducible apply Mr.ext) | (with_reducible refine Mr.setCell ?_ (by first | (simp; done) | (simp; omega) | omega) _))); done)) _)))
  have mA : Mr xu.u (xu.u.alloc (.cells (PV (first an kn M B C cs ks ct kt)) 42)) := (Mr.refl _).alloc _
  go_ret
  refine ⟨xu.u.heap.size, an, kn, cs, ks, ct, kt, rfl, mE.below.size, mE.trans mA, ?_⟩
  exact { rg := ⟨rfl, rfl⟩
          row := Row.new _ _ _
          mem := gM.mr mA
          memf := fun b o e => by
            obtain ⟨b', o', e', hb, _⟩ := gM.at' 0 hM9
            have e : an = some ⟨b, o, none⟩ := e
            rw [e] at e'; simp only [Option.some.injEq, Addr.mk.injEq] at e'; omega
          own := World.ownsRow_nil _ _ _ _
          few := by show 0 ≤ 100000; omega
          six := fun x hx => by cases hx
          list := fun x hx => by cases hx
          listf := fun x hx => by cases hx
          y := g1.mr mA
          yf := fun _ b o e => by
            obtain ⟨b', o', _, _, _, _, _, e', hb, _⟩ := g1.1.num 0 (by show 0 < 12; omega)
            have e : cs = some ⟨b, o, none⟩ := e
            rw [e] at e'; simp only [Option.some.injEq, Addr.mk.injEq] at e'; omega
          z := g2.mr mA
          zf := fun _ b o e => by
            obtain ⟨b', o', _, _, _, _, _, e', hb, _⟩ := g2.1.num 0 (by show 0 < 11; omega)
            have e : ct = some ⟨b, o, none⟩ := e
            rw [e] at e'; simp only [Option.some.injEq, Addr.mk.injEq] at e'; omega
          far := fun g e => by cases e }
end Rg
end Go.Proofs.Ytnbejkhcifeeiaa
