/- The contracts of package quat (over the landed code). -/
import Derived.Test.YtmhdpjdkcjdipaaSumC1
import Derived.Test.YtmhdpjdkcjdipaaQuatM
import Derived.Test.YtmhdpjdkcjdipaaQuatS
import Derived.Test.YtmhdpjdkcjdipaaQuatE
import Derived.Test.YtmhdpjdkcjdipaaQuatC0
import Derived.Shelf.Abstract
import Derived.Deep.RegionHeld3
import Derived.Laws.EntriesVeiled
namespace Go.Proofs.Ytmhdpjdkcjdipaa
open Go.ChangeShapes Go.WideShapes Go.ChangeAt Go.RowKit Go.Shelf
open Go.Proofs.Ytmhdpjdkcjdipaa.Fx Go.Proofs.Ytmhdpjdkcjdipaa.Wd Go.Proofs.Ytmhdpjdkcjdipaa.Sc Go.Proofs.Ytmhdpjdkcjdipaa.Rt Go.Proofs.Ytmhdpjdkcjdipaa.Sl Go.Proofs.Ytmhdpjdkcjdipaa.Sm Go.Proofs.Ytmhdpjdkcjdipaa.Vc
set_option linter.unusedVariables false
attribute [local go_sem] Ext.cell Ext.froz Ext.lt Ext.lt1 Ext.lt2 Ext.lt3 Ext.all Ext.set_u drew_heap setCell_size Ext.set_size
namespace Qa
open Sl
/-- Four numbers in a box. -/
def C4 (w : World) (B : Nat) (a0 a1 a2 a3 : Int) : Prop := B < w.heap.size ∧ w.cell? ⟨B, 0, none⟩ = some (.int .i64 a0) ∧ w.cell? ⟨B, 1, none⟩ = some (.int .i64 a1) ∧ w.cell? ⟨B, 2, none⟩ = some (.int .i64 a2) ∧ w.cell? ⟨B, 3, none⟩ = some (.int .i64 a3)
theorem C4.mr {w W : World} {B : Nat} {a0 a1 a2 a3 : Int} (h : C4 w B a0 a1 a2 a3) (m : Mr w W) : C4 W B a0 a1 a2 a3 :=
  ⟨Nat.lt_of_lt_of_le h.1 m.below.size, (m.below.cell (p := ⟨B, 0, none⟩) h.1).trans h.2.1, (m.below.cell (p := ⟨B, 1, none⟩) h.1).trans h.2.2.1, (m.below.cell (p := ⟨B, 2, none⟩) h.1).trans h.2.2.2.1, (m.below.cell (p := ⟨B, 3, none⟩) h.1).trans h.2.2.2.2⟩
theorem C4.is {w : World} {B : Nat} {a0 a1 a2 a3 : Int} (h : C4 w B a0 a1 a2 a3) (k : W64 ⟨a0, a1, a2, a3⟩) : Is w (some ⟨B, 0, none⟩) 4 [a0, a1, a2, a3] :=
  is4_cells h.1 h.2.1 h.2.2.1 h.2.2.2.1 h.2.2.2.2 k.1 k.2.1 k.2.2.1 k.2.2.2
theorem dot_n4 {a b : Option Addr} {c d : Nat} {l m : List Int} {w : World} (n k : Nat) (h : Sl.Is w a c l) (g : Sl.Is w b d m) (hn : l.length = n) (hk : m.length = k) :
    Calls Try.prog 32 #[.slice a n c, .slice b k d] w fun e w' => e = .returned (.tuple #[.int .i64 (dv l m), .bool (db l m)]) ∧ ∃ x : Ext w, w' = x.u := by
  subst hn; subst hk; exact dot_c a b c d l m w h g
set_option maxRecDepth 100000 in
set_option maxHeartbeats 2000000 in
theorem mul1_c (k : Nat) (hk : (k : Int) < 4) (g : Nat) (eg : ∀ args w, (callFunc g args).run Try.prog w = .ok (.enter g args) w) (D A B : Nat) (a0 a1 a2 a3 b0 b1 b2 b3 r0 r1 r2 r3 : Int) (w : World) (hD : D < w.heap.size)
    (hd : w.cell? ⟨D, k, none⟩ = some (.func (.func g) #[] #[])) (ha : Hid (C4 w A a0 a1 a2 a3)) (hb : C4 w B b0 b1 b2 b3) (hA' : W64 (⟨a0, a1, a2, a3⟩ : Q)) (hR' : W64 ⟨r0, r1, r2, r3⟩)
    (hg : ∀ W : World, Calls Try.prog g #[.agg #[.int .i64 b0, .int .i64 b1, .int .i64 b2, .int .i64 b3]] W fun e w' => e = .returned (.agg #[.int .i64 r0, .int .i64 r1, .int .i64 r2, .int .i64 r3]) ∧ ∃ x : Ext W, w' = x.u) :
    Calls Try.prog 31 #[.int .i64 k, .pointer (some ⟨D, 0, none⟩), .pointer (some ⟨B, 0, none⟩), .pointer (some ⟨A, 0, none⟩)] w fun e w' => e = .returned (.tuple #[.int .i64 (dv [a0, a1, a2, a3] [r0, r1, r2, r3]), .bool (db [a0, a1, a2, a3] [r0, r1, r2, r3])]) ∧ ∃ x : Ext w, w' = x.u := by
  obtain ⟨hB, q0, q1, q2, q3⟩ := hb
  have hD1 : D < w.heap.size + 1 := by omega
  have hB1 : B < w.heap.size + 1 := by omega
  go_enter Try.func31, Try.ntmps31
  go_wp2_with fail
  go_cut [7] (fun v wx => ∃ B : Nat, v = .pointer (some ⟨B, 0, none⟩) ∧ C4 wx B r0 r1 r2 r3 ∧ Mr w wx)
  case first =>
    go_region_with (go_at_fn g; refine (hg _).mono ?_; rintro e w' ⟨rfl, x, rfl⟩)
    all_goals
      go_wp2_with fail
      go_meet
      case rel => exact ⟨_, rfl, ⟨by simp [go_sem], by simp [go_sem], by simp [go_sem], by simp [go_sem], by simp [go_sem]⟩, (by repeat (first | (with_reducible exact Mr.refl _) | (with_reducible apply Mr.drew) | (with_reducible apply Mr.alloc) | (with_reducible apply Mr.ext) | (with_reducible refine Mr.setCell ?_ (by first | (simp; done) | (simp; omega) | omega | (refine leOf0 ?_; (repeat (first | (with_reducible exact Mr.refl _) | (with_reducible apply Mr.drew) | (with_reducible apply Mr.alloc) | (with_reducible apply Mr.ext) | (with_reducible refine Mr.setCell ?_ (by first | (simp; done) | (simp; omega) | omega) _))); done) | (refine leOf ?_; (repeat (first | (with_reducible exact Mr.refl _) | (with_reducible apply Mr.drew) | (with_reducible apply Mr.alloc) | (with_reducible apply Mr.ext) | (with_reducible refine Mr.setCell ?_ (by first | (simp; done) | (simp; omega) | omega) _))); done)) _)))⟩
  case rest =>
    obtain ⟨Bn, rfl, hc0, hm0⟩ := hcut
    obtain ⟨y, rfl⟩ := Mr.mk' hm0
    have hc : Hid (C4 y.u Bn r0 r1 r2 r3) := hc0
    have hm : Hid (Mr w y.u) := y.h
    clear hc0 hm0
    go_wp2_with fail
    go_region_with (first | (go_at_call 32; refine (dot_n4 (l := [a0, a1, a2, a3]) (m := [r0, r1, r2, r3]) 4 4 ((C4.is (ha.out.mr hm.out) hA').mr (by repeat (first | (with_reducible exact Mr.refl _) | (with_reducible apply Mr.drew) | (with_reducible apply Mr.alloc) | (with_reducible apply Mr.ext) | (with_reducible refine Mr.setCell ?_ (by first | (simp; done) | (simp; omega) | omega | (refine leOf0 ?_; (repeat (first | (with_reducible exact Mr.refl _) | (with_reducible apply Mr.drew) | (with_reducible apply Mr.alloc) | (with_reducible apply Mr.ext) | (with_reducible refine Mr.setCell ?_ (by first | (simp; done) | (simp; omega) | omega) _))); done) | (refine leOf ?_; (repeat (first | (with_reducible exact Mr.refl _) | (with_reducible apply Mr.drew) | (with_reducible apply Mr.alloc) | (with_reducible apply Mr.ext) | (with_reducible refine Mr.setCell ?_ (by first | (simp; done) | (simp; omega) | omega) _))); done)) _)))) ((C4.is hc.out hR').mr (by repeat (first | (with_reducible exact Mr.refl _) | (with_reducible apply Mr.drew) | (with_reducible apply Mr.alloc) | (with_reducible apply Mr.ext) | (with_reducible refine Mr.setCell ?_ (by first | (simp; done) | (simp; omega) | omega | (refine leOf0 ?_; (repeat (first | (with_reducible exact Mr.refl _) | (with_reducible apply Mr.drew) | (with_reducible apply Mr.alloc) | (with_reducible apply Mr.ext) | (with_reducible refine Mr.setCell ?_ (by first | (simp; done) | (simp; omega) | omega) _))); done) | (refine leOf ?_; (repeat (first | (with_reducible exact Mr.refl _) | (with_reducible apply Mr.drew) | (with_reducible apply Mr.alloc) | (with_reducible apply Mr.ext) | (with_reducible refine Mr.setCell ?_ (by first | (simp; done) | (simp; omega) | omega) _))); done)) _)))) rfl rfl).mono ?_; rintro e w' ⟨rfl, x, rfl⟩))
    all_goals
      go_wp2_with fail
      go_ret2
      exact ⟨rfl, Mr.mk' (by repeat (first | (with_reducible exact Mr.refl _) | (with_reducible apply Mr.drew) | (with_reducible apply Mr.alloc) | (with_reducible apply Mr.ext) | (with_reducible refine Mr.setCell ?_ (by first | (simp; done) | (simp; omega) | omega | (refine leOf0 ?_; (repeat (first | (with_reducible exact Mr.refl _) | (with_reducible apply Mr.drew) | (with_reducible apply Mr.alloc) | (with_reducible apply Mr.ext) | (with_reducible refine Mr.setCell ?_ (by first | (simp; done) | (simp; omega) | omega) _))); done) | (refine leOf ?_; (repeat (first | (with_reducible exact Mr.refl _) | (with_reducible apply Mr.drew) | (with_reducible apply Mr.alloc) | (with_reducible apply Mr.ext) | (with_reducible refine Mr.setCell ?_ (by first | (simp; done) | (simp; omega) | omega) _))); done)) _)))⟩
theorem ml_cl' (a b : Int) : ml a (cl b) = ml a b := by unfold ml; rw [(val_cl b).1]
theorem dv_w' (p q : Q) : dv [p.w, p.x, p.y, p.z] [cl q.w, -cl q.x, -cl q.y, -cl q.z] = (mul p q).w := by
  rw [dv4, ml_neg, ml_neg, ml_neg, ml_cl']; unfold mul mw; congr 2
theorem db_all' (p q : Q) : (db [p.w, p.x, p.y, p.z] [cl q.w, -cl q.x, -cl q.y, -cl q.z] || db [p.w, p.x, p.y, p.z] [q.x, q.w, q.z, -cl q.y] || db [p.w, p.x, p.y, p.z] [q.y, -cl q.z, q.w, q.x] || db [p.w, p.x, p.y, p.z] [q.z, q.y, -cl q.x, q.w]) = mb p q := by
  rw [db4, db4, db4, db4]
  simp only [ml_neg, ml_cl', (neg_val _).2, (val_cl _).2]
  unfold mb cq mw mx my mz
  rw [show ml p.w q.w + -ml p.x q.x + -ml p.y q.y + -ml p.z q.z = ml p.w q.w - ml p.x q.x - ml p.y q.y - ml p.z q.z by omega, show ml p.w q.x + ml p.x q.w + ml p.y q.z + -ml p.z q.y = ml p.w q.x + ml p.x q.w + ml p.y q.z - ml p.z q.y by omega, show ml p.w q.y + -ml p.x q.z + ml p.y q.w + ml p.z q.x = ml p.w q.y - ml p.x q.z + ml p.y q.w + ml p.z q.x by omega, show ml p.w q.z + ml p.x q.y + -ml p.y q.x + ml p.z q.w = ml p.w q.z + ml p.x q.y - ml p.y q.x + ml p.z q.w by omega]
  cases co p.w <;> cases co p.x <;> cases co p.y <;> cases co p.z <;> simp
  cases co q.w <;> cases co q.x <;> cases co q.y <;> cases co q.z <;> simp
set_option maxRecDepth 100000 in
set_option maxHeartbeats 2000000 in
theorem qmul_c {a0 a1 a2 a3 b0 b1 b2 b3 m0 m1 m2 m3 : Int} {f : Bool} {w : World} (hA : W64 (⟨a0, a1, a2, a3⟩ : Q)) (hB : W64 (⟨b0, b1, b2, b3⟩ : Q)) (hM : mul (⟨a0, a1, a2, a3⟩ : Q) (⟨b0, b1, b2, b3⟩ : Q) = (⟨m0, m1, m2, m3⟩ : Q)) (hf : mb (⟨a0, a1, a2, a3⟩ : Q) (⟨b0, b1, b2, b3⟩ : Q) = f) : Calls Try.prog 11 #[.agg #[.int .i64 a0, .int .i64 a1, .int .i64 a2, .int .i64 a3], .agg #[.int .i64 b0, .int .i64 b1, .int .i64 b2, .int .i64 b3]] w fun e w' => e = .returned (.tuple #[.agg #[.int .i64 m0, .int .i64 m1, .int .i64 m2, .int .i64 m3], .bool f]) ∧ ∃ x : Ext w, w' = x.u := by
  have h0 : dv [a0, a1, a2, a3] [cl b0, -cl b1, -cl b2, -cl b3] = m0 := (dv_w' (⟨a0, a1, a2, a3⟩ : Q) (⟨b0, b1, b2, b3⟩ : Q)).trans (by rw [hM])
  have h1 : dv [a0, a1, a2, a3] [b1, b0, b3, -cl b2] = m1 := (dv_x (⟨a0, a1, a2, a3⟩ : Q) (⟨b0, b1, b2, b3⟩ : Q)).trans (by rw [hM])
  have h2 : dv [a0, a1, a2, a3] [b2, -cl b3, b0, b1] = m2 := (dv_y (⟨a0, a1, a2, a3⟩ : Q) (⟨b0, b1, b2, b3⟩ : Q)).trans (by rw [hM])
  have h3 : dv [a0, a1, a2, a3] [b3, b2, -cl b1, b0] = m3 := (dv_z (⟨a0, a1, a2, a3⟩ : Q) (⟨b0, b1, b2, b3⟩ : Q)).trans (by rw [hM])
  have h4 : (db [a0, a1, a2, a3] [cl b0, -cl b1, -cl b2, -cl b3] || db [a0, a1, a2, a3] [b1, b0, b3, -cl b2] || db [a0, a1, a2, a3] [b2, -cl b3, b0, b1] || db [a0, a1, a2, a3] [b3, b2, -cl b1, b0]) = f := (db_all' (⟨a0, a1, a2, a3⟩ : Q) (⟨b0, b1, b2, b3⟩ : Q)).trans hf
  clear hM hf
  go_enter Try.func11, Try.ntmps11
  go_wp2_with (first | (go_at_call 30; refine (each4_c 31 (enters_of Try.func31 (by kernel_rfl) rfl) #[.pointer (some ⟨w.heap.size + 1 + 1 + 1, 0, none⟩), .pointer (some ⟨w.heap.size + 1, 0, none⟩), .pointer (some ⟨w.heap.size, 0, none⟩)] (dv [a0, a1, a2, a3] [cl b0, -cl b1, -cl b2, -cl b3]) (dv [a0, a1, a2, a3] [b1, b0, b3, -cl b2]) (dv [a0, a1, a2, a3] [b2, -cl b3, b0, b1]) (dv [a0, a1, a2, a3] [b3, b2, -cl b1, b0]) (db [a0, a1, a2, a3] [cl b0, -cl b1, -cl b2, -cl b3]) (db [a0, a1, a2, a3] [b1, b0, b3, -cl b2]) (db [a0, a1, a2, a3] [b2, -cl b3, b0, b1]) (db [a0, a1, a2, a3] [b3, b2, -cl b1, b0]) _ ?_ ?_ ?_ ?_).mono ?_; (intro W hW; exact mul1_c 0 (by omega) 26 (enters_of Try.func26 (by kernel_rfl) rfl) (w.heap.size + 1 + 1 + 1) w.heap.size (w.heap.size + 1) a0 a1 a2 a3 b0 b1 b2 b3 (cl b0) (-cl b1) (-cl b2) (-cl b3) W (Nat.lt_of_lt_of_le (by first | (simp; done) | (simp; omega)) hW.below.size) ((hW.below.cell (p := ⟨w.heap.size + 1 + 1 + 1, 0, none⟩) (by first | (simp; done) | (simp; omega))).trans (by simp [go_sem])) (C4.mr ⟨(by first | (simp; done) | (simp; omega)), by simp [go_sem], by simp [go_sem], by simp [go_sem], by simp [go_sem]⟩ hW) (C4.mr ⟨(by first | (simp; done) | (simp; omega)), by simp [go_sem], by simp [go_sem], by simp [go_sem], by simp [go_sem]⟩ hW) hA ⟨cl_b64 _, neg_b64 _, neg_b64 _, neg_b64 _⟩ (fun W => tback_c _ _ _ _ W)); (intro W hW; exact mul1_c 1 (by omega) 27 (enters_of Try.func27 (by kernel_rfl) rfl) (w.heap.size + 1 + 1 + 1) w.heap.size (w.heap.size + 1) a0 a1 a2 a3 b0 b1 b2 b3 (b1) (b0) (b3) (-cl b2) W (Nat.lt_of_lt_of_le (by first | (simp; done) | (simp; omega)) hW.below.size) ((hW.below.cell (p := ⟨w.heap.size + 1 + 1 + 1, 1, none⟩) (by first | (simp; done) | (simp; omega))).trans (by simp [go_sem])) (C4.mr ⟨(by first | (simp; done) | (simp; omega)), by simp [go_sem], by simp [go_sem], by simp [go_sem], by simp [go_sem]⟩ hW) (C4.mr ⟨(by first | (simp; done) | (simp; omega)), by simp [go_sem], by simp [go_sem], by simp [go_sem], by simp [go_sem]⟩ hW) hA ⟨hB.2.1, hB.1, hB.2.2.2, neg_b64 _⟩ (fun W => tforX_c _ _ _ _ W)); (intro W hW; exact mul1_c 2 (by omega) 28 (enters_of Try.func28 (by kernel_rfl) rfl) (w.heap.size + 1 + 1 + 1) w.heap.size (w.heap.size + 1) a0 a1 a2 a3 b0 b1 b2 b3 (b2) (-cl b3) (b0) (b1) W (Nat.lt_of_lt_of_le (by first | (simp; done) | (simp; omega)) hW.below.size) ((hW.below.cell (p := ⟨w.heap.size + 1 + 1 + 1, 2, none⟩) (by first | (simp; done) | (simp; omega))).trans (by simp [go_sem])) (C4.mr ⟨(by first | (simp; done) | (simp; omega)), by simp [go_sem], by simp [go_sem], by simp [go_sem], by simp [go_sem]⟩ hW) (C4.mr ⟨(by first | (simp; done) | (simp; omega)), by simp [go_sem], by simp [go_sem], by simp [go_sem], by simp [go_sem]⟩ hW) hA ⟨hB.2.2.1, neg_b64 _, hB.1, hB.2.1⟩ (fun W => tforY_c _ _ _ _ W)); (intro W hW; exact mul1_c 3 (by omega) 29 (enters_of Try.func29 (by kernel_rfl) rfl) (w.heap.size + 1 + 1 + 1) w.heap.size (w.heap.size + 1) a0 a1 a2 a3 b0 b1 b2 b3 (b3) (b2) (-cl b1) (b0) W (Nat.lt_of_lt_of_le (by first | (simp; done) | (simp; omega)) hW.below.size) ((hW.below.cell (p := ⟨w.heap.size + 1 + 1 + 1, 3, none⟩) (by first | (simp; done) | (simp; omega))).trans (by simp [go_sem])) (C4.mr ⟨(by first | (simp; done) | (simp; omega)), by simp [go_sem], by simp [go_sem], by simp [go_sem], by simp [go_sem]⟩ hW) (C4.mr ⟨(by first | (simp; done) | (simp; omega)), by simp [go_sem], by simp [go_sem], by simp [go_sem], by simp [go_sem]⟩ hW) hA ⟨hB.2.2.2, hB.2.2.1, neg_b64 _, hB.1⟩ (fun W => tforZ_c _ _ _ _ W)); rw [h0, h1, h2, h3, h4]; rintro e w' ⟨rfl, x, rfl⟩))
  exact bodyPost_ret (v := .tuple #[.agg #[.int .i64 m0, .int .i64 m1, .int .i64 m2, .int .i64 m3], .bool f]) (by simp [results, Try.results11, go_sem]) rfl ⟨rfl, Mr.mk' (by repeat (first | (with_reducible exact Mr.refl _) | (with_reducible apply Mr.drew) | (with_reducible apply Mr.alloc) | (with_reducible apply Mr.ext) | (with_reducible refine Mr.setCell ?_ (by first | (simp; done) | (simp; omega) | omega | (refine leOf0 ?_; (repeat (first | (with_reducible exact Mr.refl _) | (with_reducible apply Mr.drew) | (with_reducible apply Mr.alloc) | (with_reducible apply Mr.ext) | (with_reducible refine Mr.setCell ?_ (by first | (simp; done) | (simp; omega) | omega) _))); done) | (refine leOf ?_; (repeat (first | (with_reducible exact Mr.refl _) | (with_reducible apply Mr.drew) | (with_reducible apply Mr.alloc) | (with_reducible apply Mr.ext) | (with_reducible refine Mr.setCell ?_ (by first | (simp; done) | (simp; omega) | omega) _))); done)) _)))⟩
theorem qone_c (w : World) : Calls Try.prog 23 #[] w fun e w' => e = .returned (.agg #[.int .i64 4294967296, .int .i64 0, .int .i64 0, .int .i64 0]) ∧ ∃ x : Ext w, w' = x.u := by
  go_enter Try.func23, Try.ntmps23
  go_wp2
  exact bodyPost_ret (v := .agg #[.int .i64 4294967296, .int .i64 0, .int .i64 0, .int .i64 0]) (by simp [results, Try.results23, go_sem]) rfl ⟨rfl, Mr.mk' (by repeat (first | (with_reducible exact Mr.refl _) | (with_reducible apply Mr.drew) | (with_reducible apply Mr.alloc) | (with_reducible apply Mr.ext) | (with_reducible refine Mr.setCell ?_ (by first | (simp; done) | (simp; omega) | omega | (refine leOf0 ?_; (repeat (first | (with_reducible exact Mr.refl _) | (with_reducible apply Mr.drew) | (with_reducible apply Mr.alloc) | (with_reducible apply Mr.ext) | (with_reducible refine Mr.setCell ?_ (by first | (simp; done) | (simp; omega) | omega) _))); done) | (refine leOf ?_; (repeat (first | (with_reducible exact Mr.refl _) | (with_reducible apply Mr.drew) | (with_reducible apply Mr.alloc) | (with_reducible apply Mr.ext) | (with_reducible refine Mr.setCell ?_ (by first | (simp; done) | (simp; omega) | omega) _))); done)) _)))⟩
theorem qback_c {a0 a1 a2 a3 m0 m1 m2 m3 : Int} {w : World} (hM : back (⟨a0, a1, a2, a3⟩ : Q) = (⟨m0, m1, m2, m3⟩ : Q)) : Calls Try.prog 21 #[.agg #[.int .i64 a0, .int .i64 a1, .int .i64 a2, .int .i64 a3]] w fun e w' => e = .returned (.agg #[.int .i64 m0, .int .i64 m1, .int .i64 m2, .int .i64 m3]) ∧ ∃ x : Ext w, w' = x.u := by
  unfold back at hM
  injection hM with h0 h1 h2 h3
  subst h0; subst h1; subst h2; subst h3
  go_enter Try.func21, Try.ntmps21
  go_wp2_with (first | (go_at_call 26; refine (tback_c _ _ _ _ _).mono ?_; rintro e w' ⟨rfl, x, rfl⟩))
  exact bodyPost_ret (v := .agg #[.int .i64 (cl a0), .int .i64 (-cl a1), .int .i64 (-cl a2), .int .i64 (-cl a3)]) (by simp [results, Try.results21, go_sem]) rfl ⟨rfl, Mr.mk' (by repeat (first | (with_reducible exact Mr.refl _) | (with_reducible apply Mr.drew) | (with_reducible apply Mr.alloc) | (with_reducible apply Mr.ext) | (with_reducible refine Mr.setCell ?_ (by first | (simp; done) | (simp; omega) | omega | (refine leOf0 ?_; (repeat (first | (with_reducible exact Mr.refl _) | (with_reducible apply Mr.drew) | (with_reducible apply Mr.alloc) | (with_reducible apply Mr.ext) | (with_reducible refine Mr.setCell ?_ (by first | (simp; done) | (simp; omega) | omega) _))); done) | (refine leOf ?_; (repeat (first | (with_reducible exact Mr.refl _) | (with_reducible apply Mr.drew) | (with_reducible apply Mr.alloc) | (with_reducible apply Mr.ext) | (with_reducible refine Mr.setCell ?_ (by first | (simp; done) | (simp; omega) | omega) _))); done)) _)))⟩
theorem norm_n4 {a : Option Addr} {c : Nat} {l : List Int} {w : World} (n : Nat) (h : Sl.Is w a c l) (hn : l.length = n) :
    Calls Try.prog 36 #[.slice a n c] w fun e w' => e = .returned (.tuple #[.int .i64 (lv l), .bool (lb l)]) ∧ ∃ x : Ext w, w' = x.u := by
  subst hn; exact norm_c a c l w h
theorem is4t {w : World} {t : TypeId} (B : Nat) (hB : w.heap.size = B) {a b c d : Int} (ha : B64 a) (hb : B64 b) (hc : B64 c) (hd : B64 d) : Is (w.alloc (.cells #[.int .i64 a, .int .i64 b, .int .i64 c, .int .i64 d] t)) (some ⟨B, 0, none⟩) 4 [a, b, c, d] := by
  subst hB; exact is4_cells (by simp) (by simp [go_sem]) (by simp [go_sem]) (by simp [go_sem]) (by simp [go_sem]) ha hb hc hd
theorem qnorm_c {a0 a1 a2 a3 n : Int} {f : Bool} {w : World} (hA : W64 (⟨a0, a1, a2, a3⟩ : Q)) (hn : nv (⟨a0, a1, a2, a3⟩ : Q) = n) (hf : nb (⟨a0, a1, a2, a3⟩ : Q) = f) : Calls Try.prog 13 #[.agg #[.int .i64 a0, .int .i64 a1, .int .i64 a2, .int .i64 a3]] w fun e w' => e = .returned (.tuple #[.int .i64 n, .bool f]) ∧ ∃ x : Ext w, w' = x.u := by
  obtain ⟨h0, h1, h2, h3⟩ := hA
  have e := lv4 (⟨a0, a1, a2, a3⟩ : Q)
  rw [hn, hf] at e
  go_enter Try.func13, Try.ntmps13
  go_wp2_with (first | (go_at_call 36; refine (norm_n4 4 ((is4t (w := w) _ rfl h0 h1 h2 h3).mr (by repeat (first | (with_reducible exact Mr.refl _) | (with_reducible apply Mr.drew) | (with_reducible apply Mr.alloc) | (with_reducible apply Mr.ext) | (with_reducible refine Mr.setCell ?_ (by first | (simp; done) | (simp; omega) | omega | (refine leOf0 ?_; (repeat (first | (with_reducible exact Mr.refl _) | (with_reducible apply Mr.drew) | (with_reducible apply Mr.alloc) | (with_reducible apply Mr.ext) | (with_reducible refine Mr.setCell ?_ (by first | (simp; done) | (simp; omega) | omega) _))); done) | (refine leOf ?_; (repeat (first | (with_reducible exact Mr.refl _) | (with_reducible apply Mr.drew) | (with_reducible apply Mr.alloc) | (with_reducible apply Mr.ext) | (with_reducible refine Mr.setCell ?_ (by first | (simp; done) | (simp; omega) | omega) _))); done)) _)))) rfl).mono ?_; rw [e.1, e.2]; rintro e w' ⟨rfl, x, rfl⟩))
  go_ret2
  exact ⟨rfl, Mr.mk' (by repeat (first | (with_reducible exact Mr.refl _) | (with_reducible apply Mr.drew) | (with_reducible apply Mr.alloc) | (with_reducible apply Mr.ext) | (with_reducible refine Mr.setCell ?_ (by first | (simp; done) | (simp; omega) | omega | (refine leOf0 ?_; (repeat (first | (with_reducible exact Mr.refl _) | (with_reducible apply Mr.drew) | (with_reducible apply Mr.alloc) | (with_reducible apply Mr.ext) | (with_reducible refine Mr.setCell ?_ (by first | (simp; done) | (simp; omega) | omega) _))); done) | (refine leOf ?_; (repeat (first | (with_reducible exact Mr.refl _) | (with_reducible apply Mr.drew) | (with_reducible apply Mr.alloc) | (with_reducible apply Mr.ext) | (with_reducible refine Mr.setCell ?_ (by first | (simp; done) | (simp; omega) | omega) _))); done)) _)))⟩
theorem unit1_c (k : Nat) (hk : (k : Int) < 4) (A B : Nat) (p q : Int) (w : World) (hA : A < w.heap.size) (hB : B < w.heap.size) (hp : w.cell? ⟨A, k, none⟩ = some (.int .i64 p)) (hq : w.cell? ⟨B, 0, none⟩ = some (.int .i64 q)) :
    Calls Try.prog 38 #[.int .i64 k, .pointer (some ⟨A, 0, none⟩), .pointer (some ⟨B, 0, none⟩)] w fun e w' => e = .returned (.tuple #[.int .i64 (qv p q), .bool (qb p q)]) ∧ ∃ x : Ext w, w' = x.u := by
  go_enter Try.func38, Try.ntmps38
  go_wp2
  refine wp_region_ext (by kernel_rfl) (by kernel_rfl) ?_
  repeat (go_big_quiet_step ((go_at_call 39; exact extCall (over_c _ _ _))))
  refine wpQuiet_nil ?_
  rintro w1 ⟨x1, rfl⟩
  go_wp2
  go_ret2
  exact ⟨rfl, Mr.mk' (by repeat (first | (with_reducible exact Mr.refl _) | (with_reducible apply Mr.drew) | (with_reducible apply Mr.alloc) | (with_reducible apply Mr.ext) | (with_reducible refine Mr.setCell ?_ (by first | (simp; done) | (simp; omega) | omega | (refine leOf0 ?_; (repeat (first | (with_reducible exact Mr.refl _) | (with_reducible apply Mr.drew) | (with_reducible apply Mr.alloc) | (with_reducible apply Mr.ext) | (with_reducible refine Mr.setCell ?_ (by first | (simp; done) | (simp; omega) | omega) _))); done) | (refine leOf ?_; (repeat (first | (with_reducible exact Mr.refl _) | (with_reducible apply Mr.drew) | (with_reducible apply Mr.alloc) | (with_reducible apply Mr.ext) | (with_reducible refine Mr.setCell ?_ (by first | (simp; done) | (simp; omega) | omega) _))); done)) _)))⟩
theorem qunit0_c {a0 a1 a2 a3 : Int} {w : World} (hA : W64 (⟨a0, a1, a2, a3⟩ : Q)) (hn : nv (⟨a0, a1, a2, a3⟩ : Q) = 0) : Calls Try.prog 15 #[.agg #[.int .i64 a0, .int .i64 a1, .int .i64 a2, .int .i64 a3]] w fun e w' => e = .returned (.tuple #[.agg #[.int .i64 4294967296, .int .i64 0, .int .i64 0, .int .i64 0], .bool true]) ∧ ∃ x : Ext w, w' = x.u := by
  go_enter Try.func15, Try.ntmps15
  go_wp2_with (first | (go_at_call 23; refine (qone_c _).mono ?_; rintro e w' ⟨rfl, x, rfl⟩) | (go_at_call 13; refine (qnorm_c hA hn rfl).mono ?_; rintro e w' ⟨rfl, x, rfl⟩))
  exact bodyPost_ret (v := .tuple #[.agg #[.int .i64 4294967296, .int .i64 0, .int .i64 0, .int .i64 0], .bool true]) (by simp [results, Try.results15, go_sem]) rfl ⟨rfl, Mr.mk' (by repeat (first | (with_reducible exact Mr.refl _) | (with_reducible apply Mr.drew) | (with_reducible apply Mr.alloc) | (with_reducible apply Mr.ext) | (with_reducible refine Mr.setCell ?_ (by first | (simp; done) | (simp; omega) | omega | (refine leOf0 ?_; (repeat (first | (with_reducible exact Mr.refl _) | (with_reducible apply Mr.drew) | (with_reducible apply Mr.alloc) | (with_reducible apply Mr.ext) | (with_reducible refine Mr.setCell ?_ (by first | (simp; done) | (simp; omega) | omega) _))); done) | (refine leOf ?_; (repeat (first | (with_reducible exact Mr.refl _) | (with_reducible apply Mr.drew) | (with_reducible apply Mr.alloc) | (with_reducible apply Mr.ext) | (with_reducible refine Mr.setCell ?_ (by first | (simp; done) | (simp; omega) | omega) _))); done)) _)))⟩
set_option maxRecDepth 100000 in
set_option maxHeartbeats 2000000 in
theorem qunit1_c {a0 a1 a2 a3 n : Int} {f b : Bool} {w : World} (hA : W64 (⟨a0, a1, a2, a3⟩ : Q)) (hn : nv (⟨a0, a1, a2, a3⟩ : Q) = n) (hn0 : (n == 0) = false) (hb : nb (⟨a0, a1, a2, a3⟩ : Q) = b) (hq : (qb a0 n || qb a1 n || qb a2 n || qb a3 n) = f) : Calls Try.prog 15 #[.agg #[.int .i64 a0, .int .i64 a1, .int .i64 a2, .int .i64 a3]] w fun e w' => e = .returned (.tuple #[.agg #[.int .i64 (qv a0 n), .int .i64 (qv a1 n), .int .i64 (qv a2 n), .int .i64 (qv a3 n)], .bool (b || f)]) ∧ ∃ x : Ext w, w' = x.u := by
  cases b
  all_goals
    go_enter Try.func15, Try.ntmps15
    go_wp2_with (first | (go_at_call 13; refine (qnorm_c hA hn hb).mono ?_; rintro e w' ⟨rfl, x, rfl⟩) | (go_at_call 30; refine (each4_c 38 (enters_of Try.func38 (by kernel_rfl) rfl) #[.pointer (some ⟨w.heap.size, 0, none⟩), .pointer (some ⟨x.u.heap.size, 0, none⟩)] (qv a0 n) (qv a1 n) (qv a2 n) (qv a3 n) (qb a0 n) (qb a1 n) (qb a2 n) (qb a3 n) _ ?_ ?_ ?_ ?_).mono ?_; (intro W hW; exact unit1_c 0 (by omega) w.heap.size (x.u.heap.size) _ _ W (Nat.lt_of_lt_of_le (by first | (simp; done) | (simp; omega) | (have := x.h.below.size; simp at this ⊢; omega)) hW.below.size) (Nat.lt_of_lt_of_le (by first | (simp; done) | (simp; omega) | (have := x.h.below.size; simp at this ⊢; omega)) hW.below.size) ((hW.below.cell (p := ⟨w.heap.size, 0, none⟩) (by first | (simp; done) | (simp; omega) | (have := x.h.below.size; simp at this ⊢; omega))).trans (by simp [go_sem])) ((hW.below.cell (p := ⟨x.u.heap.size, 0, none⟩) (by first | (simp; done) | (simp; omega) | (have := x.h.below.size; simp at this ⊢; omega))).trans (by simp [go_sem]))); (intro W hW; exact unit1_c 1 (by omega) w.heap.size (x.u.heap.size) _ _ W (Nat.lt_of_lt_of_le (by first | (simp; done) | (simp; omega) | (have := x.h.below.size; simp at this ⊢; omega)) hW.below.size) (Nat.lt_of_lt_of_le (by first | (simp; done) | (simp; omega) | (have := x.h.below.size; simp at this ⊢; omega)) hW.below.size) ((hW.below.cell (p := ⟨w.heap.size, 1, none⟩) (by first | (simp; done) | (simp; omega) | (have := x.h.below.size; simp at this ⊢; omega))).trans (by simp [go_sem])) ((hW.below.cell (p := ⟨x.u.heap.size, 0, none⟩) (by first | (simp; done) | (simp; omega) | (have := x.h.below.size; simp at this ⊢; omega))).trans (by simp [go_sem]))); (intro W hW; exact unit1_c 2 (by omega) w.heap.size (x.u.heap.size) _ _ W (Nat.lt_of_lt_of_le (by first | (simp; done) | (simp; omega) | (have := x.h.below.size; simp at this ⊢; omega)) hW.below.size) (Nat.lt_of_lt_of_le (by first | (simp; done) | (simp; omega) | (have := x.h.below.size; simp at this ⊢; omega)) hW.below.size) ((hW.below.cell (p := ⟨w.heap.size, 2, none⟩) (by first | (simp; done) | (simp; omega) | (have := x.h.below.size; simp at this ⊢; omega))).trans (by simp [go_sem])) ((hW.below.cell (p := ⟨x.u.heap.size, 0, none⟩) (by first | (simp; done) | (simp; omega) | (have := x.h.below.size; simp at this ⊢; omega))).trans (by simp [go_sem]))); (intro W hW; exact unit1_c 3 (by omega) w.heap.size (x.u.heap.size) _ _ W (Nat.lt_of_lt_of_le (by first | (simp; done) | (simp; omega) | (have := x.h.below.size; simp at this ⊢; omega)) hW.below.size) (Nat.lt_of_lt_of_le (by first | (simp; done) | (simp; omega) | (have := x.h.below.size; simp at this ⊢; omega)) hW.below.size) ((hW.below.cell (p := ⟨w.heap.size, 3, none⟩) (by first | (simp; done) | (simp; omega) | (have := x.h.below.size; simp at this ⊢; omega))).trans (by simp [go_sem])) ((hW.below.cell (p := ⟨x.u.heap.size, 0, none⟩) (by first | (simp; done) | (simp; omega) | (have := x.h.below.size; simp at this ⊢; omega))).trans (by simp [go_sem]))); rw [hq]; rintro e w' ⟨rfl, x2, rfl⟩))
    exact bodyPost_ret (by simp [results, Try.results15, go_sem]) rfl ⟨rfl, Mr.mk' (by repeat (first | (with_reducible exact Mr.refl _) | (with_reducible apply Mr.drew) | (with_reducible apply Mr.alloc) | (with_reducible apply Mr.ext) | (with_reducible refine Mr.setCell ?_ (by first | (simp; done) | (simp; omega) | omega | (refine leOf0 ?_; (repeat (first | (with_reducible exact Mr.refl _) | (with_reducible apply Mr.drew) | (with_reducible apply Mr.alloc) | (with_reducible apply Mr.ext) | (with_reducible refine Mr.setCell ?_ (by first | (simp; done) | (simp; omega) | omega) _))); done) | (refine leOf ?_; (repeat (first | (with_reducible exact Mr.refl _) | (with_reducible apply Mr.drew) | (with_reducible apply Mr.alloc) | (with_reducible apply Mr.ext) | (with_reducible refine Mr.setCell ?_ (by first | (simp; done) | (simp; omega) | omega) _))); done)) _)))⟩
theorem qunit_c {a0 a1 a2 a3 m0 m1 m2 m3 : Int} {f : Bool} {w : World} (hA : W64 (⟨a0, a1, a2, a3⟩ : Q)) (hM : unit (⟨a0, a1, a2, a3⟩ : Q) = (⟨m0, m1, m2, m3⟩ : Q)) (hf : ub (⟨a0, a1, a2, a3⟩ : Q) = f) : Calls Try.prog 15 #[.agg #[.int .i64 a0, .int .i64 a1, .int .i64 a2, .int .i64 a3]] w fun e w' => e = .returned (.tuple #[.agg #[.int .i64 m0, .int .i64 m1, .int .i64 m2, .int .i64 m3], .bool f]) ∧ ∃ x : Ext w, w' = x.u := by
  unfold unit at hM
  unfold ub at hf
  by_cases hn : nv (⟨a0, a1, a2, a3⟩ : Q) = 0
  · rw [if_pos hn] at hM hf
    unfold one at hM
    injection hM with h0 h1 h2 h3
    subst h0; subst h1; subst h2; subst h3; subst hf
    exact qunit0_c hA hn
  · rw [if_neg hn] at hM hf
    injection hM with h0 h1 h2 h3
    subst h0; subst h1; subst h2; subst h3; subst hf
    rw [Bool.or_assoc, Bool.or_assoc, Bool.or_assoc]
    exact qunit1_c hA rfl (by simp [hn]) rfl (by simp only [Bool.or_assoc])
theorem idx3_0 (a b c : Int) (w : World) : (Instr.index 23 (.agg #[.int .i64 a, .int .i64 b, .int .i64 c]) (.int .i64 0)).run Try.prog w = .ok (.int .i64 a) w := by
  simp [Instr.index, run_underlying Try.underlying23, asIntOf, go_sem]
theorem idx3_1 (a b c : Int) (w : World) : (Instr.index 23 (.agg #[.int .i64 a, .int .i64 b, .int .i64 c]) (.int .i64 1)).run Try.prog w = .ok (.int .i64 b) w := by
  simp [Instr.index, run_underlying Try.underlying23, asIntOf, go_sem]
theorem idx3_2 (a b c : Int) (w : World) : (Instr.index 23 (.agg #[.int .i64 a, .int .i64 b, .int .i64 c]) (.int .i64 2)).run Try.prog w = .ok (.int .i64 c) w := by
  simp [Instr.index, run_underlying Try.underlying23, asIntOf, go_sem]
attribute [local go_sem ↓] idx3_0 idx3_1 idx3_2
abbrev mq (w : World) (x y z t : Int) : World := w.alloc (.cells #[.int .i64 x, .int .i64 y, .int .i64 z, .int .i64 t] 22)
theorem sml_w64 (a b c : Int) : W64 (sml a b c) := by
  unfold sml W64
  exact ⟨(by decide : B64 4294967296), cl_b64 _, cl_b64 _, cl_b64 _⟩
set_option maxRecDepth 100000 in
set_option maxHeartbeats 4000000 in
theorem qsmall_c {a b c m0 m1 m2 m3 : Int} {f : Bool} {w : World} (hM : unit (sml a b c) = (⟨m0, m1, m2, m3⟩ : Q)) (hf : (tb a 2147483648 || tb b 2147483648 || tb c 2147483648 || ub (sml a b c)) = f) : Calls Try.prog 17 #[.agg #[.int .i64 a, .int .i64 b, .int .i64 c]] w fun e w' => e = .returned (.tuple #[.agg #[.int .i64 m0, .int .i64 m1, .int .i64 m2, .int .i64 m3], .bool f]) ∧ ∃ x : Ext w, w' = x.u := by
  obtain ⟨u, hu⟩ : ∃ u, ub (sml a b c) = u := ⟨_, rfl⟩
  rw [hu] at hf
  go_enter Try.func17, Try.ntmps17
  go_wp2_with (first | (go_at_call 23; refine (qone_c _).mono ?_; rintro e w' ⟨rfl, x, rfl⟩))
  go_loopw [5, 14] (fun cc i wr => (cc = .bool false ∧ i = .int .i64 0 ∧ ∃ y : Ext (mq x.u 4294967296 0 0 0), wr = y.u) ∨ (cc = .bool (tb a 2147483648) ∧ i = .int .i64 1 ∧ ∃ y : Ext (mq x.u 4294967296 (tv a 2147483648) 0 0), wr = y.u) ∨ (cc = .bool (tb a 2147483648 || tb b 2147483648) ∧ i = .int .i64 2 ∧ ∃ y : Ext (mq x.u 4294967296 (tv a 2147483648) (tv b 2147483648) 0), wr = y.u) ∨ (cc = .bool (tb a 2147483648 || tb b 2147483648 || tb c 2147483648) ∧ i = .int .i64 3 ∧ ∃ y : Ext (mq x.u 4294967296 (tv a 2147483648) (tv b 2147483648) (tv c 2147483648)), wr = y.u)) (fun _ i _ => (3 - intOf i).toNat)
  case atStart => exact .inl ⟨rfl, rfl, Mr.mk' (by repeat (first | (with_reducible exact Mr.refl _) | (with_reducible apply Mr.drew) | (with_reducible apply Mr.alloc) | (with_reducible apply Mr.ext) | (with_reducible refine Mr.setCell ?_ (by first | (simp; done) | (simp; omega) | omega | (refine leOf0 ?_; (repeat (first | (with_reducible exact Mr.refl _) | (with_reducible apply Mr.drew) | (with_reducible apply Mr.alloc) | (with_reducible apply Mr.ext) | (with_reducible refine Mr.setCell ?_ (by first | (simp; done) | (simp; omega) | omega) _))); done) | (refine leOf ?_; (repeat (first | (with_reducible exact Mr.refl _) | (with_reducible apply Mr.drew) | (with_reducible apply Mr.alloc) | (with_reducible apply Mr.ext) | (with_reducible refine Mr.setCell ?_ (by first | (simp; done) | (simp; omega) | omega) _))); done)) _)))⟩
  case round =>
    rcases hrel with ⟨rfl, rfl, y, rfl⟩ | ⟨rfl, rfl, y, rfl⟩ | ⟨rfl, rfl, y, rfl⟩ | ⟨rfl, rfl, y, rfl⟩
    · go_wp2_with (first | ((go_at_call 41; refine (times_c _ _ _).mono ?_; rintro e w' ⟨rfl, x9, rfl⟩)))
      go_roundw
      case rel => exact .inr (.inl ⟨by first | rfl | simp, rfl, Mr.mk' (mr_set1 (V := mq x.u 4294967296 0 0 0) _ (by repeat (first | (with_reducible exact Mr.refl _) | (with_reducible apply Mr.drew) | (with_reducible apply Mr.alloc) | (with_reducible apply Mr.ext) | (with_reducible refine Mr.setCell ?_ (by first | (simp; done) | (simp; omega) | omega | (refine leOf0 ?_; (repeat (first | (with_reducible exact Mr.refl _) | (with_reducible apply Mr.drew) | (with_reducible apply Mr.alloc) | (with_reducible apply Mr.ext) | (with_reducible refine Mr.setCell ?_ (by first | (simp; done) | (simp; omega) | omega) _))); done) | (refine leOf ?_; (repeat (first | (with_reducible exact Mr.refl _) | (with_reducible apply Mr.drew) | (with_reducible apply Mr.alloc) | (with_reducible apply Mr.ext) | (with_reducible refine Mr.setCell ?_ (by first | (simp; done) | (simp; omega) | omega) _))); done)) _))) (by simp [go_sem]))⟩)
      case measure => simp [intOf]
    · cases hb : (tb a 2147483648)
      all_goals
        go_wp2_with (first | ((go_at_call 41; refine (times_c _ _ _).mono ?_; rintro e w' ⟨rfl, x9, rfl⟩)))
        go_roundw
        case rel => exact .inr (.inr (.inl ⟨by first | rfl | simp, rfl, Mr.mk' (mr_set1 (V := mq x.u 4294967296 (tv a 2147483648) 0 0) _ (by repeat (first | (with_reducible exact Mr.refl _) | (with_reducible apply Mr.drew) | (with_reducible apply Mr.alloc) | (with_reducible apply Mr.ext) | (with_reducible refine Mr.setCell ?_ (by first | (simp; done) | (simp; omega) | omega | (refine leOf0 ?_; (repeat (first | (with_reducible exact Mr.refl _) | (with_reducible apply Mr.drew) | (with_reducible apply Mr.alloc) | (with_reducible apply Mr.ext) | (with_reducible refine Mr.setCell ?_ (by first | (simp; done) | (simp; omega) | omega) _))); done) | (refine leOf ?_; (repeat (first | (with_reducible exact Mr.refl _) | (with_reducible apply Mr.drew) | (with_reducible apply Mr.alloc) | (with_reducible apply Mr.ext) | (with_reducible refine Mr.setCell ?_ (by first | (simp; done) | (simp; omega) | omega) _))); done)) _))) (by simp [go_sem]))⟩))
        case measure => simp [intOf]
    · cases hb : (tb a 2147483648 || tb b 2147483648)
      all_goals
        go_wp2_with (first | ((go_at_call 41; refine (times_c _ _ _).mono ?_; rintro e w' ⟨rfl, x9, rfl⟩)))
        go_roundw
        case rel => exact .inr (.inr (.inr (⟨by first | rfl | simp, rfl, Mr.mk' (mr_set1 (V := mq x.u 4294967296 (tv a 2147483648) (tv b 2147483648) 0) _ (by repeat (first | (with_reducible exact Mr.refl _) | (with_reducible apply Mr.drew) | (with_reducible apply Mr.alloc) | (with_reducible apply Mr.ext) | (with_reducible refine Mr.setCell ?_ (by first | (simp; done) | (simp; omega) | omega | (refine leOf0 ?_; (repeat (first | (with_reducible exact Mr.refl _) | (with_reducible apply Mr.drew) | (with_reducible apply Mr.alloc) | (with_reducible apply Mr.ext) | (with_reducible refine Mr.setCell ?_ (by first | (simp; done) | (simp; omega) | omega) _))); done) | (refine leOf ?_; (repeat (first | (with_reducible exact Mr.refl _) | (with_reducible apply Mr.drew) | (with_reducible apply Mr.alloc) | (with_reducible apply Mr.ext) | (with_reducible refine Mr.setCell ?_ (by first | (simp; done) | (simp; omega) | omega) _))); done)) _))) (by simp [go_sem]))⟩)))
        case measure => simp [intOf]
    · generalize (tb a 2147483648 || tb b 2147483648 || tb c 2147483648) = bb at *
      subst hf
      cases bb
      all_goals
        go_wp2_with (first | (go_at_call 15; refine (qunit_c (sml_w64 a b c) hM hu).mono ?_; rintro e w' ⟨rfl, x, rfl⟩))
        exact bodyPost_ret (by simp [results, Try.results17, go_sem]) rfl ⟨rfl, Mr.mk' (by repeat (first | (with_reducible exact Mr.refl _) | (with_reducible apply Mr.drew) | (with_reducible apply Mr.alloc) | (with_reducible apply Mr.ext) | (with_reducible refine Mr.setCell ?_ (by first | (simp; done) | (simp; omega) | omega | (refine leOf0 ?_; (repeat (first | (with_reducible exact Mr.refl _) | (with_reducible apply Mr.drew) | (with_reducible apply Mr.alloc) | (with_reducible apply Mr.ext) | (with_reducible refine Mr.setCell ?_ (by first | (simp; done) | (simp; omega) | omega) _))); done) | (refine leOf ?_; (repeat (first | (with_reducible exact Mr.refl _) | (with_reducible apply Mr.drew) | (with_reducible apply Mr.alloc) | (with_reducible apply Mr.ext) | (with_reducible refine Mr.setCell ?_ (by first | (simp; done) | (simp; omega) | omega) _))); done)) _)))⟩
set_option maxRecDepth 100000 in
set_option maxHeartbeats 4000000 in
theorem qrot_c {a0 a1 a2 a3 a b c m0 m1 m2 m3 : Int} {f : Bool} {w : World} (hA : W64 (⟨a0, a1, a2, a3⟩ : Q)) (hV : W64 (pure a b c)) (hM : rot (⟨a0, a1, a2, a3⟩ : Q) a b c = (⟨m0, m1, m2, m3⟩ : Q)) (hf : rb (⟨a0, a1, a2, a3⟩ : Q) a b c = f) : Calls Try.prog 19 #[.agg #[.int .i64 a0, .int .i64 a1, .int .i64 a2, .int .i64 a3], .agg #[.int .i64 a, .int .i64 b, .int .i64 c]] w fun e w' => e = .returned (.tuple #[.agg #[.int .i64 m1, .int .i64 m2, .int .i64 m3], .bool f]) ∧ ∃ x : Ext w, w' = x.u := by
  have hH6 : W64 (half (⟨a0, a1, a2, a3⟩ : Q) a b c) := mul_w64 _ _
  have hB6 := back_w64 (⟨a0, a1, a2, a3⟩ : Q)
  obtain ⟨h0', h1', h2', h3', hH⟩ : ∃ p q r s, half (⟨a0, a1, a2, a3⟩ : Q) a b c = ⟨p, q, r, s⟩ := ⟨_, _, _, _, rfl⟩
  obtain ⟨b0, b1, b2, b3, hB⟩ : ∃ p q r s, back (⟨a0, a1, a2, a3⟩ : Q) = ⟨p, q, r, s⟩ := ⟨_, _, _, _, rfl⟩
  have h1 : mul (⟨a0, a1, a2, a3⟩ : Q) ⟨0, a, b, c⟩ = ⟨h0', h1', h2', h3'⟩ := hH
  have h2 : mul ⟨h0', h1', h2', h3'⟩ ⟨b0, b1, b2, b3⟩ = (⟨m0, m1, m2, m3⟩ : Q) := by rw [← hM]; unfold rot; rw [hH, hB]
  obtain ⟨g1, f1'⟩ : ∃ g, mb (⟨a0, a1, a2, a3⟩ : Q) ⟨0, a, b, c⟩ = g := ⟨_, rfl⟩
  obtain ⟨g2, f2'⟩ : ∃ g, mb ⟨h0', h1', h2', h3'⟩ ⟨b0, b1, b2, b3⟩ = g := ⟨_, rfl⟩
  have hf' : (g1 || g2) = f := by rw [← hf, ← f1', ← f2']; unfold rb; rw [hH, hB]; rfl
  rw [hH] at hH6
  rw [hB] at hB6
  unfold pure at hV
  clear hM hf hH
  have k1 : Unit := ()
  have k2 : Unit := ()
  subst hf'
  cases g1
  all_goals
    go_enter Try.func19, Try.ntmps19
    go_wp2_with (first | (go_at_call 11; (have := k1; clear this k1); refine (qmul_c hA hV h1 f1').mono ?_; rintro e w' ⟨rfl, x, rfl⟩))
    go_region_held3 (fun w' => w'.cell? ⟨x.u.heap.size, 0, none⟩ = some (.int .i64 h0') ∧ w'.cell? ⟨x.u.heap.size, 1, none⟩ = some (.int .i64 h1') ∧ w'.cell? ⟨x.u.heap.size, 2, none⟩ = some (.int .i64 h2') ∧ w'.cell? ⟨x.u.heap.size, 3, none⟩ = some (.int .i64 h3') ∧ w'.cell? ⟨w.heap.size, 0, none⟩ = some (.int .i64 a0) ∧ w'.cell? ⟨w.heap.size, 1, none⟩ = some (.int .i64 a1) ∧ w'.cell? ⟨w.heap.size, 2, none⟩ = some (.int .i64 a2) ∧ w'.cell? ⟨w.heap.size, 3, none⟩ = some (.int .i64 a3)) ((simp [go_sem]; done)) (first | (go_at_call 11; (have := k2; clear this k2); refine (qmul_c hH6 hB6 h2 f2').mono ?_; rintro e w' ⟨rfl, x, rfl⟩) | (go_at_call 21; refine (qback_c hB).mono ?_; rintro e w' ⟨rfl, x, rfl⟩))
    all_goals
      go_wp2_with fail
      exact bodyPost_ret (by simp [results, Try.results19, go_sem]) rfl ⟨rfl, Mr.mk' (by repeat (first | (with_reducible exact Mr.refl _) | (with_reducible apply Mr.drew) | (with_reducible apply Mr.alloc) | (with_reducible apply Mr.ext) | (with_reducible refine Mr.setCell ?_ (by first | (simp; done) | (simp; omega) | omega | (refine leOf0 ?_; (repeat (first | (with_reducible exact Mr.refl _) | (with_reducible apply Mr.drew) | (with_reducible apply Mr.alloc) | (with_reducible apply Mr.ext) | (with_reducible refine Mr.setCell ?_ (by first | (simp; done) | (simp; omega) | omega) _))); done) | (refine leOf ?_; (repeat (first | (with_reducible exact Mr.refl _) | (with_reducible apply Mr.drew) | (with_reducible apply Mr.alloc) | (with_reducible apply Mr.ext) | (with_reducible refine Mr.setCell ?_ (by first | (simp; done) | (simp; omega) | omega) _))); done)) _)))⟩
end Qa
end Go.Proofs.Ytmhdpjdkcjdipaa
