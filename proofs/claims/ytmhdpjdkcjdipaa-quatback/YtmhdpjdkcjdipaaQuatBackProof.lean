/- For every four ints and every three ints the law QuatBack answers true: turned there and back a direction is nearly as it was, and its length too. No condition. -/
import Derived.Test.YtmhdpjdkcjdipaaRows
import Derived.WalkKit
import Derived.ProofKit
import Derived.OpenShut
import Derived.ShutString
import Derived.ChangeOld
import Derived.Below
import Derived.Test.YtmhdpjdkcjdipaaQuatC2
import Derived.Test.YtmhdpjdkcjdipaaQuatR
import Derived.Test.YtmhdpjdkcjdipaaVecR
import Derived.Test.YtmhdpjdkcjdipaaRefC11
namespace Go.Proofs.Ytmhdpjdkcjdipaa.quatBack
open Go.ChangeShapes Go.WideShapes Go.ChangeAt Go.RowKit
set_option linter.unusedVariables false
theorem own : ownKnob Try.prog.godebug = none := by kernel_rfl
theorem laidOut : laidOutB Try.prog = true := by kernel_rfl

open Go.Proofs.Ytmhdpjdkcjdipaa.Fx Go.Proofs.Ytmhdpjdkcjdipaa.Wd Go.Proofs.Ytmhdpjdkcjdipaa.Sc Go.Proofs.Ytmhdpjdkcjdipaa.Rt Go.Proofs.Ytmhdpjdkcjdipaa.Vc Go.Proofs.Ytmhdpjdkcjdipaa.Qa
attribute [local go_sem] Ext.cell Ext.froz Ext.lt Ext.lt1 Ext.lt2 Ext.lt3 Ext.all Ext.set_u drew_heap setCell_size Ext.set_size
attribute [local go_sem ↓] eq_3 e3_self eq_4 e4_self
def B4 (w : World) (B : Nat) (a b c d : Int) : Prop := B < w.heap.size ∧ w.cell? ⟨B, 0, none⟩ = some (.int .i64 a) ∧ w.cell? ⟨B, 1, none⟩ = some (.int .i64 b) ∧ w.cell? ⟨B, 2, none⟩ = some (.int .i64 c) ∧ w.cell? ⟨B, 3, none⟩ = some (.int .i64 d)
def B3 (w : World) (B : Nat) (a b c : Int) : Prop := B < w.heap.size ∧ w.cell? ⟨B, 0, none⟩ = some (.int .i64 a) ∧ w.cell? ⟨B, 1, none⟩ = some (.int .i64 b) ∧ w.cell? ⟨B, 2, none⟩ = some (.int .i64 c)
def I1 (a : Int) : Prop := -4398046511104 ≤ a ∧ a ≤ 4398046511104
theorem I1_or (a : Int) : 4398046511104 < a ∨ (¬ 4398046511104 < a ∧ a < -4398046511104) ∨ (I1 a ∧ ¬ 4398046511104 < a ∧ ¬ a < -4398046511104) := by unfold I1; omega
set_option maxHeartbeats 4000000 in
set_option maxRecDepth 100000 in
theorem walk (t0 x0 y0 z0 : Int) (x1 y1 z1 : Int) (w : World) (wt0 : (Lit.int .i64 t0).wf = true) (wx0 : (Lit.int .i64 x0).wf = true) (wy0 : (Lit.int .i64 y0).wf = true) (wz0 : (Lit.int .i64 z0).wf = true) (wx1 : (Lit.int .i64 x1).wf = true) (wy1 : (Lit.int .i64 y1).wf = true) (wz1 : (Lit.int .i64 z1).wf = true) :
    Calls Try.prog 6 #[.agg #[.int .i64 t0, .int .i64 x0, .int .i64 y0, .int .i64 z0], .agg #[.int .i64 x1, .int .i64 y1, .int .i64 z1]] w fun e w' => e = .returned (.bool true) ∧ Below w.heap.size w w' := by
  have hA : W64 ⟨t0, x0, y0, z0⟩ := ⟨bd wt0, bd wx0, bd wy0, bd wz0⟩
  clear wt0 wx0 wy0 wz0 wx1 wy1 wz1
  obtain ⟨n, hn⟩ : ∃ n, nv ⟨t0, x0, y0, z0⟩ = n := ⟨_, rfl⟩
  have k3 : Unit := ()
  cases hc : nb ⟨t0, x0, y0, z0⟩ with
  | true =>
    go_enter Try.func6, Try.ntmps6; go_wp2_with (first | (go_at_call 10; refine (awake9_c _).mono ?_; rintro e w' ⟨rfl, x, rfl⟩) | (go_at_call 13; (have := k3; clear this k3); refine (qnorm_c hA hn hc).mono ?_; rintro e w' ⟨rfl, x, rfl⟩))
    go_ret; exact ⟨rfl, Mr.grown (by repeat (first | (with_reducible exact Mr.refl _) | (with_reducible apply Mr.drew) | (with_reducible apply Mr.alloc) | (with_reducible apply Mr.ext) | (with_reducible refine Mr.setCell ?_ (by first | (simp; done) | (simp; omega) | omega | (refine leOf0 ?_; (repeat (first | (with_reducible exact Mr.refl _) | (with_reducible apply Mr.drew) | (with_reducible apply Mr.alloc) | (with_reducible apply Mr.ext) | (with_reducible refine Mr.setCell ?_ (by first | (simp; done) | (simp; omega) | omega) _))); done) | (refine leOf ?_; (repeat (first | (with_reducible exact Mr.refl _) | (with_reducible apply Mr.drew) | (with_reducible apply Mr.alloc) | (with_reducible apply Mr.ext) | (with_reducible refine Mr.setCell ?_ (by first | (simp; done) | (simp; omega) | omega) _))); done)) _)))⟩
  | false =>
    by_cases h0 : n < 16777216
    · go_enter Try.func6, Try.ntmps6; go_wp2_with (first | (go_at_call 10; refine (awake9_c _).mono ?_; rintro e w' ⟨rfl, x, rfl⟩) | (go_at_call 13; (have := k3; clear this k3); refine (qnorm_c hA hn hc).mono ?_; rintro e w' ⟨rfl, x, rfl⟩))
      go_ret; exact ⟨rfl, Mr.grown (by repeat (first | (with_reducible exact Mr.refl _) | (with_reducible apply Mr.drew) | (with_reducible apply Mr.alloc) | (with_reducible apply Mr.ext) | (with_reducible refine Mr.setCell ?_ (by first | (simp; done) | (simp; omega) | omega | (refine leOf0 ?_; (repeat (first | (with_reducible exact Mr.refl _) | (with_reducible apply Mr.drew) | (with_reducible apply Mr.alloc) | (with_reducible apply Mr.ext) | (with_reducible refine Mr.setCell ?_ (by first | (simp; done) | (simp; omega) | omega) _))); done) | (refine leOf ?_; (repeat (first | (with_reducible exact Mr.refl _) | (with_reducible apply Mr.drew) | (with_reducible apply Mr.alloc) | (with_reducible apply Mr.ext) | (with_reducible refine Mr.setCell ?_ (by first | (simp; done) | (simp; omega) | omega) _))); done)) _)))⟩
    · by_cases h1 : 4503599627370496 < n
      · go_enter Try.func6, Try.ntmps6; go_wp2_with (first | (go_at_call 10; refine (awake9_c _).mono ?_; rintro e w' ⟨rfl, x, rfl⟩) | (go_at_call 13; (have := k3; clear this k3); refine (qnorm_c hA hn hc).mono ?_; rintro e w' ⟨rfl, x, rfl⟩))
        go_ret; exact ⟨rfl, Mr.grown (by repeat (first | (with_reducible exact Mr.refl _) | (with_reducible apply Mr.drew) | (with_reducible apply Mr.alloc) | (with_reducible apply Mr.ext) | (with_reducible refine Mr.setCell ?_ (by first | (simp; done) | (simp; omega) | omega | (refine leOf0 ?_; (repeat (first | (with_reducible exact Mr.refl _) | (with_reducible apply Mr.drew) | (with_reducible apply Mr.alloc) | (with_reducible apply Mr.ext) | (with_reducible refine Mr.setCell ?_ (by first | (simp; done) | (simp; omega) | omega) _))); done) | (refine leOf ?_; (repeat (first | (with_reducible exact Mr.refl _) | (with_reducible apply Mr.drew) | (with_reducible apply Mr.alloc) | (with_reducible apply Mr.ext) | (with_reducible refine Mr.setCell ?_ (by first | (simp; done) | (simp; omega) | omega) _))); done)) _)))⟩
      · have h0' : 16777216 ≤ n := by omega
        have h1' : n ≤ 4503599627370496 := by omega
        go_enter Try.func6, Try.ntmps6; go_wp2_with (first | (go_at_call 10; refine (awake9_c _).mono ?_; rintro e w' ⟨rfl, x, rfl⟩) | (go_at_call 13; (have := k3; clear this k3); refine (qnorm_c hA hn hc).mono ?_; rintro e w' ⟨rfl, x, rfl⟩))
        go_loopw [8] (fun i wr => (i = .int .i64 0 ∧ wr = x.u ∧ Hid True) ∨ (i = .int .i64 1 ∧ wr = x.u ∧ Hid (I1 x1)) ∨ (i = .int .i64 2 ∧ wr = x.u ∧ Hid (I1 x1 ∧ I1 y1)) ∨ (i = .int .i64 3 ∧ wr = x.u ∧ Hid (I1 x1 ∧ I1 y1 ∧ I1 z1))) (fun i _ => (3 - intOf i).toNat)
        case atStart => exact .inl ⟨rfl, rfl, trivial⟩
        case round =>
          rcases hrel with ⟨rfl, rfl, hI⟩ | ⟨rfl, rfl, hI⟩ | ⟨rfl, rfl, hI⟩ | ⟨rfl, rfl, hI⟩
          · rcases I1_or x1 with g1 | ⟨g1, g2⟩ | ⟨hc2, g1, g2⟩
            · go_wp2_with fail
              go_ret; exact ⟨rfl, Mr.grown (by repeat (first | (with_reducible exact Mr.refl _) | (with_reducible apply Mr.drew) | (with_reducible apply Mr.alloc) | (with_reducible apply Mr.ext) | (with_reducible refine Mr.setCell ?_ (by first | (simp; done) | (simp; omega) | omega | (refine leOf0 ?_; (repeat (first | (with_reducible exact Mr.refl _) | (with_reducible apply Mr.drew) | (with_reducible apply Mr.alloc) | (with_reducible apply Mr.ext) | (with_reducible refine Mr.setCell ?_ (by first | (simp; done) | (simp; omega) | omega) _))); done) | (refine leOf ?_; (repeat (first | (with_reducible exact Mr.refl _) | (with_reducible apply Mr.drew) | (with_reducible apply Mr.alloc) | (with_reducible apply Mr.ext) | (with_reducible refine Mr.setCell ?_ (by first | (simp; done) | (simp; omega) | omega) _))); done)) _)))⟩
            · go_wp2_with fail
              go_ret; exact ⟨rfl, Mr.grown (by repeat (first | (with_reducible exact Mr.refl _) | (with_reducible apply Mr.drew) | (with_reducible apply Mr.alloc) | (with_reducible apply Mr.ext) | (with_reducible refine Mr.setCell ?_ (by first | (simp; done) | (simp; omega) | omega | (refine leOf0 ?_; (repeat (first | (with_reducible exact Mr.refl _) | (with_reducible apply Mr.drew) | (with_reducible apply Mr.alloc) | (with_reducible apply Mr.ext) | (with_reducible refine Mr.setCell ?_ (by first | (simp; done) | (simp; omega) | omega) _))); done) | (refine leOf ?_; (repeat (first | (with_reducible exact Mr.refl _) | (with_reducible apply Mr.drew) | (with_reducible apply Mr.alloc) | (with_reducible apply Mr.ext) | (with_reducible refine Mr.setCell ?_ (by first | (simp; done) | (simp; omega) | omega) _))); done)) _)))⟩
            · replace hc2 : Hid (I1 x1) := hc2
              go_wp2_with fail
              go_roundw
              case rel => exact .inr (.inl ⟨rfl, by first | rfl | trivial, hc2.out⟩)
              case measure => simp [intOf]
          · rcases I1_or y1 with g1 | ⟨g1, g2⟩ | ⟨hc2, g1, g2⟩
            · go_wp2_with fail
              go_ret; exact ⟨rfl, Mr.grown (by repeat (first | (with_reducible exact Mr.refl _) | (with_reducible apply Mr.drew) | (with_reducible apply Mr.alloc) | (with_reducible apply Mr.ext) | (with_reducible refine Mr.setCell ?_ (by first | (simp; done) | (simp; omega) | omega | (refine leOf0 ?_; (repeat (first | (with_reducible exact Mr.refl _) | (with_reducible apply Mr.drew) | (with_reducible apply Mr.alloc) | (with_reducible apply Mr.ext) | (with_reducible refine Mr.setCell ?_ (by first | (simp; done) | (simp; omega) | omega) _))); done) | (refine leOf ?_; (repeat (first | (with_reducible exact Mr.refl _) | (with_reducible apply Mr.drew) | (with_reducible apply Mr.alloc) | (with_reducible apply Mr.ext) | (with_reducible refine Mr.setCell ?_ (by first | (simp; done) | (simp; omega) | omega) _))); done)) _)))⟩
            · go_wp2_with fail
              go_ret; exact ⟨rfl, Mr.grown (by repeat (first | (with_reducible exact Mr.refl _) | (with_reducible apply Mr.drew) | (with_reducible apply Mr.alloc) | (with_reducible apply Mr.ext) | (with_reducible refine Mr.setCell ?_ (by first | (simp; done) | (simp; omega) | omega | (refine leOf0 ?_; (repeat (first | (with_reducible exact Mr.refl _) | (with_reducible apply Mr.drew) | (with_reducible apply Mr.alloc) | (with_reducible apply Mr.ext) | (with_reducible refine Mr.setCell ?_ (by first | (simp; done) | (simp; omega) | omega) _))); done) | (refine leOf ?_; (repeat (first | (with_reducible exact Mr.refl _) | (with_reducible apply Mr.drew) | (with_reducible apply Mr.alloc) | (with_reducible apply Mr.ext) | (with_reducible refine Mr.setCell ?_ (by first | (simp; done) | (simp; omega) | omega) _))); done)) _)))⟩
            · replace hc2 : Hid (I1 y1) := hc2
              go_wp2_with fail
              go_roundw
              case rel => exact .inr (.inr (.inl ⟨rfl, by first | rfl | trivial, ⟨hI.out, hc2.out⟩⟩))
              case measure => simp [intOf]
          · rcases I1_or z1 with g1 | ⟨g1, g2⟩ | ⟨hc2, g1, g2⟩
            · go_wp2_with fail
              go_ret; exact ⟨rfl, Mr.grown (by repeat (first | (with_reducible exact Mr.refl _) | (with_reducible apply Mr.drew) | (with_reducible apply Mr.alloc) | (with_reducible apply Mr.ext) | (with_reducible refine Mr.setCell ?_ (by first | (simp; done) | (simp; omega) | omega | (refine leOf0 ?_; (repeat (first | (with_reducible exact Mr.refl _) | (with_reducible apply Mr.drew) | (with_reducible apply Mr.alloc) | (with_reducible apply Mr.ext) | (with_reducible refine Mr.setCell ?_ (by first | (simp; done) | (simp; omega) | omega) _))); done) | (refine leOf ?_; (repeat (first | (with_reducible exact Mr.refl _) | (with_reducible apply Mr.drew) | (with_reducible apply Mr.alloc) | (with_reducible apply Mr.ext) | (with_reducible refine Mr.setCell ?_ (by first | (simp; done) | (simp; omega) | omega) _))); done)) _)))⟩
            · go_wp2_with fail
              go_ret; exact ⟨rfl, Mr.grown (by repeat (first | (with_reducible exact Mr.refl _) | (with_reducible apply Mr.drew) | (with_reducible apply Mr.alloc) | (with_reducible apply Mr.ext) | (with_reducible refine Mr.setCell ?_ (by first | (simp; done) | (simp; omega) | omega | (refine leOf0 ?_; (repeat (first | (with_reducible exact Mr.refl _) | (with_reducible apply Mr.drew) | (with_reducible apply Mr.alloc) | (with_reducible apply Mr.ext) | (with_reducible refine Mr.setCell ?_ (by first | (simp; done) | (simp; omega) | omega) _))); done) | (refine leOf ?_; (repeat (first | (with_reducible exact Mr.refl _) | (with_reducible apply Mr.drew) | (with_reducible apply Mr.alloc) | (with_reducible apply Mr.ext) | (with_reducible refine Mr.setCell ?_ (by first | (simp; done) | (simp; omega) | omega) _))); done)) _)))⟩
            · replace hc2 : Hid (I1 z1) := hc2
              go_wp2_with fail
              go_roundw
              case rel => exact .inr (.inr (.inr (⟨rfl, by first | rfl | trivial, ⟨hI.out.1, hI.out.2, hc2.out⟩⟩)))
              case measure => simp [intOf]
          · obtain ⟨i1, i2, i3⟩ := hI.out
            clear hI
            unfold I1 at i1 i2 i3
            obtain ⟨u1, u2, u3, u4, -⟩ := unit_all4 hc hn h0' h1'
            rw [u2] at u3 u4
            simp only [] at u2 u3 u4
            generalize qv t0 n = a at *
            generalize qv x0 n = b at *
            generalize qv y0 n = c at *
            generalize qv z0 n = d at *
            obtain ⟨t, s, ht, hs, f1, f2, bt, bs, X, Y, Z, N1, N2⟩ := back_all u3 u4 i1 i2 i3
            obtain ⟨T0, T1, T2, T3⟩ := t
            obtain ⟨S0, S1, S2, S3⟩ := s
            have hU6 : W64 ⟨a, b, c, d⟩ := by unfold Bd at u3; unfold W64 B64; simp only at u3 ⊢; omega
            have hE6 := back_w64 ⟨a, b, c, d⟩
            obtain ⟨e0, e1, e2, e3', hb⟩ : ∃ e0 e1 e2 e3, back ⟨a, b, c, d⟩ = ⟨e0, e1, e2, e3⟩ := ⟨_, _, _, _, rfl⟩
            rw [hb] at hs f2 hE6
            simp only [Bd] at bt bs X Y Z hs f2 N1 N2
            have hV6 : W64 (Qa.pure x1 y1 z1) := by unfold W64 B64 Qa.pure; simp only; omega
            have hT6 : W64 (Qa.pure T1 T2 T3) := by unfold W64 B64 Qa.pure; simp only; omega
            obtain ⟨na, ha⟩ : ∃ m, nv (Qa.pure x1 y1 z1) = m := ⟨_, rfl⟩
            obtain ⟨nb', hbn⟩ : ∃ m, nv (Qa.pure T1 T2 T3) = m := ⟨_, rfl⟩
            rw [ha, hbn] at N1 N2
            have na0 : 0 ≤ na ∧ na ≤ 288230376151711744 := by rw [← ha]; exact sr_bd _
            have nb0 : 0 ≤ nb' ∧ nb' ≤ 288230376151711744 := by rw [← hbn]; exact sr_bd _
            obtain ⟨na1, na2⟩ := na0
            obtain ⟨nb1, nb2⟩ := nb0
            obtain ⟨-, ⟨t1, t2⟩, ⟨t3, t4⟩, t5, t6⟩ := bt
            obtain ⟨-, ⟨s1, s2⟩, ⟨s3, s4⟩, s5, s6⟩ := bs
            obtain ⟨X1, X2⟩ := X
            obtain ⟨Y1, Y2⟩ := Y
            obtain ⟨Z1, Z2⟩ := Z
            obtain ⟨i11, i12⟩ := i1
            obtain ⟨i21, i22⟩ := i2
            obtain ⟨i31, i32⟩ := i3
            clear u3 u4 h0 h1 h0' h1'
            have k1 : Unit := ()
            have k2 : Unit := ()
            have k4 : Unit := ()
            have k5 : Unit := ()
            go_wp2_with (first | (go_at_call 15; refine (qunit_c hA u2 u1).mono ?_; rintro e w' ⟨rfl, xu, rfl⟩) | (go_at_call 19; (have := k1; clear this k1); refine (qrot_c hU6 hV6 ht f1).mono ?_; rintro e w' ⟨rfl, xt, rfl⟩))
            go_cut [13, 14] (fun v f wx => ∃ B : Nat, v = .pointer (some ⟨B, 0, none⟩) ∧ f = .bool false ∧ B3 wx B S1 S2 S3 ∧ Mr (xt.u.alloc (.cells #[.int .i64 T1, .int .i64 T2, .int .i64 T3] 23)) wx)
            case first =>
              go_region_held3 (fun w' => w'.cell? ⟨xu.u.heap.size, 0, none⟩ = some (.int .i64 a) ∧ w'.cell? ⟨xu.u.heap.size, 1, none⟩ = some (.int .i64 b) ∧ w'.cell? ⟨xu.u.heap.size, 2, none⟩ = some (.int .i64 c) ∧ w'.cell? ⟨xu.u.heap.size, 3, none⟩ = some (.int .i64 d) ∧ w'.cell? ⟨xt.u.heap.size, 0, none⟩ = some (.int .i64 T1) ∧ w'.cell? ⟨xt.u.heap.size, 1, none⟩ = some (.int .i64 T2) ∧ w'.cell? ⟨xt.u.heap.size, 2, none⟩ = some (.int .i64 T3)) ((simp [go_sem]; done)) (first | (go_at_call 21; refine (qback_c hb).mono ?_; rintro e w' ⟨rfl, x, rfl⟩) | (go_at_call 19; (have := k2; clear this k2); refine (qrot_c hE6 hT6 hs f2).mono ?_; rintro e w' ⟨rfl, x, rfl⟩))
              all_goals
                go_wp2_with fail
                go_meet
                case rel => exact ⟨_, rfl, rfl, ⟨by simp [go_sem], by simp [go_sem], by simp [go_sem], by simp [go_sem]⟩, (by repeat (first | (with_reducible exact Mr.refl _) | (with_reducible apply Mr.drew) | (with_reducible apply Mr.alloc) | (with_reducible apply Mr.ext) | (with_reducible refine Mr.setCell ?_ (by first | (simp; done) | (simp; omega) | omega | (refine leOf0 ?_; (repeat (first | (with_reducible exact Mr.refl _) | (with_reducible apply Mr.drew) | (with_reducible apply Mr.alloc) | (with_reducible apply Mr.ext) | (with_reducible refine Mr.setCell ?_ (by first | (simp; done) | (simp; omega) | omega) _))); done) | (refine leOf ?_; (repeat (first | (with_reducible exact Mr.refl _) | (with_reducible apply Mr.drew) | (with_reducible apply Mr.alloc) | (with_reducible apply Mr.ext) | (with_reducible refine Mr.setCell ?_ (by first | (simp; done) | (simp; omega) | omega) _))); done)) _)))⟩
            case rest =>
              obtain ⟨Bw, rfl, rfl, ⟨w1', w2', w3', w4'⟩, hm⟩ := hcut
              obtain ⟨yw, rfl⟩ := Mr.mk' hm
              clear hm hs f2 ht f1 hb u1 u2
              go_wp2_with fail
              go_loopw [15] (fun i wr => ∃ j : Nat, j ≤ 3 ∧ i = .int .i64 j ∧ ∃ z : Ext yw.u, wr = z.u) (fun i _ => (3 - intOf i).toNat)
              case atStart => exact ⟨0, by omega, rfl, Mr.mk' (Mr.refl _)⟩
              case round =>
                obtain ⟨j, hj, rfl, z, rfl⟩ := hrel
                match j, hj with
                | 0, _ =>
                  have v1 : decide (16777216 < S1 - x1) = false := decide_eq_false (by omega)
                  have v2 : decide (16777216 < x1 - S1) = false := decide_eq_false (by omega)
                  go_wp2_with fail
                  refine wp_region_ext (by kernel_rfl) (by kernel_rfl) ?_
                  repeat (go_big_quiet_step (fail))
                  refine wpQuiet_nil ?_
                  rintro w1 ⟨x9, rfl⟩
                  go_wp2_with fail
                  go_roundw
                  case rel => exact ⟨1, by omega, rfl, Mr.mk' (by repeat (first | (with_reducible exact Mr.refl _) | (with_reducible apply Mr.drew) | (with_reducible apply Mr.alloc) | (with_reducible apply Mr.ext) | (with_reducible refine Mr.setCell ?_ (by first | (simp; done) | (simp; omega) | omega | (refine leOf0 ?_; (repeat (first | (with_reducible exact Mr.refl _) | (with_reducible apply Mr.drew) | (with_reducible apply Mr.alloc) | (with_reducible apply Mr.ext) | (with_reducible refine Mr.setCell ?_ (by first | (simp; done) | (simp; omega) | omega) _))); done) | (refine leOf ?_; (repeat (first | (with_reducible exact Mr.refl _) | (with_reducible apply Mr.drew) | (with_reducible apply Mr.alloc) | (with_reducible apply Mr.ext) | (with_reducible refine Mr.setCell ?_ (by first | (simp; done) | (simp; omega) | omega) _))); done)) _)))⟩
                  case measure => simp [intOf]
                | 1, _ =>
                  have v1 : decide (16777216 < S2 - y1) = false := decide_eq_false (by omega)
                  have v2 : decide (16777216 < y1 - S2) = false := decide_eq_false (by omega)
                  go_wp2_with fail
                  refine wp_region_ext (by kernel_rfl) (by kernel_rfl) ?_
                  repeat (go_big_quiet_step (fail))
                  refine wpQuiet_nil ?_
                  rintro w1 ⟨x9, rfl⟩
                  go_wp2_with fail
                  go_roundw
                  case rel => exact ⟨2, by omega, rfl, Mr.mk' (by repeat (first | (with_reducible exact Mr.refl _) | (with_reducible apply Mr.drew) | (with_reducible apply Mr.alloc) | (with_reducible apply Mr.ext) | (with_reducible refine Mr.setCell ?_ (by first | (simp; done) | (simp; omega) | omega | (refine leOf0 ?_; (repeat (first | (with_reducible exact Mr.refl _) | (with_reducible apply Mr.drew) | (with_reducible apply Mr.alloc) | (with_reducible apply Mr.ext) | (with_reducible refine Mr.setCell ?_ (by first | (simp; done) | (simp; omega) | omega) _))); done) | (refine leOf ?_; (repeat (first | (with_reducible exact Mr.refl _) | (with_reducible apply Mr.drew) | (with_reducible apply Mr.alloc) | (with_reducible apply Mr.ext) | (with_reducible refine Mr.setCell ?_ (by first | (simp; done) | (simp; omega) | omega) _))); done)) _)))⟩
                  case measure => simp [intOf]
                | 2, _ =>
                  have v1 : decide (16777216 < S3 - z1) = false := decide_eq_false (by omega)
                  have v2 : decide (16777216 < z1 - S3) = false := decide_eq_false (by omega)
                  go_wp2_with fail
                  refine wp_region_ext (by kernel_rfl) (by kernel_rfl) ?_
                  repeat (go_big_quiet_step (fail))
                  refine wpQuiet_nil ?_
                  rintro w1 ⟨x9, rfl⟩
                  go_wp2_with fail
                  go_roundw
                  case rel => exact ⟨3, by omega, rfl, Mr.mk' (by repeat (first | (with_reducible exact Mr.refl _) | (with_reducible apply Mr.drew) | (with_reducible apply Mr.alloc) | (with_reducible apply Mr.ext) | (with_reducible refine Mr.setCell ?_ (by first | (simp; done) | (simp; omega) | omega | (refine leOf0 ?_; (repeat (first | (with_reducible exact Mr.refl _) | (with_reducible apply Mr.drew) | (with_reducible apply Mr.alloc) | (with_reducible apply Mr.ext) | (with_reducible refine Mr.setCell ?_ (by first | (simp; done) | (simp; omega) | omega) _))); done) | (refine leOf ?_; (repeat (first | (with_reducible exact Mr.refl _) | (with_reducible apply Mr.drew) | (with_reducible apply Mr.alloc) | (with_reducible apply Mr.ext) | (with_reducible refine Mr.setCell ?_ (by first | (simp; done) | (simp; omega) | omega) _))); done)) _)))⟩
                  case measure => simp [intOf]
                | 3, _ =>
                  have v3 : nb' - na ≤ 16777216 := by omega
                  go_wp2_with (first | (go_at_call 13; (have := k4; clear this k4); refine (qnorm_c hV6 ha rfl).mono ?_; rintro e w' ⟨rfl, x, rfl⟩) | (go_at_call 13; (have := k5; clear this k5); refine (qnorm_c hT6 hbn rfl).mono ?_; rintro e w' ⟨rfl, x, rfl⟩))
                  go_ret; exact ⟨rfl, Mr.grown (by repeat (first | (with_reducible exact Mr.refl _) | (with_reducible apply Mr.drew) | (with_reducible apply Mr.alloc) | (with_reducible apply Mr.ext) | (with_reducible refine Mr.setCell ?_ (by first | (simp; done) | (simp; omega) | omega | (refine leOf0 ?_; (repeat (first | (with_reducible exact Mr.refl _) | (with_reducible apply Mr.drew) | (with_reducible apply Mr.alloc) | (with_reducible apply Mr.ext) | (with_reducible refine Mr.setCell ?_ (by first | (simp; done) | (simp; omega) | omega) _))); done) | (refine leOf ?_; (repeat (first | (with_reducible exact Mr.refl _) | (with_reducible apply Mr.drew) | (with_reducible apply Mr.alloc) | (with_reducible apply Mr.ext) | (with_reducible refine Mr.setCell ?_ (by first | (simp; done) | (simp; omega) | omega) _))); done)) _)))⟩

set_option maxRecDepth 100000 in
theorem lifted (os : Os) (started : os.Started) (H : Type) (enc : TypeId × Value → H) :
    ReturnsInHanded {} Try.checked os 6 .any (Rows.quatBackSpec.pre6 enc Try.prog Try.f6 Rows.quatBackRow.domain false) (Rows.quatBackSpec.post enc Try.prog Try.f6 false true false false) := by
  refine returnsInHanded_of_change (C := Try.checked) own started (by kernel_rfl) Try.func6
    (ChangeSpec.witness6 (enc := enc) (C := Try.checked) false ⟨#[], #[.agg #[.int .i64 0, .int .i64 0, .int .i64 0, .int .i64 0], .agg #[.int .i64 0, .int .i64 0, .int .i64 0]], []⟩ 8 (by kernel_rfl) (by kernel_rfl) (by kernel_rfl) (by kernel_rfl)) ?_
  intro W base args ds gs before hval0 hW hcnd _
  have hval : ∀ (j : Nat) t v, Try.f6.params[j]? = some t → args[j]? = some v → Value.okWide Try.prog W .any base t v := hval0
  have hW' := hW
  obtain ⟨p, q, hA0, hV, rfl, hfz, hnd⟩ := hW
  have hA : DataW.TrodAll enc Try.prog W 0 (fun _ => true) true Try.f6.params.toList args.toList ds p := hA0
  rw [Try.params6] at hA hval
  obtain ⟨v0, vs0, d0, ds0, p_0, q_0, hargs, rfl, rfl, h0, r0⟩ := trodAll_cons hA
  obtain ⟨v1, vs1, d1, ds1, p_1, q_1, rfl, rfl, rfl, h1, r1⟩ := trodAll_cons r0
  obtain ⟨rfl, rfl, rfl⟩ := trodAll_nil r1
  obtain rfl : args = #[v0, v1] := by cases args; simp_all
  obtain ⟨rfl, rfl⟩ := trodVars_none hV
  obtain ⟨t0, x0, y0, z0, rfl, rfl, rfl, wt0, wx0, wy0, wz0⟩ := Qr.open_v4 (hval 0 22 v0 rfl rfl) h0
  obtain ⟨x1, y1, z1, rfl, rfl, rfl, wx1, wy1, wz1⟩ := Vr.open_v3 (hval 1 23 v1 rfl rfl) h1
  clear hA0 hval0
  refine (walk t0 x0 y0 z0 x1 y1 z1 W wt0 wx0 wy0 wz0 wx1 wy1 wz1).mono fun e W' ⟨he, bel⟩ => ?_
  subst he
  exact ⟨_, rfl, _, _, _, [], _, [], hW', trodAll_mk1 (shut_bool Try.underlying4 _), (trodAll_cons_mk (Qr.shut_v4 wt0 wx0 wy0 wz0) (trodAll_cons_mk (Vr.shut_v3 wx1 wy1 wz1) trodAll_mk0)), rfl, bel.frame _, fun h => by cases h⟩

theorem over : Rows.quatBackRow.holds Try.pinned (OpenSpec.ofChange Rows.quatBackSpec) :=
  OpenClaim.holds_of_wide 6 Try.f6 rfl rfl rfl rfl rfl rfl rfl ⟨rfl, rfl, rfl, rfl, rfl⟩ rfl rfl rfl rfl rfl (by kernel_rfl) Try.func6 (by kernel_rfl)
    (of_decide_eq_true (by kernel_rfl)) (by unfold Func.isWrapper; first | (rw [if_pos (by decide +kernel)]; kernel_rfl) | (rw [if_neg (by decide +kernel)]; exact ⟨rfl, rfl⟩))
    (fun os started H enc _ => lifted os started H enc)

theorem proved : Rows.QuatBackSaid :=
  over
#print axioms proved
end Go.Proofs.Ytmhdpjdkcjdipaa.quatBack
