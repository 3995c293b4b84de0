/- For every three threes of ints the law VecDots answers true: where nothing is clamped, the product of a sum with a third one is the sum of the products, within 1, and so it is, number by number, of outer products. No condition. -/
import Derived.Test.YthogobmflinnpaaRows
import Derived.WalkKit
import Derived.ProofKit
import Derived.OpenShut
import Derived.ShutString
import Derived.ChangeOld
import Derived.Below
import Derived.Test.YthogobmflinnpaaVecC2
import Derived.Test.YthogobmflinnpaaVecR
namespace Go.Proofs.Ythogobmflinnpaa.vecDots
open Go.ChangeShapes Go.WideShapes Go.ChangeAt Go.RowKit
set_option linter.unusedVariables false
theorem own : ownKnob Try.prog.godebug = none := by kernel_rfl
theorem laidOut : laidOutB Try.prog = true := by kernel_rfl

open Go.Proofs.Ythogobmflinnpaa.Fx Go.Proofs.Ythogobmflinnpaa.Wd Go.Proofs.Ythogobmflinnpaa.Sc Go.Proofs.Ythogobmflinnpaa.Rt Go.Proofs.Ythogobmflinnpaa.Vc
attribute [local go_sem] Ext.cell Ext.froz Ext.lt Ext.lt1 Ext.lt2 Ext.lt3 Ext.all Ext.set_u drew_heap setCell_size Ext.set_size
attribute [local go_sem ↓] eq_v3 eq3_self
theorem flip3 (a b c d e f : Int) : (ao d a || ao e b || ao f c) = (ao a d || ao b e || ao c f) := by rw [ao_comm d, ao_comm e, ao_comm f]
theorem pv_bd (p q r s : Int) : -288230376151711744 ≤ pv p q r s ∧ pv p q r s ≤ 288230376151711744 := cl_bd _
theorem dv_bd (a b : List Int) : -288230376151711744 ≤ dv a b ∧ dv a b ≤ 288230376151711744 := cl_bd _
set_option maxHeartbeats 4000000 in
set_option maxRecDepth 100000 in
theorem walk (x0 y0 z0 : Int) (x1 y1 z1 : Int) (x2 y2 z2 : Int) (w : World) (wx0 : (Lit.int .i64 x0).wf = true) (wy0 : (Lit.int .i64 y0).wf = true) (wz0 : (Lit.int .i64 z0).wf = true) (wx1 : (Lit.int .i64 x1).wf = true) (wy1 : (Lit.int .i64 y1).wf = true) (wz1 : (Lit.int .i64 z1).wf = true) (wx2 : (Lit.int .i64 x2).wf = true) (wy2 : (Lit.int .i64 y2).wf = true) (wz2 : (Lit.int .i64 z2).wf = true) :
    Calls Try.prog 8 #[.agg #[.int .i64 x0, .int .i64 y0, .int .i64 z0], .agg #[.int .i64 x1, .int .i64 y1, .int .i64 z1], .agg #[.int .i64 x2, .int .i64 y2, .int .i64 z2]] w fun e w' => e = .returned (.bool true) ∧ Below w.heap.size w w' := by
  have hX0 : B64 x0 := bd wx0
  have hY0 : B64 y0 := bd wy0
  have hZ0 : B64 z0 := bd wz0
  clear wx0 wy0 wz0
  have hX1 : B64 x1 := bd wx1
  have hY1 : B64 y1 := bd wy1
  have hZ1 : B64 z1 := bd wz1
  clear wx1 wy1 wz1
  have hX2 : B64 x2 := bd wx2
  have hY2 : B64 y2 := bd wy2
  have hZ2 : B64 z2 := bd wz2
  clear wx2 wy2 wz2
  have hS0 : B64 (av x0 x1) := by have := av_bd x0 x1; exact ⟨by omega, by omega⟩
  have hS1 : B64 (av y0 y1) := by have := av_bd y0 y1; exact ⟨by omega, by omega⟩
  have hS2 : B64 (av z0 z1) := by have := av_bd z0 z1; exact ⟨by omega, by omega⟩
  have F1 : Hid ((ao x0 x1 || ao y0 y1 || ao z0 z1) = false → db [av x0 x1, av y0 y1, av z0 z1] [x2, y2, z2] = false → db [x0, y0, z0] [x2, y2, z2] = false → db [x1, y1, z1] [x2, y2, z2] = false → ao (dv [x0, y0, z0] [x2, y2, z2]) (dv [x1, y1, z1] [x2, y2, z2]) = false → dv [av x0 x1, av y0 y1, av z0 z1] [x2, y2, z2] - av (dv [x0, y0, z0] [x2, y2, z2]) (dv [x1, y1, z1] [x2, y2, z2]) ≤ 1 ∧ av (dv [x0, y0, z0] [x2, y2, z2]) (dv [x1, y1, z1] [x2, y2, z2]) - dv [av x0 x1, av y0 y1, av z0 z1] [x2, y2, z2] ≤ 1) := fun h g1 g2 g3 g4 => by
    simp only [Bool.or_eq_false_iff] at h
    exact dot_adds h.1.1 h.1.2 h.2 g1 g2 g3 g4
  have F2 : Hid ((ao x0 x1 || ao y0 y1 || ao z0 z1) = false → (pb (av y0 y1) (av z0 z1) z2 y2 || pb (av z0 z1) (av x0 x1) x2 z2 || pb (av x0 x1) (av y0 y1) y2 x2) = false → (pb y0 z0 z2 y2 || pb z0 x0 x2 z2 || pb x0 y0 y2 x2) = false → (pb y1 z1 z2 y2 || pb z1 x1 x2 z2 || pb x1 y1 y2 x2) = false →
      (-1 ≤ pv (av y0 y1) (av z0 z1) z2 y2 - pv y0 z0 z2 y2 - pv y1 z1 z2 y2 ∧ pv (av y0 y1) (av z0 z1) z2 y2 - pv y0 z0 z2 y2 - pv y1 z1 z2 y2 ≤ 1) ∧ (-1 ≤ pv (av z0 z1) (av x0 x1) x2 z2 - pv z0 x0 x2 z2 - pv z1 x1 x2 z2 ∧ pv (av z0 z1) (av x0 x1) x2 z2 - pv z0 x0 x2 z2 - pv z1 x1 x2 z2 ≤ 1) ∧ (-1 ≤ pv (av x0 x1) (av y0 y1) y2 x2 - pv x0 y0 y2 x2 - pv x1 y1 y2 x2 ∧ pv (av x0 x1) (av y0 y1) y2 x2 - pv x0 y0 y2 x2 - pv x1 y1 y2 x2 ≤ 1)) := fun h g1 g2 g3 => by
    simp only [Bool.or_eq_false_iff] at h g1 g2 g3
    exact ⟨part_adds h.1.2 h.2 g1.1.1 g2.1.1 g3.1.1, part_adds h.2 h.1.1 g1.1.2 g2.1.2 g3.1.2, part_adds h.1.1 h.1.2 g1.2 g2.2 g3.2⟩
  have t1 : Unit := ()
  have t2 : Unit := ()
  have k1 : Unit := ()
  have k2 : Unit := ()
  cases hE : (ao x0 x1 || ao y0 y1 || ao z0 z1) with
  | true =>
    clear F1 F2
    go_enter Try.func8, Try.ntmps8; go_wp2_with (first | (go_at_call 9; refine (awake7_c _).mono ?_; rintro e w' ⟨rfl, x, rfl⟩) | (go_at_call 10; refine (vadd_c _ _ _ _ _ _ _).mono ?_; rw [hE]; rintro e w' ⟨rfl, x, rfl⟩; generalize av x0 x1 = S0 at *; generalize av y0 y1 = S1 at *; generalize av z0 z1 = S2 at *) | (go_at_call 16; (have := t1; clear this t1); refine (vdot_c _ _ _ _ _ _ _ hS0 hS1 hS2 hX2 hY2 hZ2).mono ?_; have bp := dv_bd [S0, S1, S2] [x2, y2, z2]; generalize dv [S0, S1, S2] [x2, y2, z2] = p at *; generalize db [S0, S1, S2] [x2, y2, z2] = f at *; rintro e w' ⟨rfl, x, rfl⟩) | (go_at_call 16; (have := t2; clear this t2); refine (vdot_c _ _ _ _ _ _ _ hX0 hY0 hZ0 hX2 hY2 hZ2).mono ?_; have bq := dv_bd [x0, y0, z0] [x2, y2, z2]; generalize dv [x0, y0, z0] [x2, y2, z2] = q at *; generalize db [x0, y0, z0] [x2, y2, z2] = g at *; rintro e w' ⟨rfl, x, rfl⟩) | (go_at_call 16; refine (vdot_c _ _ _ _ _ _ _ hX1 hY1 hZ1 hX2 hY2 hZ2).mono ?_; have br := dv_bd [x1, y1, z1] [x2, y2, z2]; generalize dv [x1, y1, z1] [x2, y2, z2] = r at *; generalize db [x1, y1, z1] [x2, y2, z2] = h at *; rintro e w' ⟨rfl, x, rfl⟩) | (go_at_call 24; refine (add_c _ _ _).mono ?_; have bt := av_bd q r; generalize av q r = t at *; generalize ao q r = i at *; rintro e w' ⟨rfl, rfl⟩) | (go_at_call 18; (have := k1; clear this k1); refine (vcross_c _ _ _ _ _ _ _ hS0 hS1 hS2 hX2 hY2 hZ2).mono ?_; have c0 := pv_bd S1 S2 z2 y2; have c1 := pv_bd S2 S0 x2 z2; have c2 := pv_bd S0 S1 y2 x2; generalize pv S1 S2 z2 y2 = X0 at *; generalize pv S2 S0 x2 z2 = X1 at *; generalize pv S0 S1 y2 x2 = X2 at *; generalize (pb S1 S2 z2 y2 || pb S2 S0 x2 z2 || pb S0 S1 y2 x2) = J at *; rintro e w' ⟨rfl, x, rfl⟩) | (go_at_call 18; (have := k2; clear this k2); refine (vcross_c _ _ _ _ _ _ _ hX0 hY0 hZ0 hX2 hY2 hZ2).mono ?_; have d0 := pv_bd y0 z0 z2 y2; have d1 := pv_bd z0 x0 x2 z2; have d2 := pv_bd x0 y0 y2 x2; generalize pv y0 z0 z2 y2 = Y0 at *; generalize pv z0 x0 x2 z2 = Y1 at *; generalize pv x0 y0 y2 x2 = Y2 at *; generalize (pb y0 z0 z2 y2 || pb z0 x0 x2 z2 || pb x0 y0 y2 x2) = K at *; rintro e w' ⟨rfl, x, rfl⟩) | (go_at_call 18; refine (vcross_c _ _ _ _ _ _ _ hX1 hY1 hZ1 hX2 hY2 hZ2).mono ?_; have e0 := pv_bd y1 z1 z2 y2; have e1 := pv_bd z1 x1 x2 z2; have e2 := pv_bd x1 y1 y2 x2; generalize pv y1 z1 z2 y2 = Z0 at *; generalize pv z1 x1 x2 z2 = Z1 at *; generalize pv x1 y1 y2 x2 = Z2 at *; generalize (pb y1 z1 z2 y2 || pb z1 x1 x2 z2 || pb x1 y1 y2 x2) = L at *; rintro e w' ⟨rfl, x, rfl⟩))
    go_ret; exact ⟨rfl, Mr.grown (by repeat (first | (with_reducible exact Mr.refl _) | (with_reducible apply Mr.drew) | (with_reducible apply Mr.alloc) | (with_reducible apply Mr.ext) | (with_reducible refine Mr.setCell ?_ (by first | (simp; done) | (simp; omega) | omega | (refine leOf0 ?_; (repeat (first | (with_reducible exact Mr.refl _) | (with_reducible apply Mr.drew) | (with_reducible apply Mr.alloc) | (with_reducible apply Mr.ext) | (with_reducible refine Mr.setCell ?_ (by first | (simp; done) | (simp; omega) | omega) _))); done) | (refine leOf ?_; (repeat (first | (with_reducible exact Mr.refl _) | (with_reducible apply Mr.drew) | (with_reducible apply Mr.alloc) | (with_reducible apply Mr.ext) | (with_reducible refine Mr.setCell ?_ (by first | (simp; done) | (simp; omega) | omega) _))); done)) _)))⟩
  | false =>
    go_enter Try.func8, Try.ntmps8
    go_upto_region 7 with (first | (go_at_call 9; refine (awake7_c _).mono ?_; rintro e w' ⟨rfl, x, rfl⟩) | (go_at_call 10; refine (vadd_c _ _ _ _ _ _ _).mono ?_; rw [hE]; rintro e w' ⟨rfl, x, rfl⟩; generalize av x0 x1 = S0 at *; generalize av y0 y1 = S1 at *; generalize av z0 z1 = S2 at *) | (go_at_call 16; (have := t1; clear this t1); refine (vdot_c _ _ _ _ _ _ _ hS0 hS1 hS2 hX2 hY2 hZ2).mono ?_; have bp := dv_bd [S0, S1, S2] [x2, y2, z2]; generalize dv [S0, S1, S2] [x2, y2, z2] = p at *; generalize db [S0, S1, S2] [x2, y2, z2] = f at *; rintro e w' ⟨rfl, x, rfl⟩) | (go_at_call 16; (have := t2; clear this t2); refine (vdot_c _ _ _ _ _ _ _ hX0 hY0 hZ0 hX2 hY2 hZ2).mono ?_; have bq := dv_bd [x0, y0, z0] [x2, y2, z2]; generalize dv [x0, y0, z0] [x2, y2, z2] = q at *; generalize db [x0, y0, z0] [x2, y2, z2] = g at *; rintro e w' ⟨rfl, x, rfl⟩) | (go_at_call 16; refine (vdot_c _ _ _ _ _ _ _ hX1 hY1 hZ1 hX2 hY2 hZ2).mono ?_; have br := dv_bd [x1, y1, z1] [x2, y2, z2]; generalize dv [x1, y1, z1] [x2, y2, z2] = r at *; generalize db [x1, y1, z1] [x2, y2, z2] = h at *; rintro e w' ⟨rfl, x, rfl⟩) | (go_at_call 24; refine (add_c _ _ _).mono ?_; have bt := av_bd q r; generalize av q r = t at *; generalize ao q r = i at *; rintro e w' ⟨rfl, rfl⟩))
    go_cut [85] (fun v wx => v = .bool false ∧ wx = x.u)
    case first =>
      cases f
      · cases g
        · cases h
          · cases i
            · obtain ⟨F3, F4⟩ := F1.out hE rfl rfl rfl rfl
              clear F1 F2
              go_wp2_with fail
              go_meet
              case rel => exact ⟨by rw [decide_eq_false (by omega), decide_eq_false (by omega)]; rfl, rfl⟩
            · clear F1 F2
              go_wp2_with fail; go_meet; (case rel => exact ⟨rfl, rfl⟩)
          · clear F1 F2
            go_wp2_with fail; go_meet; (case rel => exact ⟨rfl, rfl⟩)
        · clear F1 F2
          go_wp2_with fail; go_meet; (case rel => exact ⟨rfl, rfl⟩)
      · clear F1 F2
        go_wp2_with fail; go_meet; (case rel => exact ⟨rfl, rfl⟩)
    case rest =>
      obtain ⟨rfl, rfl⟩ := hcut
      clear F1 bp bq br bt
      go_upto_region 12 with (first | (go_at_call 18; (have := k1; clear this k1); refine (vcross_c _ _ _ _ _ _ _ hS0 hS1 hS2 hX2 hY2 hZ2).mono ?_; have c0 := pv_bd S1 S2 z2 y2; have c1 := pv_bd S2 S0 x2 z2; have c2 := pv_bd S0 S1 y2 x2; generalize pv S1 S2 z2 y2 = X0 at *; generalize pv S2 S0 x2 z2 = X1 at *; generalize pv S0 S1 y2 x2 = X2 at *; generalize (pb S1 S2 z2 y2 || pb S2 S0 x2 z2 || pb S0 S1 y2 x2) = J at *; rintro e w' ⟨rfl, x, rfl⟩) | (go_at_call 18; (have := k2; clear this k2); refine (vcross_c _ _ _ _ _ _ _ hX0 hY0 hZ0 hX2 hY2 hZ2).mono ?_; have d0 := pv_bd y0 z0 z2 y2; have d1 := pv_bd z0 x0 x2 z2; have d2 := pv_bd x0 y0 y2 x2; generalize pv y0 z0 z2 y2 = Y0 at *; generalize pv z0 x0 x2 z2 = Y1 at *; generalize pv x0 y0 y2 x2 = Y2 at *; generalize (pb y0 z0 z2 y2 || pb z0 x0 x2 z2 || pb x0 y0 y2 x2) = K at *; rintro e w' ⟨rfl, x, rfl⟩) | (go_at_call 18; refine (vcross_c _ _ _ _ _ _ _ hX1 hY1 hZ1 hX2 hY2 hZ2).mono ?_; have e0 := pv_bd y1 z1 z2 y2; have e1 := pv_bd z1 x1 x2 z2; have e2 := pv_bd x1 y1 y2 x2; generalize pv y1 z1 z2 y2 = Z0 at *; generalize pv z1 x1 x2 z2 = Z1 at *; generalize pv x1 y1 y2 x2 = Z2 at *; generalize (pb y1 z1 z2 y2 || pb z1 x1 x2 z2 || pb x1 y1 y2 x2) = L at *; rintro e w' ⟨rfl, x, rfl⟩))
      go_cut [113] (fun v wx => v = .bool (J || K || L) ∧ wx = x.u.alloc (.cells #[.int .i64 Z0, .int .i64 Z1, .int .i64 Z2] 22))
      case first =>
        clear F2
        cases J
        · cases K
          · go_wp2_with fail; go_meet; (case rel => exact ⟨rfl, rfl⟩)
          · go_wp2_with fail; go_meet; (case rel => exact ⟨rfl, rfl⟩)
        · go_wp2_with fail; go_meet; (case rel => exact ⟨rfl, rfl⟩)
      case rest =>
        obtain ⟨rfl, rfl⟩ := hcut
        cases hJ : (J || K || L) with
        | true =>
          clear F2
          go_wp2_with fail
          go_ret; exact ⟨rfl, Mr.grown (by repeat (first | (with_reducible exact Mr.refl _) | (with_reducible apply Mr.drew) | (with_reducible apply Mr.alloc) | (with_reducible apply Mr.ext) | (with_reducible refine Mr.setCell ?_ (by first | (simp; done) | (simp; omega) | omega | (refine leOf0 ?_; (repeat (first | (with_reducible exact Mr.refl _) | (with_reducible apply Mr.drew) | (with_reducible apply Mr.alloc) | (with_reducible apply Mr.ext) | (with_reducible refine Mr.setCell ?_ (by first | (simp; done) | (simp; omega) | omega) _))); done) | (refine leOf ?_; (repeat (first | (with_reducible exact Mr.refl _) | (with_reducible apply Mr.drew) | (with_reducible apply Mr.alloc) | (with_reducible apply Mr.ext) | (with_reducible refine Mr.setCell ?_ (by first | (simp; done) | (simp; omega) | omega) _))); done)) _)))⟩
        | false =>
          have hJ' := hJ
          simp only [Bool.or_eq_false_iff] at hJ'
          obtain ⟨⟨m0, m1⟩, ⟨m2, m3⟩, ⟨m4, m5⟩⟩ := F2.out hE hJ'.1.1 hJ'.1.2 hJ'.2
          clear F2 hJ'
          go_wp2_with fail
          go_loopw [24] (fun i wr => ∃ j : Nat, j ≤ 3 ∧ i = .int .i64 j ∧ ∃ y : Ext (x.u.alloc (.cells #[.int .i64 Z0, .int .i64 Z1, .int .i64 Z2] 22)), wr = y.u) (fun i _ => (3 - intOf i).toNat)
          case atStart => exact ⟨0, by omega, rfl, Mr.mk' (Mr.refl _)⟩
          case round =>
            obtain ⟨j, hj, rfl, y, rfl⟩ := hrel
            match j, hj with
            | 0, _ =>
              have q1 : decide (1 < X0 - Y0 - Z0) = false := decide_eq_false (by omega)
              have q2 : decide (X0 - Y0 - Z0 < -1) = false := decide_eq_false (by omega)
              go_wp2_with fail; refine wp_region_ext (by kernel_rfl) (by kernel_rfl) ?_; (repeat (go_big_quiet_step (fail))); refine wpQuiet_nil ?_; rintro w1 ⟨x9, rfl⟩; go_wp2_with fail; go_roundw
              case rel => exact ⟨1, by omega, rfl, Mr.mk' (by repeat (first | (with_reducible exact Mr.refl _) | (with_reducible apply Mr.drew) | (with_reducible apply Mr.alloc) | (with_reducible apply Mr.ext) | (with_reducible refine Mr.setCell ?_ (by first | (simp; done) | (simp; omega) | omega | (refine leOf0 ?_; (repeat (first | (with_reducible exact Mr.refl _) | (with_reducible apply Mr.drew) | (with_reducible apply Mr.alloc) | (with_reducible apply Mr.ext) | (with_reducible refine Mr.setCell ?_ (by first | (simp; done) | (simp; omega) | omega) _))); done) | (refine leOf ?_; (repeat (first | (with_reducible exact Mr.refl _) | (with_reducible apply Mr.drew) | (with_reducible apply Mr.alloc) | (with_reducible apply Mr.ext) | (with_reducible refine Mr.setCell ?_ (by first | (simp; done) | (simp; omega) | omega) _))); done)) _)))⟩
              case measure => simp [intOf]
            | 1, _ =>
              have q1 : decide (1 < X1 - Y1 - Z1) = false := decide_eq_false (by omega)
              have q2 : decide (X1 - Y1 - Z1 < -1) = false := decide_eq_false (by omega)
              go_wp2_with fail; refine wp_region_ext (by kernel_rfl) (by kernel_rfl) ?_; (repeat (go_big_quiet_step (fail))); refine wpQuiet_nil ?_; rintro w1 ⟨x9, rfl⟩; go_wp2_with fail; go_roundw
              case rel => exact ⟨2, by omega, rfl, Mr.mk' (by repeat (first | (with_reducible exact Mr.refl _) | (with_reducible apply Mr.drew) | (with_reducible apply Mr.alloc) | (with_reducible apply Mr.ext) | (with_reducible refine Mr.setCell ?_ (by first | (simp; done) | (simp; omega) | omega | (refine leOf0 ?_; (repeat (first | (with_reducible exact Mr.refl _) | (with_reducible apply Mr.drew) | (with_reducible apply Mr.alloc) | (with_reducible apply Mr.ext) | (with_reducible refine Mr.setCell ?_ (by first | (simp; done) | (simp; omega) | omega) _))); done) | (refine leOf ?_; (repeat (first | (with_reducible exact Mr.refl _) | (with_reducible apply Mr.drew) | (with_reducible apply Mr.alloc) | (with_reducible apply Mr.ext) | (with_reducible refine Mr.setCell ?_ (by first | (simp; done) | (simp; omega) | omega) _))); done)) _)))⟩
              case measure => simp [intOf]
            | 2, _ =>
              have q1 : decide (1 < X2 - Y2 - Z2) = false := decide_eq_false (by omega)
              have q2 : decide (X2 - Y2 - Z2 < -1) = false := decide_eq_false (by omega)
              go_wp2_with fail; refine wp_region_ext (by kernel_rfl) (by kernel_rfl) ?_; (repeat (go_big_quiet_step (fail))); refine wpQuiet_nil ?_; rintro w1 ⟨x9, rfl⟩; go_wp2_with fail; go_roundw
              case rel => exact ⟨3, by omega, rfl, Mr.mk' (by repeat (first | (with_reducible exact Mr.refl _) | (with_reducible apply Mr.drew) | (with_reducible apply Mr.alloc) | (with_reducible apply Mr.ext) | (with_reducible refine Mr.setCell ?_ (by first | (simp; done) | (simp; omega) | omega | (refine leOf0 ?_; (repeat (first | (with_reducible exact Mr.refl _) | (with_reducible apply Mr.drew) | (with_reducible apply Mr.alloc) | (with_reducible apply Mr.ext) | (with_reducible refine Mr.setCell ?_ (by first | (simp; done) | (simp; omega) | omega) _))); done) | (refine leOf ?_; (repeat (first | (with_reducible exact Mr.refl _) | (with_reducible apply Mr.drew) | (with_reducible apply Mr.alloc) | (with_reducible apply Mr.ext) | (with_reducible refine Mr.setCell ?_ (by first | (simp; done) | (simp; omega) | omega) _))); done)) _)))⟩
              case measure => simp [intOf]
            | 3, _ =>
              go_wp2_with fail
              go_ret; exact ⟨rfl, Mr.grown (by repeat (first | (with_reducible exact Mr.refl _) | (with_reducible apply Mr.drew) | (with_reducible apply Mr.alloc) | (with_reducible apply Mr.ext) | (with_reducible refine Mr.setCell ?_ (by first | (simp; done) | (simp; omega) | omega | (refine leOf0 ?_; (repeat (first | (with_reducible exact Mr.refl _) | (with_reducible apply Mr.drew) | (with_reducible apply Mr.alloc) | (with_reducible apply Mr.ext) | (with_reducible refine Mr.setCell ?_ (by first | (simp; done) | (simp; omega) | omega) _))); done) | (refine leOf ?_; (repeat (first | (with_reducible exact Mr.refl _) | (with_reducible apply Mr.drew) | (with_reducible apply Mr.alloc) | (with_reducible apply Mr.ext) | (with_reducible refine Mr.setCell ?_ (by first | (simp; done) | (simp; omega) | omega) _))); done)) _)))⟩

set_option maxRecDepth 100000 in
theorem lifted (os : Os) (started : os.Started) (H : Type) (enc : TypeId × Value → H) :
    ReturnsInHanded {} Try.checked os 8 .any (Rows.vecDotsSpec.pre6 enc Try.prog Try.f8 Rows.vecDotsRow.domain false) (Rows.vecDotsSpec.post enc Try.prog Try.f8 false true false false) := by
  refine returnsInHanded_of_change (C := Try.checked) own started (by kernel_rfl) Try.func8
    (ChangeSpec.witness6 (enc := enc) (C := Try.checked) false ⟨#[], #[.agg #[.int .i64 0, .int .i64 0, .int .i64 0], .agg #[.int .i64 0, .int .i64 0, .int .i64 0], .agg #[.int .i64 0, .int .i64 0, .int .i64 0]], []⟩ 8 (by kernel_rfl) (by kernel_rfl) (by kernel_rfl) (by kernel_rfl)) ?_
  intro W base args ds gs before hval0 hW hcnd _
  have hval : ∀ (j : Nat) t v, Try.f8.params[j]? = some t → args[j]? = some v → Value.okWide Try.prog W .any base t v := hval0
  have hW' := hW
  obtain ⟨p, q, hA0, hV, rfl, hfz, hnd⟩ := hW
  have hA : DataW.TrodAll enc Try.prog W 0 (fun _ => true) true Try.f8.params.toList args.toList ds p := hA0
  rw [Try.params8] at hA hval
  obtain ⟨v0, vs0, d0, ds0, p_0, q_0, hargs, rfl, rfl, h0, r0⟩ := trodAll_cons hA
  obtain ⟨v1, vs1, d1, ds1, p_1, q_1, rfl, rfl, rfl, h1, r1⟩ := trodAll_cons r0
  obtain ⟨v2, vs2, d2, ds2, p_2, q_2, rfl, rfl, rfl, h2, r2⟩ := trodAll_cons r1
  obtain ⟨rfl, rfl, rfl⟩ := trodAll_nil r2
  obtain rfl : args = #[v0, v1, v2] := by cases args; simp_all
  obtain ⟨rfl, rfl⟩ := trodVars_none hV
  obtain ⟨x0, y0, z0, rfl, rfl, rfl, wx0, wy0, wz0⟩ := Vr.open_v3 (hval 0 22 v0 rfl rfl) h0
  obtain ⟨x1, y1, z1, rfl, rfl, rfl, wx1, wy1, wz1⟩ := Vr.open_v3 (hval 1 22 v1 rfl rfl) h1
  obtain ⟨x2, y2, z2, rfl, rfl, rfl, wx2, wy2, wz2⟩ := Vr.open_v3 (hval 2 22 v2 rfl rfl) h2
  clear hA0 hval0
  refine (walk x0 y0 z0 x1 y1 z1 x2 y2 z2 W wx0 wy0 wz0 wx1 wy1 wz1 wx2 wy2 wz2).mono fun e W' ⟨he, bel⟩ => ?_
  subst he
  exact ⟨_, rfl, _, _, _, [], _, [], hW', trodAll_mk1 (shut_bool Try.underlying4 _), (trodAll_cons_mk (Vr.shut_v3 wx0 wy0 wz0) (trodAll_cons_mk (Vr.shut_v3 wx1 wy1 wz1) (trodAll_cons_mk (Vr.shut_v3 wx2 wy2 wz2) trodAll_mk0))), rfl, bel.frame _, fun h => by cases h⟩

theorem over : Rows.vecDotsRow.holds Try.pinned (OpenSpec.ofChange Rows.vecDotsSpec) :=
  OpenClaim.holds_of_wide 8 Try.f8 rfl rfl rfl rfl rfl rfl rfl ⟨rfl, rfl, rfl, rfl, rfl⟩ rfl rfl rfl rfl rfl (by kernel_rfl) Try.func8 (by kernel_rfl)
    (of_decide_eq_true (by kernel_rfl)) (by unfold Func.isWrapper; first | (rw [if_pos (by decide +kernel)]; kernel_rfl) | (rw [if_neg (by decide +kernel)]; exact ⟨rfl, rfl⟩))
    (fun os started H enc _ => lifted os started H enc)

theorem proved : Rows.VecDotsSaid :=
  over
#print axioms proved
end Go.Proofs.Ythogobmflinnpaa.vecDots
