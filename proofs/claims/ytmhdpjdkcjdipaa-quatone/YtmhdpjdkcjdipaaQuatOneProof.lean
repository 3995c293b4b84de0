/- For every four ints and every three ints the law QuatOne answers true: the one turns nothing: the product with it from either side is the turn, a direction that it turns is that. No condition. -/
import Derived.Test.YtmhdpjdkcjdipaaRows
import Derived.WalkKit
import Derived.ProofKit
import Derived.OpenShut
import Derived.ShutString
import Derived.ChangeOld
import Derived.Below
import Derived.Test.YtmhdpjdkcjdipaaQuatC2
import Derived.Test.YtmhdpjdkcjdipaaQuatR
import Derived.Test.YtmhdpjdkcjdipaaVecR
import Derived.Test.YtmhdpjdkcjdipaaRefC11
namespace Go.Proofs.Ytmhdpjdkcjdipaa.quatOne
open Go.ChangeShapes Go.WideShapes Go.ChangeAt Go.RowKit
set_option linter.unusedVariables false
theorem own : ownKnob Try.prog.godebug = none := by kernel_rfl
theorem laidOut : laidOutB Try.prog = true := by kernel_rfl

open Go.Proofs.Ytmhdpjdkcjdipaa.Fx Go.Proofs.Ytmhdpjdkcjdipaa.Wd Go.Proofs.Ytmhdpjdkcjdipaa.Sc Go.Proofs.Ytmhdpjdkcjdipaa.Rt Go.Proofs.Ytmhdpjdkcjdipaa.Vc Go.Proofs.Ytmhdpjdkcjdipaa.Qa
attribute [local go_sem] Ext.cell Ext.froz Ext.lt Ext.lt1 Ext.lt2 Ext.lt3 Ext.all Ext.set_u drew_heap setCell_size Ext.set_size
attribute [local go_sem ↓] eq_3 e3_self eq_4 e4_self
def B4 (w : World) (B : Nat) (a b c d : Int) : Prop := B < w.heap.size ∧ w.cell? ⟨B, 0, none⟩ = some (.int .i64 a) ∧ w.cell? ⟨B, 1, none⟩ = some (.int .i64 b) ∧ w.cell? ⟨B, 2, none⟩ = some (.int .i64 c) ∧ w.cell? ⟨B, 3, none⟩ = some (.int .i64 d)
def B3 (w : World) (B : Nat) (a b c : Int) : Prop := B < w.heap.size ∧ w.cell? ⟨B, 0, none⟩ = some (.int .i64 a) ∧ w.cell? ⟨B, 1, none⟩ = some (.int .i64 b) ∧ w.cell? ⟨B, 2, none⟩ = some (.int .i64 c)
abbrev bx (w : World) (a b c d p q r : Int) : World := (w.alloc (.cells #[.int .i64 a, .int .i64 b, .int .i64 c, .int .i64 d] 22)).alloc (.cells #[.int .i64 p, .int .i64 q, .int .i64 r] 23)
set_option maxHeartbeats 4000000 in
set_option maxRecDepth 100000 in
theorem walk (t0 x0 y0 z0 : Int) (x1 y1 z1 : Int) (w : World) (wt0 : (Lit.int .i64 t0).wf = true) (wx0 : (Lit.int .i64 x0).wf = true) (wy0 : (Lit.int .i64 y0).wf = true) (wz0 : (Lit.int .i64 z0).wf = true) (wx1 : (Lit.int .i64 x1).wf = true) (wy1 : (Lit.int .i64 y1).wf = true) (wz1 : (Lit.int .i64 z1).wf = true) :
    Calls Try.prog 4 #[.agg #[.int .i64 t0, .int .i64 x0, .int .i64 y0, .int .i64 z0], .agg #[.int .i64 x1, .int .i64 y1, .int .i64 z1]] w fun e w' => e = .returned (.bool true) ∧ Below w.heap.size w w' := by
  clear wt0 wx0 wy0 wz0 wx1 wy1 wz1
  have hC6 := back_w64 (back ⟨t0, x0, y0, z0⟩)
  have hvv := back_vals (back ⟨t0, x0, y0, z0⟩)
  obtain ⟨b0, b1, b2, b3, hB⟩ : ∃ b0 b1 b2 b3, back ⟨t0, x0, y0, z0⟩ = ⟨b0, b1, b2, b3⟩ := ⟨_, _, _, _, rfl⟩
  rw [hB] at hC6 hvv
  obtain ⟨c0, c1, c2, c3, hC⟩ : ∃ c0 c1 c2 c3, back ⟨b0, b1, b2, b3⟩ = ⟨c0, c1, c2, c3⟩ := ⟨_, _, _, _, rfl⟩
  rw [hC] at hC6 hvv
  have h1 : mul ⟨4294967296, 0, 0, 0⟩ ⟨c0, c1, c2, c3⟩ = ⟨c0, c1, c2, c3⟩ ∧ mb ⟨4294967296, 0, 0, 0⟩ ⟨c0, c1, c2, c3⟩ = false := one_mul' hvv
  have h2 : mul ⟨c0, c1, c2, c3⟩ ⟨4294967296, 0, 0, 0⟩ = ⟨c0, c1, c2, c3⟩ ∧ mb ⟨c0, c1, c2, c3⟩ ⟨4294967296, 0, 0, 0⟩ = false := mul_one' hvv
  have h3 : rot ⟨4294967296, 0, 0, 0⟩ (cl x1) (cl y1) (cl z1) = ⟨0, cl x1, cl y1, cl z1⟩ ∧ rb ⟨4294967296, 0, 0, 0⟩ (cl x1) (cl y1) (cl z1) = false := rot_one x1 y1 z1
  have hO : back ⟨4294967296, 0, 0, 0⟩ = ⟨4294967296, 0, 0, 0⟩ := back_one
  have hO6 : W64 ⟨4294967296, 0, 0, 0⟩ := by unfold W64 B64; decide
  have hV6 : W64 (pure (cl x1) (cl y1) (cl z1)) := ⟨(by decide : B64 0), cl_b64 _, cl_b64 _, cl_b64 _⟩
  clear hvv
  have k1 : Unit := ()
  have k2 : Unit := ()
  have k3 : Unit := ()
  have k4 : Unit := ()
  have k5 : Unit := ()
  go_enter Try.func4, Try.ntmps4; go_wp2_with (first | (go_at_call 10; refine (awake9_c _).mono ?_; rintro e w' ⟨rfl, x, rfl⟩) | (go_at_call 21; (have := k1; clear this k1); refine (qback_c hB).mono ?_; rintro e w' ⟨rfl, x, rfl⟩) | (go_at_call 21; (have := k2; clear this k2); refine (qback_c hC).mono ?_; rintro e w' ⟨rfl, x, rfl⟩))
  go_loopw [8] (fun i wr => (i = .int .i64 0 ∧ wr = bx x.u c0 c1 c2 c3 0 0 0) ∨ (i = .int .i64 1 ∧ wr = bx x.u c0 c1 c2 c3 (cl x1) 0 0) ∨ (i = .int .i64 2 ∧ wr = bx x.u c0 c1 c2 c3 (cl x1) (cl y1) 0) ∨ (i = .int .i64 3 ∧ wr = bx x.u c0 c1 c2 c3 (cl x1) (cl y1) (cl z1))) (fun i _ => (3 - intOf i).toNat)
  case atStart => exact .inl ⟨rfl, rfl⟩
  case round =>
    rcases hrel with ⟨rfl, rfl⟩ | ⟨rfl, rfl⟩ | ⟨rfl, rfl⟩ | ⟨rfl, rfl⟩
    · clear h1 h2 h3
      go_wp2_with (first | (go_at_call 25; refine (clamp_c _ _).mono ?_; rintro e w' ⟨rfl, rfl⟩))
      go_roundw
      case rel => exact .inr (.inl ⟨rfl, by simp [go_sem]⟩)
      case measure => simp [intOf]
    · clear h1 h2 h3
      go_wp2_with (first | (go_at_call 25; refine (clamp_c _ _).mono ?_; rintro e w' ⟨rfl, rfl⟩))
      go_roundw
      case rel => exact .inr (.inr (.inl ⟨rfl, by simp [go_sem]⟩))
      case measure => simp [intOf]
    · clear h1 h2 h3
      go_wp2_with (first | (go_at_call 25; refine (clamp_c _ _).mono ?_; rintro e w' ⟨rfl, rfl⟩))
      go_roundw
      case rel => exact .inr (.inr (.inr ⟨rfl, by simp [go_sem]⟩))
      case measure => simp [intOf]
    · generalize cl x1 = u at *
      generalize cl y1 = v0 at *
      generalize cl z1 = s at *
      go_wp2_with fail
      go_cut [11, 12] (fun v f wx => ∃ B : Nat, v = .pointer (some ⟨B, 0, none⟩) ∧ f = .bool false ∧ B4 wx B c0 c1 c2 c3 ∧ Mr (bx x.u c0 c1 c2 c3 u v0 s) wx)
      case first =>
        go_region_held3 (fun w' => w'.cell? ⟨x.u.heap.size, 0, none⟩ = some (.int .i64 c0) ∧ w'.cell? ⟨x.u.heap.size, 1, none⟩ = some (.int .i64 c1) ∧ w'.cell? ⟨x.u.heap.size, 2, none⟩ = some (.int .i64 c2) ∧ w'.cell? ⟨x.u.heap.size, 3, none⟩ = some (.int .i64 c3)) ((simp [go_sem]; done)) (first | (go_at_call 23; refine (qone_c _).mono ?_; rintro e w' ⟨rfl, x, rfl⟩) | (go_at_call 11; (have := k4; clear this k4); refine (qmul_c hO6 hC6 h1.1 h1.2).mono ?_; rintro e w' ⟨rfl, x, rfl⟩))
        all_goals
          go_wp2_with fail
          go_meet
          case rel => exact ⟨_, rfl, rfl, ⟨by simp [go_sem], by simp [go_sem], by simp [go_sem], by simp [go_sem], by simp [go_sem]⟩, (by repeat (first | (with_reducible exact Mr.refl _) | (with_reducible apply Mr.drew) | (with_reducible apply Mr.alloc) | (with_reducible apply Mr.ext) | (with_reducible refine Mr.setCell ?_ (by first | (simp; done) | (simp; omega) | omega | (refine leOf0 ?_; (repeat (first | (with_reducible exact Mr.refl _) | (with_reducible apply Mr.drew) | (with_reducible apply Mr.alloc) | (with_reducible apply Mr.ext) | (with_reducible refine Mr.setCell ?_ (by first | (simp; done) | (simp; omega) | omega) _))); done) | (refine leOf ?_; (repeat (first | (with_reducible exact Mr.refl _) | (with_reducible apply Mr.drew) | (with_reducible apply Mr.alloc) | (with_reducible apply Mr.ext) | (with_reducible refine Mr.setCell ?_ (by first | (simp; done) | (simp; omega) | omega) _))); done)) _)))⟩
      case rest =>
        obtain ⟨Ba, rfl, rfl, ⟨a1, a2, a3, a4, a5⟩, hm⟩ := hcut
        obtain ⟨ya, rfl⟩ := Mr.mk' hm
        clear hm k4 h1
        go_wp2_with fail
        go_cut [13, 14] (fun v f wx => ∃ B : Nat, v = .pointer (some ⟨B, 0, none⟩) ∧ f = .bool false ∧ B4 wx B c0 c1 c2 c3 ∧ Mr ya.u wx)
        case first =>
          go_region_held3 (fun w' => w'.cell? ⟨x.u.heap.size, 0, none⟩ = some (.int .i64 c0) ∧ w'.cell? ⟨x.u.heap.size, 1, none⟩ = some (.int .i64 c1) ∧ w'.cell? ⟨x.u.heap.size, 2, none⟩ = some (.int .i64 c2) ∧ w'.cell? ⟨x.u.heap.size, 3, none⟩ = some (.int .i64 c3)) ((simp [go_sem]; done)) (first | (go_at_call 23; refine (qone_c _).mono ?_; rintro e w' ⟨rfl, x, rfl⟩) | (go_at_call 11; (have := k5; clear this k5); refine (qmul_c hC6 hO6 h2.1 h2.2).mono ?_; rintro e w' ⟨rfl, x, rfl⟩))
          all_goals
            go_wp2_with fail
            go_meet
            case rel => exact ⟨_, rfl, rfl, ⟨by simp [go_sem], by simp [go_sem], by simp [go_sem], by simp [go_sem], by simp [go_sem]⟩, (by repeat (first | (with_reducible exact Mr.refl _) | (with_reducible apply Mr.drew) | (with_reducible apply Mr.alloc) | (with_reducible apply Mr.ext) | (with_reducible refine Mr.setCell ?_ (by first | (simp; done) | (simp; omega) | omega | (refine leOf0 ?_; (repeat (first | (with_reducible exact Mr.refl _) | (with_reducible apply Mr.drew) | (with_reducible apply Mr.alloc) | (with_reducible apply Mr.ext) | (with_reducible refine Mr.setCell ?_ (by first | (simp; done) | (simp; omega) | omega) _))); done) | (refine leOf ?_; (repeat (first | (with_reducible exact Mr.refl _) | (with_reducible apply Mr.drew) | (with_reducible apply Mr.alloc) | (with_reducible apply Mr.ext) | (with_reducible refine Mr.setCell ?_ (by first | (simp; done) | (simp; omega) | omega) _))); done)) _)))⟩
        case rest =>
          obtain ⟨Bb, rfl, rfl, ⟨d1, d2, d3, d4, d5⟩, hm⟩ := hcut
          obtain ⟨yb, rfl⟩ := Mr.mk' hm
          clear hm k5 h2
          go_wp2_with fail
          go_cut [15, 16] (fun v f wx => ∃ B : Nat, v = .pointer (some ⟨B, 0, none⟩) ∧ f = .bool false ∧ B3 wx B u v0 s ∧ Mr yb.u wx)
          case first =>
            go_region_held3 (fun w' => w'.cell? ⟨x.u.heap.size + 1, 0, none⟩ = some (.int .i64 u) ∧ w'.cell? ⟨x.u.heap.size + 1, 1, none⟩ = some (.int .i64 v0) ∧ w'.cell? ⟨x.u.heap.size + 1, 2, none⟩ = some (.int .i64 s)) ((simp [go_sem]; done)) (first | (go_at_call 23; refine (qone_c _).mono ?_; rintro e w' ⟨rfl, x, rfl⟩) | (go_at_call 19; refine (qrot_c hO6 hV6 h3.1 h3.2).mono ?_; rintro e w' ⟨rfl, x, rfl⟩))
            all_goals
              go_wp2_with fail
              go_meet
              case rel => exact ⟨_, rfl, rfl, ⟨by simp [go_sem], by simp [go_sem], by simp [go_sem], by simp [go_sem]⟩, (by repeat (first | (with_reducible exact Mr.refl _) | (with_reducible apply Mr.drew) | (with_reducible apply Mr.alloc) | (with_reducible apply Mr.ext) | (with_reducible refine Mr.setCell ?_ (by first | (simp; done) | (simp; omega) | omega | (refine leOf0 ?_; (repeat (first | (with_reducible exact Mr.refl _) | (with_reducible apply Mr.drew) | (with_reducible apply Mr.alloc) | (with_reducible apply Mr.ext) | (with_reducible refine Mr.setCell ?_ (by first | (simp; done) | (simp; omega) | omega) _))); done) | (refine leOf ?_; (repeat (first | (with_reducible exact Mr.refl _) | (with_reducible apply Mr.drew) | (with_reducible apply Mr.alloc) | (with_reducible apply Mr.ext) | (with_reducible refine Mr.setCell ?_ (by first | (simp; done) | (simp; omega) | omega) _))); done)) _)))⟩
          case rest =>
            obtain ⟨Bt, rfl, rfl, ⟨e1, e2, e3, e4⟩, hm⟩ := hcut
            obtain ⟨yt, rfl⟩ := Mr.mk' hm
            clear hm h3
            go_wp2_with (first | (go_at_call 23; refine (qone_c _).mono ?_; rintro e w' ⟨rfl, x, rfl⟩) | (go_at_call 21; (have := k3; clear this k3); refine (qback_c hO).mono ?_; rintro e w' ⟨rfl, x, rfl⟩))
            go_ret; exact ⟨rfl, Mr.grown (by repeat (first | (with_reducible exact Mr.refl _) | (with_reducible apply Mr.drew) | (with_reducible apply Mr.alloc) | (with_reducible apply Mr.ext) | (with_reducible refine Mr.setCell ?_ (by first | (simp; done) | (simp; omega) | omega | (refine leOf0 ?_; (repeat (first | (with_reducible exact Mr.refl _) | (with_reducible apply Mr.drew) | (with_reducible apply Mr.alloc) | (with_reducible apply Mr.ext) | (with_reducible refine Mr.setCell ?_ (by first | (simp; done) | (simp; omega) | omega) _))); done) | (refine leOf ?_; (repeat (first | (with_reducible exact Mr.refl _) | (with_reducible apply Mr.drew) | (with_reducible apply Mr.alloc) | (with_reducible apply Mr.ext) | (with_reducible refine Mr.setCell ?_ (by first | (simp; done) | (simp; omega) | omega) _))); done)) _)))⟩

set_option maxRecDepth 100000 in
theorem lifted (os : Os) (started : os.Started) (H : Type) (enc : TypeId × Value → H) :
    ReturnsInHanded {} Try.checked os 4 .any (Rows.quatOneSpec.pre6 enc Try.prog Try.f4 Rows.quatOneRow.domain false) (Rows.quatOneSpec.post enc Try.prog Try.f4 false true false false) := by
  refine returnsInHanded_of_change (C := Try.checked) own started (by kernel_rfl) Try.func4
    (ChangeSpec.witness6 (enc := enc) (C := Try.checked) false ⟨#[], #[.agg #[.int .i64 0, .int .i64 0, .int .i64 0, .int .i64 0], .agg #[.int .i64 0, .int .i64 0, .int .i64 0]], []⟩ 8 (by kernel_rfl) (by kernel_rfl) (by kernel_rfl) (by kernel_rfl)) ?_
  intro W base args ds gs before hval0 hW hcnd _
  have hval : ∀ (j : Nat) t v, Try.f4.params[j]? = some t → args[j]? = some v → Value.okWide Try.prog W .any base t v := hval0
  have hW' := hW
  obtain ⟨p, q, hA0, hV, rfl, hfz, hnd⟩ := hW
  have hA : DataW.TrodAll enc Try.prog W 0 (fun _ => true) true Try.f4.params.toList args.toList ds p := hA0
  rw [Try.params4] at hA hval
  obtain ⟨v0, vs0, d0, ds0, p_0, q_0, hargs, rfl, rfl, h0, r0⟩ := trodAll_cons hA
  obtain ⟨v1, vs1, d1, ds1, p_1, q_1, rfl, rfl, rfl, h1, r1⟩ := trodAll_cons r0
  obtain ⟨rfl, rfl, rfl⟩ := trodAll_nil r1
  obtain rfl : args = #[v0, v1] := by cases args; simp_all
  obtain ⟨rfl, rfl⟩ := trodVars_none hV
  obtain ⟨t0, x0, y0, z0, rfl, rfl, rfl, wt0, wx0, wy0, wz0⟩ := Qr.open_v4 (hval 0 22 v0 rfl rfl) h0
  obtain ⟨x1, y1, z1, rfl, rfl, rfl, wx1, wy1, wz1⟩ := Vr.open_v3 (hval 1 23 v1 rfl rfl) h1
  clear hA0 hval0
  refine (walk t0 x0 y0 z0 x1 y1 z1 W wt0 wx0 wy0 wz0 wx1 wy1 wz1).mono fun e W' ⟨he, bel⟩ => ?_
  subst he
  exact ⟨_, rfl, _, _, _, [], _, [], hW', trodAll_mk1 (shut_bool Try.underlying4 _), (trodAll_cons_mk (Qr.shut_v4 wt0 wx0 wy0 wz0) (trodAll_cons_mk (Vr.shut_v3 wx1 wy1 wz1) trodAll_mk0)), rfl, bel.frame _, fun h => by cases h⟩

theorem over : Rows.quatOneRow.holds Try.pinned (OpenSpec.ofChange Rows.quatOneSpec) :=
  OpenClaim.holds_of_wide 4 Try.f4 rfl rfl rfl rfl rfl rfl rfl ⟨rfl, rfl, rfl, rfl, rfl⟩ rfl rfl rfl rfl rfl (by kernel_rfl) Try.func4 (by kernel_rfl)
    (of_decide_eq_true (by kernel_rfl)) (by unfold Func.isWrapper; first | (rw [if_pos (by decide +kernel)]; kernel_rfl) | (rw [if_neg (by decide +kernel)]; exact ⟨rfl, rfl⟩))
    (fun os started H enc _ => lifted os started H enc)

theorem proved : Rows.QuatOneSaid :=
  over
#print axioms proved
end Go.Proofs.Ytmhdpjdkcjdipaa.quatOne
