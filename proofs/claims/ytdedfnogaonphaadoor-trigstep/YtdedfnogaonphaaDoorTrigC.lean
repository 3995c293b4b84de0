/- The contracts of package trig. -/
import Derived.Test.YtdedfnogaonphaaDoorTrigT
import Derived.Test.YtdedfnogaonphaaDoorRefC10
import Derived.RegionTactic
import Derived.Shelf.Abstract
namespace Go.Proofs.YtdedfnogaonphaaDoor
open Go.ChangeShapes Go.WideShapes Go.ChangeAt Go.RowKit
open Go.Proofs.YtdedfnogaonphaaDoor.Fx Go.Proofs.YtdedfnogaonphaaDoor.Wd
set_option linter.unusedVariables false
attribute [local go_sem] Ext.cell Ext.froz Ext.lt Ext.lt1 Ext.lt2 Ext.lt3 Ext.all Ext.set_u drew_heap setCell_size Ext.set_size
namespace Tg
theorem and32 (n : Int) : bits .and .i64 n 4294967295 = agl n := by
  have h : (BitVec.ofInt 64 4294967295).toNat = 2 ^ 32 - 1 := by decide
  have key : (BitVec.ofInt 64 n &&& BitVec.ofInt 64 4294967295).toNat = (n % ((2 ^ 64 : Nat) : Int)).toNat % 2 ^ 32 := by
    rw [BitVec.toNat_and, BitVec.toNat_ofInt, h, Nat.and_two_pow_sub_one_eq_mod]
  show IntKind.i64.wrap ((BitVec.ofInt 64 n &&& BitVec.ofInt 64 4294967295).toNat : Nat) = _
  rw [key, IntKind.wrap_i64]
  unfold agl
  omega
attribute [local go_sem] and32
theorem angle_c (t : Int) (w : World) : Calls Tryd.prog 13 #[.int .i64 t] w fun e w' => e = .returned (.int .i64 (agl t)) ∧ w' = w := by
  go_enter Tryd.func13, Tryd.ntmps13
  go_wp2
  go_ret
  exact ⟨rfl, rfl⟩
theorem tnear_c (n : Int) (w : World) (h0 : -2305843009213693952 ≤ n) (h1 : n ≤ 2305843009213693952) : Calls Tryd.prog 25 #[.int .i64 n] w fun e w' => e = .returned (.int .i64 ((n + 32768) / 65536)) ∧ w' = w := by
  go_enter Tryd.func25, Tryd.ntmps25
  go_wp2
  go_ret
  exact ⟨rfl, rfl⟩
theorem mr_set3 {V V' W : World} (X : Ext W) {a b c : Addr} {p q r : Value} (h : Mr V X.u) (e : ((V.setCell a p).setCell b q).setCell c r = V') : Mr V' (((X.set a p).set b q).set c r).u := by
  rw [← e]
  exact ((h.both a p).both b q).both c r
/-- The memory of the steps: the point's box and the answer's. -/
abbrev mw (w : World) (s : Int × Int × Int) : World := (w.alloc (.cells #[.int .i64 s.1, .int .i64 s.2.1, .int .i64 s.2.2] 39)).alloc (.cells #[.int .i64 0, .int .i64 0, .int .i64 0] 39)
theorem onB_c (X Y Z : Int) (w : World) : Calls Tryd.prog 24 #[.agg #[.int .i64 X, .int .i64 Y, .int .i64 Z]] w fun e w' => e = .returned (.bool (decide (0 ≤ Z))) ∧ ∃ x : Ext w, w' = x.u := by
  go_enter Tryd.func24, Tryd.ntmps24
  go_wp2
  go_ret
  exact ⟨rfl, Mr.mk' (by repeat (first | (with_reducible exact Mr.refl _) | (with_reducible apply Mr.drew) | (with_reducible apply Mr.alloc) | (with_reducible apply Mr.ext) | (with_reducible refine Mr.setCell ?_ (by first | (simp; done) | (simp; omega) | omega | (refine leOf0 ?_; (repeat (first | (with_reducible exact Mr.refl _) | (with_reducible apply Mr.drew) | (with_reducible apply Mr.alloc) | (with_reducible apply Mr.ext) | (with_reducible refine Mr.setCell ?_ (by first | (simp; done) | (simp; omega) | omega) _))); done) | (refine leOf ?_; (repeat (first | (with_reducible exact Mr.refl _) | (with_reducible apply Mr.drew) | (with_reducible apply Mr.alloc) | (with_reducible apply Mr.ext) | (with_reducible refine Mr.setCell ?_ (by first | (simp; done) | (simp; omega) | omega) _))); done)) _)))⟩
theorem onS_c (X Y Z : Int) (w : World) : Calls Tryd.prog 40 #[.agg #[.int .i64 X, .int .i64 Y, .int .i64 Z]] w fun e w' => e = .returned (.bool (decide (Y ≤ 0))) ∧ ∃ x : Ext w, w' = x.u := by
  go_enter Tryd.func40, Tryd.ntmps40
  go_wp2
  go_ret
  exact ⟨rfl, Mr.mk' (by repeat (first | (with_reducible exact Mr.refl _) | (with_reducible apply Mr.drew) | (with_reducible apply Mr.alloc) | (with_reducible apply Mr.ext) | (with_reducible refine Mr.setCell ?_ (by first | (simp; done) | (simp; omega) | omega | (refine leOf0 ?_; (repeat (first | (with_reducible exact Mr.refl _) | (with_reducible apply Mr.drew) | (with_reducible apply Mr.alloc) | (with_reducible apply Mr.ext) | (with_reducible refine Mr.setCell ?_ (by first | (simp; done) | (simp; omega) | omega) _))); done) | (refine leOf ?_; (repeat (first | (with_reducible exact Mr.refl _) | (with_reducible apply Mr.drew) | (with_reducible apply Mr.alloc) | (with_reducible apply Mr.ext) | (with_reducible refine Mr.setCell ?_ (by first | (simp; done) | (simp; omega) | omega) _))); done)) _)))⟩
set_option maxRecDepth 100000 in
set_option maxHeartbeats 2000000 in
theorem turned_c (g : Nat) (pr : Int → Int → Int → Bool) (st : Nat → Int × Int × Int) (eg : ∀ args w, (callFunc g args).run Tryd.prog w = .ok (.enter g args) w)
    (hg : ∀ X Y Z W, Calls Tryd.prog g #[.agg #[.int .i64 X, .int .i64 Y, .int .i64 Z]] W fun e w' => e = .returned (.bool (pr X Y Z)) ∧ ∃ x : Ext W, w' = x.u)
    (hs : ∀ j, j < 32 → ∀ X Y Z, st j = (X, Y, Z) → st (j + 1) = if pr X Y Z then (X - Y / 2 ^ j, Y + X / 2 ^ j, Z - an j) else (X + Y / 2 ^ j, Y - X / 2 ^ j, Z + an j))
    (hb : ∀ j, j ≤ 32 → (-2305843009213693952 ≤ (st j).1 ∧ (st j).1 ≤ 2305843009213693952) ∧ (-2305843009213693952 ≤ (st j).2.1 ∧ (st j).2.1 ≤ 2305843009213693952) ∧ (-2305843009213693952 ≤ (st j).2.2 ∧ (st j).2.2 ≤ 2305843009213693952))
    (X Y Z : Int) (h0 : st 0 = (X, Y, Z)) (w : World) (hT : Tb w) :
    Calls Tryd.prog 23 #[.agg #[.int .i64 X, .int .i64 Y, .int .i64 Z], .func (.func g) #[] #[]] w fun e w' => e = .returned (.agg #[.int .i64 (st 32).1, .int .i64 (st 32).2.1, .int .i64 (st 32).2.2]) ∧ ∃ x : Ext w, w' = x.u := by
  have Hs : Hid (∀ j, j < 32 → ∀ X Y Z, st j = (X, Y, Z) → st (j + 1) = if pr X Y Z then (X - Y / 2 ^ j, Y + X / 2 ^ j, Z - an j) else (X + Y / 2 ^ j, Y - X / 2 ^ j, Z + an j)) := hs
  have Hb : Hid (∀ j, j ≤ 32 → (-2305843009213693952 ≤ (st j).1 ∧ (st j).1 ≤ 2305843009213693952) ∧ (-2305843009213693952 ≤ (st j).2.1 ∧ (st j).2.1 ≤ 2305843009213693952) ∧ (-2305843009213693952 ≤ (st j).2.2 ∧ (st j).2.2 ≤ 2305843009213693952)) := hb
  have H0 : Hid (st 0 = (X, Y, Z)) := h0
  clear hs hb h0
  go_enter Tryd.func23, Tryd.ntmps23
  go_wp2_with (first | (refine wpList_load_tab rfl _ rfl rfl (by repeat (first | assumption | apply Tb.ext | apply Tb.alloc | apply Tb.drew)) ?_))
  go_loopw [10] (fun i wr => ∃ (j : Nat) (X Y Z : Int), j ≤ 32 ∧ Hid (st j = (X, Y, Z)) ∧ i = .int .i64 j ∧ ∃ y : Ext (mw w (X, Y, Z)), wr = y.u) (fun i _ => (32 - intOf i).toNat)
  case atStart => exact ⟨0, X, Y, Z, by omega, H0, rfl, Mr.mk' (by repeat (first | (with_reducible exact Mr.refl _) | (with_reducible apply Mr.drew) | (with_reducible apply Mr.alloc) | (with_reducible apply Mr.ext) | (with_reducible refine Mr.setCell ?_ (by first | (simp; done) | (simp; omega) | omega | (refine leOf0 ?_; (repeat (first | (with_reducible exact Mr.refl _) | (with_reducible apply Mr.drew) | (with_reducible apply Mr.alloc) | (with_reducible apply Mr.ext) | (with_reducible refine Mr.setCell ?_ (by first | (simp; done) | (simp; omega) | omega) _))); done) | (refine leOf ?_; (repeat (first | (with_reducible exact Mr.refl _) | (with_reducible apply Mr.drew) | (with_reducible apply Mr.alloc) | (with_reducible apply Mr.ext) | (with_reducible refine Mr.setCell ?_ (by first | (simp; done) | (simp; omega) | omega) _))); done)) _)))⟩
  case round =>
    obtain ⟨j, X', Y', Z', hj, E, rfl, y, rfl⟩ := hrel
    have hb1 := Hb.out j hj
    rw [E.out] at hb1
    obtain ⟨⟨x0', x1'⟩, ⟨y0', y1'⟩, ⟨z0', z1'⟩⟩ := hb1
    simp only at x0' x1' y0' y1' z0' z1'
    by_cases hlt : j < 32
    · have hc : ∀ V : World, (Instr.index 48 (.agg tabA) (.int .i64 (j : Int))).run Tryd.prog V = .ok (.int .i64 (an j)) V := idx_tab j hlt
      have ha := an_bd j hlt
      have dx := dn_bd j (M := 2305843009213693952) (by omega) x0' x1'
      have dy := dn_bd j (M := 2305843009213693952) (by omega) y0' y1'
      have hsz := tabA_size
      have hS := Hs.out j hlt X' Y' Z' E.out
      have hcall := hg X' Y' Z'
      generalize hA : an j = A at *
      generalize hdX : X' / 2 ^ j = dX at *
      generalize hdY : Y' / 2 ^ j = dY at *
      cases hp : pr X' Y' Z' with
      | true =>
        rw [hp] at hcall hS
        have H2 : Hid (st (j + 1) = (X' - dY, Y' + dX, Z' - A)) := by rw [Hid, hS]; rfl
        clear hS hg Hs Hb
        go_wp2
        refine wp_region_ext (by kernel_rfl) (by kernel_rfl) ?_
        repeat (go_big_quiet_step ((fail)))
        refine wpQuiet_nil ?_
        rintro w1 ⟨x1, rfl⟩
        go_wp2_with (go_at_fn g; refine (hcall _).mono ?_; rintro e w' ⟨rfl, x2, rfl⟩)
        go_roundw
        case rel => exact ⟨j + 1, _, _, _, by omega, H2, by go_num, Mr.mk' (mr_set3 (V := mw w (X', Y', Z')) _ (by repeat (first | (with_reducible exact Mr.refl _) | (with_reducible apply Mr.drew) | (with_reducible apply Mr.alloc) | (with_reducible apply Mr.ext) | (with_reducible refine Mr.setCell ?_ (by first | (simp; done) | (simp; omega) | omega | (refine leOf0 ?_; (repeat (first | (with_reducible exact Mr.refl _) | (with_reducible apply Mr.drew) | (with_reducible apply Mr.alloc) | (with_reducible apply Mr.ext) | (with_reducible refine Mr.setCell ?_ (by first | (simp; done) | (simp; omega) | omega) _))); done) | (refine leOf ?_; (repeat (first | (with_reducible exact Mr.refl _) | (with_reducible apply Mr.drew) | (with_reducible apply Mr.alloc) | (with_reducible apply Mr.ext) | (with_reducible refine Mr.setCell ?_ (by first | (simp; done) | (simp; omega) | omega) _))); done)) _))) (by simp [go_sem]))⟩
        case measure => simp [intOf]; omega
      | false =>
        rw [hp] at hcall hS
        have H2 : Hid (st (j + 1) = (X' + dY, Y' - dX, Z' + A)) := by rw [Hid, hS]; rfl
        clear hS hg Hs Hb
        go_wp2
        refine wp_region_ext (by kernel_rfl) (by kernel_rfl) ?_
        repeat (go_big_quiet_step ((fail)))
        refine wpQuiet_nil ?_
        rintro w1 ⟨x1, rfl⟩
        go_wp2_with (go_at_fn g; refine (hcall _).mono ?_; rintro e w' ⟨rfl, x2, rfl⟩)
        go_roundw
        case rel => exact ⟨j + 1, _, _, _, by omega, H2, by go_num, Mr.mk' (mr_set3 (V := mw w (X', Y', Z')) _ (by repeat (first | (with_reducible exact Mr.refl _) | (with_reducible apply Mr.drew) | (with_reducible apply Mr.alloc) | (with_reducible apply Mr.ext) | (with_reducible refine Mr.setCell ?_ (by first | (simp; done) | (simp; omega) | omega | (refine leOf0 ?_; (repeat (first | (with_reducible exact Mr.refl _) | (with_reducible apply Mr.drew) | (with_reducible apply Mr.alloc) | (with_reducible apply Mr.ext) | (with_reducible refine Mr.setCell ?_ (by first | (simp; done) | (simp; omega) | omega) _))); done) | (refine leOf ?_; (repeat (first | (with_reducible exact Mr.refl _) | (with_reducible apply Mr.drew) | (with_reducible apply Mr.alloc) | (with_reducible apply Mr.ext) | (with_reducible refine Mr.setCell ?_ (by first | (simp; done) | (simp; omega) | omega) _))); done)) _))) (by simp [go_sem]))⟩
        case measure => simp [intOf]; omega
    · obtain rfl : j = 32 := by omega
      clear Hs Hb hg eg
      go_wp2
      exact bodyPost_ret (v := .agg #[.int .i64 X', .int .i64 Y', .int .i64 Z']) (by simp [results, Tryd.results23, go_sem]) rfl ⟨by rw [E.out], Mr.mk' (by repeat (first | (with_reducible exact Mr.refl _) | (with_reducible apply Mr.drew) | (with_reducible apply Mr.alloc) | (with_reducible apply Mr.ext) | (with_reducible refine Mr.setCell ?_ (by first | (simp; done) | (simp; omega) | omega | (refine leOf0 ?_; (repeat (first | (with_reducible exact Mr.refl _) | (with_reducible apply Mr.drew) | (with_reducible apply Mr.alloc) | (with_reducible apply Mr.ext) | (with_reducible refine Mr.setCell ?_ (by first | (simp; done) | (simp; omega) | omega) _))); done) | (refine leOf ?_; (repeat (first | (with_reducible exact Mr.refl _) | (with_reducible apply Mr.drew) | (with_reducible apply Mr.alloc) | (with_reducible apply Mr.ext) | (with_reducible refine Mr.setCell ?_ (by first | (simp; done) | (simp; omega) | omega) _))); done)) _)))⟩
theorem tnearV_c (n v : Int) (w : World) (h0 : -2305843009213693952 ≤ n) (h1 : n ≤ 2305843009213693952) (e : (n + 32768) / 65536 = v) : Calls Tryd.prog 25 #[.int .i64 n] w fun e w' => e = .returned (.int .i64 v) ∧ w' = w := by
  rw [← e]; exact tnear_c n w h0 h1
theorem fw_pr (z : Int) (j : Nat) (X Y Z : Int) (h : fw z j = (X, Y, Z)) : fw z (j + 1) = if decide (0 ≤ Z) then (X - Y / 2 ^ j, Y + X / 2 ^ j, Z - an j) else (X + Y / 2 ^ j, Y - X / 2 ^ j, Z + an j) := by
  have H : fw z (j + 1) = stp j (fw z j) := rfl
  rw [H, h]
  by_cases hp : 0 ≤ Z
  · rw [stp_pos hp, if_pos (by simpa using hp)]
  · rw [stp_neg hp, if_neg (by simpa using hp)]
theorem bw_pr (a b : Int) (j : Nat) (X Y Z : Int) (h : bw a b j = (X, Y, Z)) : bw a b (j + 1) = if decide (Y ≤ 0) then (X - Y / 2 ^ j, Y + X / 2 ^ j, Z - an j) else (X + Y / 2 ^ j, Y - X / 2 ^ j, Z + an j) := by
  have H : bw a b (j + 1) = bst j (bw a b j) := rfl
  rw [H, h]
  by_cases hp : 0 < Y
  · rw [bst_pos hp, if_neg (by simpa using hp)]
  · rw [bst_neg hp, if_pos (by simp; omega)]
theorem turnedB_c (z : Int) (z0 : -35184372088832 ≤ z) (z1 : z ≤ 35184372088832) (w : World) (hT : Tb w) :
    Calls Tryd.prog 23 #[.agg #[.int .i64 170926505739102, .int .i64 0, .int .i64 z], .func (.func 24) #[] #[]] w fun e w' => e = .returned (.agg #[.int .i64 (fw z 32).1, .int .i64 (fw z 32).2.1, .int .i64 (fw z 32).2.2]) ∧ ∃ x : Ext w, w' = x.u :=
  turned_c 24 (fun _ _ Z => decide (0 ≤ Z)) (fw z) (enters_of Tryd.func24 (by kernel_rfl) rfl) (fun X Y Z W => onB_c X Y Z W) (fun j _ X Y Z h => fw_pr z j X Y Z h)
    (fun j hj => by obtain ⟨a, b, c⟩ := fw_ok z0 z1 hj; refine ⟨⟨?_, ?_⟩, ⟨?_, ?_⟩, ⟨?_, ?_⟩⟩ <;> omega) _ _ _ rfl w hT
theorem turnedS_c (a b : Int) (a0 : 0 ≤ a) (a1 : a ≤ 288230376151711744) (b0 : 0 ≤ b) (b1 : b ≤ 288230376151711744) (w : World) (hT : Tb w) :
    Calls Tryd.prog 23 #[.agg #[.int .i64 a, .int .i64 b, .int .i64 0], .func (.func 40) #[] #[]] w fun e w' => e = .returned (.agg #[.int .i64 (bw a b 32).1, .int .i64 (bw a b 32).2.1, .int .i64 (bw a b 32).2.2]) ∧ ∃ x : Ext w, w' = x.u :=
  turned_c 40 (fun _ Y _ => decide (Y ≤ 0)) (bw a b) (enters_of Tryd.func40 (by kernel_rfl) rfl) (fun X Y Z W => onS_c X Y Z W) (fun j _ X Y Z h => bw_pr a b j X Y Z h)
    (fun j hj => by obtain ⟨k, l, m⟩ := bw_ok a0 a1 b0 b1 hj; refine ⟨⟨?_, ?_⟩, ⟨?_, ?_⟩, ⟨?_, ?_⟩⟩ <;> omega) _ _ _ rfl w hT
set_option maxRecDepth 100000 in
set_option maxHeartbeats 2000000 in
theorem both_c (t : Int) (w : World) (hT : Tb w) :
    Calls Tryd.prog 11 #[.int .i64 t] w fun e w' => e = .returned (.tuple #[.int .i64 (bs t), .int .i64 (bc t)]) ∧ ∃ x : Ext w, w' = x.u := by
  obtain ⟨u, q, z, X, Y, c, s, e1, ⟨u0, u1⟩, e2', e2, ⟨q0, q1⟩, e3, ⟨d0, d1⟩, ⟨z0, z1⟩, e4, e5, ⟨x0, x1⟩, ⟨y0, y1⟩, e6, e7, ⟨c0, c1⟩, ⟨s0, s1⟩, E8, E9⟩ := both_math t
  clear e2
  go_enter Tryd.func11, Tryd.ntmps11
  go_wp2_with (first | (go_at_call 13; refine (angle_c _ _).mono ?_; rintro e w' ⟨rfl, rfl⟩) | (go_at_call 23; refine (turnedB_c _ (by omega) (by omega) _ hT).mono ?_; rintro e w' ⟨rfl, x, rfl⟩))
  refine wp_region_ext (by kernel_rfl) (by kernel_rfl) ?_
  repeat (go_big_quiet_step ((go_at_call 25; first | exact extCall0 (tnearV_c _ _ _ (by omega) (by omega) e6) | exact extCall0 (tnearV_c _ _ _ (by omega) (by omega) e7))))
  refine wpQuiet_nil ?_
  rintro w1 ⟨x1, rfl⟩
  clear hT
  by_cases k1 : q = 1
  · have f1 : (q == 1) = true := by simp [k1]
    rw [if_pos k1] at E8 E9
    clear k1
    go_wp2; go_ret2; exact ⟨ret_ii E8.out.symm E9.out.symm, Mr.mk' (by repeat (first | (with_reducible exact Mr.refl _) | (with_reducible apply Mr.drew) | (with_reducible apply Mr.alloc) | (with_reducible apply Mr.ext) | (with_reducible refine Mr.setCell ?_ (by first | (simp; done) | (simp; omega) | omega | (refine leOf0 ?_; (repeat (first | (with_reducible exact Mr.refl _) | (with_reducible apply Mr.drew) | (with_reducible apply Mr.alloc) | (with_reducible apply Mr.ext) | (with_reducible refine Mr.setCell ?_ (by first | (simp; done) | (simp; omega) | omega) _))); done) | (refine leOf ?_; (repeat (first | (with_reducible exact Mr.refl _) | (with_reducible apply Mr.drew) | (with_reducible apply Mr.alloc) | (with_reducible apply Mr.ext) | (with_reducible refine Mr.setCell ?_ (by first | (simp; done) | (simp; omega) | omega) _))); done)) _)))⟩
  · rw [if_neg k1] at E8 E9
    have f1 : (q == 1) = false := by simp [k1]
    clear k1
    by_cases k2 : q = 2
    · have f2 : (q == 2) = true := by simp [k2]
      rw [if_pos k2] at E8 E9
      clear k2
      go_wp2; go_ret2; exact ⟨ret_ii E8.out.symm E9.out.symm, Mr.mk' (by repeat (first | (with_reducible exact Mr.refl _) | (with_reducible apply Mr.drew) | (with_reducible apply Mr.alloc) | (with_reducible apply Mr.ext) | (with_reducible refine Mr.setCell ?_ (by first | (simp; done) | (simp; omega) | omega | (refine leOf0 ?_; (repeat (first | (with_reducible exact Mr.refl _) | (with_reducible apply Mr.drew) | (with_reducible apply Mr.alloc) | (with_reducible apply Mr.ext) | (with_reducible refine Mr.setCell ?_ (by first | (simp; done) | (simp; omega) | omega) _))); done) | (refine leOf ?_; (repeat (first | (with_reducible exact Mr.refl _) | (with_reducible apply Mr.drew) | (with_reducible apply Mr.alloc) | (with_reducible apply Mr.ext) | (with_reducible refine Mr.setCell ?_ (by first | (simp; done) | (simp; omega) | omega) _))); done)) _)))⟩
    · rw [if_neg k2] at E8 E9
      have f2 : (q == 2) = false := by simp [k2]
      clear k2
      by_cases k3 : q = 3
      · have f3 : (q == 3) = true := by simp [k3]
        rw [if_pos k3] at E8 E9
        clear k3
        go_wp2; go_ret2; exact ⟨ret_ii E8.out.symm E9.out.symm, Mr.mk' (by repeat (first | (with_reducible exact Mr.refl _) | (with_reducible apply Mr.drew) | (with_reducible apply Mr.alloc) | (with_reducible apply Mr.ext) | (with_reducible refine Mr.setCell ?_ (by first | (simp; done) | (simp; omega) | omega | (refine leOf0 ?_; (repeat (first | (with_reducible exact Mr.refl _) | (with_reducible apply Mr.drew) | (with_reducible apply Mr.alloc) | (with_reducible apply Mr.ext) | (with_reducible refine Mr.setCell ?_ (by first | (simp; done) | (simp; omega) | omega) _))); done) | (refine leOf ?_; (repeat (first | (with_reducible exact Mr.refl _) | (with_reducible apply Mr.drew) | (with_reducible apply Mr.alloc) | (with_reducible apply Mr.ext) | (with_reducible refine Mr.setCell ?_ (by first | (simp; done) | (simp; omega) | omega) _))); done)) _)))⟩
      · rw [if_neg k3] at E8 E9
        have f3 : (q == 3) = false := by simp [k3]
        clear k3
        go_wp2; go_ret2; exact ⟨ret_ii E8.out.symm E9.out.symm, Mr.mk' (by repeat (first | (with_reducible exact Mr.refl _) | (with_reducible apply Mr.drew) | (with_reducible apply Mr.alloc) | (with_reducible apply Mr.ext) | (with_reducible refine Mr.setCell ?_ (by first | (simp; done) | (simp; omega) | omega | (refine leOf0 ?_; (repeat (first | (with_reducible exact Mr.refl _) | (with_reducible apply Mr.drew) | (with_reducible apply Mr.alloc) | (with_reducible apply Mr.ext) | (with_reducible refine Mr.setCell ?_ (by first | (simp; done) | (simp; omega) | omega) _))); done) | (refine leOf ?_; (repeat (first | (with_reducible exact Mr.refl _) | (with_reducible apply Mr.drew) | (with_reducible apply Mr.alloc) | (with_reducible apply Mr.ext) | (with_reducible refine Mr.setCell ?_ (by first | (simp; done) | (simp; omega) | omega) _))); done)) _)))⟩
set_option maxHeartbeats 1000000 in
theorem sin_c (t : Int) (w : World) (hT : Tb w) : Calls Tryd.prog 15 #[.int .i64 t] w fun e w' => e = .returned (.int .i64 (bs t)) ∧ ∃ x : Ext w, w' = x.u := by
  go_enter Tryd.func15, Tryd.ntmps15
  go_wp2_with (go_at_call 11; refine (both_c _ _ ?_).mono ?_; assumption; rintro e w' ⟨rfl, x, rfl⟩)
  go_ret
  exact ⟨rfl, Mr.mk' (by repeat (first | (with_reducible exact Mr.refl _) | (with_reducible apply Mr.drew) | (with_reducible apply Mr.alloc) | (with_reducible apply Mr.ext) | (with_reducible refine Mr.setCell ?_ (by first | (simp; done) | (simp; omega) | omega | (refine leOf0 ?_; (repeat (first | (with_reducible exact Mr.refl _) | (with_reducible apply Mr.drew) | (with_reducible apply Mr.alloc) | (with_reducible apply Mr.ext) | (with_reducible refine Mr.setCell ?_ (by first | (simp; done) | (simp; omega) | omega) _))); done) | (refine leOf ?_; (repeat (first | (with_reducible exact Mr.refl _) | (with_reducible apply Mr.drew) | (with_reducible apply Mr.alloc) | (with_reducible apply Mr.ext) | (with_reducible refine Mr.setCell ?_ (by first | (simp; done) | (simp; omega) | omega) _))); done)) _)))⟩
set_option maxHeartbeats 1000000 in
theorem cos_c (t : Int) (w : World) (hT : Tb w) : Calls Tryd.prog 16 #[.int .i64 t] w fun e w' => e = .returned (.int .i64 (bc t)) ∧ ∃ x : Ext w, w' = x.u := by
  go_enter Tryd.func16, Tryd.ntmps16
  go_wp2_with (go_at_call 11; refine (both_c _ _ ?_).mono ?_; assumption; rintro e w' ⟨rfl, x, rfl⟩)
  go_ret
  exact ⟨rfl, Mr.mk' (by repeat (first | (with_reducible exact Mr.refl _) | (with_reducible apply Mr.drew) | (with_reducible apply Mr.alloc) | (with_reducible apply Mr.ext) | (with_reducible refine Mr.setCell ?_ (by first | (simp; done) | (simp; omega) | omega | (refine leOf0 ?_; (repeat (first | (with_reducible exact Mr.refl _) | (with_reducible apply Mr.drew) | (with_reducible apply Mr.alloc) | (with_reducible apply Mr.ext) | (with_reducible refine Mr.setCell ?_ (by first | (simp; done) | (simp; omega) | omega) _))); done) | (refine leOf ?_; (repeat (first | (with_reducible exact Mr.refl _) | (with_reducible apply Mr.drew) | (with_reducible apply Mr.alloc) | (with_reducible apply Mr.ext) | (with_reducible refine Mr.setCell ?_ (by first | (simp; done) | (simp; omega) | omega) _))); done)) _)))⟩
set_option maxRecDepth 100000 in
set_option maxHeartbeats 4000000 in
theorem slope_c (a b : Int) (hx : 0 ≤ a ∧ a ≤ 288230376151711744) (hy : 0 ≤ b ∧ b ≤ 288230376151711744) (hm : 0 < max a b) (w : World) (hT : Tb w) :
    Calls Tryd.prog 29 #[.int .i64 a, .int .i64 b] w fun e w' => e = .returned (.int .i64 (va a b)) ∧ ∃ x : Ext w, w' = x.u := by
  have hf : 144115188075855872 ≤ max a b * 2 ^ 64 := by
    have : (2 : Int) ^ 64 = 18446744073709551616 := by decide
    rw [this]; omega
  have HV : Hid (∀ A B : Int, dbl 64 a b = (A, B) → (bk A B + 32768) / 65536 = va a b) := fun A B h => by unfold va; rw [h]
  have Hm : Hid (0 < max a b) := hm
  have Hf : Hid (144115188075855872 ≤ max a b * 2 ^ 64) := hf
  clear hm hf
  go_enter Tryd.func29, Tryd.ntmps29
  go_wp2
  go_loop [0, 1] (fun s5 s6 => ∃ (A B : Int) (f : Nat), s5 = .int .i64 A ∧ s6 = .int .i64 B ∧ (0 ≤ A ∧ A ≤ 288230376151711744) ∧ (0 ≤ B ∧ B ≤ 288230376151711744) ∧ Hid (0 < max A B) ∧ Hid (dbl f A B = dbl 64 a b) ∧ Hid (144115188075855872 ≤ max A B * 2 ^ f)) (fun s5 s6 => (1152921504606846976 - intOf s5 - intOf s6).toNat)
  case atStart => exact ⟨a, b, 64, rfl, rfl, hx, hy, Hm, rfl, Hf⟩
  case round =>
    obtain ⟨A, B, f, rfl, rfl, ⟨a0, a1⟩, ⟨b0, b1⟩, M1, M2, M3⟩ := hrel
    have hOM : ∃ m : Int, Hid (max A B = m) ∧ ((A < B ∧ m = B) ∨ (B ≤ A ∧ m = A)) := by
      rcases max_cases A B with ⟨o, om⟩ | ⟨o, o', om⟩
      · exact ⟨A, om, .inr ⟨by omega, rfl⟩⟩
      · exact ⟨B, om, .inl ⟨by omega, rfl⟩⟩
    obtain ⟨m, OM, hOM⟩ := hOM
    rcases hOM with ⟨o, hmm⟩ | ⟨o, hmm⟩
    all_goals
      by_cases hl : m < 144115188075855872
      · rw [hmm] at hl OM
        clear hmm
        obtain ⟨g, g1, g2, g3⟩ := dbl_step M1.out (by rw [OM.out]; exact hl) M3.out
        have G : Hid (dbl g (2 * A) (2 * B) = dbl 64 a b ∧ 144115188075855872 ≤ max (2 * A) (2 * B) * 2 ^ g) := ⟨by rw [← g2, M2.out], g3⟩
        clear g1 g2 g3
        go_wp2
        go_round
        case rel => exact ⟨2 * A, 2 * B, g, rfl, rfl, ⟨by omega, by omega⟩, ⟨by omega, by omega⟩, by have := M1.out; rw [Hid]; omega, G.out.1, G.out.2⟩
        case measure => have := M1.out; simp [intOf]; omega
      · rw [hmm] at hl OM
        clear hmm
        have hv : (bk A B + 32768) / 65536 = va a b := HV.out A B (by rw [← M2.out]; exact dbl_stop _ _ _ (by rw [OM.out]; omega))
        obtain ⟨K, v, e1, e2, k0, k1, v0, v1⟩ := bk_math ⟨a0, a1⟩ ⟨b0, b1⟩
        rw [e1, e2] at hv
        have P : Hid (v = va a b) := hv
        have e1' : (bw A B 32).2.2 = K := e1
        clear hv HV M1 M2 M3 Hm Hf
        go_wp2_with (first | (go_at_call 23; refine (turnedS_c _ _ a0 a1 b0 b1 _ hT).mono ?_; rintro e w' ⟨rfl, x, rfl⟩) | (go_at_call 25; refine (tnear_c _ _ (by omega) (by omega)).mono ?_; rintro e w' ⟨rfl, rfl⟩))
        go_ret
        exact ⟨ret_i' P.out, Mr.mk' (by repeat (first | (with_reducible exact Mr.refl _) | (with_reducible apply Mr.drew) | (with_reducible apply Mr.alloc) | (with_reducible apply Mr.ext) | (with_reducible refine Mr.setCell ?_ (by first | (simp; done) | (simp; omega) | omega | (refine leOf0 ?_; (repeat (first | (with_reducible exact Mr.refl _) | (with_reducible apply Mr.drew) | (with_reducible apply Mr.alloc) | (with_reducible apply Mr.ext) | (with_reducible refine Mr.setCell ?_ (by first | (simp; done) | (simp; omega) | omega) _))); done) | (refine leOf ?_; (repeat (first | (with_reducible exact Mr.refl _) | (with_reducible apply Mr.drew) | (with_reducible apply Mr.alloc) | (with_reducible apply Mr.ext) | (with_reducible refine Mr.setCell ?_ (by first | (simp; done) | (simp; omega) | omega) _))); done)) _)))⟩
theorem va_bd {a b : Int} (ha : 0 ≤ a ∧ a ≤ 288230376151711744) (hb : 0 ≤ b ∧ b ≤ 288230376151711744) : -1125899906842624 ≤ va a b ∧ va a b ≤ 1125899906842624 := by
  have h := dbl_le 64 a b ha.1 hb.1 ha.2 hb.2
  have := bk_bd h.1 h.2
  unfold va
  omega
set_option maxRecDepth 100000 in
set_option maxHeartbeats 4000000 in
theorem atan_c (y x : Int) (w : World) (hT : Tb w) :
    Calls Tryd.prog 17 #[.int .i64 y, .int .i64 x] w fun e w' => e = .returned (.int .i64 (at' y x)) ∧ ∃ x : Ext w, w' = x.u := by
  have hx := ab_bd' x
  have hy := ab_bd' y
  by_cases hz : ab x = 0 ∧ ab y = 0
  · obtain ⟨hz1, hz2⟩ := hz
    have E : Hid (0 = at' y x) := at_zero hz1 hz2
    go_enter Tryd.func17, Tryd.ntmps17
    go_wp2_with (go_at_call 28; refine (abs_c _ _).mono ?_; rintro e w' ⟨rfl, rfl⟩)
    go_ret
    exact ⟨ret_i' E.out, Mr.mk' (by repeat (first | (with_reducible exact Mr.refl _) | (with_reducible apply Mr.drew) | (with_reducible apply Mr.alloc) | (with_reducible apply Mr.ext) | (with_reducible refine Mr.setCell ?_ (by first | (simp; done) | (simp; omega) | omega | (refine leOf0 ?_; (repeat (first | (with_reducible exact Mr.refl _) | (with_reducible apply Mr.drew) | (with_reducible apply Mr.alloc) | (with_reducible apply Mr.ext) | (with_reducible refine Mr.setCell ?_ (by first | (simp; done) | (simp; omega) | omega) _))); done) | (refine leOf ?_; (repeat (first | (with_reducible exact Mr.refl _) | (with_reducible apply Mr.drew) | (with_reducible apply Mr.alloc) | (with_reducible apply Mr.ext) | (with_reducible refine Mr.setCell ?_ (by first | (simp; done) | (simp; omega) | omega) _))); done)) _)))⟩
  · have hb0 : (ab x == 0 && ab y == 0) = false := by
      rw [Bool.eq_false_iff]; simpa using hz
    have Hz : Hid (¬ (ab x = 0 ∧ ab y = 0)) := hz
    have hm : 0 < max (ab x) (ab y) := by omega
    obtain ⟨v, P, v0, v1⟩ : ∃ v : Int, va (ab x) (ab y) = v ∧ -1125899906842624 ≤ v ∧ v ≤ 1125899906842624 := ⟨_, rfl, va_bd hx hy⟩
    have E : Hid (at' y x = if x < 0 then (if y < 0 then agl (2147483648 + v) else agl (2147483648 - v)) else (if y < 0 then agl (-v) else agl v)) := by
      rw [Hid, ← P]
      by_cases sx : x < 0 <;> by_cases sy : y < 0
      · rw [if_pos sx, if_pos sy]; exact (at_nn hz sx sy).symm
      · rw [if_pos sx, if_neg sy]; exact (at_np hz sx (by omega)).symm
      · rw [if_neg sx, if_pos sy]; exact (at_pn hz (by omega) sy).symm
      · rw [if_neg sx, if_neg sy]; exact (at_pp hz (by omega) (by omega)).symm
    generalize ha : ab x = a at *
    generalize hb : ab y = b at *
    have Hm : Hid (0 < max a b) := hm
    have hc : ((a == 0) = true ∧ (b == 0) = false) ∨ ((a == 0) = false ∧ True) := by
      cases k : a == 0
      · exact .inr ⟨rfl, trivial⟩
      · rw [k] at hb0; exact .inl ⟨rfl, by simpa using hb0⟩
    clear hz hm hb0 Hz
    rcases hc with ⟨c1, c2⟩ | ⟨c1, c2⟩
    all_goals
      by_cases sx : x < 0
      · by_cases sy : y < 0
        · rw [if_pos sx, if_pos sy] at E
          go_enter Tryd.func17, Tryd.ntmps17
          go_wp2_with (first | (go_at_call 28; refine (abs_c _ _).mono ?_; rintro e w' ⟨rfl, rfl⟩) | (go_at_call 29; refine (slope_c _ _ hx hy Hm.out _ hT).mono ?_; rintro e w' ⟨rfl, xx, rfl⟩) | (go_at_call 13; refine (angle_c _ _).mono ?_; rintro e w' ⟨rfl, rfl⟩)); go_ret; exact ⟨ret_i' E.out.symm, Mr.mk' (by repeat (first | (with_reducible exact Mr.refl _) | (with_reducible apply Mr.drew) | (with_reducible apply Mr.alloc) | (with_reducible apply Mr.ext) | (with_reducible refine Mr.setCell ?_ (by first | (simp; done) | (simp; omega) | omega | (refine leOf0 ?_; (repeat (first | (with_reducible exact Mr.refl _) | (with_reducible apply Mr.drew) | (with_reducible apply Mr.alloc) | (with_reducible apply Mr.ext) | (with_reducible refine Mr.setCell ?_ (by first | (simp; done) | (simp; omega) | omega) _))); done) | (refine leOf ?_; (repeat (first | (with_reducible exact Mr.refl _) | (with_reducible apply Mr.drew) | (with_reducible apply Mr.alloc) | (with_reducible apply Mr.ext) | (with_reducible refine Mr.setCell ?_ (by first | (simp; done) | (simp; omega) | omega) _))); done)) _)))⟩
        · rw [if_pos sx, if_neg sy] at E
          have sy' : 0 ≤ y := by omega
          go_enter Tryd.func17, Tryd.ntmps17
          go_wp2_with (first | (go_at_call 28; refine (abs_c _ _).mono ?_; rintro e w' ⟨rfl, rfl⟩) | (go_at_call 29; refine (slope_c _ _ hx hy Hm.out _ hT).mono ?_; rintro e w' ⟨rfl, xx, rfl⟩) | (go_at_call 13; refine (angle_c _ _).mono ?_; rintro e w' ⟨rfl, rfl⟩)); go_ret; exact ⟨ret_i' E.out.symm, Mr.mk' (by repeat (first | (with_reducible exact Mr.refl _) | (with_reducible apply Mr.drew) | (with_reducible apply Mr.alloc) | (with_reducible apply Mr.ext) | (with_reducible refine Mr.setCell ?_ (by first | (simp; done) | (simp; omega) | omega | (refine leOf0 ?_; (repeat (first | (with_reducible exact Mr.refl _) | (with_reducible apply Mr.drew) | (with_reducible apply Mr.alloc) | (with_reducible apply Mr.ext) | (with_reducible refine Mr.setCell ?_ (by first | (simp; done) | (simp; omega) | omega) _))); done) | (refine leOf ?_; (repeat (first | (with_reducible exact Mr.refl _) | (with_reducible apply Mr.drew) | (with_reducible apply Mr.alloc) | (with_reducible apply Mr.ext) | (with_reducible refine Mr.setCell ?_ (by first | (simp; done) | (simp; omega) | omega) _))); done)) _)))⟩
      · have sx' : 0 ≤ x := by omega
        by_cases sy : y < 0
        · rw [if_neg sx, if_pos sy] at E
          go_enter Tryd.func17, Tryd.ntmps17
          go_wp2_with (first | (go_at_call 28; refine (abs_c _ _).mono ?_; rintro e w' ⟨rfl, rfl⟩) | (go_at_call 29; refine (slope_c _ _ hx hy Hm.out _ hT).mono ?_; rintro e w' ⟨rfl, xx, rfl⟩) | (go_at_call 13; refine (angle_c _ _).mono ?_; rintro e w' ⟨rfl, rfl⟩)); go_ret; exact ⟨ret_i' E.out.symm, Mr.mk' (by repeat (first | (with_reducible exact Mr.refl _) | (with_reducible apply Mr.drew) | (with_reducible apply Mr.alloc) | (with_reducible apply Mr.ext) | (with_reducible refine Mr.setCell ?_ (by first | (simp; done) | (simp; omega) | omega | (refine leOf0 ?_; (repeat (first | (with_reducible exact Mr.refl _) | (with_reducible apply Mr.drew) | (with_reducible apply Mr.alloc) | (with_reducible apply Mr.ext) | (with_reducible refine Mr.setCell ?_ (by first | (simp; done) | (simp; omega) | omega) _))); done) | (refine leOf ?_; (repeat (first | (with_reducible exact Mr.refl _) | (with_reducible apply Mr.drew) | (with_reducible apply Mr.alloc) | (with_reducible apply Mr.ext) | (with_reducible refine Mr.setCell ?_ (by first | (simp; done) | (simp; omega) | omega) _))); done)) _)))⟩
        · rw [if_neg sx, if_neg sy] at E
          have sy' : 0 ≤ y := by omega
          go_enter Tryd.func17, Tryd.ntmps17
          go_wp2_with (first | (go_at_call 28; refine (abs_c _ _).mono ?_; rintro e w' ⟨rfl, rfl⟩) | (go_at_call 29; refine (slope_c _ _ hx hy Hm.out _ hT).mono ?_; rintro e w' ⟨rfl, xx, rfl⟩) | (go_at_call 13; refine (angle_c _ _).mono ?_; rintro e w' ⟨rfl, rfl⟩)); go_ret; exact ⟨ret_i' E.out.symm, Mr.mk' (by repeat (first | (with_reducible exact Mr.refl _) | (with_reducible apply Mr.drew) | (with_reducible apply Mr.alloc) | (with_reducible apply Mr.ext) | (with_reducible refine Mr.setCell ?_ (by first | (simp; done) | (simp; omega) | omega | (refine leOf0 ?_; (repeat (first | (with_reducible exact Mr.refl _) | (with_reducible apply Mr.drew) | (with_reducible apply Mr.alloc) | (with_reducible apply Mr.ext) | (with_reducible refine Mr.setCell ?_ (by first | (simp; done) | (simp; omega) | omega) _))); done) | (refine leOf ?_; (repeat (first | (with_reducible exact Mr.refl _) | (with_reducible apply Mr.drew) | (with_reducible apply Mr.alloc) | (with_reducible apply Mr.ext) | (with_reducible refine Mr.setCell ?_ (by first | (simp; done) | (simp; omega) | omega) _))); done)) _)))⟩
end Tg
end Go.Proofs.YtdedfnogaonphaaDoor
