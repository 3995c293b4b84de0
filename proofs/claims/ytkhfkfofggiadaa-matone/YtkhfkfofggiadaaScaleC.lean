/- The contracts of package scale. -/
import Derived.Test.YtkhfkfofggiadaaDivC3
import Derived.Test.YtkhfkfofggiadaaScaleM
namespace Go.Proofs.Ytkhfkfofggiadaa
open Go.ChangeShapes Go.WideShapes Go.ChangeAt Go.RowKit
open Go.Proofs.Ytkhfkfofggiadaa.Fx Go.Proofs.Ytkhfkfofggiadaa.Wd
open Go.Proofs.Ytkhfkfofggiadaa.Dv
set_option linter.unusedVariables false
attribute [local go_sem] Ext.cell Ext.froz Ext.lt Ext.lt1 Ext.lt2 Ext.lt3 Ext.all Ext.set_u drew_heap setCell_size Ext.set_size
namespace Sc
attribute [local go_sem ↓] eq_wide eqw_self
attribute [local go_sem] and62 and1 sgn64 not64 wrap_and

theorem ret_b' {p q : Bool} (h : p = q) : Ending.returned (.bool p) = .returned (.bool q) := by rw [h]
theorem rnd_math (v : Int) (h : inr v = true) : ∃ d r : Int, dn v 31 = d ∧ vw (hi d) (lo d) = d ∧ inr (d + 1) = true ∧ cut (d + 1) = d + 1 ∧ vw (hi (d + 1)) (lo (d + 1)) = d + 1 ∧ dn (d + 1) 1 = r ∧ vw (hi r) (lo r) = r ∧ Hid (rn v = r) := by
  have e1 : dn v 31 = v / 2147483648 := rfl
  have e2 : dn (v / 2147483648 + 1) 1 = (v / 2147483648 + 1) / 2 := rfl
  rw [inr_iff] at h
  have h1 : inr (v / 2147483648) = true := by rw [inr_iff]; omega
  have h2 : inr (v / 2147483648 + 1) = true := by rw [inr_iff]; omega
  have h3 : inr ((v / 2147483648 + 1) / 2) = true := by rw [inr_iff]; omega
  exact ⟨_, _, e1, vw_hl h1, h2, cut_of h2, vw_hl h2, e2, vw_hl h3, by rw [Hid]; unfold rn; omega⟩
set_option maxHeartbeats 1000000 in
theorem round_c (p q : Int) (w : World) :
    Calls Try.prog 70 #[.agg #[.int .i64 p, .int .i64 q]] w fun e w' => e = .returned (.tuple #[.int .i64 (rv p q), .bool (rb p q)]) ∧ ∃ x : Ext w, w' = x.u := by
  have h1 := vw_one
  obtain ⟨d, r, e1, e2, e3, e4, e5, e6, e7, E8⟩ := rnd_math (vw p q) (vw_inr p q)
  have EV : Hid (rv p q = cl r ∧ rb p q = (co r || !sn p q)) := ⟨by unfold rv; rw [E8.out], by unfold rb; rw [E8.out]⟩
  cases hc : co r
  all_goals
    go_enter Try.func70, Try.ntmps70
    go_wp2_with (first | (go_at_call 88; refine (wdown_c _ _ _ _).mono ?_; rintro e w' ⟨rfl, x, rfl⟩) | (go_at_call 66; refine (wof_c _ _ ?_).mono ?_; (first | omega | exact ⟨by omega, by omega⟩); rintro e w' ⟨rfl, x, rfl⟩) | (go_at_call 63; refine (wadd_c _ _ _ _ _).mono ?_; rintro e w' ⟨rfl, x, rfl⟩) | (go_at_call 47; refine (wint_c _ _ _).mono ?_; rintro e w' ⟨rfl, x, rfl⟩) | (go_at_call 84; refine (sane_c _ _ _).mono ?_; rintro e w' ⟨rfl, x, rfl⟩))
    go_ret2
    exact ⟨ret_ib EV.out.1.symm (by rw [EV.out.2, hc]; simp), Mr.mk' (by repeat (first | (with_reducible exact Mr.refl _) | (with_reducible apply Mr.drew) | (with_reducible apply Mr.alloc) | (with_reducible apply Mr.ext) | (with_reducible refine Mr.setCell ?_ (by first | (simp; done) | (simp; omega) | omega | (refine leOf0 ?_; (repeat (first | (with_reducible exact Mr.refl _) | (with_reducible apply Mr.drew) | (with_reducible apply Mr.alloc) | (with_reducible apply Mr.ext) | (with_reducible refine Mr.setCell ?_ (by first | (simp; done) | (simp; omega) | omega) _))); done) | (refine leOf ?_; (repeat (first | (with_reducible exact Mr.refl _) | (with_reducible apply Mr.drew) | (with_reducible apply Mr.alloc) | (with_reducible apply Mr.ext) | (with_reducible refine Mr.setCell ?_ (by first | (simp; done) | (simp; omega) | omega) _))); done)) _)))⟩
set_option maxHeartbeats 1000000 in
theorem clamped_c (a b : Int) (w : World) :
    Calls Try.prog 80 #[.slice (some ⟨w.heap.size, 0, none⟩) 2 2] (w.alloc (.cells #[.int .i64 a, .int .i64 b] 3)) fun e w' => e = .returned (.bool (co a || co b)) ∧ w' = w.alloc (.cells #[.int .i64 a, .int .i64 b] 3) := by
  go_enter Try.func80, Try.ntmps80
  go_wp2
  go_loop [9] (fun i => ∃ k : Nat, k ≤ 2 ∧ i = .int .i64 k ∧ (1 ≤ k → co a = false) ∧ (2 ≤ k → co b = false)) (fun i => (2 - intOf i).toNat)
  case atStart => exact ⟨0, by omega, rfl, by omega, by omega⟩
  case round =>
    obtain ⟨k, hk, rfl, h1, h2⟩ := hrel
    obtain rfl | rfl | rfl : k = 0 ∨ k = 1 ∨ k = 2 := by omega
    · clear h1 h2
      cases hc : co a
      · go_wp2_with (go_at_call 39; refine (clamp_c _ _).mono ?_; rintro e w' ⟨rfl, rfl⟩)
        go_round
        case rel => exact ⟨1, by omega, rfl, by simp, by omega⟩
        case measure => simp [intOf]
      · go_wp2_with (go_at_call 39; refine (clamp_c _ _).mono ?_; rintro e w' ⟨rfl, rfl⟩)
        go_ret
        exact ⟨ret_b' (by simp [hc]), rfl⟩
    · have h3 := h1 (by omega)
      clear h1 h2
      cases hc : co b
      · go_wp2_with (go_at_call 39; refine (clamp_c _ _).mono ?_; rintro e w' ⟨rfl, rfl⟩)
        go_round
        case rel => exact ⟨2, by omega, rfl, by simp [h3], by simp⟩
        case measure => simp [intOf]
      · go_wp2_with (go_at_call 39; refine (clamp_c _ _).mono ?_; rintro e w' ⟨rfl, rfl⟩)
        go_ret
        exact ⟨ret_b' (by simp [h3, hc]), rfl⟩
    · have h3 := h1 (by omega)
      have h4 := h2 (by omega)
      clear h1 h2
      go_wp2
      go_ret
      exact ⟨ret_b' (by simp), rfl⟩
theorem ret_i2 {a b : Int} (h : a = b) : Ending.returned (.int .i64 a) = .returned (.int .i64 b) := by rw [h]
set_option maxHeartbeats 1000000 in
theorem part_c (a b : Int) (below : Bool) (w : World) (h0 : 0 ≤ a) (h1 : a < b) (h2 : b ≤ 288230376151711744) :
    Calls Try.prog 91 #[.int .u64 a, .int .u64 b, .bool below] w fun e w' => e = .returned (.int .i64 (mg a b below)) ∧ ∃ x : Ext w, w' = x.u := by
  have E : Hid (mg a b below = _) := mg_eq h0 (by omega) below
  have q0 : 0 ≤ a * 4294967296 / b := Int.ediv_nonneg (by omega) (by omega)
  have q1 : a * 4294967296 / b < 4294967296 := Int.ediv_lt_of_lt_mul (by omega) (by omega)
  have r0 := Int.emod_nonneg (a * 4294967296) (show b ≠ 0 by omega)
  have r1 := Int.emod_lt_of_pos (a * 4294967296) (show 0 < b by omega)
  generalize hQ : a * 4294967296 / b = Q at *
  generalize hR : a * 4294967296 % b = R at *
  by_cases c1 : b < 2 * R
  · have M : Hid (mg a b below = Q + 1) := by rw [Hid, E.out, if_pos (.inl c1)]
    clear E
    go_enter Try.func91, Try.ntmps91; go_wp2_with (go_at_call 96; refine (div_c _ _ _ ?_ ?_ ?_).mono ?_; omega; omega; omega; rintro e w' ⟨rfl, x, rfl⟩)
    go_ret
    exact ⟨ret_i2 M.out.symm, Mr.mk' (by repeat (first | (with_reducible exact Mr.refl _) | (with_reducible apply Mr.drew) | (with_reducible apply Mr.alloc) | (with_reducible apply Mr.ext) | (with_reducible refine Mr.setCell ?_ (by first | (simp; done) | (simp; omega) | omega | (refine leOf0 ?_; (repeat (first | (with_reducible exact Mr.refl _) | (with_reducible apply Mr.drew) | (with_reducible apply Mr.alloc) | (with_reducible apply Mr.ext) | (with_reducible refine Mr.setCell ?_ (by first | (simp; done) | (simp; omega) | omega) _))); done) | (refine leOf ?_; (repeat (first | (with_reducible exact Mr.refl _) | (with_reducible apply Mr.drew) | (with_reducible apply Mr.alloc) | (with_reducible apply Mr.ext) | (with_reducible refine Mr.setCell ?_ (by first | (simp; done) | (simp; omega) | omega) _))); done)) _)))⟩
  · by_cases c2 : 2 * R = b
    · have c3 : (2 * R == b) = true := by simp [c2]
      cases below
      · have M : Hid (mg a b false = Q + 1) := by rw [Hid, E.out, if_pos (.inr ⟨c2.symm, rfl⟩)]
        clear E c2
        go_enter Try.func91, Try.ntmps91; go_wp2_with (go_at_call 96; refine (div_c _ _ _ ?_ ?_ ?_).mono ?_; omega; omega; omega; rintro e w' ⟨rfl, x, rfl⟩)
        go_ret
        exact ⟨ret_i2 M.out.symm, Mr.mk' (by repeat (first | (with_reducible exact Mr.refl _) | (with_reducible apply Mr.drew) | (with_reducible apply Mr.alloc) | (with_reducible apply Mr.ext) | (with_reducible refine Mr.setCell ?_ (by first | (simp; done) | (simp; omega) | omega | (refine leOf0 ?_; (repeat (first | (with_reducible exact Mr.refl _) | (with_reducible apply Mr.drew) | (with_reducible apply Mr.alloc) | (with_reducible apply Mr.ext) | (with_reducible refine Mr.setCell ?_ (by first | (simp; done) | (simp; omega) | omega) _))); done) | (refine leOf ?_; (repeat (first | (with_reducible exact Mr.refl _) | (with_reducible apply Mr.drew) | (with_reducible apply Mr.alloc) | (with_reducible apply Mr.ext) | (with_reducible refine Mr.setCell ?_ (by first | (simp; done) | (simp; omega) | omega) _))); done)) _)))⟩
      · have M : Hid (mg a b true = Q) := by rw [Hid, E.out, if_neg (by simp; omega)]; omega
        clear E c2
        go_enter Try.func91, Try.ntmps91; go_wp2_with (go_at_call 96; refine (div_c _ _ _ ?_ ?_ ?_).mono ?_; omega; omega; omega; rintro e w' ⟨rfl, x, rfl⟩)
        go_ret
        exact ⟨ret_i2 M.out.symm, Mr.mk' (by repeat (first | (with_reducible exact Mr.refl _) | (with_reducible apply Mr.drew) | (with_reducible apply Mr.alloc) | (with_reducible apply Mr.ext) | (with_reducible refine Mr.setCell ?_ (by first | (simp; done) | (simp; omega) | omega | (refine leOf0 ?_; (repeat (first | (with_reducible exact Mr.refl _) | (with_reducible apply Mr.drew) | (with_reducible apply Mr.alloc) | (with_reducible apply Mr.ext) | (with_reducible refine Mr.setCell ?_ (by first | (simp; done) | (simp; omega) | omega) _))); done) | (refine leOf ?_; (repeat (first | (with_reducible exact Mr.refl _) | (with_reducible apply Mr.drew) | (with_reducible apply Mr.alloc) | (with_reducible apply Mr.ext) | (with_reducible refine Mr.setCell ?_ (by first | (simp; done) | (simp; omega) | omega) _))); done)) _)))⟩
    · have c3 : (2 * R == b) = false := by simp [c2]
      have M : Hid (mg a b below = Q) := by rw [Hid, E.out, if_neg (by omega)]; omega
      clear E c2
      go_enter Try.func91, Try.ntmps91; go_wp2_with (go_at_call 96; refine (div_c _ _ _ ?_ ?_ ?_).mono ?_; omega; omega; omega; rintro e w' ⟨rfl, x, rfl⟩)
      go_ret
      exact ⟨ret_i2 M.out.symm, Mr.mk' (by repeat (first | (with_reducible exact Mr.refl _) | (with_reducible apply Mr.drew) | (with_reducible apply Mr.alloc) | (with_reducible apply Mr.ext) | (with_reducible refine Mr.setCell ?_ (by first | (simp; done) | (simp; omega) | omega | (refine leOf0 ?_; (repeat (first | (with_reducible exact Mr.refl _) | (with_reducible apply Mr.drew) | (with_reducible apply Mr.alloc) | (with_reducible apply Mr.ext) | (with_reducible refine Mr.setCell ?_ (by first | (simp; done) | (simp; omega) | omega) _))); done) | (refine leOf ?_; (repeat (first | (with_reducible exact Mr.refl _) | (with_reducible apply Mr.drew) | (with_reducible apply Mr.alloc) | (with_reducible apply Mr.ext) | (with_reducible refine Mr.setCell ?_ (by first | (simp; done) | (simp; omega) | omega) _))); done)) _)))⟩
set_option maxHeartbeats 1000000 in
theorem osizes_c (a b : Int) (below : Bool) (w : World) (h0 : 0 ≤ a) (h1 : a ≤ 288230376151711744) (h2 : 0 < b) (h3 : b ≤ 288230376151711744) :
    Calls Try.prog 77 #[.int .i64 a, .int .i64 b, .bool below] w fun e w' => e = .returned (.tuple #[.int .i64 (cl (mg a b below)), .bool (co (mg a b below))]) ∧ ∃ x : Ext w, w' = x.u := by
  have q0 : 0 ≤ a / b := Int.ediv_nonneg h0 (by omega)
  have q1 : a / b ≤ a := Int.ediv_le_self _ h0
  have r0 := Int.emod_nonneg a (show b ≠ 0 by omega)
  have r1 := Int.emod_lt_of_pos a h2
  obtain ⟨e1, e2⟩ := sizes_math h0 h2 below
  have E : Hid (av (ov (a / b)) (mg (a % b) b below) = cl (mg a b below) ∧ (ob (a / b) || ao (ov (a / b)) (mg (a % b) b below)) = co (mg a b below)) := ⟨e1, e2⟩
  clear e1 e2
  cases hc : ob (a / b)
  all_goals
    go_enter Try.func77, Try.ntmps77
    go_wp2_with (first | (go_at_call 57; refine (of_c _ _).mono ?_; rintro e w' ⟨rfl, rfl⟩) | (go_at_call 91; refine (part_c _ _ _ _ ?_ ?_ ?_).mono ?_; omega; omega; omega; rintro e w' ⟨rfl, x, rfl⟩) | (go_at_call 29; refine (add_c _ _ _).mono ?_; rintro e w' ⟨rfl, rfl⟩))
    go_ret2
    exact ⟨ret_ib E.out.1 (by rw [← E.out.2, hc]; simp), Mr.mk' (by repeat (first | (with_reducible exact Mr.refl _) | (with_reducible apply Mr.drew) | (with_reducible apply Mr.alloc) | (with_reducible apply Mr.ext) | (with_reducible refine Mr.setCell ?_ (by first | (simp; done) | (simp; omega) | omega | (refine leOf0 ?_; (repeat (first | (with_reducible exact Mr.refl _) | (with_reducible apply Mr.drew) | (with_reducible apply Mr.alloc) | (with_reducible apply Mr.ext) | (with_reducible refine Mr.setCell ?_ (by first | (simp; done) | (simp; omega) | omega) _))); done) | (refine leOf ?_; (repeat (first | (with_reducible exact Mr.refl _) | (with_reducible apply Mr.drew) | (with_reducible apply Mr.alloc) | (with_reducible apply Mr.ext) | (with_reducible refine Mr.setCell ?_ (by first | (simp; done) | (simp; omega) | omega) _))); done)) _)))⟩
set_option maxHeartbeats 2000000 in
theorem over0_c (a : Int) (w : World) :
    Calls Try.prog 58 #[.int .i64 a, .int .i64 0] w fun e w' => e = .returned (.tuple #[.int .i64 (qv a 0), .bool (qb a 0)]) ∧ ∃ x : Ext w, w' = x.u := by
  have c0 : -1 ≤ cm a 0 ∧ cm a 0 ≤ 1 := by unfold cm; split <;> (try split) <;> omega
  have V : Hid (qv a 0 = cm a 0 * 288230376151711744 ∧ qb a 0 = true) := ⟨by unfold qv; rw [if_pos rfl], by unfold qb; rw [if_pos rfl]⟩
  go_enter Try.func58, Try.ntmps58
  go_wp2_with (go_at_call 76; refine (cmp_c _ _ _).mono ?_; rintro e w' ⟨rfl, rfl⟩)
  go_ret2
  exact ⟨ret_ib V.out.1.symm V.out.2.symm, Mr.mk' (by repeat (first | (with_reducible exact Mr.refl _) | (with_reducible apply Mr.drew) | (with_reducible apply Mr.alloc) | (with_reducible apply Mr.ext) | (with_reducible refine Mr.setCell ?_ (by first | (simp; done) | (simp; omega) | omega | (refine leOf0 ?_; (repeat (first | (with_reducible exact Mr.refl _) | (with_reducible apply Mr.drew) | (with_reducible apply Mr.alloc) | (with_reducible apply Mr.ext) | (with_reducible refine Mr.setCell ?_ (by first | (simp; done) | (simp; omega) | omega) _))); done) | (refine leOf ?_; (repeat (first | (with_reducible exact Mr.refl _) | (with_reducible apply Mr.drew) | (with_reducible apply Mr.alloc) | (with_reducible apply Mr.ext) | (with_reducible refine Mr.setCell ?_ (by first | (simp; done) | (simp; omega) | omega) _))); done)) _)))⟩
set_option maxHeartbeats 2000000 in
theorem over1_c (a b : Int) (w : World) (h : b ≠ 0) :
    Calls Try.prog 58 #[.int .i64 a, .int .i64 b] w fun e w' => e = .returned (.tuple #[.int .i64 (qv a b), .bool (qb a b)]) ∧ ∃ x : Ext w, w' = x.u := by
  have hb : (b == 0) = false := by simp [h]
  have a1 := ab_bd a
  have a2 := ab_bd b
  have a3 := ab_one h
  have key : bl a b = (!(decide (a < 0) == decide (b < 0))) := rfl
  cases hr : bl a b
  · have V2 : Hid (qv a b = cl (mg (ab a) (ab b) false) ∧ qb a b = (co (mg (ab a) (ab b) false) || co a || co b)) := by
      constructor
      · unfold qv; rw [if_neg h, hr, if_neg Bool.false_ne_true]
      · unfold qb; rw [if_neg h, hr]
    rw [hr] at key
    have k2 := key.symm
    clear key h
    cases hc : co (mg (ab a) (ab b) false)
    all_goals
      go_enter Try.func58, Try.ntmps58; go_wp2_with (first | (go_at_call 78; refine (abs_c _ _).mono ?_; rintro e w' ⟨rfl, rfl⟩) | (go_at_call 77; refine (osizes_c _ _ _ _ ?_ ?_ ?_ ?_).mono ?_; omega; omega; omega; omega; rintro e w' ⟨rfl, x, rfl⟩) | (go_at_call 79; refine (neg_c _ _).mono ?_; rintro e w' ⟨rfl, rfl⟩) | (go_at_call 80; refine (clamped_c _ _ _).mono ?_; rintro e w' ⟨rfl, rfl⟩))
      go_ret2
      exact ⟨ret_ib V2.out.1.symm (by rw [V2.out.2, hc]; simp), Mr.mk' (by repeat (first | (with_reducible exact Mr.refl _) | (with_reducible apply Mr.drew) | (with_reducible apply Mr.alloc) | (with_reducible apply Mr.ext) | (with_reducible refine Mr.setCell ?_ (by first | (simp; done) | (simp; omega) | omega | (refine leOf0 ?_; (repeat (first | (with_reducible exact Mr.refl _) | (with_reducible apply Mr.drew) | (with_reducible apply Mr.alloc) | (with_reducible apply Mr.ext) | (with_reducible refine Mr.setCell ?_ (by first | (simp; done) | (simp; omega) | omega) _))); done) | (refine leOf ?_; (repeat (first | (with_reducible exact Mr.refl _) | (with_reducible apply Mr.drew) | (with_reducible apply Mr.alloc) | (with_reducible apply Mr.ext) | (with_reducible refine Mr.setCell ?_ (by first | (simp; done) | (simp; omega) | omega) _))); done)) _)))⟩
  · have V2 : Hid (qv a b = -cl (mg (ab a) (ab b) true) ∧ qb a b = (co (mg (ab a) (ab b) true) || co a || co b)) := by
      constructor
      · unfold qv; rw [if_neg h, hr, if_pos rfl]
      · unfold qb; rw [if_neg h, hr]
    rw [hr] at key
    have k2 := key.symm
    have c2 : cl (cl (mg (ab a) (ab b) true)) = cl (mg (ab a) (ab b) true) := (cl_in (cl_bd _).1 (cl_bd _).2).1
    clear key h
    cases hc : co (mg (ab a) (ab b) true)
    all_goals
      go_enter Try.func58, Try.ntmps58; go_wp2_with (first | (go_at_call 78; refine (abs_c _ _).mono ?_; rintro e w' ⟨rfl, rfl⟩) | (go_at_call 77; refine (osizes_c _ _ _ _ ?_ ?_ ?_ ?_).mono ?_; omega; omega; omega; omega; rintro e w' ⟨rfl, x, rfl⟩) | (go_at_call 79; refine (neg_c _ _).mono ?_; rintro e w' ⟨rfl, rfl⟩) | (go_at_call 80; refine (clamped_c _ _ _).mono ?_; rintro e w' ⟨rfl, rfl⟩))
      go_ret2
      exact ⟨ret_ib V2.out.1.symm (by rw [V2.out.2, hc]; simp), Mr.mk' (by repeat (first | (with_reducible exact Mr.refl _) | (with_reducible apply Mr.drew) | (with_reducible apply Mr.alloc) | (with_reducible apply Mr.ext) | (with_reducible refine Mr.setCell ?_ (by first | (simp; done) | (simp; omega) | omega | (refine leOf0 ?_; (repeat (first | (with_reducible exact Mr.refl _) | (with_reducible apply Mr.drew) | (with_reducible apply Mr.alloc) | (with_reducible apply Mr.ext) | (with_reducible refine Mr.setCell ?_ (by first | (simp; done) | (simp; omega) | omega) _))); done) | (refine leOf ?_; (repeat (first | (with_reducible exact Mr.refl _) | (with_reducible apply Mr.drew) | (with_reducible apply Mr.alloc) | (with_reducible apply Mr.ext) | (with_reducible refine Mr.setCell ?_ (by first | (simp; done) | (simp; omega) | omega) _))); done)) _)))⟩
theorem over_c (a b : Int) (w : World) :
    Calls Try.prog 58 #[.int .i64 a, .int .i64 b] w fun e w' => e = .returned (.tuple #[.int .i64 (qv a b), .bool (qb a b)]) ∧ ∃ x : Ext w, w' = x.u := by
  by_cases h : b = 0
  · subst h; exact over0_c a w
  · exact over1_c a b w h
end Sc
end Go.Proofs.Ytkhfkfofggiadaa
