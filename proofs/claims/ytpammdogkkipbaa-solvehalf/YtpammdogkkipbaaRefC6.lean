/- The contracts of the document's own answers of layer 3. -/
import Derived.Test.YtpammdogkkipbaaDivM
import Derived.Test.YtpammdogkkipbaaScaleM
import Derived.Test.YtpammdogkkipbaaScaleM
import Derived.Test.YtpammdogkkipbaaRefC2
namespace Go.Proofs.Ytpammdogkkipbaa
open Go.ChangeShapes Go.WideShapes Go.ChangeAt Go.RowKit
open Go.Proofs.Ytpammdogkkipbaa.Fx Go.Proofs.Ytpammdogkkipbaa.Wd Go.Proofs.Ytpammdogkkipbaa.Dv
set_option linter.unusedVariables false
attribute [local go_sem] Ext.cell Ext.froz Ext.lt Ext.lt1 Ext.lt2 Ext.lt3 Ext.all Ext.set_u drew_heap setCell_size Ext.set_size
namespace Sc
attribute [local go_sem ↓] eq_wide eqw_self
attribute [local go_sem] and62 and1 sgn64
theorem rrnd_math (v : Int) (h : inr v = true) : (inr (v + 2147483648) = true ∧ ∃ s r : Int, cut (v + 2147483648) = s ∧ vw (hi s) (lo s) = s ∧ dn s 32 = r ∧ vw (hi r) (lo r) = r ∧ Hid (rn v = r)) ∨ (inr (v + 2147483648) = false ∧ Hid (cl (rn v) = 288230376151711744 ∧ co (rn v) = true)) := by
  cases hc : inr (v + 2147483648)
  · right
    refine ⟨rfl, cl_hi ?_⟩
    have g : ¬ (inr (v + 2147483648) = true) := by rw [hc]; decide
    rw [inr_iff] at h g
    unfold rn; omega
  · left
    have g := hc
    rw [inr_iff] at g
    have e2 : dn (v + 2147483648) 32 = (v + 2147483648) / 4294967296 := rfl
    have h3 : inr ((v + 2147483648) / 4294967296) = true := by rw [inr_iff]; omega
    exact ⟨rfl, _, _, cut_of hc, vw_hl hc, e2, vw_hl h3, rfl⟩
set_option maxHeartbeats 1000000 in
theorem rround_c (p q : Int) (w : World) :
    Calls Try.prog 73 #[.agg #[.int .i64 p, .int .i64 q]] w fun e w' => e = .returned (.tuple #[.int .i64 (rv p q), .bool (rb p q)]) ∧ ∃ x : Ext w, w' = x.u := by
  have h1 : vw 0 2147483648 = 2147483648 := by decide
  rcases rrnd_math (vw p q) (vw_inr p q) with ⟨c, s, r, e1, e2, e3, e4, E5⟩ | ⟨c, E⟩
  · have EV : Hid (rv p q = cl r ∧ rb p q = (co r || !sn p q)) := ⟨by unfold rv; rw [E5.out], by unfold rb; rw [E5.out]⟩
    cases hc : co r
    all_goals
      go_enter Try.func73, Try.ntmps73
      go_wp2_with (first | (go_at_call 80; refine (radd2_c _ _ _ _ _).mono ?_; rintro e w' ⟨rfl, x, rfl⟩) | (go_at_call 82; refine (rdown2_c _ _ _ _).mono ?_; rintro e w' ⟨rfl, x, rfl⟩) | (go_at_call 81; refine (rint2_c _ _ _).mono ?_; rintro e w' ⟨rfl, x, rfl⟩) | (go_at_call 83; refine (rsane_c _ _ _).mono ?_; rintro e w' ⟨rfl, x, rfl⟩))
      go_ret2
      exact ⟨ret_ib EV.out.1.symm (by rw [EV.out.2, hc]; simp), Mr.mk' (by repeat (first | (with_reducible exact Mr.refl _) | (with_reducible apply Mr.drew) | (with_reducible apply Mr.alloc) | (with_reducible apply Mr.ext) | (with_reducible refine Mr.setCell ?_ (by first | (simp; done) | (simp; omega) | omega | (refine leOf0 ?_; (repeat (first | (with_reducible exact Mr.refl _) | (with_reducible apply Mr.drew) | (with_reducible apply Mr.alloc) | (with_reducible apply Mr.ext) | (with_reducible refine Mr.setCell ?_ (by first | (simp; done) | (simp; omega) | omega) _))); done) | (refine leOf ?_; (repeat (first | (with_reducible exact Mr.refl _) | (with_reducible apply Mr.drew) | (with_reducible apply Mr.alloc) | (with_reducible apply Mr.ext) | (with_reducible refine Mr.setCell ?_ (by first | (simp; done) | (simp; omega) | omega) _))); done)) _)))⟩
  · have EV : Hid (rv p q = 288230376151711744 ∧ rb p q = true) := ⟨by unfold rv; rw [E.out.1], by unfold rb; rw [E.out.2]; rfl⟩
    have k := cut_no c
    go_enter Try.func73, Try.ntmps73
    go_wp2_with (first | (go_at_call 80; refine (radd2_c _ _ _ _ _).mono ?_; rintro e w' ⟨rfl, x, rfl⟩) | (go_at_call 82; refine (rdown2_c _ _ _ _).mono ?_; rintro e w' ⟨rfl, x, rfl⟩) | (go_at_call 81; refine (rint2_c _ _ _).mono ?_; rintro e w' ⟨rfl, x, rfl⟩) | (go_at_call 83; refine (rsane_c _ _ _).mono ?_; rintro e w' ⟨rfl, x, rfl⟩))
    go_ret2
    exact ⟨ret_ib EV.out.1.symm EV.out.2.symm, Mr.mk' (by repeat (first | (with_reducible exact Mr.refl _) | (with_reducible apply Mr.drew) | (with_reducible apply Mr.alloc) | (with_reducible apply Mr.ext) | (with_reducible refine Mr.setCell ?_ (by first | (simp; done) | (simp; omega) | omega | (refine leOf0 ?_; (repeat (first | (with_reducible exact Mr.refl _) | (with_reducible apply Mr.drew) | (with_reducible apply Mr.alloc) | (with_reducible apply Mr.ext) | (with_reducible refine Mr.setCell ?_ (by first | (simp; done) | (simp; omega) | omega) _))); done) | (refine leOf ?_; (repeat (first | (with_reducible exact Mr.refl _) | (with_reducible apply Mr.drew) | (with_reducible apply Mr.alloc) | (with_reducible apply Mr.ext) | (with_reducible refine Mr.setCell ?_ (by first | (simp; done) | (simp; omega) | omega) _))); done)) _)))⟩
set_option maxHeartbeats 400000 in
theorem changed_c (n : Int) (w : World) :
    Calls Try.prog 72 #[.int .i64 n] w fun e w' => e = .returned (.bool (co n)) ∧ w' = w := by
  go_enter Try.func72, Try.ntmps72
  go_wp2_with (go_at_call 71; refine (rclamp_c _ _).mono ?_; rintro e w' ⟨rfl, rfl⟩)
  go_ret
  exact ⟨rfl, rfl⟩
set_option maxHeartbeats 1000000 in
theorem rtimes_c (a b : Int) (w : World) :
    Calls Try.prog 58 #[.int .i64 a, .int .i64 b] w fun e w' => e = .returned (.tuple #[.int .i64 (tv a b), .bool (tb a b)]) ∧ ∃ x : Ext w, w' = x.u := by
  have m1 := vw_hl (ml_inr a b)
  have m2 := sn_hl (ml_inr a b)
  have e1 : rv (hi (ml a b)) (lo (ml a b)) = tv a b := by unfold rv tv; rw [m1]
  have e2 : rb (hi (ml a b)) (lo (ml a b)) = co (rn (ml a b)) := by unfold rb; rw [m1, m2]; simp
  clear m1 m2
  cases hc : co (rn (ml a b))
  all_goals
    cases hd : co a
    all_goals
      rw [hc] at e2
      go_enter Try.func58, Try.ntmps58
      go_wp2_with (first | (go_at_call 74; refine (rmul2_c _ _ _).mono ?_; rintro e w' ⟨rfl, x, rfl⟩) | (go_at_call 73; refine (rround_c _ _ _).mono ?_; rintro e w' ⟨rfl, x, rfl⟩) | (go_at_call 72; refine (changed_c _ _).mono ?_; rintro e w' ⟨rfl, rfl⟩))
      go_ret2
      exact ⟨ret_ib rfl (by unfold tb; rw [hc, hd]; simp), Mr.mk' (by repeat (first | (with_reducible exact Mr.refl _) | (with_reducible apply Mr.drew) | (with_reducible apply Mr.alloc) | (with_reducible apply Mr.ext) | (with_reducible refine Mr.setCell ?_ (by first | (simp; done) | (simp; omega) | omega | (refine leOf0 ?_; (repeat (first | (with_reducible exact Mr.refl _) | (with_reducible apply Mr.drew) | (with_reducible apply Mr.alloc) | (with_reducible apply Mr.ext) | (with_reducible refine Mr.setCell ?_ (by first | (simp; done) | (simp; omega) | omega) _))); done) | (refine leOf ?_; (repeat (first | (with_reducible exact Mr.refl _) | (with_reducible apply Mr.drew) | (with_reducible apply Mr.alloc) | (with_reducible apply Mr.ext) | (with_reducible refine Mr.setCell ?_ (by first | (simp; done) | (simp; omega) | omega) _))); done)) _)))⟩
/-! The quotient, digit by digit. -/
def Qi (Q t : Int) : Prop := 0 ≤ Q ∧ Q ≤ 576460752303423489 ∧ (Q = t ∨ (576460752303423488 ≤ Q ∧ 576460752303423488 ≤ t))
theorem digit {T y : Int} (h0 : 0 ≤ T) (hy : 0 < y) : (y ≤ 2 * (T / 2 % y) + T % 2 → T / y = 2 * (T / 2 / y) + 1 ∧ T % y = 2 * (T / 2 % y) + T % 2 - y) ∧ (2 * (T / 2 % y) + T % 2 < y → T / y = 2 * (T / 2 / y) ∧ T % y = 2 * (T / 2 % y) + T % 2) := by
  have e := Int.ediv_mul_add_emod (T / 2) y
  have r0 := Int.emod_nonneg (T / 2) (show y ≠ 0 by omega)
  have r1 := Int.emod_lt_of_pos (T / 2) hy
  generalize T / 2 / y = t at *
  generalize hr : T / 2 % y = r at *
  have d1 : (2 * t + 1) * y = 2 * (t * y) + y := by grind
  have d2 : 2 * t * y = 2 * (t * y) := by grind
  constructor
  · intro h
    have k := quot_of (N := T) (y := y) (q := 2 * t + 1) (by rw [d1]; omega) (by rw [d1]; omega)
    refine ⟨k.1.symm, ?_⟩
    rw [← k.2, d1]; omega
  · intro h
    have k := quot_of (N := T) (y := y) (q := 2 * t) (by rw [d2]; omega) (by rw [d2]; omega)
    refine ⟨k.1.symm, ?_⟩
    rw [← k.2, d2]; omega
theorem Qi_step {Q t e : Int} (h : Qi Q t) (h0 : 0 ≤ e) (h1 : e ≤ 1) : Qi (min (2 * Q) 576460752303423488 + e) (2 * t + e) := by
  obtain ⟨a, b, c⟩ := h
  refine ⟨by omega, by omega, ?_⟩
  omega
/-- The digits above place j. -/
def Tz (x : Int) (j : Nat) : Int := x * 4294967296 / 2 ^ j
theorem Tz_half (x : Int) (j : Nat) : Tz x (j + 1) = Tz x j / 2 := (half_pow _ _).symm
theorem Tz_nn {x : Int} (h : 0 ≤ x) (j : Nat) : 0 ≤ Tz x j := Int.ediv_nonneg (by omega) (Int.le_of_lt (Int.pow_pos (by decide)))
theorem Tz_hi (x : Int) {j : Nat} (h : 32 ≤ j) : Tz x j = x / 2 ^ (j - 32) := by
  unfold Tz
  have e : (2 : Int) ^ j = 2 ^ (j - 32) * 4294967296 := by
    have : j = j - 32 + 32 := by omega
    rw [this, Int.pow_add]
    simp
  rw [e, Int.mul_ediv_mul_of_pos_left _ _ (by decide)]
theorem Tz_lo (x : Int) {j : Nat} (h : j < 32) : Tz x j % 2 = 0 := by
  unfold Tz
  have e : (4294967296 : Int) = 2 ^ (31 - j) * 2 * 2 ^ j := by
    have : (4294967296 : Int) = 2 ^ 32 := by decide
    rw [this, Int.mul_assoc, Int.mul_comm 2, ← Int.pow_succ, ← Int.pow_add, show 31 - j + (j + 1) = 32 by omega]
  rw [e, ← Int.mul_assoc, Int.mul_ediv_cancel _ (Int.ne_of_gt (Int.pow_pos (by decide))), ← Int.mul_assoc]
  exact Int.mul_emod_left _ _
theorem Tz_top {x : Int} (h : 0 ≤ x) (h1 : x ≤ 288230376151711744) : Tz x 91 = 0 := by
  unfold Tz; exact Int.ediv_eq_zero_of_lt (by omega) (by omega)
theorem Tz_zero (x : Int) : Tz x 0 = x * 4294967296 := by unfold Tz; simp
end Sc
end Go.Proofs.Ytpammdogkkipbaa
