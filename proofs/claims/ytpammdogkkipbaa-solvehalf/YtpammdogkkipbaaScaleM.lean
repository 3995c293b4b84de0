/- Products and quotients of values as plain integers: the mathematics alone. -/
import Derived.Test.YtpammdogkkipbaaWideC
import Derived.Test.YtpammdogkkipbaaDivM
namespace Go.Proofs.Ytpammdogkkipbaa
open Go.RowKit
open Go.Proofs.Ytpammdogkkipbaa.Fx Go.Proofs.Ytpammdogkkipbaa.Wd
set_option linter.unusedVariables false
namespace Sc
/-- Divided by 2^32, rounded. -/
def rn (z : Int) : Int := (z + 2147483648) / 4294967296
/-- Round: the value, and whether it was clamped. -/
def rv (p q : Int) : Int := cl (rn (vw p q))
def rb (p q : Int) : Bool := co (rn (vw p q)) || !sn p q
/-- Times. -/
def tv (a b : Int) : Int := cl (rn (ml a b))
def tb (a b : Int) : Bool := co (rn (ml a b)) || co a || co b
/-- The quotient of two sizes, rounded: a half upwards, or (below 0) downwards. -/
def mg (x y : Int) (below : Bool) : Int := if below then (2 * (x * 4294967296) + y - 1) / (2 * y) else (2 * (x * 4294967296) + y) / (2 * y)
def bl (a b : Int) : Bool := decide (a < 0) != decide (b < 0)
/-- Over. -/
def qv (a b : Int) : Int := if b = 0 then cm a 0 * 288230376151711744 else if bl a b then -cl (mg (ab a) (ab b) true) else cl (mg (ab a) (ab b) false)
def qb (a b : Int) : Bool := if b = 0 then true else co (mg (ab a) (ab b) (bl a b)) || co a || co b
/-- Mix. -/
def mv (a b t : Int) : Int := av a (tv (sv b a) t)
def mb (a b t : Int) : Bool := so b a || tb (sv b a) t || ao a (tv (sv b a) t)
/-- Half of a quotient's rest decides. -/
theorem mg_eq {x y : Int} (h0 : 0 ≤ x) (hy : 0 < y) (below : Bool) : mg x y below = x * 4294967296 / y + (if y < 2 * (x * 4294967296 % y) ∨ (y = 2 * (x * 4294967296 % y) ∧ below = false) then 1 else 0) := by
  have e := Int.ediv_mul_add_emod (x * 4294967296) y
  have r0 := Int.emod_nonneg (x * 4294967296) (show y ≠ 0 by omega)
  have r1 := Int.emod_lt_of_pos (x * 4294967296) hy
  generalize hq : x * 4294967296 / y = q at *
  generalize hr : x * 4294967296 % y = r at *
  have key : ∀ {n k : Int}, k * (2 * y) ≤ n → n < k * (2 * y) + 2 * y → n / (2 * y) = k := by
    intro n k a b
    have h2 : k ≤ n / (2 * y) := (Int.le_ediv_iff_mul_le (by omega)).2 a
    have h3 : n / (2 * y) < k + 1 := (Int.ediv_lt_iff_lt_mul (by omega)).2 (by rw [Int.add_mul]; omega)
    omega
  have d1 : q * (2 * y) = 2 * (q * y) := by grind
  have d2 : (q + 1) * (2 * y) = 2 * (q * y) + 2 * y := by grind
  generalize q * y = P at *
  unfold mg
  cases below
  · simp only [and_true, Bool.false_eq_true, if_false]
    split
    · exact key (by rw [d2]; omega) (by rw [d2]; omega)
    · rw [Int.add_zero]; exact key (by rw [d1]; omega) (by rw [d1]; omega)
  · simp only [Bool.true_eq_false, and_false, or_false, if_true]
    split
    · exact key (by rw [d2]; omega) (by rw [d2]; omega)
    · rw [Int.add_zero]; exact key (by rw [d1]; omega) (by rw [d1]; omega)
theorem mg_part {x y : Int} (h0 : 0 ≤ x) (hy : x < y) (below : Bool) : 0 ≤ mg x y below ∧ mg x y below ≤ 4294967296 := by
  rw [mg_eq h0 (by omega)]
  have q0 : 0 ≤ x * 4294967296 / y := Int.ediv_nonneg (by omega) (by omega)
  have q1 : x * 4294967296 / y < 4294967296 := Int.ediv_lt_of_lt_mul (by omega) (by omega)
  split <;> omega
theorem mg_whole {x y : Int} (h0 : 0 ≤ x) (hy : 0 < y) (below : Bool) : mg x y below = x / y * 4294967296 + mg (x % y) y below := by
  have e := Int.ediv_mul_add_emod x y
  have r0 := Int.emod_nonneg x (show y ≠ 0 by omega)
  rw [mg_eq h0 hy, mg_eq r0 hy]
  have e2 : x * 4294967296 = x % y * 4294967296 + x / y * 4294967296 * y := by
    have : x / y * 4294967296 * y = x / y * y * 4294967296 := by grind
    rw [this]; omega
  have e3 : x * 4294967296 / y = x % y * 4294967296 / y + x / y * 4294967296 := by
    conv => lhs; rw [e2]
    exact Int.add_mul_ediv_right _ _ (by omega)
  have e4 : x * 4294967296 % y = x % y * 4294967296 % y := by
    conv => lhs; rw [e2]
    exact Int.add_mul_emod_self_right ..
  rw [e3, e4]; omega
theorem ov_small {q : Int} (h0 : 0 ≤ q) (h1 : q ≤ 67108864) : ov q = q * 4294967296 ∧ ob q = false := by
  unfold ov ob wv wb
  rw [if_neg (by omega), if_neg (by omega)]
  exact ⟨rfl, by simp; omega⟩
theorem ov_big {q : Int} (h1 : 67108864 < q) : ov q = 288230376151711744 ∧ ob q = true := by
  unfold ov ob wv wb
  rw [if_neg (by omega), if_pos h1]
  exact ⟨rfl, by simp; omega⟩
theorem sizes_math {x y : Int} (h0 : 0 ≤ x) (hy : 0 < y) (below : Bool) : av (ov (x / y)) (mg (x % y) y below) = cl (mg x y below) ∧ (ob (x / y) || ao (ov (x / y)) (mg (x % y) y below)) = co (mg x y below) := by
  have q0 : 0 ≤ x / y := Int.ediv_nonneg h0 (by omega)
  have p := mg_part (Int.emod_nonneg x (show y ≠ 0 by omega)) (Int.emod_lt_of_pos x hy) below
  rw [mg_whole h0 hy]
  generalize mg (x % y) y below = P at *
  generalize x / y = Q at *
  have cP := cl_in (a := P) (by omega) (by omega)
  by_cases h : Q ≤ 67108864
  · obtain ⟨e1, e2⟩ := ov_small q0 h
    rw [e1, e2]
    have cQ := cl_in (a := Q * 4294967296) (by omega) (by omega)
    unfold av ao
    rw [cQ.1, cQ.2, cP.1, cP.2]
    simp
  · obtain ⟨e1, e2⟩ := ov_big (q := Q) (by omega)
    rw [e1, e2]
    obtain ⟨c1, c2⟩ := cl_hi (a := Q * 4294967296 + P) (by omega)
    unfold av
    rw [c1, c2, cP.1, (cl_in (a := 288230376151711744) (by omega) (by omega)).1]
    refine ⟨?_, by simp⟩
    rcases Int.lt_or_le 0 P with hp | hp
    · exact (cl_hi (by omega)).1
    · rw [(cl_in (by omega) (by omega)).1]; omega
theorem ab_one {b : Int} (h : b ≠ 0) : 1 ≤ ab b := by
  unfold ab cl wv
  repeat' split
  all_goals omega
end Sc
end Go.Proofs.Ytpammdogkkipbaa
/- What products and quotients of values keep: the mathematics of the laws of layer 3. -/
namespace Go.Proofs.Ytpammdogkkipbaa
open Go.RowKit
open Go.Proofs.Ytpammdogkkipbaa.Fx Go.Proofs.Ytpammdogkkipbaa.Wd
set_option linter.unusedVariables false
namespace Sc
theorem co_false {n : Int} (h : co n = false) : -288230376151711744 ≤ n ∧ n ≤ 288230376151711744 ∧ cl n = n := by
  have h2 : -288230376151711744 ≤ n ∧ n ≤ 288230376151711744 := by unfold co wb at h; simp at h; omega
  exact ⟨h2.1, h2.2, (cl_in h2.1 h2.2).1⟩
theorem clcl (a : Int) : cl (cl a) = cl a ∧ co (cl a) = false := cl_in (cl_bd a).1 (cl_bd a).2
theorem rn_in (z : Int) : 4294967296 * rn z ≤ z + 2147483648 ∧ z + 2147483648 < 4294967296 * rn z + 4294967296 := by unfold rn; omega
theorem tv_bd (a b : Int) : -288230376151711744 ≤ tv a b ∧ tv a b ≤ 288230376151711744 := cl_bd _
theorem tv_ok {a b : Int} (h : tb a b = false) : cl a = a ∧ cl b = b ∧ tv a b = rn (a * b) ∧ (-288230376151711744 ≤ a ∧ a ≤ 288230376151711744) ∧ (-288230376151711744 ≤ b ∧ b ≤ 288230376151711744) := by
  unfold tb at h
  simp only [Bool.or_eq_false_iff] at h
  obtain ⟨⟨h1, h2⟩, h3⟩ := h
  have ha := co_false h2
  have hb := co_false h3
  have hr := co_false h1
  refine ⟨ha.2.2, hb.2.2, ?_, ⟨ha.1, ha.2.1⟩, hb.1, hb.2.1⟩
  unfold tv
  rw [hr.2.2]
  unfold ml
  rw [ha.2.2, hb.2.2]
theorem ab_eq {b : Int} (h : cl b = b) : (0 ≤ b ∧ ab b = b) ∨ (b < 0 ∧ ab b = -b) := by
  unfold ab; rw [h]; omega
theorem mg_near {x y : Int} (h0 : 0 ≤ x) (hy : 0 < y) (below : Bool) : 2 * (x * 4294967296 - mg x y below * y) ≤ y ∧ -y ≤ 2 * (x * 4294967296 - mg x y below * y) := by
  have e := Int.ediv_mul_add_emod (x * 4294967296) y
  have r0 := Int.emod_nonneg (x * 4294967296) (show y ≠ 0 by omega)
  have r1 := Int.emod_lt_of_pos (x * 4294967296) hy
  rw [mg_eq h0 hy]
  generalize x * 4294967296 / y = q at *
  generalize x * 4294967296 % y = r at *
  have d : (q + 1) * y = q * y + y := by rw [Int.add_mul, Int.one_mul]
  split
  · rw [d]; omega
  · rw [Int.add_zero]; omega
theorem qv_bd (a b : Int) : -288230376151711744 ≤ qv a b ∧ qv a b ≤ 288230376151711744 := by
  unfold qv
  split
  · unfold cm; split <;> (try split) <;> omega
  · have h1 := cl_bd (mg (ab a) (ab b) true)
    have h2 := cl_bd (mg (ab a) (ab b) false)
    split <;> omega
theorem qb_false {a b : Int} (h : qb a b = false) : b ≠ 0 ∧ co a = false ∧ co b = false ∧ co (mg (ab a) (ab b) (bl a b)) = false := by
  unfold qb at h
  by_cases hb : b = 0
  · rw [if_pos hb] at h; cases h
  · rw [if_neg hb] at h
    simp only [Bool.or_eq_false_iff] at h
    exact ⟨hb, h.1.2, h.2, h.1.1⟩
theorem bl_iff (a b : Int) : bl a b = true ↔ ¬ (a < 0 ↔ b < 0) := by
  unfold bl; simp
theorem qv_ok {a b : Int} (h : qb a b = false) : b ≠ 0 ∧ cl a = a ∧ cl b = b ∧ 2 * (a * 4294967296 - qv a b * b) ≤ ab b ∧ -ab b ≤ 2 * (a * 4294967296 - qv a b * b) := by
  obtain ⟨hb, h2, h3, h1⟩ := qb_false h
  have ha := (co_false h2).2.2
  have hb2 := (co_false h3).2.2
  have hm := (co_false h1).2.2
  refine ⟨hb, ha, hb2, ?_⟩
  have a0 := ab_bd a
  have b1 := ab_one hb
  have ea := ab_eq ha
  have eb := ab_eq hb2
  have near := mg_near a0.1 (show 0 < ab b by omega) (bl a b)
  unfold qv
  rw [if_neg hb]
  have hbl := bl_iff a b
  cases hr : bl a b
  · rw [hr] at near hm hbl
    rw [if_neg Bool.false_ne_true, hm]
    generalize hM : mg (ab a) (ab b) false = M at *
    have e : M * b = M * ab b ∨ M * b = -(M * ab b) := by
      rcases eb with ⟨_, e⟩ | ⟨_, e⟩
      · left; rw [e]
      · right; rw [e, Int.mul_neg]; omega
    simp at hbl
    rcases ea with ⟨ha0, ea⟩ | ⟨ha0, ea⟩
    · rcases eb with ⟨hb0, eb⟩ | ⟨hb0, eb⟩
      · rw [ea, eb] at near; rw [eb]; exact near
      · omega
    · rcases eb with ⟨hb0, eb⟩ | ⟨hb0, eb⟩
      · omega
      · rw [ea, eb, Int.mul_neg] at near; rw [eb]; omega
  · rw [hr] at near hm hbl
    rw [if_pos rfl, hm]
    generalize hM : mg (ab a) (ab b) true = M at *
    simp at hbl
    rw [Int.neg_mul]
    rcases ea with ⟨ha0, ea⟩ | ⟨ha0, ea⟩
    · rcases eb with ⟨hb0, eb⟩ | ⟨hb0, eb⟩
      · omega
      · rw [ea, eb, Int.mul_neg] at near; rw [eb]; omega
    · rcases eb with ⟨hb0, eb⟩ | ⟨hb0, eb⟩
      · rw [ea, eb] at near; rw [eb]; omega
      · omega
/-- Multiplied, and divided by the same. -/
theorem back_math {a b : Int} (h : tb a b = false) (g : qb (tv a b) b = false) (h1 : 4294967296 ≤ ab b) : qv (tv a b) b - a ≤ 1 ∧ a - qv (tv a b) b ≤ 1 := by
  obtain ⟨ha, hb, e, _, _⟩ := tv_ok h
  obtain ⟨_, _, _, n1, n2⟩ := qv_ok g
  have r := rn_in (a * b)
  rw [← e] at r
  generalize qv (tv a b) b = q at *
  generalize tv a b = p at *
  have k : (a - q) * b = a * b - q * b := Int.sub_mul ..
  have eb := ab_eq hb
  generalize ab b = B at *
  rcases eb with ⟨hb0, eb⟩ | ⟨hb0, eb⟩
  · constructor
    · rcases Int.lt_or_le (a - q) (-1) with c | c
      · have : (a - q) * b ≤ -2 * b := Int.mul_le_mul_of_nonneg_right (by omega) (by omega)
        omega
      · omega
    · rcases Int.lt_or_le 1 (a - q) with c | c
      · have : 2 * b ≤ (a - q) * b := Int.mul_le_mul_of_nonneg_right (by omega) (by omega)
        omega
      · omega
  · constructor
    · rcases Int.lt_or_le (a - q) (-1) with c | c
      · have : -2 * b ≤ (a - q) * b := Int.mul_le_mul_of_nonpos_right (by omega) (by omega)
        omega
      · omega
    · rcases Int.lt_or_le 1 (a - q) with c | c
      · have : (a - q) * b ≤ 2 * b := Int.mul_le_mul_of_nonpos_right (by omega) (by omega)
        omega
      · omega
end Sc
end Go.Proofs.Ytpammdogkkipbaa
/- The contracts of package scale. -/
namespace Go.Proofs.Ytpammdogkkipbaa
open Go.ChangeShapes Go.WideShapes Go.ChangeAt Go.RowKit
open Go.Proofs.Ytpammdogkkipbaa.Fx Go.Proofs.Ytpammdogkkipbaa.Wd
open Go.Proofs.Ytpammdogkkipbaa.Dv
set_option linter.unusedVariables false
attribute [local go_sem] Ext.cell Ext.froz Ext.lt Ext.lt1 Ext.lt2 Ext.lt3 Ext.all Ext.set_u drew_heap setCell_size Ext.set_size
namespace Sc
attribute [local go_sem ↓] eq_wide eqw_self
attribute [local go_sem] and62 and1 sgn64 not64 wrap_and

theorem ret_b' {p q : Bool} (h : p = q) : Ending.returned (.bool p) = .returned (.bool q) := by rw [h]
theorem rnd_math (v : Int) (h : inr v = true) : ∃ d r : Int, dn v 31 = d ∧ vw (hi d) (lo d) = d ∧ inr (d + 1) = true ∧ cut (d + 1) = d + 1 ∧ vw (hi (d + 1)) (lo (d + 1)) = d + 1 ∧ dn (d + 1) 1 = r ∧ vw (hi r) (lo r) = r ∧ Hid (rn v = r) := by
  have e1 : dn v 31 = v / 2147483648 := rfl
  have e2 : dn (v / 2147483648 + 1) 1 = (v / 2147483648 + 1) / 2 := rfl
  rw [inr_iff] at h
  have h1 : inr (v / 2147483648) = true := by rw [inr_iff]; omega
  have h2 : inr (v / 2147483648 + 1) = true := by rw [inr_iff]; omega
  have h3 : inr ((v / 2147483648 + 1) / 2) = true := by rw [inr_iff]; omega
  exact ⟨_, _, e1, vw_hl h1, h2, cut_of h2, vw_hl h2, e2, vw_hl h3, by rw [Hid]; unfold rn; omega⟩
set_option maxHeartbeats 1000000 in
theorem round_c (p q : Int) (w : World) :
    Calls Try.prog 78 #[.agg #[.int .i64 p, .int .i64 q]] w fun e w' => e = .returned (.tuple #[.int .i64 (rv p q), .bool (rb p q)]) ∧ ∃ x : Ext w, w' = x.u := by
  have h1 := vw_one
  obtain ⟨d, r, e1, e2, e3, e4, e5, e6, e7, E8⟩ := rnd_math (vw p q) (vw_inr p q)
  have EV : Hid (rv p q = cl r ∧ rb p q = (co r || !sn p q)) := ⟨by unfold rv; rw [E8.out], by unfold rb; rw [E8.out]⟩
  cases hc : co r
  all_goals
    go_enter Try.func78, Try.ntmps78
    go_wp2_with (first | (go_at_call 89; refine (wdown_c _ _ _ _).mono ?_; rintro e w' ⟨rfl, x, rfl⟩) | (go_at_call 90; refine (wof_c _ _ ?_).mono ?_; (first | omega | exact ⟨by omega, by omega⟩); rintro e w' ⟨rfl, x, rfl⟩) | (go_at_call 86; refine (wadd_c _ _ _ _ _).mono ?_; rintro e w' ⟨rfl, x, rfl⟩) | (go_at_call 91; refine (wint_c _ _ _).mono ?_; rintro e w' ⟨rfl, x, rfl⟩) | (go_at_call 92; refine (sane_c _ _ _).mono ?_; rintro e w' ⟨rfl, x, rfl⟩))
    go_ret2
    exact ⟨ret_ib EV.out.1.symm (by rw [EV.out.2, hc]; simp), Mr.mk' (by repeat (first | (with_reducible exact Mr.refl _) | (with_reducible apply Mr.drew) | (with_reducible apply Mr.alloc) | (with_reducible apply Mr.ext) | (with_reducible refine Mr.setCell ?_ (by first | (simp; done) | (simp; omega) | omega | (refine leOf0 ?_; (repeat (first | (with_reducible exact Mr.refl _) | (with_reducible apply Mr.drew) | (with_reducible apply Mr.alloc) | (with_reducible apply Mr.ext) | (with_reducible refine Mr.setCell ?_ (by first | (simp; done) | (simp; omega) | omega) _))); done) | (refine leOf ?_; (repeat (first | (with_reducible exact Mr.refl _) | (with_reducible apply Mr.drew) | (with_reducible apply Mr.alloc) | (with_reducible apply Mr.ext) | (with_reducible refine Mr.setCell ?_ (by first | (simp; done) | (simp; omega) | omega) _))); done)) _)))⟩
set_option maxHeartbeats 1000000 in
theorem clamped_c (a b : Int) (w : World) :
    Calls Try.prog 36 #[.slice (some ⟨w.heap.size, 0, none⟩) 2 2] (w.alloc (.cells #[.int .i64 a, .int .i64 b] 3)) fun e w' => e = .returned (.bool (co a || co b)) ∧ w' = w.alloc (.cells #[.int .i64 a, .int .i64 b] 3) := by
  go_enter Try.func36, Try.ntmps36
  go_wp2
  go_loop [9] (fun i => ∃ k : Nat, k ≤ 2 ∧ i = .int .i64 k ∧ (1 ≤ k → co a = false) ∧ (2 ≤ k → co b = false)) (fun i => (2 - intOf i).toNat)
  case atStart => exact ⟨0, by omega, rfl, by omega, by omega⟩
  case round =>
    obtain ⟨k, hk, rfl, h1, h2⟩ := hrel
    obtain rfl | rfl | rfl : k = 0 ∨ k = 1 ∨ k = 2 := by omega
    · clear h1 h2
      cases hc : co a
      · go_wp2_with (go_at_call 43; refine (clamp_c _ _).mono ?_; rintro e w' ⟨rfl, rfl⟩)
        go_round
        case rel => exact ⟨1, by omega, rfl, by simp, by omega⟩
        case measure => simp [intOf]
      · go_wp2_with (go_at_call 43; refine (clamp_c _ _).mono ?_; rintro e w' ⟨rfl, rfl⟩)
        go_ret
        exact ⟨ret_b' (by simp [hc]), rfl⟩
    · have h3 := h1 (by omega)
      clear h1 h2
      cases hc : co b
      · go_wp2_with (go_at_call 43; refine (clamp_c _ _).mono ?_; rintro e w' ⟨rfl, rfl⟩)
        go_round
        case rel => exact ⟨2, by omega, rfl, by simp [h3], by simp⟩
        case measure => simp [intOf]
      · go_wp2_with (go_at_call 43; refine (clamp_c _ _).mono ?_; rintro e w' ⟨rfl, rfl⟩)
        go_ret
        exact ⟨ret_b' (by simp [h3, hc]), rfl⟩
    · have h3 := h1 (by omega)
      have h4 := h2 (by omega)
      clear h1 h2
      go_wp2
      go_ret
      exact ⟨ret_b' (by simp), rfl⟩
set_option maxHeartbeats 1000000 in
theorem times_c (a b : Int) (w : World) :
    Calls Try.prog 67 #[.int .i64 a, .int .i64 b] w fun e w' => e = .returned (.tuple #[.int .i64 (tv a b), .bool (tb a b)]) ∧ ∃ x : Ext w, w' = x.u := by
  have m1 := vw_hl (ml_inr a b)
  have m2 := sn_hl (ml_inr a b)
  have e1 : rv (hi (ml a b)) (lo (ml a b)) = tv a b := by unfold rv tv; rw [m1]
  have e2 : rb (hi (ml a b)) (lo (ml a b)) = co (rn (ml a b)) := by unfold rb; rw [m1, m2]; simp
  clear m1 m2
  cases hc : co (rn (ml a b))
  all_goals
    rw [hc] at e2
    go_enter Try.func67, Try.ntmps67
    go_wp2_with (first | (go_at_call 79; refine (wmul_c _ _ _).mono ?_; rintro e w' ⟨rfl, x, rfl⟩) | (go_at_call 78; refine (round_c _ _ _).mono ?_; rintro e w' ⟨rfl, x, rfl⟩) | (go_at_call 36; refine (clamped_c _ _ _).mono ?_; rintro e w' ⟨rfl, rfl⟩))
    go_ret2
    exact ⟨ret_ib rfl (by unfold tb; rw [hc]; simp), Mr.mk' (by repeat (first | (with_reducible exact Mr.refl _) | (with_reducible apply Mr.drew) | (with_reducible apply Mr.alloc) | (with_reducible apply Mr.ext) | (with_reducible refine Mr.setCell ?_ (by first | (simp; done) | (simp; omega) | omega | (refine leOf0 ?_; (repeat (first | (with_reducible exact Mr.refl _) | (with_reducible apply Mr.drew) | (with_reducible apply Mr.alloc) | (with_reducible apply Mr.ext) | (with_reducible refine Mr.setCell ?_ (by first | (simp; done) | (simp; omega) | omega) _))); done) | (refine leOf ?_; (repeat (first | (with_reducible exact Mr.refl _) | (with_reducible apply Mr.drew) | (with_reducible apply Mr.alloc) | (with_reducible apply Mr.ext) | (with_reducible refine Mr.setCell ?_ (by first | (simp; done) | (simp; omega) | omega) _))); done)) _)))⟩
theorem ret_i2 {a b : Int} (h : a = b) : Ending.returned (.int .i64 a) = .returned (.int .i64 b) := by rw [h]
set_option maxHeartbeats 1000000 in
theorem part_c (a b : Int) (below : Bool) (w : World) (h0 : 0 ≤ a) (h1 : a < b) (h2 : b ≤ 288230376151711744) :
    Calls Try.prog 61 #[.int .u64 a, .int .u64 b, .bool below] w fun e w' => e = .returned (.int .i64 (mg a b below)) ∧ ∃ x : Ext w, w' = x.u := by
  have E : Hid (mg a b below = _) := mg_eq h0 (by omega) below
  have q0 : 0 ≤ a * 4294967296 / b := Int.ediv_nonneg (by omega) (by omega)
  have q1 : a * 4294967296 / b < 4294967296 := Int.ediv_lt_of_lt_mul (by omega) (by omega)
  have r0 := Int.emod_nonneg (a * 4294967296) (show b ≠ 0 by omega)
  have r1 := Int.emod_lt_of_pos (a * 4294967296) (show 0 < b by omega)
  generalize hQ : a * 4294967296 / b = Q at *
  generalize hR : a * 4294967296 % b = R at *
  by_cases c1 : b < 2 * R
  · have M : Hid (mg a b below = Q + 1) := by rw [Hid, E.out, if_pos (.inl c1)]
    clear E
    go_enter Try.func61, Try.ntmps61; go_wp2_with (go_at_call 75; refine (div_c _ _ _ ?_ ?_ ?_).mono ?_; omega; omega; omega; rintro e w' ⟨rfl, x, rfl⟩)
    go_ret
    exact ⟨ret_i2 M.out.symm, Mr.mk' (by repeat (first | (with_reducible exact Mr.refl _) | (with_reducible apply Mr.drew) | (with_reducible apply Mr.alloc) | (with_reducible apply Mr.ext) | (with_reducible refine Mr.setCell ?_ (by first | (simp; done) | (simp; omega) | omega | (refine leOf0 ?_; (repeat (first | (with_reducible exact Mr.refl _) | (with_reducible apply Mr.drew) | (with_reducible apply Mr.alloc) | (with_reducible apply Mr.ext) | (with_reducible refine Mr.setCell ?_ (by first | (simp; done) | (simp; omega) | omega) _))); done) | (refine leOf ?_; (repeat (first | (with_reducible exact Mr.refl _) | (with_reducible apply Mr.drew) | (with_reducible apply Mr.alloc) | (with_reducible apply Mr.ext) | (with_reducible refine Mr.setCell ?_ (by first | (simp; done) | (simp; omega) | omega) _))); done)) _)))⟩
  · by_cases c2 : 2 * R = b
    · have c3 : (2 * R == b) = true := by simp [c2]
      cases below
      · have M : Hid (mg a b false = Q + 1) := by rw [Hid, E.out, if_pos (.inr ⟨c2.symm, rfl⟩)]
        clear E c2
        go_enter Try.func61, Try.ntmps61; go_wp2_with (go_at_call 75; refine (div_c _ _ _ ?_ ?_ ?_).mono ?_; omega; omega; omega; rintro e w' ⟨rfl, x, rfl⟩)
        go_ret
        exact ⟨ret_i2 M.out.symm, Mr.mk' (by repeat (first | (with_reducible exact Mr.refl _) | (with_reducible apply Mr.drew) | (with_reducible apply Mr.alloc) | (with_reducible apply Mr.ext) | (with_reducible refine Mr.setCell ?_ (by first | (simp; done) | (simp; omega) | omega | (refine leOf0 ?_; (repeat (first | (with_reducible exact Mr.refl _) | (with_reducible apply Mr.drew) | (with_reducible apply Mr.alloc) | (with_reducible apply Mr.ext) | (with_reducible refine Mr.setCell ?_ (by first | (simp; done) | (simp; omega) | omega) _))); done) | (refine leOf ?_; (repeat (first | (with_reducible exact Mr.refl _) | (with_reducible apply Mr.drew) | (with_reducible apply Mr.alloc) | (with_reducible apply Mr.ext) | (with_reducible refine Mr.setCell ?_ (by first | (simp; done) | (simp; omega) | omega) _))); done)) _)))⟩
      · have M : Hid (mg a b true = Q) := by rw [Hid, E.out, if_neg (by simp; omega)]; omega
        clear E c2
        go_enter Try.func61, Try.ntmps61; go_wp2_with (go_at_call 75; refine (div_c _ _ _ ?_ ?_ ?_).mono ?_; omega; omega; omega; rintro e w' ⟨rfl, x, rfl⟩)
        go_ret
        exact ⟨ret_i2 M.out.symm, Mr.mk' (by repeat (first | (with_reducible exact Mr.refl _) | (with_reducible apply Mr.drew) | (with_reducible apply Mr.alloc) | (with_reducible apply Mr.ext) | (with_reducible refine Mr.setCell ?_ (by first | (simp; done) | (simp; omega) | omega | (refine leOf0 ?_; (repeat (first | (with_reducible exact Mr.refl _) | (with_reducible apply Mr.drew) | (with_reducible apply Mr.alloc) | (with_reducible apply Mr.ext) | (with_reducible refine Mr.setCell ?_ (by first | (simp; done) | (simp; omega) | omega) _))); done) | (refine leOf ?_; (repeat (first | (with_reducible exact Mr.refl _) | (with_reducible apply Mr.drew) | (with_reducible apply Mr.alloc) | (with_reducible apply Mr.ext) | (with_reducible refine Mr.setCell ?_ (by first | (simp; done) | (simp; omega) | omega) _))); done)) _)))⟩
    · have c3 : (2 * R == b) = false := by simp [c2]
      have M : Hid (mg a b below = Q) := by rw [Hid, E.out, if_neg (by omega)]; omega
      clear E c2
      go_enter Try.func61, Try.ntmps61; go_wp2_with (go_at_call 75; refine (div_c _ _ _ ?_ ?_ ?_).mono ?_; omega; omega; omega; rintro e w' ⟨rfl, x, rfl⟩)
      go_ret
      exact ⟨ret_i2 M.out.symm, Mr.mk' (by repeat (first | (with_reducible exact Mr.refl _) | (with_reducible apply Mr.drew) | (with_reducible apply Mr.alloc) | (with_reducible apply Mr.ext) | (with_reducible refine Mr.setCell ?_ (by first | (simp; done) | (simp; omega) | omega | (refine leOf0 ?_; (repeat (first | (with_reducible exact Mr.refl _) | (with_reducible apply Mr.drew) | (with_reducible apply Mr.alloc) | (with_reducible apply Mr.ext) | (with_reducible refine Mr.setCell ?_ (by first | (simp; done) | (simp; omega) | omega) _))); done) | (refine leOf ?_; (repeat (first | (with_reducible exact Mr.refl _) | (with_reducible apply Mr.drew) | (with_reducible apply Mr.alloc) | (with_reducible apply Mr.ext) | (with_reducible refine Mr.setCell ?_ (by first | (simp; done) | (simp; omega) | omega) _))); done)) _)))⟩
set_option maxHeartbeats 1000000 in
theorem osizes_c (a b : Int) (below : Bool) (w : World) (h0 : 0 ≤ a) (h1 : a ≤ 288230376151711744) (h2 : 0 < b) (h3 : b ≤ 288230376151711744) :
    Calls Try.prog 33 #[.int .i64 a, .int .i64 b, .bool below] w fun e w' => e = .returned (.tuple #[.int .i64 (cl (mg a b below)), .bool (co (mg a b below))]) ∧ ∃ x : Ext w, w' = x.u := by
  have q0 : 0 ≤ a / b := Int.ediv_nonneg h0 (by omega)
  have q1 : a / b ≤ a := Int.ediv_le_self _ h0
  have r0 := Int.emod_nonneg a (show b ≠ 0 by omega)
  have r1 := Int.emod_lt_of_pos a h2
  obtain ⟨e1, e2⟩ := sizes_math h0 h2 below
  have E : Hid (av (ov (a / b)) (mg (a % b) b below) = cl (mg a b below) ∧ (ob (a / b) || ao (ov (a / b)) (mg (a % b) b below)) = co (mg a b below)) := ⟨e1, e2⟩
  clear e1 e2
  cases hc : ob (a / b)
  all_goals
    go_enter Try.func33, Try.ntmps33
    go_wp2_with (first | (go_at_call 60; refine (of_c _ _).mono ?_; rintro e w' ⟨rfl, rfl⟩) | (go_at_call 61; refine (part_c _ _ _ _ ?_ ?_ ?_).mono ?_; omega; omega; omega; rintro e w' ⟨rfl, x, rfl⟩) | (go_at_call 45; refine (add_c _ _ _).mono ?_; rintro e w' ⟨rfl, rfl⟩))
    go_ret2
    exact ⟨ret_ib E.out.1 (by rw [← E.out.2, hc]; simp), Mr.mk' (by repeat (first | (with_reducible exact Mr.refl _) | (with_reducible apply Mr.drew) | (with_reducible apply Mr.alloc) | (with_reducible apply Mr.ext) | (with_reducible refine Mr.setCell ?_ (by first | (simp; done) | (simp; omega) | omega | (refine leOf0 ?_; (repeat (first | (with_reducible exact Mr.refl _) | (with_reducible apply Mr.drew) | (with_reducible apply Mr.alloc) | (with_reducible apply Mr.ext) | (with_reducible refine Mr.setCell ?_ (by first | (simp; done) | (simp; omega) | omega) _))); done) | (refine leOf ?_; (repeat (first | (with_reducible exact Mr.refl _) | (with_reducible apply Mr.drew) | (with_reducible apply Mr.alloc) | (with_reducible apply Mr.ext) | (with_reducible refine Mr.setCell ?_ (by first | (simp; done) | (simp; omega) | omega) _))); done)) _)))⟩
set_option maxHeartbeats 2000000 in
theorem over0_c (a : Int) (w : World) :
    Calls Try.prog 17 #[.int .i64 a, .int .i64 0] w fun e w' => e = .returned (.tuple #[.int .i64 (qv a 0), .bool (qb a 0)]) ∧ ∃ x : Ext w, w' = x.u := by
  have c0 : -1 ≤ cm a 0 ∧ cm a 0 ≤ 1 := by unfold cm; split <;> (try split) <;> omega
  have V : Hid (qv a 0 = cm a 0 * 288230376151711744 ∧ qb a 0 = true) := ⟨by unfold qv; rw [if_pos rfl], by unfold qb; rw [if_pos rfl]⟩
  go_enter Try.func17, Try.ntmps17
  go_wp2_with (go_at_call 32; refine (cmp_c _ _ _).mono ?_; rintro e w' ⟨rfl, rfl⟩)
  go_ret2
  exact ⟨ret_ib V.out.1.symm V.out.2.symm, Mr.mk' (by repeat (first | (with_reducible exact Mr.refl _) | (with_reducible apply Mr.drew) | (with_reducible apply Mr.alloc) | (with_reducible apply Mr.ext) | (with_reducible refine Mr.setCell ?_ (by first | (simp; done) | (simp; omega) | omega | (refine leOf0 ?_; (repeat (first | (with_reducible exact Mr.refl _) | (with_reducible apply Mr.drew) | (with_reducible apply Mr.alloc) | (with_reducible apply Mr.ext) | (with_reducible refine Mr.setCell ?_ (by first | (simp; done) | (simp; omega) | omega) _))); done) | (refine leOf ?_; (repeat (first | (with_reducible exact Mr.refl _) | (with_reducible apply Mr.drew) | (with_reducible apply Mr.alloc) | (with_reducible apply Mr.ext) | (with_reducible refine Mr.setCell ?_ (by first | (simp; done) | (simp; omega) | omega) _))); done)) _)))⟩
set_option maxHeartbeats 2000000 in
theorem over1_c (a b : Int) (w : World) (h : b ≠ 0) :
    Calls Try.prog 17 #[.int .i64 a, .int .i64 b] w fun e w' => e = .returned (.tuple #[.int .i64 (qv a b), .bool (qb a b)]) ∧ ∃ x : Ext w, w' = x.u := by
  have hb : (b == 0) = false := by simp [h]
  have a1 := ab_bd a
  have a2 := ab_bd b
  have a3 := ab_one h
  have key : bl a b = (!(decide (a < 0) == decide (b < 0))) := rfl
  cases hr : bl a b
  · have V2 : Hid (qv a b = cl (mg (ab a) (ab b) false) ∧ qb a b = (co (mg (ab a) (ab b) false) || co a || co b)) := by
      constructor
      · unfold qv; rw [if_neg h, hr, if_neg Bool.false_ne_true]
      · unfold qb; rw [if_neg h, hr]
    rw [hr] at key
    have k2 := key.symm
    clear key h
    cases hc : co (mg (ab a) (ab b) false)
    all_goals
      go_enter Try.func17, Try.ntmps17; go_wp2_with (first | (go_at_call 34; refine (abs_c _ _).mono ?_; rintro e w' ⟨rfl, rfl⟩) | (go_at_call 33; refine (osizes_c _ _ _ _ ?_ ?_ ?_ ?_).mono ?_; omega; omega; omega; omega; rintro e w' ⟨rfl, x, rfl⟩) | (go_at_call 35; refine (neg_c _ _).mono ?_; rintro e w' ⟨rfl, rfl⟩) | (go_at_call 36; refine (clamped_c _ _ _).mono ?_; rintro e w' ⟨rfl, rfl⟩))
      go_ret2
      exact ⟨ret_ib V2.out.1.symm (by rw [V2.out.2, hc]; simp), Mr.mk' (by repeat (first | (with_reducible exact Mr.refl _) | (with_reducible apply Mr.drew) | (with_reducible apply Mr.alloc) | (with_reducible apply Mr.ext) | (with_reducible refine Mr.setCell ?_ (by first | (simp; done) | (simp; omega) | omega | (refine leOf0 ?_; (repeat (first | (with_reducible exact Mr.refl _) | (with_reducible apply Mr.drew) | (with_reducible apply Mr.alloc) | (with_reducible apply Mr.ext) | (with_reducible refine Mr.setCell ?_ (by first | (simp; done) | (simp; omega) | omega) _))); done) | (refine leOf ?_; (repeat (first | (with_reducible exact Mr.refl _) | (with_reducible apply Mr.drew) | (with_reducible apply Mr.alloc) | (with_reducible apply Mr.ext) | (with_reducible refine Mr.setCell ?_ (by first | (simp; done) | (simp; omega) | omega) _))); done)) _)))⟩
  · have V2 : Hid (qv a b = -cl (mg (ab a) (ab b) true) ∧ qb a b = (co (mg (ab a) (ab b) true) || co a || co b)) := by
      constructor
      · unfold qv; rw [if_neg h, hr, if_pos rfl]
      · unfold qb; rw [if_neg h, hr]
    rw [hr] at key
    have k2 := key.symm
    have c2 : cl (cl (mg (ab a) (ab b) true)) = cl (mg (ab a) (ab b) true) := (cl_in (cl_bd _).1 (cl_bd _).2).1
    clear key h
    cases hc : co (mg (ab a) (ab b) true)
    all_goals
      go_enter Try.func17, Try.ntmps17; go_wp2_with (first | (go_at_call 34; refine (abs_c _ _).mono ?_; rintro e w' ⟨rfl, rfl⟩) | (go_at_call 33; refine (osizes_c _ _ _ _ ?_ ?_ ?_ ?_).mono ?_; omega; omega; omega; omega; rintro e w' ⟨rfl, x, rfl⟩) | (go_at_call 35; refine (neg_c _ _).mono ?_; rintro e w' ⟨rfl, rfl⟩) | (go_at_call 36; refine (clamped_c _ _ _).mono ?_; rintro e w' ⟨rfl, rfl⟩))
      go_ret2
      exact ⟨ret_ib V2.out.1.symm (by rw [V2.out.2, hc]; simp), Mr.mk' (by repeat (first | (with_reducible exact Mr.refl _) | (with_reducible apply Mr.drew) | (with_reducible apply Mr.alloc) | (with_reducible apply Mr.ext) | (with_reducible refine Mr.setCell ?_ (by first | (simp; done) | (simp; omega) | omega | (refine leOf0 ?_; (repeat (first | (with_reducible exact Mr.refl _) | (with_reducible apply Mr.drew) | (with_reducible apply Mr.alloc) | (with_reducible apply Mr.ext) | (with_reducible refine Mr.setCell ?_ (by first | (simp; done) | (simp; omega) | omega) _))); done) | (refine leOf ?_; (repeat (first | (with_reducible exact Mr.refl _) | (with_reducible apply Mr.drew) | (with_reducible apply Mr.alloc) | (with_reducible apply Mr.ext) | (with_reducible refine Mr.setCell ?_ (by first | (simp; done) | (simp; omega) | omega) _))); done)) _)))⟩
theorem over_c (a b : Int) (w : World) :
    Calls Try.prog 17 #[.int .i64 a, .int .i64 b] w fun e w' => e = .returned (.tuple #[.int .i64 (qv a b), .bool (qb a b)]) ∧ ∃ x : Ext w, w' = x.u := by
  by_cases h : b = 0
  · subst h; exact over0_c a w
  · exact over1_c a b w h
end Sc
end Go.Proofs.Ytpammdogkkipbaa
