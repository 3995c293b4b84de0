/- The contracts of the document's own answers of layer 3, second part: quotients. -/
import Derived.Test.YtpammdogkkipbaaRefC6
namespace Go.Proofs.Ytpammdogkkipbaa
open Go.ChangeShapes Go.WideShapes Go.ChangeAt Go.RowKit
open Go.Proofs.Ytpammdogkkipbaa.Fx Go.Proofs.Ytpammdogkkipbaa.Wd Go.Proofs.Ytpammdogkkipbaa.Dv
set_option linter.unusedVariables false
attribute [local go_sem] Ext.cell Ext.froz Ext.lt Ext.lt1 Ext.lt2 Ext.lt3 Ext.all Ext.set_u drew_heap setCell_size Ext.set_size
namespace Sc
attribute [local go_sem ↓] eq_wide eqw_self
attribute [local go_sem] and62 and1 sgn64
set_option maxHeartbeats 1000000 in
theorem divide_c (x y : Int) (w : World) (h0 : 0 ≤ x) (h1 : x ≤ 288230376151711744) (hy : 0 < y) (hy1 : y ≤ 288230376151711744) :
    Calls Try.prog 69 #[.int .i64 x, .int .i64 y] w fun e w' => ∃ Q : Int, Qi Q (x * 4294967296 / y) ∧ e = .returned (.tuple #[.int .i64 Q, .int .i64 (x * 4294967296 % y)]) ∧ w' = w := by
  have T0 : Hid (Tz x 91 = 0) := Tz_top h0 h1
  go_enter Try.func69, Try.ntmps69
  go_wp2
  go_loop [6, 7, 8] (fun q r i => ∃ (j : Nat) (I0 Q R : Int), j ≤ 91 ∧ I0 = (j : Int) - 1 ∧ i = .int .i64 I0 ∧ q = .int .i64 Q ∧ r = .int .i64 R ∧ Qi Q (Tz x j / y) ∧ Hid (R = Tz x j % y)) (fun _ _ i => (intOf i + 1).toNat)
  case atStart => exact ⟨91, 90, 0, 0, by omega, by omega, rfl, rfl, rfl, by rw [T0.out]; simp [Qi], by rw [Hid, T0.out]; simp⟩
  case round =>
    obtain ⟨j, I0, Q, R, hj, hi0, rfl, rfl, rfl, I, HR⟩ := hrel
    cases j with
    | zero =>
      have hz : I0 < 0 := by omega
      clear hi0 hj
      rw [Tz_zero] at I HR
      have HI : Hid (Qi Q (x * 4294967296 / y)) := I
      clear I
      go_wp2
      go_ret2
      exact ⟨Q, HI.out, by rw [← HR.out]; rfl, rfl⟩
    | succ k =>
      obtain rfl : I0 = (k : Int) := by omega
      clear hi0
      have d := digit (Tz_nn h0 k) hy
      rw [← Tz_half, ← HR.out] at d
      have b0 := Int.emod_nonneg (Tz x (k + 1)) (show y ≠ 0 by omega)
      have b1 := Int.emod_lt_of_pos (Tz x (k + 1)) hy
      rw [← HR.out] at b0 b1
      have q0 := I.1
      have q1 := I.2.1
      have D : Hid ((y ≤ 2 * R + Tz x k % 2 → Tz x k / y = 2 * (Tz x (k + 1) / y) + 1 ∧ Tz x k % y = 2 * R + Tz x k % 2 - y) ∧ (2 * R + Tz x k % 2 < y → Tz x k / y = 2 * (Tz x (k + 1) / y) ∧ Tz x k % y = 2 * R + Tz x k % 2)) := d
      clear d
      have J1 : Hid (Qi (min (2 * Q) 576460752303423488 + 1) (2 * (Tz x (k + 1) / y) + 1)) := Qi_step I (by omega) (by omega)
      have J0 : Hid (Qi (min (2 * Q) 576460752303423488) (2 * (Tz x (k + 1) / y))) := by rw [Hid]; have := Qi_step (e := 0) I (by omega) (by omega); simpa using this
      clear I HR
      by_cases hk : 32 ≤ k
      · have s1 : x / 2 ^ (k - 32) = Tz x k := (Tz_hi x hk).symm
        have s2 : ((k : Int) - 32).toNat = k - 32 := by omega
        have s3 : min (k - 32) 64 = k - 32 := by omega
        have s4 : (32 : Int) ≤ k := by omega
        generalize hT : Tz x k % 2 = B at *
        have B0 : 0 ≤ B ∧ B ≤ 1 := by omega
        by_cases c : y ≤ 2 * R + B
        · obtain ⟨d1, d2⟩ := D.out.1 c
          have D1 : Hid (Tz x k / y = 2 * (Tz x (k + 1) / y) + 1) := d1
          have D2 : Hid (Tz x k % y = 2 * R + B - y) := d2
          clear d1 d2 D
          go_wp2
          all_goals
            go_round
            case rel => exact ⟨k, (k : Int) - 1, min (2 * Q) 576460752303423488 + 1, 2 * R + B - y, by omega, rfl, rfl, by first | rfl | go_num, rfl, by rw [D1.out]; exact J1.out, by rw [Hid, D2.out]⟩
            case measure => first | (simp [intOf]; done) | (simp [intOf]; omega)
        · obtain ⟨d1, d2⟩ := D.out.2 (by omega)
          have D1 : Hid (Tz x k / y = 2 * (Tz x (k + 1) / y)) := d1
          have D2 : Hid (Tz x k % y = 2 * R + B) := d2
          clear d1 d2 D
          go_wp2
          all_goals
            go_round
            case rel => exact ⟨k, (k : Int) - 1, min (2 * Q) 576460752303423488, 2 * R + B, by omega, rfl, rfl, by first | rfl | go_num, rfl, by rw [D1.out]; exact J0.out, by rw [Hid, D2.out]⟩
            case measure => first | (simp [intOf]; done) | (simp [intOf]; omega)
      · have s1 : Tz x k % 2 = 0 := Tz_lo x (by omega)
        have s4 : (k : Int) < 32 := by omega
        rw [s1, Int.add_zero] at D
        by_cases c : y ≤ 2 * R
        · obtain ⟨d1, d2⟩ := D.out.1 c
          have D1 : Hid (Tz x k / y = 2 * (Tz x (k + 1) / y) + 1) := d1
          have D2 : Hid (Tz x k % y = 2 * R - y) := d2
          clear d1 d2 D
          go_wp2
          all_goals
            go_round
            case rel => exact ⟨k, (k : Int) - 1, min (2 * Q) 576460752303423488 + 1, 2 * R - y, by omega, rfl, rfl, by first | rfl | go_num, rfl, by rw [D1.out]; exact J1.out, by rw [Hid, D2.out]⟩
            case measure => first | (simp [intOf]; done) | (simp [intOf]; omega)
        · obtain ⟨d1, d2⟩ := D.out.2 (by omega)
          have D1 : Hid (Tz x k / y = 2 * (Tz x (k + 1) / y)) := d1
          have D2 : Hid (Tz x k % y = 2 * R) := d2
          clear d1 d2 D
          go_wp2
          all_goals
            go_round
            case rel => exact ⟨k, (k : Int) - 1, min (2 * Q) 576460752303423488, 2 * R, by omega, rfl, rfl, by first | rfl | go_num, rfl, by rw [D1.out]; exact J0.out, by rw [Hid, D2.out]⟩
            case measure => first | (simp [intOf]; done) | (simp [intOf]; omega)
end Sc
end Go.Proofs.Ytpammdogkkipbaa
