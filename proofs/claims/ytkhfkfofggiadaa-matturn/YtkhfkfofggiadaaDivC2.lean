/- The contract of math/bits.Div64: the quotient and the rest of two words by one. -/
import Derived.Test.YtkhfkfofggiadaaDivC
namespace Go.Proofs.Ytkhfkfofggiadaa
open Go.ChangeShapes Go.WideShapes Go.ChangeAt Go.RowKit
open Go.Proofs.Ytkhfkfofggiadaa.Wd
set_option linter.unusedVariables false
namespace Dv
theorem and32u' (n : Int) : bits .and .u64 n 4294967295 = n % 4294967296 := andu 32 (by decide) n
attribute [local go_sem] and32u'
theorem start_math (h l y : Int) (s : Nat) (h0 : 0 < h) (hl0 : 0 ≤ l) (hl : l < 18446744073709551616) (hy : h < y) (hs : s ≤ 63) (hy1 : 9223372036854775808 ≤ y * 2 ^ s) (hy2 : y * 2 ^ s < 18446744073709551616) :
    ∃ U L u v : Int, bits .or .u64 (IntKind.u64.wrap (h * 2 ^ s)) (l / 2 ^ (64 - s)) = U ∧ IntKind.u64.wrap (l * 2 ^ s) = L ∧ y * 2 ^ s / 4294967296 = u ∧ y * 2 ^ s % 4294967296 = v ∧
      Hid (y * 2 ^ s = u * 4294967296 + v) ∧ Hid (U * 18446744073709551616 + L = (h * 18446744073709551616 + l) * 2 ^ s) ∧ 0 ≤ U ∧ U < u * 4294967296 + v ∧ 0 ≤ L ∧ L < 18446744073709551616 ∧ 2147483648 ≤ u ∧ u < 4294967296 ∧ 0 ≤ v ∧ v < 4294967296 := by
  have hp : (0 : Int) < 2 ^ s := Int.pow_pos (by decide)
  have hq : (0 : Int) < 2 ^ (64 - s) := Int.pow_pos (by decide)
  have e64 : (2 : Int) ^ (64 - s) * 2 ^ s = 18446744073709551616 := by
    rw [← Int.pow_add, show 64 - s + s = 64 by omega]; decide
  have a1 : h * 2 ^ s + 2 ^ s ≤ y * 2 ^ s := by
    have : (h + 1) * 2 ^ s ≤ y * 2 ^ s := Int.mul_le_mul_of_nonneg_right (by omega) (Int.le_of_lt hp)
    rw [Int.add_mul, Int.one_mul] at this; exact this
  have a0 : 0 ≤ h * 2 ^ s := Int.mul_nonneg (by omega) (Int.le_of_lt hp)
  have b0 : 0 ≤ l / 2 ^ (64 - s) := Int.ediv_nonneg hl0 (Int.le_of_lt hq)
  have b1 : l / 2 ^ (64 - s) < 2 ^ s := by
    apply Int.ediv_lt_of_lt_mul hq
    rw [Int.mul_comm, e64]; exact hl
  have c1 : l * 2 ^ s / 18446744073709551616 = l / 2 ^ (64 - s) := by
    rw [← e64]; exact Int.mul_ediv_mul_of_pos_left _ _ hp
  have m0 : h * 2 ^ s % 2 ^ s = 0 := Int.mul_emod_left _ _
  have hsum : (h * 18446744073709551616 + l) * 2 ^ s = h * 2 ^ s * 18446744073709551616 + l * 2 ^ s := by grind
  have w1 : IntKind.u64.wrap (h * 2 ^ s) = h * 2 ^ s := by
    rw [IntKind.wrap_u64]
    generalize h * 2 ^ s = A at *
    generalize y * 2 ^ s = Y at *
    generalize (2 : Int) ^ s = p at *
    omega
  have o1 : bits .or .u64 (h * 2 ^ s) (l / 2 ^ (64 - s)) = h * 2 ^ s + l / 2 ^ (64 - s) := by
    refine oru s _ _ a0 m0 ?_ b0 b1 ?_
    · generalize h * 2 ^ s = A at *
      generalize y * 2 ^ s = Y at *
      generalize (2 : Int) ^ s = p at *
      omega
    · generalize l / 2 ^ (64 - s) = A at *
      generalize h * 2 ^ s = H at *
      generalize y * 2 ^ s = Y at *
      generalize (2 : Int) ^ s = p at *
      omega
  refine ⟨h * 2 ^ s + l / 2 ^ (64 - s), l * 2 ^ s % 18446744073709551616, _, _, by rw [w1, o1], by rw [IntKind.wrap_u64], rfl, rfl, ?_⟩
  rw [Hid, Hid, hsum]
  generalize l / 2 ^ (64 - s) = A at *
  generalize l * 2 ^ s = B at *
  generalize h * 2 ^ s = H at *
  generalize y * 2 ^ s = Y at *
  generalize (2 : Int) ^ s = p at *
  omega
theorem mul_bd {a v : Int} (h0 : 0 ≤ a) (h1 : a ≤ 4294967295) (h2 : 0 ≤ v) (h3 : v < 4294967296) : 0 ≤ a * v ∧ a * v ≤ 18446744065119617025 :=
  ⟨Int.mul_nonneg h0 h2, Int.mul_le_mul (c := 4294967295) (d := 4294967295) h1 (by omega) h2 (by omega)⟩
theorem ret_uu {a b c d : Int} (h : a = c) (g : b = d) : Ending.returned (.tuple #[.int .u64 a, .int .u64 b]) = .returned (.tuple #[.int .u64 c, .int .u64 d]) := by rw [h, g]
/-- What the loop leaves. -/
def Left (U D u v Q : Int) : Prop := Q * (u * 4294967296 + v) ≤ U * 4294967296 + D ∧ U * 4294967296 + D < Q * (u * 4294967296 + v) + (u * 4294967296 + v)
theorem left_bd {U D u v Q : Int} (h : Left U D u v Q) (hU0 : 0 ≤ U) (hU : U < u * 4294967296 + v) (hD0 : 0 ≤ D) (hD : D < 4294967296) : 0 ≤ Q ∧ Q ≤ 4294967295 := by
  obtain ⟨h1, h2⟩ := h
  have hy : 0 < u * 4294967296 + v := by omega
  generalize u * 4294967296 + v = Y at *
  constructor
  · rcases Int.lt_or_le Q 0 with c | c
    · have : (Q + 1) * Y ≤ 0 * Y := Int.mul_le_mul_of_nonneg_right (by omega) (by omega)
      rw [Int.add_mul] at this; omega
    · exact c
  · rcases Int.lt_or_le 4294967295 Q with c | c
    · have : 4294967296 * Y ≤ Q * Y := Int.mul_le_mul_of_nonneg_right (by omega) (by omega)
      omega
    · exact c
theorem wr3 {A D B V : Int} (h : A + D - B = V) (h0 : 0 ≤ V) (h1 : V < 18446744073709551616) : IntKind.u64.wrap (IntKind.u64.wrap (IntKind.u64.wrap A + D) - IntKind.u64.wrap B) = V := by
  simp only [IntKind.wrap_u64]; omega
set_option maxHeartbeats 1000000 in
theorem div64_c (h l y : Int) (w : World) (h0 : 0 < h) (hl0 : 0 ≤ l) (hl : l < 18446744073709551616) (hy : h < y) (hy1 : y < 18446744073709551616) :
    Calls Try.prog 96 #[.int .u64 h, .int .u64 l, .int .u64 y] w fun e w' => e = .returned (.tuple #[.int .u64 ((h * 18446744073709551616 + l) / y), .int .u64 ((h * 18446744073709551616 + l) % y)]) ∧ w' = w := by
  go_enter Try.func96, Try.ntmps96
  go_upto_block 0 with (go_at_call 98; refine (lz_c _ _ ?_ ?_).mono ?_; omega; omega; rintro e w' ⟨s, hs, hy1, hy2, rfl, rfl⟩; obtain ⟨U, L, u, v, g1, g2, g3, g4, G5, G6, g7, g8, g9, g10, g11, g12, g13, g14⟩ := start_math h l y s h0 hl0 hl hy hs hy1 hy2; obtain ⟨I1, g15, g16, g17, g18, g19, g20⟩ := inv_start (D := L / 4294967296) g7 g8 (by omega) (by omega) g11 g12 g13 g14)
  go_cut [15, 16] (fun q r wx => w' = wx ∧ ∃ Q R : Int, q = .int .u64 Q ∧ r = .int .u64 R ∧ 0 ≤ Q ∧ Q ≤ 4294967295 ∧ Left U (L / 4294967296) u v Q)
  case first =>
    have d0 : 0 ≤ L / 4294967296 := by omega
    have d1 : L / 4294967296 < 4294967296 := by omega
    generalize hD : L / 4294967296 = D at *
    go_wp2_with fail
    go_loop [15, 16] (fun q r => ∃ a b : Int, q = .int .u64 a ∧ r = .int .u64 b ∧ 0 ≤ a ∧ a ≤ 4294967297 ∧ 0 ≤ b ∧ b < 4294967296 ∧ Inv U D u v a b) (fun q _ => (intOf q).toNat)
    case atStart => exact ⟨_, _, rfl, rfl, g17, g18, g16, g15, I1⟩
    case round =>
      obtain ⟨a, b, rfl, rfl, a0, a1, b0, b1, I⟩ := hrel
      by_cases c : 4294967296 ≤ a ∨ 4294967296 * b + D < a * v
      · obtain ⟨J, a2⟩ := inv_step I g8 d1 d0 g11 g13 c
        by_cases c1 : 4294967296 ≤ a
        · by_cases c2 : 4294967296 ≤ b + u
          · have E := inv_end J d1 d0 g13 g14 (.inr ⟨c2, by omega⟩)
            go_wp2
            go_meet
            have F := left_bd E g7 g8 d0 d1
            exact ⟨rfl, _, _, rfl, rfl, F.1, F.2, E⟩
          · go_wp2
            go_round
            case rel => exact ⟨_, _, rfl, rfl, by omega, by omega, by omega, by omega, J⟩
            case measure => simp [intOf]; omega
        · have c3 : 4294967296 * b + D < a * v := by omega
          obtain ⟨m0, m1⟩ := mul_bd a0 (by omega) g13 g14
          by_cases c2 : 4294967296 ≤ b + u
          · have E := inv_end J d1 d0 g13 g14 (.inr ⟨c2, by omega⟩)
            go_wp2
            go_meet
            have F := left_bd E g7 g8 d0 d1
            exact ⟨rfl, _, _, rfl, rfl, F.1, F.2, E⟩
          · go_wp2
            go_round
            case rel => exact ⟨_, _, rfl, rfl, by omega, by omega, by omega, by omega, J⟩
            case measure => simp [intOf]; omega
      · have c1 : a < 4294967296 := by omega
        have c3 : a * v ≤ 4294967296 * b + D := by omega
        obtain ⟨m0, m1⟩ := mul_bd a0 (by omega) g13 g14
        have E := inv_end I d1 d0 g13 g14 (.inl c3)
        clear c
        go_wp2
        go_meet
        have F := left_bd E g7 g8 d0 d1
        exact ⟨rfl, _, _, rfl, rfl, F.1, F.2, E⟩
  case rest =>
    obtain ⟨rfl, Q, R, rfl, rfl, b1, b2, HQ⟩ := hcut
    have K : ∃ V : Int, IntKind.u64.wrap (IntKind.u64.wrap (IntKind.u64.wrap (U * 4294967296) + L / 4294967296) - IntKind.u64.wrap (Q * (y * 2 ^ s))) = V ∧ 0 ≤ V ∧ V < u * 4294967296 + v ∧ Hid (U * 4294967296 + L / 4294967296 - Q * (y * 2 ^ s) = V) := by
      obtain ⟨k1, k2⟩ := HQ
      rw [G5.out]
      refine ⟨_, wr3 rfl ?_ ?_, ?_, ?_, rfl⟩ <;> omega
    obtain ⟨V, k1, k2, k3, K4⟩ := K
    clear I1 g15 g16 g17 g18 g19 g20
    obtain ⟨I1, g15, g16, g17, g18, g19, g20⟩ := inv_start (D := L % 4294967296) k2 k3 (by omega) (by omega) g11 g12 g13 g14
    go_upto_block 2 with fail
    go_cut [16, 18] (fun r q wx => w' = wx ∧ ∃ Q R : Int, q = .int .u64 Q ∧ r = .int .u64 R ∧ 0 ≤ Q ∧ Q ≤ 4294967295 ∧ Left V (L % 4294967296) u v Q)
    case first =>
      have d0 : 0 ≤ L % 4294967296 := by omega
      have d1 : L % 4294967296 < 4294967296 := by omega
      generalize hD : L % 4294967296 = D at *
      go_wp2_with fail
      go_loop [16, 18] (fun r q => ∃ a b : Int, q = .int .u64 a ∧ r = .int .u64 b ∧ 0 ≤ a ∧ a ≤ 4294967297 ∧ 0 ≤ b ∧ b < 4294967296 ∧ Inv V D u v a b) (fun _ q => (intOf q).toNat)
      case atStart => exact ⟨_, _, rfl, rfl, g17, g18, g16, g15, I1⟩
      case round =>
        obtain ⟨a, b, rfl, rfl, a0, a1, b0, b1, I⟩ := hrel
        by_cases c : 4294967296 ≤ a ∨ 4294967296 * b + D < a * v
        · obtain ⟨J, a2⟩ := inv_step I k3 d1 d0 g11 g13 c
          by_cases c1 : 4294967296 ≤ a
          · by_cases c2 : 4294967296 ≤ b + u
            · have E := inv_end J d1 d0 g13 g14 (.inr ⟨c2, by omega⟩)
              go_wp2
              go_meet
              have F := left_bd E k2 k3 d0 d1
              exact ⟨rfl, _, _, rfl, rfl, F.1, F.2, E⟩
            · go_wp2
              go_round
              case rel => exact ⟨_, _, rfl, rfl, by omega, by omega, by omega, by omega, J⟩
              case measure => simp [intOf]; omega
          · have c3 : 4294967296 * b + D < a * v := by omega
            obtain ⟨m0, m1⟩ := mul_bd a0 (by omega) g13 g14
            by_cases c2 : 4294967296 ≤ b + u
            · have E := inv_end J d1 d0 g13 g14 (.inr ⟨c2, by omega⟩)
              go_wp2
              go_meet
              have F := left_bd E k2 k3 d0 d1
              exact ⟨rfl, _, _, rfl, rfl, F.1, F.2, E⟩
            · go_wp2
              go_round
              case rel => exact ⟨_, _, rfl, rfl, by omega, by omega, by omega, by omega, J⟩
              case measure => simp [intOf]; omega
        · have c1 : a < 4294967296 := by omega
          have c3 : a * v ≤ 4294967296 * b + D := by omega
          obtain ⟨m0, m1⟩ := mul_bd a0 (by omega) g13 g14
          have E := inv_end I d1 d0 g13 g14 (.inl c3)
          clear c
          go_wp2
          go_meet
          have F := left_bd E k2 k3 d0 d1
          exact ⟨rfl, _, _, rfl, rfl, F.1, F.2, E⟩
    case rest =>
      obtain ⟨rfl, P, R2, rfl, rfl, p1, p2, HP⟩ := hcut
      have K2 : ∃ Z : Int, IntKind.u64.wrap (IntKind.u64.wrap (IntKind.u64.wrap (V * 4294967296) + L % 4294967296) - IntKind.u64.wrap (P * (y * 2 ^ s))) = Z ∧ 0 ≤ Z ∧ Z < u * 4294967296 + v ∧ Hid (Z / 2 ^ s = (h * 18446744073709551616 + l) % y) ∧ Hid (Q * 4294967296 + P = (h * 18446744073709551616 + l) / y) := by
        obtain ⟨k1, k2⟩ := HP
        obtain ⟨k3, k4⟩ := HQ
        have g5 := G5.out
        have k5 := K4.out
        rw [g5] at k5
        have t := two_digits (U := U) (un10 := L) (y := u * 4294967296 + v) (q1 := Q) (q0 := P) (by omega) (by omega) k3 k4 (by rw [k5]; exact k1) (by rw [k5]; exact k2)
        rw [k5, G6.out, ← g5] at t
        obtain ⟨t1, t2⟩ := t
        obtain ⟨s1, s2⟩ := scaled (h * 18446744073709551616 + l) y s
        rw [g5] at t2
        refine ⟨V * 4294967296 + L % 4294967296 - P * (y * 2 ^ s), wr3 rfl ?_ ?_, ?_, ?_, ?_, ?_⟩
        · rw [g5]; omega
        · rw [g5]; omega
        · rw [g5]; omega
        · rw [g5]; omega
        · rw [Hid, g5, t2, ← g5, s2]
        · rw [Hid, t1, s1]
      obtain ⟨Z, z1, z2, z3, Z4, Z5⟩ := K2
      go_wp2
      go_ret2
      exact ⟨ret_uu Z5.out Z4.out, rfl⟩
end Dv
end Go.Proofs.Ytkhfkfofggiadaa
