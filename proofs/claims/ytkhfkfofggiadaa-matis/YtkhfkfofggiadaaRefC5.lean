/- The contracts of the document's own answers of layer 2, fourth part. -/
import Derived.Test.YtkhfkfofggiadaaRefC4
namespace Go.Proofs.Ytkhfkfofggiadaa
open Go.ChangeShapes Go.WideShapes Go.ChangeAt Go.RowKit
open Go.Proofs.Ytkhfkfofggiadaa.Fx
set_option linter.unusedVariables false
attribute [local go_sem] Ext.cell Ext.froz Ext.lt Ext.lt1 Ext.lt2 Ext.lt3 Ext.all Ext.set_u drew_heap setCell_size Ext.set_size
namespace Wd
attribute [local go_sem ↓] eq_wide eqw_self
attribute [local go_sem] and62 and1 sgn64
theorem half_math (z : Int) : hi (z / 2) = hi z / 2 ∧ lo (z / 2) = lo z / 2 + hi z % 2 * 2305843009213693952 := by unfold hi lo; omega
theorem half_pow (a : Int) (j : Nat) : a / 2 ^ j / 2 = a / 2 ^ (j + 1) := by
  rw [Int.pow_succ, Int.ediv_ediv_of_nonneg (Int.le_of_lt (Int.pow_pos (by decide)))]
theorem inr_div {a : Int} {j : Nat} (h : inr a = true) : inr (a / 2 ^ j) = true := by
  rw [inr_iff] at h ⊢
  have := div_pow_bd (T := 10633823966279326983230456482242756607) (H := a) (by omega) (by omega) (by omega) j
  omega
set_option maxHeartbeats 2000000 in
set_option maxRecDepth 100000 in
theorem rdown2_c (p q k : Int) (w : World) :
    Calls Try.prog 72 #[.agg #[.int .i64 p, .int .i64 q], .int .i64 k] w fun e w' => e = .returned (.agg #[.int .i64 (hi (dn (vw p q) k)), .int .i64 (lo (dn (vw p q) k))]) ∧ ∃ x : Ext w, w' = x.u := by
  have ha := vw_inr p q
  generalize hg : vw p q = a at *
  have s0 : Hid (a / 2 ^ 0 = a) := by rw [Hid]; simp
  rcases Int.lt_or_le 200 k with h2 | h2
  rotate_left
  · go_enter Try.func72, Try.ntmps72
    go_wp2_with (go_at_call 81; refine (ras2_c _ _ _).mono ?_; rintro e w' ⟨rfl, x, rfl⟩)
    go_loopw [6] (fun i wr => ∃ j : Nat, (j : Int) ≤ max k 0 ∧ i = .int .i64 j ∧ wr = x.u.alloc (.cells #[.int .i64 (hi (a / 2 ^ j)), .int .i64 (lo (a / 2 ^ j))] 53)) (fun i _ => (200 - intOf i).toNat)
    case atStart => exact ⟨0, by omega, rfl, by rw [s0.out]⟩
    case round =>
      obtain ⟨j, hj, rfl, rfl⟩ := hrel
      have zi := hi_bd (inr_div (j := j) ha)
      have zl := lo_bd (a / 2 ^ j)
      obtain ⟨n1, n2⟩ := half_math (a / 2 ^ j)
      rw [half_pow] at n1 n2
      have N1 : Hid (hi (a / 2 ^ (j + 1)) = hi (a / 2 ^ j) / 2) := n1
      have N2 : Hid (lo (a / 2 ^ (j + 1)) = lo (a / 2 ^ j) / 2 + hi (a / 2 ^ j) % 2 * 2305843009213693952) := n2
      clear n1 n2
      generalize hp : hi (a / 2 ^ j) = P at *
      generalize hq : lo (a / 2 ^ j) = Q at *
      by_cases hlt : (j : Int) < k
      · go_wp2
        go_roundw
        case rel => exact ⟨j + 1, by omega, by go_num, by rw [N1.out, N2.out]⟩
        case measure => simp [intOf]; omega
      · go_wp2
        have E : Hid (dn a k = a / 2 ^ j) := dn_low a k j (by omega)
        exact bodyPost_ret (v := .agg #[.int .i64 P, .int .i64 Q]) (by simp [results, Try.results72, go_sem]) rfl ⟨by rw [E.out, hp, hq], Mr.mk' (by repeat (first | (with_reducible exact Mr.refl _) | (with_reducible apply Mr.drew) | (with_reducible apply Mr.alloc) | (with_reducible apply Mr.ext) | (with_reducible refine Mr.setCell ?_ (by first | (simp; done) | (simp; omega) | omega | (refine leOf0 ?_; (repeat (first | (with_reducible exact Mr.refl _) | (with_reducible apply Mr.drew) | (with_reducible apply Mr.alloc) | (with_reducible apply Mr.ext) | (with_reducible refine Mr.setCell ?_ (by first | (simp; done) | (simp; omega) | omega) _))); done) | (refine leOf ?_; (repeat (first | (with_reducible exact Mr.refl _) | (with_reducible apply Mr.drew) | (with_reducible apply Mr.alloc) | (with_reducible apply Mr.ext) | (with_reducible refine Mr.setCell ?_ (by first | (simp; done) | (simp; omega) | omega) _))); done)) _)))⟩
  · go_enter Try.func72, Try.ntmps72
    go_wp2_with (go_at_call 81; refine (ras2_c _ _ _).mono ?_; rintro e w' ⟨rfl, x, rfl⟩)
    go_loopw [6] (fun i wr => ∃ j : Nat, (j : Int) ≤ 200 ∧ i = .int .i64 j ∧ wr = x.u.alloc (.cells #[.int .i64 (hi (a / 2 ^ j)), .int .i64 (lo (a / 2 ^ j))] 53)) (fun i _ => (200 - intOf i).toNat)
    case atStart => exact ⟨0, by omega, rfl, by rw [s0.out]⟩
    case round =>
      obtain ⟨j, hj, rfl, rfl⟩ := hrel
      have zi := hi_bd (inr_div (j := j) ha)
      have zl := lo_bd (a / 2 ^ j)
      obtain ⟨n1, n2⟩ := half_math (a / 2 ^ j)
      rw [half_pow] at n1 n2
      have N1 : Hid (hi (a / 2 ^ (j + 1)) = hi (a / 2 ^ j) / 2) := n1
      have N2 : Hid (lo (a / 2 ^ (j + 1)) = lo (a / 2 ^ j) / 2 + hi (a / 2 ^ j) % 2 * 2305843009213693952) := n2
      clear n1 n2
      generalize hp : hi (a / 2 ^ j) = P at *
      generalize hq : lo (a / 2 ^ j) = Q at *
      by_cases hlt : (j : Int) < 200
      · go_wp2
        go_roundw
        case rel => exact ⟨j + 1, by omega, by go_num, by rw [N1.out, N2.out]⟩
        case measure => simp [intOf]; omega
      · go_wp2
        have E : Hid (dn a k = a / 2 ^ j) := dn_low a k j (by omega)
        exact bodyPost_ret (v := .agg #[.int .i64 P, .int .i64 Q]) (by simp [results, Try.results72, go_sem]) rfl ⟨by rw [E.out, hp, hq], Mr.mk' (by repeat (first | (with_reducible exact Mr.refl _) | (with_reducible apply Mr.drew) | (with_reducible apply Mr.alloc) | (with_reducible apply Mr.ext) | (with_reducible refine Mr.setCell ?_ (by first | (simp; done) | (simp; omega) | omega | (refine leOf0 ?_; (repeat (first | (with_reducible exact Mr.refl _) | (with_reducible apply Mr.drew) | (with_reducible apply Mr.alloc) | (with_reducible apply Mr.ext) | (with_reducible refine Mr.setCell ?_ (by first | (simp; done) | (simp; omega) | omega) _))); done) | (refine leOf ?_; (repeat (first | (with_reducible exact Mr.refl _) | (with_reducible apply Mr.drew) | (with_reducible apply Mr.alloc) | (with_reducible apply Mr.ext) | (with_reducible refine Mr.setCell ?_ (by first | (simp; done) | (simp; omega) | omega) _))); done)) _)))⟩
end Wd
end Go.Proofs.Ytkhfkfofggiadaa
