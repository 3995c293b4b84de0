/- The contracts of the document's own answers of layer 2. -/
import Derived.Test.YtkhfkfofggiadaaWideC3
import Derived.Test.YtkhfkfofggiadaaRefC1
namespace Go.Proofs.Ytkhfkfofggiadaa
open Go.ChangeShapes Go.WideShapes Go.ChangeAt Go.RowKit
open Go.Proofs.Ytkhfkfofggiadaa.Fx
set_option linter.unusedVariables false
attribute [local go_sem] Ext.cell Ext.froz Ext.lt Ext.lt1 Ext.lt2 Ext.lt3 Ext.all Ext.set_u drew_heap setCell_size Ext.set_size
namespace Wd
attribute [local go_sem ↓] eq_wide eqw_self
attribute [local go_sem] and62 and1 sgn64
theorem ret_b' {p q : Bool} (h : p = q) : Ending.returned (.bool p) = .returned (.bool q) := by rw [h]
theorem vw_any (z : Int) : vw (hi z) (lo z) = cut z := by
  cases h : inr z
  · rw [vw_nsn (sn_hlf h), cut_no h]
  · rw [vw_hl h, cut_of h]
set_option maxHeartbeats 400000 in
theorem rsane_c (p q : Int) (w : World) :
    Calls Try.prog 73 #[.agg #[.int .i64 p, .int .i64 q]] w fun e w' => e = .returned (.bool (sn p q)) ∧ ∃ x : Ext w, w' = x.u := by
  go_enter Try.func73, Try.ntmps73
  go_wp2
  all_goals
    go_ret
    refine ⟨ret_b' ?_, Mr.mk' (by repeat (first | (with_reducible exact Mr.refl _) | (with_reducible apply Mr.drew) | (with_reducible apply Mr.alloc) | (with_reducible apply Mr.ext) | (with_reducible refine Mr.setCell ?_ (by first | (simp; done) | (simp; omega) | omega | (refine leOf0 ?_; (repeat (first | (with_reducible exact Mr.refl _) | (with_reducible apply Mr.drew) | (with_reducible apply Mr.alloc) | (with_reducible apply Mr.ext) | (with_reducible refine Mr.setCell ?_ (by first | (simp; done) | (simp; omega) | omega) _))); done) | (refine leOf ?_; (repeat (first | (with_reducible exact Mr.refl _) | (with_reducible apply Mr.drew) | (with_reducible apply Mr.alloc) | (with_reducible apply Mr.ext) | (with_reducible refine Mr.setCell ?_ (by first | (simp; done) | (simp; omega) | omega) _))); done)) _)))⟩
    first | (unfold sn; simp; omega) | (rw [Bool.eq_iff_iff]; simp [sn]; omega)
set_option maxHeartbeats 400000 in
theorem ras2_c (p q : Int) (w : World) :
    Calls Try.prog 81 #[.agg #[.int .i64 p, .int .i64 q]] w fun e w' => e = .returned (.agg #[.int .i64 (hi (vw p q)), .int .i64 (lo (vw p q))]) ∧ ∃ x : Ext w, w' = x.u := by
  cases hs : sn p q
  · have h1 : vw p q = 0 := vw_nsn hs
    go_enter Try.func81, Try.ntmps81
    go_wp2_with (go_at_call 73; refine (rsane_c _ _ _).mono ?_; rintro e w' ⟨rfl, x, rfl⟩)
    exact bodyPost_ret (v := .agg #[.int .i64 (hi 0), .int .i64 (lo 0)]) (by simp [results, Try.results81, go_sem, hl_zero.1, hl_zero.2]) rfl ⟨by rw [h1], Mr.mk' (by repeat (first | (with_reducible exact Mr.refl _) | (with_reducible apply Mr.drew) | (with_reducible apply Mr.alloc) | (with_reducible apply Mr.ext) | (with_reducible refine Mr.setCell ?_ (by first | (simp; done) | (simp; omega) | omega | (refine leOf0 ?_; (repeat (first | (with_reducible exact Mr.refl _) | (with_reducible apply Mr.drew) | (with_reducible apply Mr.alloc) | (with_reducible apply Mr.ext) | (with_reducible refine Mr.setCell ?_ (by first | (simp; done) | (simp; omega) | omega) _))); done) | (refine leOf ?_; (repeat (first | (with_reducible exact Mr.refl _) | (with_reducible apply Mr.drew) | (with_reducible apply Mr.alloc) | (with_reducible apply Mr.ext) | (with_reducible refine Mr.setCell ?_ (by first | (simp; done) | (simp; omega) | omega) _))); done)) _)))⟩
  · have HD : Hid (p = hi (vw p q) ∧ q = lo (vw p q)) := hl_vw hs
    go_enter Try.func81, Try.ntmps81
    go_wp2_with (go_at_call 73; refine (rsane_c _ _ _).mono ?_; rintro e w' ⟨rfl, x, rfl⟩)
    exact bodyPost_ret (v := .agg #[.int .i64 (hi (vw p q)), .int .i64 (lo (vw p q))]) (by simp [results, Try.results81, go_sem]; exact HD.out) rfl ⟨rfl, Mr.mk' (by repeat (first | (with_reducible exact Mr.refl _) | (with_reducible apply Mr.drew) | (with_reducible apply Mr.alloc) | (with_reducible apply Mr.ext) | (with_reducible refine Mr.setCell ?_ (by first | (simp; done) | (simp; omega) | omega | (refine leOf0 ?_; (repeat (first | (with_reducible exact Mr.refl _) | (with_reducible apply Mr.drew) | (with_reducible apply Mr.alloc) | (with_reducible apply Mr.ext) | (with_reducible refine Mr.setCell ?_ (by first | (simp; done) | (simp; omega) | omega) _))); done) | (refine leOf ?_; (repeat (first | (with_reducible exact Mr.refl _) | (with_reducible apply Mr.drew) | (with_reducible apply Mr.alloc) | (with_reducible apply Mr.ext) | (with_reducible refine Mr.setCell ?_ (by first | (simp; done) | (simp; omega) | omega) _))); done)) _)))⟩
set_option maxHeartbeats 400000 in
theorem rof2_c (n : Int) (w : World) (hn : -9223372036854775808 ≤ n ∧ n ≤ 9223372036854775807) :
    Calls Try.prog 60 #[.int .i64 n] w fun e w' => e = .returned (.agg #[.int .i64 (hi n), .int .i64 (lo n)]) ∧ ∃ x : Ext w, w' = x.u := by
  obtain ⟨hn0, hn1⟩ := hn
  go_enter Try.func60, Try.ntmps60
  go_wp2
  go_loop [3, 4] (fun h l => ∃ a b : Int, h = .int .i64 a ∧ l = .int .i64 b ∧ a * 4611686018427387904 + b = n ∧ -3 ≤ a ∧ a ≤ 0 ∧ b ≤ 9223372036854775807 ∧ -9223372036854775808 ≤ b) (fun _ l => (4611686018427387904 - intOf l).toNat)
  case atStart => exact ⟨0, n, rfl, rfl, by omega, by omega, by omega, by omega, by omega⟩
  case round =>
    obtain ⟨a, b, rfl, rfl, hab, ha0, ha1, hb1, hb0⟩ := hrel
    have HA : Hid (a * 4611686018427387904 + b = n) := hab
    clear hab
    by_cases hb : b < 0
    · go_wp2
      go_round
      case rel => exact ⟨a - 1, b + 4611686018427387904, rfl, rfl, by have := HA.out; omega, by have := HA.out; omega, by omega, by omega, by omega⟩
      case measure => simp [intOf]; omega
    · go_wp2
      go_loop [3, 4] (fun h l => ∃ a b : Int, h = .int .i64 a ∧ l = .int .i64 b ∧ a * 4611686018427387904 + b = n ∧ -3 ≤ a ∧ a ≤ 3 ∧ b ≤ 9223372036854775807 ∧ 0 ≤ b) (fun _ l => (intOf l).toNat)
      case atStart => exact ⟨a, b, rfl, rfl, HA.out, by omega, by omega, by omega, by omega⟩
      case round =>
        obtain ⟨a, b, rfl, rfl, hab, ha0, ha1, hb1, hb0⟩ := hrel
        have HA : Hid (a * 4611686018427387904 + b = n) := hab
        clear hab
        by_cases hb : 4611686018427387904 ≤ b
        · go_wp2
          go_round
          case rel => exact ⟨a + 1, b - 4611686018427387904, rfl, rfl, by have := HA.out; omega, by omega, by have := HA.out; omega, by omega, by omega⟩
          case measure => simp [intOf]; omega
        · go_wp2
          exact bodyPost_ret (v := .agg #[.int .i64 a, .int .i64 b]) (by simp [results, Try.results60, go_sem]) rfl ⟨by rw [(uniq HA.out hb0 (by omega)).1, (uniq HA.out hb0 (by omega)).2], Mr.mk' (by repeat (first | (with_reducible exact Mr.refl _) | (with_reducible apply Mr.drew) | (with_reducible apply Mr.alloc) | (with_reducible apply Mr.ext) | (with_reducible refine Mr.setCell ?_ (by first | (simp; done) | (simp; omega) | omega | (refine leOf0 ?_; (repeat (first | (with_reducible exact Mr.refl _) | (with_reducible apply Mr.drew) | (with_reducible apply Mr.alloc) | (with_reducible apply Mr.ext) | (with_reducible refine Mr.setCell ?_ (by first | (simp; done) | (simp; omega) | omega) _))); done) | (refine leOf ?_; (repeat (first | (with_reducible exact Mr.refl _) | (with_reducible apply Mr.drew) | (with_reducible apply Mr.alloc) | (with_reducible apply Mr.ext) | (with_reducible refine Mr.setCell ?_ (by first | (simp; done) | (simp; omega) | omega) _))); done)) _)))⟩
theorem turn_math (a : Int) : (lo a = 0 → hi (-a) = -hi a ∧ lo (-a) = 0) ∧ (lo a ≠ 0 → hi (-a) = -hi a - 1 ∧ lo (-a) = 4611686018427387904 - lo a) := by
  unfold hi lo; omega
set_option maxHeartbeats 400000 in
theorem turn_c (a : Int) (w : World) (h : inr a = true) :
    Calls Try.prog 83 #[.agg #[.int .i64 (hi a), .int .i64 (lo a)]] w fun e w' => e = .returned (.agg #[.int .i64 (hi (-a)), .int .i64 (lo (-a))]) ∧ ∃ x : Ext w, w' = x.u := by
  have b1 := hi_bd h
  have b2 := lo_bd a
  have T : Hid ((lo a = 0 → hi (-a) = -hi a ∧ lo (-a) = 0) ∧ (lo a ≠ 0 → hi (-a) = -hi a - 1 ∧ lo (-a) = 4611686018427387904 - lo a)) := turn_math a
  by_cases h0 : lo a = 0
  · have T2 : Hid (hi (-a) = -hi a ∧ lo (-a) = 0) := T.out.1 h0
    have h1 : (lo a == 0) = true := by simp [h0]
    clear h0 T
    go_enter Try.func83, Try.ntmps83
    go_wp2
    exact bodyPost_ret (v := .agg #[.int .i64 (-hi a), .int .i64 0]) (by simp [results, Try.results83, go_sem]) rfl ⟨by rw [T2.out.1, T2.out.2], Mr.mk' (by repeat (first | (with_reducible exact Mr.refl _) | (with_reducible apply Mr.drew) | (with_reducible apply Mr.alloc) | (with_reducible apply Mr.ext) | (with_reducible refine Mr.setCell ?_ (by first | (simp; done) | (simp; omega) | omega | (refine leOf0 ?_; (repeat (first | (with_reducible exact Mr.refl _) | (with_reducible apply Mr.drew) | (with_reducible apply Mr.alloc) | (with_reducible apply Mr.ext) | (with_reducible refine Mr.setCell ?_ (by first | (simp; done) | (simp; omega) | omega) _))); done) | (refine leOf ?_; (repeat (first | (with_reducible exact Mr.refl _) | (with_reducible apply Mr.drew) | (with_reducible apply Mr.alloc) | (with_reducible apply Mr.ext) | (with_reducible refine Mr.setCell ?_ (by first | (simp; done) | (simp; omega) | omega) _))); done)) _)))⟩
  · have T2 : Hid (hi (-a) = -hi a - 1 ∧ lo (-a) = 4611686018427387904 - lo a) := T.out.2 h0
    have h1 : (lo a == 0) = false := by simp [h0]
    have h2 : 1 ≤ lo a := by omega
    clear h0 T
    go_enter Try.func83, Try.ntmps83
    go_wp2
    exact bodyPost_ret (v := .agg #[.int .i64 (-hi a - 1), .int .i64 (4611686018427387904 - lo a)]) (by simp [results, Try.results83, go_sem]) rfl ⟨by rw [T2.out.1, T2.out.2], Mr.mk' (by repeat (first | (with_reducible exact Mr.refl _) | (with_reducible apply Mr.drew) | (with_reducible apply Mr.alloc) | (with_reducible apply Mr.ext) | (with_reducible refine Mr.setCell ?_ (by first | (simp; done) | (simp; omega) | omega | (refine leOf0 ?_; (repeat (first | (with_reducible exact Mr.refl _) | (with_reducible apply Mr.drew) | (with_reducible apply Mr.alloc) | (with_reducible apply Mr.ext) | (with_reducible refine Mr.setCell ?_ (by first | (simp; done) | (simp; omega) | omega) _))); done) | (refine leOf ?_; (repeat (first | (with_reducible exact Mr.refl _) | (with_reducible apply Mr.drew) | (with_reducible apply Mr.alloc) | (with_reducible apply Mr.ext) | (with_reducible refine Mr.setCell ?_ (by first | (simp; done) | (simp; omega) | omega) _))); done)) _)))⟩
set_option maxHeartbeats 1000000 in
theorem radd2_c (p q r s : Int) (w : World) :
    Calls Try.prog 59 #[.agg #[.int .i64 p, .int .i64 q], .agg #[.int .i64 r, .int .i64 s]] w fun e w' => e = .returned (.tuple #[.agg #[.int .i64 (hi (cut (vw p q + vw r s))), .int .i64 (lo (cut (vw p q + vw r s)))], .bool (inr (vw p q + vw r s))]) ∧ ∃ x : Ext w, w' = x.u := by
  have ha := vw_inr p q
  have hb := vw_inr r s
  generalize hg : vw p q = a at *
  generalize hg2 : vw r s = b at *
  have b1 := hi_bd ha
  have b2 := hi_bd hb
  have b3 := lo_bd a
  have b4 := lo_bd b
  have e1 := hi_lo a
  have e2 := hi_lo b
  have hs := sn_hl_eq (a + b)
  by_cases hc : 4611686018427387904 ≤ lo a + lo b
  · obtain ⟨u1, u2⟩ := uniq (p := hi a + hi b + 1) (q := lo a + lo b - 4611686018427387904) (z := a + b) (by omega) (by omega) (by omega)
    rw [← u1, ← u2] at hs
    have U : Hid (hi (a + b) = hi a + hi b + 1 ∧ lo (a + b) = lo a + lo b - 4611686018427387904) := ⟨u1.symm, u2.symm⟩
    clear ha hb e1 e2 u1 u2
    cases hi0 : inr (a + b)
    all_goals
      rw [hi0] at hs
      go_enter Try.func59, Try.ntmps59
      go_wp2_with (first | (go_at_call 81; refine (ras2_c _ _ _).mono ?_; rintro e w' ⟨rfl, x, rfl⟩) | (go_at_call 73; refine (rsane_c _ _ _).mono ?_; rintro e w' ⟨rfl, x, rfl⟩))
    · exact bodyPost_ret (v := .tuple #[.agg #[.int .i64 0, .int .i64 0], .bool false]) (by simp [results, Try.results59, go_sem]) rfl ⟨by rw [cut_no hi0, hl_zero.1, hl_zero.2], Mr.mk' (by repeat (first | (with_reducible exact Mr.refl _) | (with_reducible apply Mr.drew) | (with_reducible apply Mr.alloc) | (with_reducible apply Mr.ext) | (with_reducible refine Mr.setCell ?_ (by first | (simp; done) | (simp; omega) | omega | (refine leOf0 ?_; (repeat (first | (with_reducible exact Mr.refl _) | (with_reducible apply Mr.drew) | (with_reducible apply Mr.alloc) | (with_reducible apply Mr.ext) | (with_reducible refine Mr.setCell ?_ (by first | (simp; done) | (simp; omega) | omega) _))); done) | (refine leOf ?_; (repeat (first | (with_reducible exact Mr.refl _) | (with_reducible apply Mr.drew) | (with_reducible apply Mr.alloc) | (with_reducible apply Mr.ext) | (with_reducible refine Mr.setCell ?_ (by first | (simp; done) | (simp; omega) | omega) _))); done)) _)))⟩
    · exact bodyPost_ret (v := .tuple #[.agg #[.int .i64 (hi a + hi b + 1), .int .i64 (lo a + lo b - 4611686018427387904)], .bool true]) (by simp [results, Try.results59, go_sem]) rfl ⟨by rw [cut_of hi0, U.out.1, U.out.2], Mr.mk' (by repeat (first | (with_reducible exact Mr.refl _) | (with_reducible apply Mr.drew) | (with_reducible apply Mr.alloc) | (with_reducible apply Mr.ext) | (with_reducible refine Mr.setCell ?_ (by first | (simp; done) | (simp; omega) | omega | (refine leOf0 ?_; (repeat (first | (with_reducible exact Mr.refl _) | (with_reducible apply Mr.drew) | (with_reducible apply Mr.alloc) | (with_reducible apply Mr.ext) | (with_reducible refine Mr.setCell ?_ (by first | (simp; done) | (simp; omega) | omega) _))); done) | (refine leOf ?_; (repeat (first | (with_reducible exact Mr.refl _) | (with_reducible apply Mr.drew) | (with_reducible apply Mr.alloc) | (with_reducible apply Mr.ext) | (with_reducible refine Mr.setCell ?_ (by first | (simp; done) | (simp; omega) | omega) _))); done)) _)))⟩
  · obtain ⟨u1, u2⟩ := uniq (p := hi a + hi b) (q := lo a + lo b) (z := a + b) (by omega) (by omega) (by omega)
    rw [← u1, ← u2] at hs
    have U : Hid (hi (a + b) = hi a + hi b ∧ lo (a + b) = lo a + lo b) := ⟨u1.symm, u2.symm⟩
    clear ha hb e1 e2 u1 u2
    cases hi0 : inr (a + b)
    all_goals
      rw [hi0] at hs
      go_enter Try.func59, Try.ntmps59
      go_wp2_with (first | (go_at_call 81; refine (ras2_c _ _ _).mono ?_; rintro e w' ⟨rfl, x, rfl⟩) | (go_at_call 73; refine (rsane_c _ _ _).mono ?_; rintro e w' ⟨rfl, x, rfl⟩))
    · exact bodyPost_ret (v := .tuple #[.agg #[.int .i64 0, .int .i64 0], .bool false]) (by simp [results, Try.results59, go_sem]) rfl ⟨by rw [cut_no hi0, hl_zero.1, hl_zero.2], Mr.mk' (by repeat (first | (with_reducible exact Mr.refl _) | (with_reducible apply Mr.drew) | (with_reducible apply Mr.alloc) | (with_reducible apply Mr.ext) | (with_reducible refine Mr.setCell ?_ (by first | (simp; done) | (simp; omega) | omega | (refine leOf0 ?_; (repeat (first | (with_reducible exact Mr.refl _) | (with_reducible apply Mr.drew) | (with_reducible apply Mr.alloc) | (with_reducible apply Mr.ext) | (with_reducible refine Mr.setCell ?_ (by first | (simp; done) | (simp; omega) | omega) _))); done) | (refine leOf ?_; (repeat (first | (with_reducible exact Mr.refl _) | (with_reducible apply Mr.drew) | (with_reducible apply Mr.alloc) | (with_reducible apply Mr.ext) | (with_reducible refine Mr.setCell ?_ (by first | (simp; done) | (simp; omega) | omega) _))); done)) _)))⟩
    · exact bodyPost_ret (v := .tuple #[.agg #[.int .i64 (hi a + hi b), .int .i64 (lo a + lo b)], .bool true]) (by simp [results, Try.results59, go_sem]) rfl ⟨by rw [cut_of hi0, U.out.1, U.out.2], Mr.mk' (by repeat (first | (with_reducible exact Mr.refl _) | (with_reducible apply Mr.drew) | (with_reducible apply Mr.alloc) | (with_reducible apply Mr.ext) | (with_reducible refine Mr.setCell ?_ (by first | (simp; done) | (simp; omega) | omega | (refine leOf0 ?_; (repeat (first | (with_reducible exact Mr.refl _) | (with_reducible apply Mr.drew) | (with_reducible apply Mr.alloc) | (with_reducible apply Mr.ext) | (with_reducible refine Mr.setCell ?_ (by first | (simp; done) | (simp; omega) | omega) _))); done) | (refine leOf ?_; (repeat (first | (with_reducible exact Mr.refl _) | (with_reducible apply Mr.drew) | (with_reducible apply Mr.alloc) | (with_reducible apply Mr.ext) | (with_reducible refine Mr.setCell ?_ (by first | (simp; done) | (simp; omega) | omega) _))); done)) _)))⟩
end Wd
end Go.Proofs.Ytkhfkfofggiadaa
