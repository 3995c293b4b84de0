/- The contracts of the document's own answers of layer 2. -/
import Derived.Test.YtpammdogkkipbaaWideC
import Derived.Test.YtpammdogkkipbaaRefC1
namespace Go.Proofs.Ytpammdogkkipbaa
open Go.ChangeShapes Go.WideShapes Go.ChangeAt Go.RowKit
open Go.Proofs.Ytpammdogkkipbaa.Fx
set_option linter.unusedVariables false
attribute [local go_sem] Ext.cell Ext.froz Ext.lt Ext.lt1 Ext.lt2 Ext.lt3 Ext.all Ext.set_u drew_heap setCell_size Ext.set_size
namespace Wd
attribute [local go_sem ↓] eq_wide eqw_self
attribute [local go_sem] and62 and1 sgn64
theorem ret_b' {p q : Bool} (h : p = q) : Ending.returned (.bool p) = .returned (.bool q) := by rw [h]
theorem vw_any (z : Int) : vw (hi z) (lo z) = cut z := by
  cases h : inr z
  · rw [vw_nsn (sn_hlf h), cut_no h]
  · rw [vw_hl h, cut_of h]
set_option maxHeartbeats 400000 in
theorem rsane_c (p q : Int) (w : World) :
    Calls Try.prog 83 #[.agg #[.int .i64 p, .int .i64 q]] w fun e w' => e = .returned (.bool (sn p q)) ∧ ∃ x : Ext w, w' = x.u := by
  go_enter Try.func83, Try.ntmps83
  go_wp2
  all_goals
    go_ret
    refine ⟨ret_b' ?_, Mr.mk' (by repeat (first | (with_reducible exact Mr.refl _) | (with_reducible apply Mr.drew) | (with_reducible apply Mr.alloc) | (with_reducible apply Mr.ext) | (with_reducible refine Mr.setCell ?_ (by first | (simp; done) | (simp; omega) | omega | (refine leOf0 ?_; (repeat (first | (with_reducible exact Mr.refl _) | (with_reducible apply Mr.drew) | (with_reducible apply Mr.alloc) | (with_reducible apply Mr.ext) | (with_reducible refine Mr.setCell ?_ (by first | (simp; done) | (simp; omega) | omega) _))); done) | (refine leOf ?_; (repeat (first | (with_reducible exact Mr.refl _) | (with_reducible apply Mr.drew) | (with_reducible apply Mr.alloc) | (with_reducible apply Mr.ext) | (with_reducible refine Mr.setCell ?_ (by first | (simp; done) | (simp; omega) | omega) _))); done)) _)))⟩
    first | (unfold sn; simp; omega) | (rw [Bool.eq_iff_iff]; simp [sn]; omega)
set_option maxHeartbeats 400000 in
theorem ras2_c (p q : Int) (w : World) :
    Calls Try.prog 95 #[.agg #[.int .i64 p, .int .i64 q]] w fun e w' => e = .returned (.agg #[.int .i64 (hi (vw p q)), .int .i64 (lo (vw p q))]) ∧ ∃ x : Ext w, w' = x.u := by
  cases hs : sn p q
  · have h1 : vw p q = 0 := vw_nsn hs
    go_enter Try.func95, Try.ntmps95
    go_wp2_with (go_at_call 83; refine (rsane_c _ _ _).mono ?_; rintro e w' ⟨rfl, x, rfl⟩)
    exact bodyPost_ret (v := .agg #[.int .i64 (hi 0), .int .i64 (lo 0)]) (by simp [results, Try.results95, go_sem, hl_zero.1, hl_zero.2]) rfl ⟨by rw [h1], Mr.mk' (by repeat (first | (with_reducible exact Mr.refl _) | (with_reducible apply Mr.drew) | (with_reducible apply Mr.alloc) | (with_reducible apply Mr.ext) | (with_reducible refine Mr.setCell ?_ (by first | (simp; done) | (simp; omega) | omega | (refine leOf0 ?_; (repeat (first | (with_reducible exact Mr.refl _) | (with_reducible apply Mr.drew) | (with_reducible apply Mr.alloc) | (with_reducible apply Mr.ext) | (with_reducible refine Mr.setCell ?_ (by first | (simp; done) | (simp; omega) | omega) _))); done) | (refine leOf ?_; (repeat (first | (with_reducible exact Mr.refl _) | (with_reducible apply Mr.drew) | (with_reducible apply Mr.alloc) | (with_reducible apply Mr.ext) | (with_reducible refine Mr.setCell ?_ (by first | (simp; done) | (simp; omega) | omega) _))); done)) _)))⟩
  · have HD : Hid (p = hi (vw p q) ∧ q = lo (vw p q)) := hl_vw hs
    go_enter Try.func95, Try.ntmps95
    go_wp2_with (go_at_call 83; refine (rsane_c _ _ _).mono ?_; rintro e w' ⟨rfl, x, rfl⟩)
    exact bodyPost_ret (v := .agg #[.int .i64 (hi (vw p q)), .int .i64 (lo (vw p q))]) (by simp [results, Try.results95, go_sem]; exact HD.out) rfl ⟨rfl, Mr.mk' (by repeat (first | (with_reducible exact Mr.refl _) | (with_reducible apply Mr.drew) | (with_reducible apply Mr.alloc) | (with_reducible apply Mr.ext) | (with_reducible refine Mr.setCell ?_ (by first | (simp; done) | (simp; omega) | omega | (refine leOf0 ?_; (repeat (first | (with_reducible exact Mr.refl _) | (with_reducible apply Mr.drew) | (with_reducible apply Mr.alloc) | (with_reducible apply Mr.ext) | (with_reducible refine Mr.setCell ?_ (by first | (simp; done) | (simp; omega) | omega) _))); done) | (refine leOf ?_; (repeat (first | (with_reducible exact Mr.refl _) | (with_reducible apply Mr.drew) | (with_reducible apply Mr.alloc) | (with_reducible apply Mr.ext) | (with_reducible refine Mr.setCell ?_ (by first | (simp; done) | (simp; omega) | omega) _))); done)) _)))⟩
theorem turn_math (a : Int) : (lo a = 0 → hi (-a) = -hi a ∧ lo (-a) = 0) ∧ (lo a ≠ 0 → hi (-a) = -hi a - 1 ∧ lo (-a) = 4611686018427387904 - lo a) := by
  unfold hi lo; omega
set_option maxHeartbeats 400000 in
theorem turn_c (a : Int) (w : World) (h : inr a = true) :
    Calls Try.prog 84 #[.agg #[.int .i64 (hi a), .int .i64 (lo a)]] w fun e w' => e = .returned (.agg #[.int .i64 (hi (-a)), .int .i64 (lo (-a))]) ∧ ∃ x : Ext w, w' = x.u := by
  have b1 := hi_bd h
  have b2 := lo_bd a
  have T : Hid ((lo a = 0 → hi (-a) = -hi a ∧ lo (-a) = 0) ∧ (lo a ≠ 0 → hi (-a) = -hi a - 1 ∧ lo (-a) = 4611686018427387904 - lo a)) := turn_math a
  by_cases h0 : lo a = 0
  · have T2 : Hid (hi (-a) = -hi a ∧ lo (-a) = 0) := T.out.1 h0
    have h1 : (lo a == 0) = true := by simp [h0]
    clear h0 T
    go_enter Try.func84, Try.ntmps84
    go_wp2
    exact bodyPost_ret (v := .agg #[.int .i64 (-hi a), .int .i64 0]) (by simp [results, Try.results84, go_sem]) rfl ⟨by rw [T2.out.1, T2.out.2], Mr.mk' (by repeat (first | (with_reducible exact Mr.refl _) | (with_reducible apply Mr.drew) | (with_reducible apply Mr.alloc) | (with_reducible apply Mr.ext) | (with_reducible refine Mr.setCell ?_ (by first | (simp; done) | (simp; omega) | omega | (refine leOf0 ?_; (repeat (first | (with_reducible exact Mr.refl _) | (with_reducible apply Mr.drew) | (with_reducible apply Mr.alloc) | (with_reducible apply Mr.ext) | (with_reducible refine Mr.setCell ?_ (by first | (simp; done) | (simp; omega) | omega) _))); done) | (refine leOf ?_; (repeat (first | (with_reducible exact Mr.refl _) | (with_reducible apply Mr.drew) | (with_reducible apply Mr.alloc) | (with_reducible apply Mr.ext) | (with_reducible refine Mr.setCell ?_ (by first | (simp; done) | (simp; omega) | omega) _))); done)) _)))⟩
  · have T2 : Hid (hi (-a) = -hi a - 1 ∧ lo (-a) = 4611686018427387904 - lo a) := T.out.2 h0
    have h1 : (lo a == 0) = false := by simp [h0]
    have h2 : 1 ≤ lo a := by omega
    clear h0 T
    go_enter Try.func84, Try.ntmps84
    go_wp2
    exact bodyPost_ret (v := .agg #[.int .i64 (-hi a - 1), .int .i64 (4611686018427387904 - lo a)]) (by simp [results, Try.results84, go_sem]) rfl ⟨by rw [T2.out.1, T2.out.2], Mr.mk' (by repeat (first | (with_reducible exact Mr.refl _) | (with_reducible apply Mr.drew) | (with_reducible apply Mr.alloc) | (with_reducible apply Mr.ext) | (with_reducible refine Mr.setCell ?_ (by first | (simp; done) | (simp; omega) | omega | (refine leOf0 ?_; (repeat (first | (with_reducible exact Mr.refl _) | (with_reducible apply Mr.drew) | (with_reducible apply Mr.alloc) | (with_reducible apply Mr.ext) | (with_reducible refine Mr.setCell ?_ (by first | (simp; done) | (simp; omega) | omega) _))); done) | (refine leOf ?_; (repeat (first | (with_reducible exact Mr.refl _) | (with_reducible apply Mr.drew) | (with_reducible apply Mr.alloc) | (with_reducible apply Mr.ext) | (with_reducible refine Mr.setCell ?_ (by first | (simp; done) | (simp; omega) | omega) _))); done)) _)))⟩
set_option maxHeartbeats 1000000 in
theorem radd2_c (p q r s : Int) (w : World) :
    Calls Try.prog 80 #[.agg #[.int .i64 p, .int .i64 q], .agg #[.int .i64 r, .int .i64 s]] w fun e w' => e = .returned (.tuple #[.agg #[.int .i64 (hi (cut (vw p q + vw r s))), .int .i64 (lo (cut (vw p q + vw r s)))], .bool (inr (vw p q + vw r s))]) ∧ ∃ x : Ext w, w' = x.u := by
  have ha := vw_inr p q
  have hb := vw_inr r s
  generalize hg : vw p q = a at *
  generalize hg2 : vw r s = b at *
  have b1 := hi_bd ha
  have b2 := hi_bd hb
  have b3 := lo_bd a
  have b4 := lo_bd b
  have e1 := hi_lo a
  have e2 := hi_lo b
  have hs := sn_hl_eq (a + b)
  by_cases hc : 4611686018427387904 ≤ lo a + lo b
  · obtain ⟨u1, u2⟩ := uniq (p := hi a + hi b + 1) (q := lo a + lo b - 4611686018427387904) (z := a + b) (by omega) (by omega) (by omega)
    rw [← u1, ← u2] at hs
    have U : Hid (hi (a + b) = hi a + hi b + 1 ∧ lo (a + b) = lo a + lo b - 4611686018427387904) := ⟨u1.symm, u2.symm⟩
    clear ha hb e1 e2 u1 u2
    cases hi0 : inr (a + b)
    all_goals
      rw [hi0] at hs
      go_enter Try.func80, Try.ntmps80
      go_wp2_with (first | (go_at_call 95; refine (ras2_c _ _ _).mono ?_; rintro e w' ⟨rfl, x, rfl⟩) | (go_at_call 83; refine (rsane_c _ _ _).mono ?_; rintro e w' ⟨rfl, x, rfl⟩))
    · exact bodyPost_ret (v := .tuple #[.agg #[.int .i64 0, .int .i64 0], .bool false]) (by simp [results, Try.results80, go_sem]) rfl ⟨by rw [cut_no hi0, hl_zero.1, hl_zero.2], Mr.mk' (by repeat (first | (with_reducible exact Mr.refl _) | (with_reducible apply Mr.drew) | (with_reducible apply Mr.alloc) | (with_reducible apply Mr.ext) | (with_reducible refine Mr.setCell ?_ (by first | (simp; done) | (simp; omega) | omega | (refine leOf0 ?_; (repeat (first | (with_reducible exact Mr.refl _) | (with_reducible apply Mr.drew) | (with_reducible apply Mr.alloc) | (with_reducible apply Mr.ext) | (with_reducible refine Mr.setCell ?_ (by first | (simp; done) | (simp; omega) | omega) _))); done) | (refine leOf ?_; (repeat (first | (with_reducible exact Mr.refl _) | (with_reducible apply Mr.drew) | (with_reducible apply Mr.alloc) | (with_reducible apply Mr.ext) | (with_reducible refine Mr.setCell ?_ (by first | (simp; done) | (simp; omega) | omega) _))); done)) _)))⟩
    · exact bodyPost_ret (v := .tuple #[.agg #[.int .i64 (hi a + hi b + 1), .int .i64 (lo a + lo b - 4611686018427387904)], .bool true]) (by simp [results, Try.results80, go_sem]) rfl ⟨by rw [cut_of hi0, U.out.1, U.out.2], Mr.mk' (by repeat (first | (with_reducible exact Mr.refl _) | (with_reducible apply Mr.drew) | (with_reducible apply Mr.alloc) | (with_reducible apply Mr.ext) | (with_reducible refine Mr.setCell ?_ (by first | (simp; done) | (simp; omega) | omega | (refine leOf0 ?_; (repeat (first | (with_reducible exact Mr.refl _) | (with_reducible apply Mr.drew) | (with_reducible apply Mr.alloc) | (with_reducible apply Mr.ext) | (with_reducible refine Mr.setCell ?_ (by first | (simp; done) | (simp; omega) | omega) _))); done) | (refine leOf ?_; (repeat (first | (with_reducible exact Mr.refl _) | (with_reducible apply Mr.drew) | (with_reducible apply Mr.alloc) | (with_reducible apply Mr.ext) | (with_reducible refine Mr.setCell ?_ (by first | (simp; done) | (simp; omega) | omega) _))); done)) _)))⟩
  · obtain ⟨u1, u2⟩ := uniq (p := hi a + hi b) (q := lo a + lo b) (z := a + b) (by omega) (by omega) (by omega)
    rw [← u1, ← u2] at hs
    have U : Hid (hi (a + b) = hi a + hi b ∧ lo (a + b) = lo a + lo b) := ⟨u1.symm, u2.symm⟩
    clear ha hb e1 e2 u1 u2
    cases hi0 : inr (a + b)
    all_goals
      rw [hi0] at hs
      go_enter Try.func80, Try.ntmps80
      go_wp2_with (first | (go_at_call 95; refine (ras2_c _ _ _).mono ?_; rintro e w' ⟨rfl, x, rfl⟩) | (go_at_call 83; refine (rsane_c _ _ _).mono ?_; rintro e w' ⟨rfl, x, rfl⟩))
    · exact bodyPost_ret (v := .tuple #[.agg #[.int .i64 0, .int .i64 0], .bool false]) (by simp [results, Try.results80, go_sem]) rfl ⟨by rw [cut_no hi0, hl_zero.1, hl_zero.2], Mr.mk' (by repeat (first | (with_reducible exact Mr.refl _) | (with_reducible apply Mr.drew) | (with_reducible apply Mr.alloc) | (with_reducible apply Mr.ext) | (with_reducible refine Mr.setCell ?_ (by first | (simp; done) | (simp; omega) | omega | (refine leOf0 ?_; (repeat (first | (with_reducible exact Mr.refl _) | (with_reducible apply Mr.drew) | (with_reducible apply Mr.alloc) | (with_reducible apply Mr.ext) | (with_reducible refine Mr.setCell ?_ (by first | (simp; done) | (simp; omega) | omega) _))); done) | (refine leOf ?_; (repeat (first | (with_reducible exact Mr.refl _) | (with_reducible apply Mr.drew) | (with_reducible apply Mr.alloc) | (with_reducible apply Mr.ext) | (with_reducible refine Mr.setCell ?_ (by first | (simp; done) | (simp; omega) | omega) _))); done)) _)))⟩
    · exact bodyPost_ret (v := .tuple #[.agg #[.int .i64 (hi a + hi b), .int .i64 (lo a + lo b)], .bool true]) (by simp [results, Try.results80, go_sem]) rfl ⟨by rw [cut_of hi0, U.out.1, U.out.2], Mr.mk' (by repeat (first | (with_reducible exact Mr.refl _) | (with_reducible apply Mr.drew) | (with_reducible apply Mr.alloc) | (with_reducible apply Mr.ext) | (with_reducible refine Mr.setCell ?_ (by first | (simp; done) | (simp; omega) | omega | (refine leOf0 ?_; (repeat (first | (with_reducible exact Mr.refl _) | (with_reducible apply Mr.drew) | (with_reducible apply Mr.alloc) | (with_reducible apply Mr.ext) | (with_reducible refine Mr.setCell ?_ (by first | (simp; done) | (simp; omega) | omega) _))); done) | (refine leOf ?_; (repeat (first | (with_reducible exact Mr.refl _) | (with_reducible apply Mr.drew) | (with_reducible apply Mr.alloc) | (with_reducible apply Mr.ext) | (with_reducible refine Mr.setCell ?_ (by first | (simp; done) | (simp; omega) | omega) _))); done)) _)))⟩
end Wd
end Go.Proofs.Ytpammdogkkipbaa
/- The contracts of the document's own answers of layer 2, second part. -/
namespace Go.Proofs.Ytpammdogkkipbaa
open Go.ChangeShapes Go.WideShapes Go.ChangeAt Go.RowKit
open Go.Proofs.Ytpammdogkkipbaa.Fx
set_option linter.unusedVariables false
attribute [local go_sem] Ext.cell Ext.froz Ext.lt Ext.lt1 Ext.lt2 Ext.lt3 Ext.all Ext.set_u drew_heap setCell_size Ext.set_size
namespace Wd
attribute [local go_sem ↓] eq_wide eqw_self
attribute [local go_sem] and62 and1 sgn64
theorem eqw_f {a b c d : Int} (h : a ≠ c ∨ b ≠ d) : eqw a b c d = false := by
  unfold eqw; simp; omega
set_option maxHeartbeats 2000000 in
theorem rint2_c (p q : Int) (w : World) :
    Calls Try.prog 81 #[.agg #[.int .i64 p, .int .i64 q]] w fun e w' => e = .returned (.tuple #[.int .i64 (cl (vw p q)), .bool (!co (vw p q))]) ∧ ∃ x : Ext w, w' = x.u := by
  have ha := vw_inr p q
  generalize hg : vw p q = a at *
  have b1 := hi_bd ha
  have b3 := lo_bd a
  have b4 := hi_lo a
  have B4 : Hid (hi a * 4611686018427387904 + lo a = a) := b4
  clear ha b4
  by_cases h1 : 288230376151711744 < a
  · have HR : Hid (cl a = 288230376151711744 ∧ co a = true) := cl_hi h1
    have o1 : 0 ≤ hi a := by have := B4.out; omega
    have o2 : 1 ≤ hi a ∨ 288230376151711744 < lo a := by have := B4.out; omega
    clear h1
    rcases o2 with o2 | o2
    all_goals
      go_enter Try.func81, Try.ntmps81; go_wp2_with (go_at_call 95; refine (ras2_c _ _ _).mono ?_; rintro e w' ⟨rfl, x, rfl⟩)
      all_goals
        go_ret2
        exact ⟨ret_ib HR.out.1.symm (by rw [HR.out.2]; rfl), Mr.mk' (by repeat (first | (with_reducible exact Mr.refl _) | (with_reducible apply Mr.drew) | (with_reducible apply Mr.alloc) | (with_reducible apply Mr.ext) | (with_reducible refine Mr.setCell ?_ (by first | (simp; done) | (simp; omega) | omega | (refine leOf0 ?_; (repeat (first | (with_reducible exact Mr.refl _) | (with_reducible apply Mr.drew) | (with_reducible apply Mr.alloc) | (with_reducible apply Mr.ext) | (with_reducible refine Mr.setCell ?_ (by first | (simp; done) | (simp; omega) | omega) _))); done) | (refine leOf ?_; (repeat (first | (with_reducible exact Mr.refl _) | (with_reducible apply Mr.drew) | (with_reducible apply Mr.alloc) | (with_reducible apply Mr.ext) | (with_reducible refine Mr.setCell ?_ (by first | (simp; done) | (simp; omega) | omega) _))); done)) _)))⟩
  · by_cases h2 : a < -288230376151711744
    · have HR : Hid (cl a = -288230376151711744 ∧ co a = true) := cl_lo h2
      have o1 : hi a ≤ -1 := by have := B4.out; omega
      have o2 : hi a ≤ -2 ∨ lo a < 4323455642275676160 := by have := B4.out; omega
      clear h1 h2
      rcases o2 with o2 | o2
      all_goals
        go_enter Try.func81, Try.ntmps81; go_wp2_with (go_at_call 95; refine (ras2_c _ _ _).mono ?_; rintro e w' ⟨rfl, x, rfl⟩)
        all_goals
          go_ret2
          exact ⟨ret_ib HR.out.1.symm (by rw [HR.out.2]; rfl), Mr.mk' (by repeat (first | (with_reducible exact Mr.refl _) | (with_reducible apply Mr.drew) | (with_reducible apply Mr.alloc) | (with_reducible apply Mr.ext) | (with_reducible refine Mr.setCell ?_ (by first | (simp; done) | (simp; omega) | omega | (refine leOf0 ?_; (repeat (first | (with_reducible exact Mr.refl _) | (with_reducible apply Mr.drew) | (with_reducible apply Mr.alloc) | (with_reducible apply Mr.ext) | (with_reducible refine Mr.setCell ?_ (by first | (simp; done) | (simp; omega) | omega) _))); done) | (refine leOf ?_; (repeat (first | (with_reducible exact Mr.refl _) | (with_reducible apply Mr.drew) | (with_reducible apply Mr.alloc) | (with_reducible apply Mr.ext) | (with_reducible refine Mr.setCell ?_ (by first | (simp; done) | (simp; omega) | omega) _))); done)) _)))⟩
    · have HR : Hid (cl a = a ∧ co a = false) := cl_in (by omega) (by omega)
      by_cases h3 : 0 ≤ a
      · have o1 : hi a = 0 := by have := B4.out; omega
        have o2 : lo a ≤ 288230376151711744 := by have := B4.out; omega
        have o3 : Hid (lo a = a) := by have := B4.out; rw [Hid]; omega
        clear h1 h2 h3
        go_enter Try.func81, Try.ntmps81; go_wp2_with (go_at_call 95; refine (ras2_c _ _ _).mono ?_; rintro e w' ⟨rfl, x, rfl⟩)
        go_ret2
        exact ⟨ret_ib (by rw [HR.out.1]; exact o3.out) (by rw [HR.out.2]; rfl), Mr.mk' (by repeat (first | (with_reducible exact Mr.refl _) | (with_reducible apply Mr.drew) | (with_reducible apply Mr.alloc) | (with_reducible apply Mr.ext) | (with_reducible refine Mr.setCell ?_ (by first | (simp; done) | (simp; omega) | omega | (refine leOf0 ?_; (repeat (first | (with_reducible exact Mr.refl _) | (with_reducible apply Mr.drew) | (with_reducible apply Mr.alloc) | (with_reducible apply Mr.ext) | (with_reducible refine Mr.setCell ?_ (by first | (simp; done) | (simp; omega) | omega) _))); done) | (refine leOf ?_; (repeat (first | (with_reducible exact Mr.refl _) | (with_reducible apply Mr.drew) | (with_reducible apply Mr.alloc) | (with_reducible apply Mr.ext) | (with_reducible refine Mr.setCell ?_ (by first | (simp; done) | (simp; omega) | omega) _))); done)) _)))⟩
      · have o1 : hi a = -1 := by have := B4.out; omega
        have o2 : 4323455642275676160 ≤ lo a := by have := B4.out; omega
        have o3 : Hid (lo a - 4611686018427387904 = a) := by have := B4.out; rw [Hid]; omega
        clear h1 h2 h3
        go_enter Try.func81, Try.ntmps81; go_wp2_with (go_at_call 95; refine (ras2_c _ _ _).mono ?_; rintro e w' ⟨rfl, x, rfl⟩)
        go_ret2
        exact ⟨ret_ib (by rw [HR.out.1]; exact o3.out) (by rw [HR.out.2]; rfl), Mr.mk' (by repeat (first | (with_reducible exact Mr.refl _) | (with_reducible apply Mr.drew) | (with_reducible apply Mr.alloc) | (with_reducible apply Mr.ext) | (with_reducible refine Mr.setCell ?_ (by first | (simp; done) | (simp; omega) | omega | (refine leOf0 ?_; (repeat (first | (with_reducible exact Mr.refl _) | (with_reducible apply Mr.drew) | (with_reducible apply Mr.alloc) | (with_reducible apply Mr.ext) | (with_reducible refine Mr.setCell ?_ (by first | (simp; done) | (simp; omega) | omega) _))); done) | (refine leOf ?_; (repeat (first | (with_reducible exact Mr.refl _) | (with_reducible apply Mr.drew) | (with_reducible apply Mr.alloc) | (with_reducible apply Mr.ext) | (with_reducible refine Mr.setCell ?_ (by first | (simp; done) | (simp; omega) | omega) _))); done)) _)))⟩
end Wd
end Go.Proofs.Ytpammdogkkipbaa
/- The contracts of the document's own answers of layer 2, third part. -/
namespace Go.Proofs.Ytpammdogkkipbaa
open Go.ChangeShapes Go.WideShapes Go.ChangeAt Go.RowKit
open Go.Proofs.Ytpammdogkkipbaa.Fx
set_option linter.unusedVariables false
attribute [local go_sem] Ext.cell Ext.froz Ext.lt Ext.lt1 Ext.lt2 Ext.lt3 Ext.all Ext.set_u drew_heap setCell_size Ext.set_size
namespace Wd
attribute [local go_sem ↓] eq_wide eqw_self
attribute [local go_sem] and62 and1 sgn64
theorem mul_parts31 (x1 x0 y1 y0 : Int) : (x1 * 2147483648 + x0) * (y1 * 2147483648 + y0) = x1 * y1 * 4611686018427387904 + (x1 * y0 + x0 * y1) * 2147483648 + x0 * y0 := by grind
theorem rmul_math (x y : Int) (hx : 0 ≤ x ∧ x ≤ 288230376151711744) (hy : 0 ≤ y ∧ y ≤ 288230376151711744) : ∃ A B C D : Int,
    x / 2147483648 * (y / 2147483648) = A ∧ x / 2147483648 * (y % 2147483648) = B ∧ x % 2147483648 * (y / 2147483648) = C ∧ x % 2147483648 * (y % 2147483648) = D ∧
    (0 ≤ A ∧ A ≤ 18014398509481984) ∧ (0 ≤ B ∧ B ≤ 288230376017494016) ∧ (0 ≤ C ∧ C ≤ 288230376017494016) ∧ (0 ≤ D ∧ D ≤ 4611686014132420609) ∧ x * y = A * 4611686018427387904 + (B + C) * 2147483648 + D := by
  have e := mul_parts31 (x / 2147483648) (x % 2147483648) (y / 2147483648) (y % 2147483648)
  rw [show x / 2147483648 * 2147483648 + x % 2147483648 = x by omega, show y / 2147483648 * 2147483648 + y % 2147483648 = y by omega] at e
  have hA := mul_le' (a := x / 2147483648) (b := y / 2147483648) (c := 134217728) (d := 134217728) (by omega) (by omega) (by omega) (by omega)
  have hB := mul_le' (a := x / 2147483648) (b := y % 2147483648) (c := 134217728) (d := 2147483647) (by omega) (by omega) (by omega) (by omega)
  have hC := mul_le' (a := x % 2147483648) (b := y / 2147483648) (c := 2147483647) (d := 134217728) (by omega) (by omega) (by omega) (by omega)
  have hD := mul_le' (a := x % 2147483648) (b := y % 2147483648) (c := 2147483647) (d := 2147483647) (by omega) (by omega) (by omega) (by omega)
  exact ⟨_, _, _, _, rfl, rfl, rfl, rfl, hA, hB, hC, hD, e⟩
set_option maxHeartbeats 2000000 in
theorem rmul2_c (a b : Int) (w : World) :
    Calls Try.prog 74 #[.int .i64 a, .int .i64 b] w fun e w' => e = .returned (.agg #[.int .i64 (hi (ml a b)), .int .i64 (lo (ml a b))]) ∧ ∃ x : Ext w, w' = x.u := by
  have ha := ab_bd a
  have hb := ab_bd b
  have hm := (mul_inr ha hb).1
  have M1 : Hid (∀ (h1 : a < 0) (h2 : b < 0), ml a b = ab a * ab b) := fun h1 h2 => by unfold ml; rw [ab_neg h1, ab_neg h2, Int.neg_mul_neg]
  have M2 : Hid (∀ (h1 : a < 0) (h2 : ¬ b < 0), ml a b = -(ab a * ab b)) := fun h1 h2 => by unfold ml; rw [ab_neg h1, ab_pos h2, Int.neg_mul]
  have M3 : Hid (∀ (h1 : ¬ a < 0) (h2 : b < 0), ml a b = -(ab a * ab b)) := fun h1 h2 => by unfold ml; rw [ab_pos h1, ab_neg h2, Int.mul_neg]
  have M4 : Hid (∀ (h1 : ¬ a < 0) (h2 : ¬ b < 0), ml a b = ab a * ab b) := fun h1 h2 => by unfold ml; rw [ab_pos h1, ab_pos h2]
  generalize hx : ab a = x at *
  generalize hy : ab b = y at *
  obtain ⟨A, B, C, D, eA, eB, eC, eD, bA, bB, bC, bD, e⟩ := rmul_math x y ha hb
  generalize hz : x * y = z at *
  have big : (4611686018427387904 ≤ D + (B + C) % 2147483648 * 2147483648 ∧ hi z = A + (B + C) / 2147483648 + 1 ∧ lo z = D + (B + C) % 2147483648 * 2147483648 - 4611686018427387904) ∨ (D + (B + C) % 2147483648 * 2147483648 < 4611686018427387904 ∧ hi z = A + (B + C) / 2147483648 ∧ lo z = D + (B + C) % 2147483648 * 2147483648) := by
    unfold hi lo; omega
  clear e hz
  rcases big with ⟨g1, g2, g3⟩ | ⟨g1, g2, g3⟩
  · have g4 : A + (B + C) / 2147483648 + 1 = hi z := g2.symm
    have g5 : D + (B + C) % 2147483648 * 2147483648 - 4611686018427387904 = lo z := g3.symm
    clear g2 g3
    by_cases h1 : a < 0 <;> by_cases h2 : b < 0
    · have M : Hid (ml a b = z) := M1.out h1 h2
      have d1 : decide (a < 0) = true := by simpa using h1
      have d2 : decide (b < 0) = true := by simpa using h2
      clear h1 h2 M1 M2 M3 M4
      go_enter Try.func74, Try.ntmps74; go_wp2_with (first | (go_at_call 70; refine (rabs_c _ _).mono ?_; rintro e w' ⟨rfl, rfl⟩) | (go_at_call 84; refine (turn_c _ _ ?_).mono ?_; assumption; rintro e w' ⟨rfl, x, rfl⟩))
      exact bodyPost_ret (v := .agg #[.int .i64 (hi z), .int .i64 (lo z)]) (by simp [results, Try.results74, go_sem]) rfl ⟨by rw [M.out], Mr.mk' (by repeat (first | (with_reducible exact Mr.refl _) | (with_reducible apply Mr.drew) | (with_reducible apply Mr.alloc) | (with_reducible apply Mr.ext) | (with_reducible refine Mr.setCell ?_ (by first | (simp; done) | (simp; omega) | omega | (refine leOf0 ?_; (repeat (first | (with_reducible exact Mr.refl _) | (with_reducible apply Mr.drew) | (with_reducible apply Mr.alloc) | (with_reducible apply Mr.ext) | (with_reducible refine Mr.setCell ?_ (by first | (simp; done) | (simp; omega) | omega) _))); done) | (refine leOf ?_; (repeat (first | (with_reducible exact Mr.refl _) | (with_reducible apply Mr.drew) | (with_reducible apply Mr.alloc) | (with_reducible apply Mr.ext) | (with_reducible refine Mr.setCell ?_ (by first | (simp; done) | (simp; omega) | omega) _))); done)) _)))⟩
    · have M : Hid (ml a b = -z) := M2.out h1 h2
      have d1 : decide (a < 0) = true := by simpa using h1
      have d2 : decide (b < 0) = false := by simpa using h2
      clear h1 h2 M1 M2 M3 M4
      go_enter Try.func74, Try.ntmps74; go_wp2_with (first | (go_at_call 70; refine (rabs_c _ _).mono ?_; rintro e w' ⟨rfl, rfl⟩) | (go_at_call 84; refine (turn_c _ _ ?_).mono ?_; assumption; rintro e w' ⟨rfl, x, rfl⟩))
      exact bodyPost_ret (v := .agg #[.int .i64 (hi (-z)), .int .i64 (lo (-z))]) (by simp [results, Try.results74, go_sem]) rfl ⟨by rw [M.out], Mr.mk' (by repeat (first | (with_reducible exact Mr.refl _) | (with_reducible apply Mr.drew) | (with_reducible apply Mr.alloc) | (with_reducible apply Mr.ext) | (with_reducible refine Mr.setCell ?_ (by first | (simp; done) | (simp; omega) | omega | (refine leOf0 ?_; (repeat (first | (with_reducible exact Mr.refl _) | (with_reducible apply Mr.drew) | (with_reducible apply Mr.alloc) | (with_reducible apply Mr.ext) | (with_reducible refine Mr.setCell ?_ (by first | (simp; done) | (simp; omega) | omega) _))); done) | (refine leOf ?_; (repeat (first | (with_reducible exact Mr.refl _) | (with_reducible apply Mr.drew) | (with_reducible apply Mr.alloc) | (with_reducible apply Mr.ext) | (with_reducible refine Mr.setCell ?_ (by first | (simp; done) | (simp; omega) | omega) _))); done)) _)))⟩
    · have M : Hid (ml a b = -z) := M3.out h1 h2
      have d1 : decide (a < 0) = false := by simpa using h1
      have d2 : decide (b < 0) = true := by simpa using h2
      clear h1 h2 M1 M2 M3 M4
      go_enter Try.func74, Try.ntmps74; go_wp2_with (first | (go_at_call 70; refine (rabs_c _ _).mono ?_; rintro e w' ⟨rfl, rfl⟩) | (go_at_call 84; refine (turn_c _ _ ?_).mono ?_; assumption; rintro e w' ⟨rfl, x, rfl⟩))
      exact bodyPost_ret (v := .agg #[.int .i64 (hi (-z)), .int .i64 (lo (-z))]) (by simp [results, Try.results74, go_sem]) rfl ⟨by rw [M.out], Mr.mk' (by repeat (first | (with_reducible exact Mr.refl _) | (with_reducible apply Mr.drew) | (with_reducible apply Mr.alloc) | (with_reducible apply Mr.ext) | (with_reducible refine Mr.setCell ?_ (by first | (simp; done) | (simp; omega) | omega | (refine leOf0 ?_; (repeat (first | (with_reducible exact Mr.refl _) | (with_reducible apply Mr.drew) | (with_reducible apply Mr.alloc) | (with_reducible apply Mr.ext) | (with_reducible refine Mr.setCell ?_ (by first | (simp; done) | (simp; omega) | omega) _))); done) | (refine leOf ?_; (repeat (first | (with_reducible exact Mr.refl _) | (with_reducible apply Mr.drew) | (with_reducible apply Mr.alloc) | (with_reducible apply Mr.ext) | (with_reducible refine Mr.setCell ?_ (by first | (simp; done) | (simp; omega) | omega) _))); done)) _)))⟩
    · have M : Hid (ml a b = z) := M4.out h1 h2
      have d1 : decide (a < 0) = false := by simpa using h1
      have d2 : decide (b < 0) = false := by simpa using h2
      clear h1 h2 M1 M2 M3 M4
      go_enter Try.func74, Try.ntmps74; go_wp2_with (first | (go_at_call 70; refine (rabs_c _ _).mono ?_; rintro e w' ⟨rfl, rfl⟩) | (go_at_call 84; refine (turn_c _ _ ?_).mono ?_; assumption; rintro e w' ⟨rfl, x, rfl⟩))
      exact bodyPost_ret (v := .agg #[.int .i64 (hi z), .int .i64 (lo z)]) (by simp [results, Try.results74, go_sem]) rfl ⟨by rw [M.out], Mr.mk' (by repeat (first | (with_reducible exact Mr.refl _) | (with_reducible apply Mr.drew) | (with_reducible apply Mr.alloc) | (with_reducible apply Mr.ext) | (with_reducible refine Mr.setCell ?_ (by first | (simp; done) | (simp; omega) | omega | (refine leOf0 ?_; (repeat (first | (with_reducible exact Mr.refl _) | (with_reducible apply Mr.drew) | (with_reducible apply Mr.alloc) | (with_reducible apply Mr.ext) | (with_reducible refine Mr.setCell ?_ (by first | (simp; done) | (simp; omega) | omega) _))); done) | (refine leOf ?_; (repeat (first | (with_reducible exact Mr.refl _) | (with_reducible apply Mr.drew) | (with_reducible apply Mr.alloc) | (with_reducible apply Mr.ext) | (with_reducible refine Mr.setCell ?_ (by first | (simp; done) | (simp; omega) | omega) _))); done)) _)))⟩
  · have g4 : A + (B + C) / 2147483648 = hi z := g2.symm
    have g5 : D + (B + C) % 2147483648 * 2147483648 = lo z := g3.symm
    have g6 := lo_bd z
    clear g2 g3
    by_cases h1 : a < 0 <;> by_cases h2 : b < 0
    · have M : Hid (ml a b = z) := M1.out h1 h2
      have d1 : decide (a < 0) = true := by simpa using h1
      have d2 : decide (b < 0) = true := by simpa using h2
      clear h1 h2 M1 M2 M3 M4
      go_enter Try.func74, Try.ntmps74; go_wp2_with (first | (go_at_call 70; refine (rabs_c _ _).mono ?_; rintro e w' ⟨rfl, rfl⟩) | (go_at_call 84; refine (turn_c _ _ ?_).mono ?_; assumption; rintro e w' ⟨rfl, x, rfl⟩))
      exact bodyPost_ret (v := .agg #[.int .i64 (hi z), .int .i64 (lo z)]) (by simp [results, Try.results74, go_sem]) rfl ⟨by rw [M.out], Mr.mk' (by repeat (first | (with_reducible exact Mr.refl _) | (with_reducible apply Mr.drew) | (with_reducible apply Mr.alloc) | (with_reducible apply Mr.ext) | (with_reducible refine Mr.setCell ?_ (by first | (simp; done) | (simp; omega) | omega | (refine leOf0 ?_; (repeat (first | (with_reducible exact Mr.refl _) | (with_reducible apply Mr.drew) | (with_reducible apply Mr.alloc) | (with_reducible apply Mr.ext) | (with_reducible refine Mr.setCell ?_ (by first | (simp; done) | (simp; omega) | omega) _))); done) | (refine leOf ?_; (repeat (first | (with_reducible exact Mr.refl _) | (with_reducible apply Mr.drew) | (with_reducible apply Mr.alloc) | (with_reducible apply Mr.ext) | (with_reducible refine Mr.setCell ?_ (by first | (simp; done) | (simp; omega) | omega) _))); done)) _)))⟩
    · have M : Hid (ml a b = -z) := M2.out h1 h2
      have d1 : decide (a < 0) = true := by simpa using h1
      have d2 : decide (b < 0) = false := by simpa using h2
      clear h1 h2 M1 M2 M3 M4
      go_enter Try.func74, Try.ntmps74; go_wp2_with (first | (go_at_call 70; refine (rabs_c _ _).mono ?_; rintro e w' ⟨rfl, rfl⟩) | (go_at_call 84; refine (turn_c _ _ ?_).mono ?_; assumption; rintro e w' ⟨rfl, x, rfl⟩))
      exact bodyPost_ret (v := .agg #[.int .i64 (hi (-z)), .int .i64 (lo (-z))]) (by simp [results, Try.results74, go_sem]) rfl ⟨by rw [M.out], Mr.mk' (by repeat (first | (with_reducible exact Mr.refl _) | (with_reducible apply Mr.drew) | (with_reducible apply Mr.alloc) | (with_reducible apply Mr.ext) | (with_reducible refine Mr.setCell ?_ (by first | (simp; done) | (simp; omega) | omega | (refine leOf0 ?_; (repeat (first | (with_reducible exact Mr.refl _) | (with_reducible apply Mr.drew) | (with_reducible apply Mr.alloc) | (with_reducible apply Mr.ext) | (with_reducible refine Mr.setCell ?_ (by first | (simp; done) | (simp; omega) | omega) _))); done) | (refine leOf ?_; (repeat (first | (with_reducible exact Mr.refl _) | (with_reducible apply Mr.drew) | (with_reducible apply Mr.alloc) | (with_reducible apply Mr.ext) | (with_reducible refine Mr.setCell ?_ (by first | (simp; done) | (simp; omega) | omega) _))); done)) _)))⟩
    · have M : Hid (ml a b = -z) := M3.out h1 h2
      have d1 : decide (a < 0) = false := by simpa using h1
      have d2 : decide (b < 0) = true := by simpa using h2
      clear h1 h2 M1 M2 M3 M4
      go_enter Try.func74, Try.ntmps74; go_wp2_with (first | (go_at_call 70; refine (rabs_c _ _).mono ?_; rintro e w' ⟨rfl, rfl⟩) | (go_at_call 84; refine (turn_c _ _ ?_).mono ?_; assumption; rintro e w' ⟨rfl, x, rfl⟩))
      exact bodyPost_ret (v := .agg #[.int .i64 (hi (-z)), .int .i64 (lo (-z))]) (by simp [results, Try.results74, go_sem]) rfl ⟨by rw [M.out], Mr.mk' (by repeat (first | (with_reducible exact Mr.refl _) | (with_reducible apply Mr.drew) | (with_reducible apply Mr.alloc) | (with_reducible apply Mr.ext) | (with_reducible refine Mr.setCell ?_ (by first | (simp; done) | (simp; omega) | omega | (refine leOf0 ?_; (repeat (first | (with_reducible exact Mr.refl _) | (with_reducible apply Mr.drew) | (with_reducible apply Mr.alloc) | (with_reducible apply Mr.ext) | (with_reducible refine Mr.setCell ?_ (by first | (simp; done) | (simp; omega) | omega) _))); done) | (refine leOf ?_; (repeat (first | (with_reducible exact Mr.refl _) | (with_reducible apply Mr.drew) | (with_reducible apply Mr.alloc) | (with_reducible apply Mr.ext) | (with_reducible refine Mr.setCell ?_ (by first | (simp; done) | (simp; omega) | omega) _))); done)) _)))⟩
    · have M : Hid (ml a b = z) := M4.out h1 h2
      have d1 : decide (a < 0) = false := by simpa using h1
      have d2 : decide (b < 0) = false := by simpa using h2
      clear h1 h2 M1 M2 M3 M4
      go_enter Try.func74, Try.ntmps74; go_wp2_with (first | (go_at_call 70; refine (rabs_c _ _).mono ?_; rintro e w' ⟨rfl, rfl⟩) | (go_at_call 84; refine (turn_c _ _ ?_).mono ?_; assumption; rintro e w' ⟨rfl, x, rfl⟩))
      exact bodyPost_ret (v := .agg #[.int .i64 (hi z), .int .i64 (lo z)]) (by simp [results, Try.results74, go_sem]) rfl ⟨by rw [M.out], Mr.mk' (by repeat (first | (with_reducible exact Mr.refl _) | (with_reducible apply Mr.drew) | (with_reducible apply Mr.alloc) | (with_reducible apply Mr.ext) | (with_reducible refine Mr.setCell ?_ (by first | (simp; done) | (simp; omega) | omega | (refine leOf0 ?_; (repeat (first | (with_reducible exact Mr.refl _) | (with_reducible apply Mr.drew) | (with_reducible apply Mr.alloc) | (with_reducible apply Mr.ext) | (with_reducible refine Mr.setCell ?_ (by first | (simp; done) | (simp; omega) | omega) _))); done) | (refine leOf ?_; (repeat (first | (with_reducible exact Mr.refl _) | (with_reducible apply Mr.drew) | (with_reducible apply Mr.alloc) | (with_reducible apply Mr.ext) | (with_reducible refine Mr.setCell ?_ (by first | (simp; done) | (simp; omega) | omega) _))); done)) _)))⟩
end Wd
end Go.Proofs.Ytpammdogkkipbaa
/- The contracts of the document's own answers of layer 2, fourth part. -/
namespace Go.Proofs.Ytpammdogkkipbaa
open Go.ChangeShapes Go.WideShapes Go.ChangeAt Go.RowKit
open Go.Proofs.Ytpammdogkkipbaa.Fx
set_option linter.unusedVariables false
attribute [local go_sem] Ext.cell Ext.froz Ext.lt Ext.lt1 Ext.lt2 Ext.lt3 Ext.all Ext.set_u drew_heap setCell_size Ext.set_size
namespace Wd
attribute [local go_sem ↓] eq_wide eqw_self
attribute [local go_sem] and62 and1 sgn64
theorem half_math (z : Int) : hi (z / 2) = hi z / 2 ∧ lo (z / 2) = lo z / 2 + hi z % 2 * 2305843009213693952 := by unfold hi lo; omega
theorem half_pow (a : Int) (j : Nat) : a / 2 ^ j / 2 = a / 2 ^ (j + 1) := by
  rw [Int.pow_succ, Int.ediv_ediv_of_nonneg (Int.le_of_lt (Int.pow_pos (by decide)))]
theorem inr_div {a : Int} {j : Nat} (h : inr a = true) : inr (a / 2 ^ j) = true := by
  rw [inr_iff] at h ⊢
  have := div_pow_bd (T := 10633823966279326983230456482242756607) (H := a) (by omega) (by omega) (by omega) j
  omega
set_option maxHeartbeats 2000000 in
set_option maxRecDepth 100000 in
theorem rdown2_c (p q k : Int) (w : World) :
    Calls Try.prog 82 #[.agg #[.int .i64 p, .int .i64 q], .int .i64 k] w fun e w' => e = .returned (.agg #[.int .i64 (hi (dn (vw p q) k)), .int .i64 (lo (dn (vw p q) k))]) ∧ ∃ x : Ext w, w' = x.u := by
  have ha := vw_inr p q
  generalize hg : vw p q = a at *
  have s0 : Hid (a / 2 ^ 0 = a) := by rw [Hid]; simp
  rcases Int.lt_or_le 200 k with h2 | h2
  rotate_left
  · go_enter Try.func82, Try.ntmps82
    go_wp2_with (go_at_call 95; refine (ras2_c _ _ _).mono ?_; rintro e w' ⟨rfl, x, rfl⟩)
    go_loopw [6] (fun i wr => ∃ j : Nat, (j : Int) ≤ max k 0 ∧ i = .int .i64 j ∧ wr = x.u.alloc (.cells #[.int .i64 (hi (a / 2 ^ j)), .int .i64 (lo (a / 2 ^ j))] 75)) (fun i _ => (200 - intOf i).toNat)
    case atStart => exact ⟨0, by omega, rfl, by rw [s0.out]⟩
    case round =>
      obtain ⟨j, hj, rfl, rfl⟩ := hrel
      have zi := hi_bd (inr_div (j := j) ha)
      have zl := lo_bd (a / 2 ^ j)
      obtain ⟨n1, n2⟩ := half_math (a / 2 ^ j)
      rw [half_pow] at n1 n2
      have N1 : Hid (hi (a / 2 ^ (j + 1)) = hi (a / 2 ^ j) / 2) := n1
      have N2 : Hid (lo (a / 2 ^ (j + 1)) = lo (a / 2 ^ j) / 2 + hi (a / 2 ^ j) % 2 * 2305843009213693952) := n2
      clear n1 n2
      generalize hp : hi (a / 2 ^ j) = P at *
      generalize hq : lo (a / 2 ^ j) = Q at *
      by_cases hlt : (j : Int) < k
      · go_wp2
        go_roundw
        case rel => exact ⟨j + 1, by omega, by go_num, by rw [N1.out, N2.out]⟩
        case measure => simp [intOf]; omega
      · go_wp2
        have E : Hid (dn a k = a / 2 ^ j) := dn_low a k j (by omega)
        exact bodyPost_ret (v := .agg #[.int .i64 P, .int .i64 Q]) (by simp [results, Try.results82, go_sem]) rfl ⟨by rw [E.out, hp, hq], Mr.mk' (by repeat (first | (with_reducible exact Mr.refl _) | (with_reducible apply Mr.drew) | (with_reducible apply Mr.alloc) | (with_reducible apply Mr.ext) | (with_reducible refine Mr.setCell ?_ (by first | (simp; done) | (simp; omega) | omega | (refine leOf0 ?_; (repeat (first | (with_reducible exact Mr.refl _) | (with_reducible apply Mr.drew) | (with_reducible apply Mr.alloc) | (with_reducible apply Mr.ext) | (with_reducible refine Mr.setCell ?_ (by first | (simp; done) | (simp; omega) | omega) _))); done) | (refine leOf ?_; (repeat (first | (with_reducible exact Mr.refl _) | (with_reducible apply Mr.drew) | (with_reducible apply Mr.alloc) | (with_reducible apply Mr.ext) | (with_reducible refine Mr.setCell ?_ (by first | (simp; done) | (simp; omega) | omega) _))); done)) _)))⟩
  · go_enter Try.func82, Try.ntmps82
    go_wp2_with (go_at_call 95; refine (ras2_c _ _ _).mono ?_; rintro e w' ⟨rfl, x, rfl⟩)
    go_loopw [6] (fun i wr => ∃ j : Nat, (j : Int) ≤ 200 ∧ i = .int .i64 j ∧ wr = x.u.alloc (.cells #[.int .i64 (hi (a / 2 ^ j)), .int .i64 (lo (a / 2 ^ j))] 75)) (fun i _ => (200 - intOf i).toNat)
    case atStart => exact ⟨0, by omega, rfl, by rw [s0.out]⟩
    case round =>
      obtain ⟨j, hj, rfl, rfl⟩ := hrel
      have zi := hi_bd (inr_div (j := j) ha)
      have zl := lo_bd (a / 2 ^ j)
      obtain ⟨n1, n2⟩ := half_math (a / 2 ^ j)
      rw [half_pow] at n1 n2
      have N1 : Hid (hi (a / 2 ^ (j + 1)) = hi (a / 2 ^ j) / 2) := n1
      have N2 : Hid (lo (a / 2 ^ (j + 1)) = lo (a / 2 ^ j) / 2 + hi (a / 2 ^ j) % 2 * 2305843009213693952) := n2
      clear n1 n2
      generalize hp : hi (a / 2 ^ j) = P at *
      generalize hq : lo (a / 2 ^ j) = Q at *
      by_cases hlt : (j : Int) < 200
      · go_wp2
        go_roundw
        case rel => exact ⟨j + 1, by omega, by go_num, by rw [N1.out, N2.out]⟩
        case measure => simp [intOf]; omega
      · go_wp2
        have E : Hid (dn a k = a / 2 ^ j) := dn_low a k j (by omega)
        exact bodyPost_ret (v := .agg #[.int .i64 P, .int .i64 Q]) (by simp [results, Try.results82, go_sem]) rfl ⟨by rw [E.out, hp, hq], Mr.mk' (by repeat (first | (with_reducible exact Mr.refl _) | (with_reducible apply Mr.drew) | (with_reducible apply Mr.alloc) | (with_reducible apply Mr.ext) | (with_reducible refine Mr.setCell ?_ (by first | (simp; done) | (simp; omega) | omega | (refine leOf0 ?_; (repeat (first | (with_reducible exact Mr.refl _) | (with_reducible apply Mr.drew) | (with_reducible apply Mr.alloc) | (with_reducible apply Mr.ext) | (with_reducible refine Mr.setCell ?_ (by first | (simp; done) | (simp; omega) | omega) _))); done) | (refine leOf ?_; (repeat (first | (with_reducible exact Mr.refl _) | (with_reducible apply Mr.drew) | (with_reducible apply Mr.alloc) | (with_reducible apply Mr.ext) | (with_reducible refine Mr.setCell ?_ (by first | (simp; done) | (simp; omega) | omega) _))); done)) _)))⟩
end Wd
end Go.Proofs.Ytpammdogkkipbaa
