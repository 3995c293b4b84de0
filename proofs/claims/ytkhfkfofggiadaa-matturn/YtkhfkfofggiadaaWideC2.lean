/- The contracts of package wide, second part. -/
import Derived.Test.YtkhfkfofggiadaaWideC
namespace Go.Proofs.Ytkhfkfofggiadaa
open Go.ChangeShapes Go.WideShapes Go.ChangeAt Go.RowKit
open Go.Proofs.Ytkhfkfofggiadaa.Fx
set_option linter.unusedVariables false
attribute [local go_sem] Ext.cell Ext.froz Ext.lt Ext.lt1 Ext.lt2 Ext.lt3 Ext.all Ext.set_u drew_heap setCell_size Ext.set_size
namespace Wd
attribute [local go_sem ↓] eq_wide eqw_self
attribute [local go_sem] and62 and1 sgn64 not64 wrap_and

theorem vw_hl1 {n : Int} (h : -10633823966279326983230456482242756608 ≤ n ∧ n < 10633823966279326983230456482242756608) : vw (hi n) (lo n) = n := vw_hl (by rw [inr_iff]; exact h)
theorem cl_in {a : Int} (h0 : -288230376151711744 ≤ a) (h1 : a ≤ 288230376151711744) : cl a = a ∧ co a = false := by
  simp only [cl, co, wv, wb]; rw [if_neg (by omega), if_neg (by omega)]; refine ⟨rfl, ?_⟩; simp; omega
theorem cl_hi {a : Int} (h1 : 288230376151711744 < a) : cl a = 288230376151711744 ∧ co a = true := by
  simp only [cl, co, wv, wb]; rw [if_neg (by omega), if_pos h1]; refine ⟨rfl, ?_⟩; simp; omega
theorem cl_lo {a : Int} (h1 : a < -288230376151711744) : cl a = -288230376151711744 ∧ co a = true := by
  simp only [cl, co, wv, wb]; rw [if_pos h1]; refine ⟨rfl, ?_⟩; simp; omega
theorem int_math (a : Int) (h0 : -288230376151711744 ≤ a) (h1 : a ≤ 288230376151711744) : -1 ≤ hi a ∧ hi a ≤ 0 := by unfold hi; omega
set_option maxHeartbeats 2000000 in
theorem wint_c (p q : Int) (w : World) :
    Calls Try.prog 47 #[.agg #[.int .i64 p, .int .i64 q]] w fun e w' => e = .returned (.tuple #[.int .i64 (cl (vw p q)), .bool (!co (vw p q))]) ∧ ∃ x : Ext w, w' = x.u := by
  have ha := vw_inr p q
  generalize hg : vw p q = a at *
  have b1 := hi_bd ha
  have b3 := lo_bd a
  have b4 := hi_lo a
  have B4 : Hid (hi a * 4611686018427387904 + lo a = a) := b4
  have c2 := vw_hl ha
  have c1 : vw (hi 288230376151711744) (lo 288230376151711744) = 288230376151711744 := by decide
  have c3 : vw (hi (-288230376151711744)) (lo (-288230376151711744)) = -288230376151711744 := by decide
  clear ha b4
  by_cases h1 : 288230376151711744 < a
  · have d1 : cm a 288230376151711744 = 1 := by unfold cm; rw [if_neg (by omega), if_pos h1]
    have HR : Hid (cl a = 288230376151711744 ∧ co a = true) := cl_hi h1
    clear h1
    go_enter Try.func47, Try.ntmps47
    go_wp2_with (go_at_call 67; refine (counted_c _ _ _).mono ?_; rintro e w' ⟨rfl, x, rfl⟩)
    refine wp_region_ext (by kernel_rfl) (by kernel_rfl) ?_
    repeat (go_big_quiet_step ((first | (go_at_call 66; exact extCall (wof_c _ _ (by omega))) | (go_at_call 68; exact extCall (wcmp_c _ _ _ _ _)))))
    refine wpQuiet_nil ?_
    rintro w1 ⟨x1, rfl⟩
    go_wp2
    go_ret2
    exact ⟨ret_ib HR.out.1.symm (by rw [HR.out.2]; rfl), Mr.mk' (by repeat (first | (with_reducible exact Mr.refl _) | (with_reducible apply Mr.drew) | (with_reducible apply Mr.alloc) | (with_reducible apply Mr.ext) | (with_reducible refine Mr.setCell ?_ (by first | (simp; done) | (simp; omega) | omega | (refine leOf0 ?_; (repeat (first | (with_reducible exact Mr.refl _) | (with_reducible apply Mr.drew) | (with_reducible apply Mr.alloc) | (with_reducible apply Mr.ext) | (with_reducible refine Mr.setCell ?_ (by first | (simp; done) | (simp; omega) | omega) _))); done) | (refine leOf ?_; (repeat (first | (with_reducible exact Mr.refl _) | (with_reducible apply Mr.drew) | (with_reducible apply Mr.alloc) | (with_reducible apply Mr.ext) | (with_reducible refine Mr.setCell ?_ (by first | (simp; done) | (simp; omega) | omega) _))); done)) _)))⟩
  · by_cases h2 : a < -288230376151711744
    · have d1 : cm a 288230376151711744 = -1 := by unfold cm; rw [if_pos (by omega)]
      have d2 : cm a (-288230376151711744) = -1 := by unfold cm; rw [if_pos (by omega)]
      have HR : Hid (cl a = -288230376151711744 ∧ co a = true) := cl_lo h2
      clear h1 h2
      go_enter Try.func47, Try.ntmps47
      go_wp2_with (go_at_call 67; refine (counted_c _ _ _).mono ?_; rintro e w' ⟨rfl, x, rfl⟩)
      refine wp_region_ext (by kernel_rfl) (by kernel_rfl) ?_
      repeat (go_big_quiet_step ((first | (go_at_call 66; exact extCall (wof_c _ _ (by omega))) | (go_at_call 68; exact extCall (wcmp_c _ _ _ _ _)))))
      refine wpQuiet_nil ?_
      rintro w1 ⟨x1, rfl⟩
      go_wp2
      refine wp_region_ext (by kernel_rfl) (by kernel_rfl) ?_
      repeat (go_big_quiet_step ((first | (go_at_call 66; exact extCall (wof_c _ _ (by omega))) | (go_at_call 68; exact extCall (wcmp_c _ _ _ _ _)))))
      refine wpQuiet_nil ?_
      rintro w1 ⟨x2, rfl⟩
      go_wp2
      go_ret2
      exact ⟨ret_ib HR.out.1.symm (by rw [HR.out.2]; rfl), Mr.mk' (by repeat (first | (with_reducible exact Mr.refl _) | (with_reducible apply Mr.drew) | (with_reducible apply Mr.alloc) | (with_reducible apply Mr.ext) | (with_reducible refine Mr.setCell ?_ (by first | (simp; done) | (simp; omega) | omega | (refine leOf0 ?_; (repeat (first | (with_reducible exact Mr.refl _) | (with_reducible apply Mr.drew) | (with_reducible apply Mr.alloc) | (with_reducible apply Mr.ext) | (with_reducible refine Mr.setCell ?_ (by first | (simp; done) | (simp; omega) | omega) _))); done) | (refine leOf ?_; (repeat (first | (with_reducible exact Mr.refl _) | (with_reducible apply Mr.drew) | (with_reducible apply Mr.alloc) | (with_reducible apply Mr.ext) | (with_reducible refine Mr.setCell ?_ (by first | (simp; done) | (simp; omega) | omega) _))); done)) _)))⟩
    · have d1 : cm a 288230376151711744 ≤ 0 := by unfold cm; split <;> (try split) <;> omega
      have d2 : 0 ≤ cm a (-288230376151711744) := by unfold cm; split <;> (try split) <;> omega
      have HR : Hid (cl a = a ∧ co a = false) := cl_in (by omega) (by omega)
      obtain ⟨m1, m2⟩ := int_math a (by omega) (by omega)
      have HA : Hid (-288230376151711744 ≤ a ∧ a ≤ 288230376151711744) := ⟨by omega, by omega⟩
      clear h1 h2
      go_enter Try.func47, Try.ntmps47
      go_wp2_with (go_at_call 67; refine (counted_c _ _ _).mono ?_; rintro e w' ⟨rfl, x, rfl⟩)
      refine wp_region_ext (by kernel_rfl) (by kernel_rfl) ?_
      repeat (go_big_quiet_step ((first | (go_at_call 66; exact extCall (wof_c _ _ (by omega))) | (go_at_call 68; exact extCall (wcmp_c _ _ _ _ _)))))
      refine wpQuiet_nil ?_
      rintro w1 ⟨x1, rfl⟩
      go_wp2
      refine wp_region_ext (by kernel_rfl) (by kernel_rfl) ?_
      repeat (go_big_quiet_step ((first | (go_at_call 66; exact extCall (wof_c _ _ (by omega))) | (go_at_call 68; exact extCall (wcmp_c _ _ _ _ _)))))
      refine wpQuiet_nil ?_
      rintro w1 ⟨x2, rfl⟩
      go_wp2
      go_ret2
      exact ⟨ret_ib (by rw [HR.out.1]; exact B4.out) (by rw [HR.out.2]; rfl), Mr.mk' (by repeat (first | (with_reducible exact Mr.refl _) | (with_reducible apply Mr.drew) | (with_reducible apply Mr.alloc) | (with_reducible apply Mr.ext) | (with_reducible refine Mr.setCell ?_ (by first | (simp; done) | (simp; omega) | omega | (refine leOf0 ?_; (repeat (first | (with_reducible exact Mr.refl _) | (with_reducible apply Mr.drew) | (with_reducible apply Mr.alloc) | (with_reducible apply Mr.ext) | (with_reducible refine Mr.setCell ?_ (by first | (simp; done) | (simp; omega) | omega) _))); done) | (refine leOf ?_; (repeat (first | (with_reducible exact Mr.refl _) | (with_reducible apply Mr.drew) | (with_reducible apply Mr.alloc) | (with_reducible apply Mr.ext) | (with_reducible refine Mr.setCell ?_ (by first | (simp; done) | (simp; omega) | omega) _))); done)) _)))⟩
theorem dn_low (a k : Int) (j : Nat) (hj : (min (max k 0) 200).toNat = j) : dn a k = a / 2 ^ j := by unfold dn; rw [hj]
set_option maxHeartbeats 2000000 in
theorem wdown_c (p q k : Int) (w : World) :
    Calls Try.prog 88 #[.agg #[.int .i64 p, .int .i64 q], .int .i64 k] w fun e w' => e = .returned (.agg #[.int .i64 (hi (dn (vw p q) k)), .int .i64 (lo (dn (vw p q) k))]) ∧ ∃ x : Ext w, w' = x.u := by
  have ha := vw_inr p q
  generalize hg : vw p q = a at *
  have b1 := hi_bd ha
  have b3 := lo_bd a
  have b4 := hi_lo a
  have B4 : Hid (hi a * 4611686018427387904 + lo a = a) := b4
  clear ha b4
  generalize hd : dn a k = z
  have HD : Hid (dn a k = z) := hd
  clear hd
  by_cases h1 : k < 0
  · have e1 : bits .or .i64 0 (lo a) = lo a := by
      have := or64 62 0 (lo a) (by omega) (by decide) (by decide) b3.1 (by omega) (by omega)
      rw [this]; omega
    have E2 : Hid (z = a) := by
      have h := HD.out
      unfold dn at h
      rw [show (min (max k 0) 200).toNat = 0 by omega] at h
      simp at h
      exact h.symm
    go_enter Try.func88, Try.ntmps88
    go_wp2_with (go_at_call 67; refine (counted_c _ _ _).mono ?_; rintro e w' ⟨rfl, x, rfl⟩)
    go_region_held3 (fun w' => w'.cell? ⟨w.heap.size, 0, none⟩ = some (.int .i64 (hi a)) ∧ w'.cell? ⟨w.heap.size, 1, none⟩ = some (.int .i64 (lo a))) ((simp [go_sem]; done)) (fail)
    go_wp2_with fail
    exact bodyPost_ret (v := .agg #[.int .i64 (hi a), .int .i64 (lo a)]) (by simp [results, Try.results88, go_sem]) rfl ⟨by rw [E2.out], Mr.mk' (by repeat (first | (with_reducible exact Mr.refl _) | (with_reducible apply Mr.drew) | (with_reducible apply Mr.alloc) | (with_reducible apply Mr.ext) | (with_reducible refine Mr.setCell ?_ (by first | (simp; done) | (simp; omega) | omega | (refine leOf0 ?_; (repeat (first | (with_reducible exact Mr.refl _) | (with_reducible apply Mr.drew) | (with_reducible apply Mr.alloc) | (with_reducible apply Mr.ext) | (with_reducible refine Mr.setCell ?_ (by first | (simp; done) | (simp; omega) | omega) _))); done) | (refine leOf ?_; (repeat (first | (with_reducible exact Mr.refl _) | (with_reducible apply Mr.drew) | (with_reducible apply Mr.alloc) | (with_reducible apply Mr.ext) | (with_reducible refine Mr.setCell ?_ (by first | (simp; done) | (simp; omega) | omega) _))); done)) _)))⟩
  · by_cases h2 : 62 ≤ k
    · have m1 : dn a k = hi a / 2 ^ min (min k 200 - 62).toNat 64 := by
        rw [shr_cap (by omega) (by omega), dn_low a k (min k 200).toNat (by omega), dn_high a _ (by omega)]
        congr 2
        omega
      have m2 := div_pow_bd (T := 2305843009213693951) (by omega) (by omega) b1.2 (min (min k 200 - 62).toNat 64)
      rw [← m1] at m2
      by_cases h3 : 200 < k
      · rw [show min k 200 = 200 by omega] at m1
        have m3 : hi a / 18446744073709551616 = z := by rw [← HD.out, m1]; rfl
        have M2 : Hid (dn a k = z) := HD.out
        rw [M2.out] at m2
        clear m1 M2
        go_enter Try.func88, Try.ntmps88
        go_wp2_with (first | (go_at_call 67; refine (counted_c _ _ _).mono ?_; rintro e w' ⟨rfl, x, rfl⟩) | (go_at_call 66; refine (wof_c _ _ ?_).mono ?_; (first | omega | exact ⟨by omega, by omega⟩); rintro e w' ⟨rfl, x, rfl⟩))
        exact bodyPost_ret (v := .agg #[.int .i64 (hi z), .int .i64 (lo z)]) (by simp [results, Try.results88, go_sem]) rfl ⟨rfl, Mr.mk' (by repeat (first | (with_reducible exact Mr.refl _) | (with_reducible apply Mr.drew) | (with_reducible apply Mr.alloc) | (with_reducible apply Mr.ext) | (with_reducible refine Mr.setCell ?_ (by first | (simp; done) | (simp; omega) | omega | (refine leOf0 ?_; (repeat (first | (with_reducible exact Mr.refl _) | (with_reducible apply Mr.drew) | (with_reducible apply Mr.alloc) | (with_reducible apply Mr.ext) | (with_reducible refine Mr.setCell ?_ (by first | (simp; done) | (simp; omega) | omega) _))); done) | (refine leOf ?_; (repeat (first | (with_reducible exact Mr.refl _) | (with_reducible apply Mr.drew) | (with_reducible apply Mr.alloc) | (with_reducible apply Mr.ext) | (with_reducible refine Mr.setCell ?_ (by first | (simp; done) | (simp; omega) | omega) _))); done)) _)))⟩
      · rw [show min k 200 = k by omega] at m1
        have m3 : hi a / 2 ^ min (k - 62).toNat 64 = z := by rw [← HD.out, m1]
        have M2 : Hid (dn a k = z) := HD.out
        rw [M2.out] at m2
        clear m1 M2
        go_enter Try.func88, Try.ntmps88
        go_wp2_with (first | (go_at_call 67; refine (counted_c _ _ _).mono ?_; rintro e w' ⟨rfl, x, rfl⟩) | (go_at_call 66; refine (wof_c _ _ ?_).mono ?_; (first | omega | exact ⟨by omega, by omega⟩); rintro e w' ⟨rfl, x, rfl⟩))
        exact bodyPost_ret (v := .agg #[.int .i64 (hi z), .int .i64 (lo z)]) (by simp [results, Try.results88, go_sem]) rfl ⟨rfl, Mr.mk' (by repeat (first | (with_reducible exact Mr.refl _) | (with_reducible apply Mr.drew) | (with_reducible apply Mr.alloc) | (with_reducible apply Mr.ext) | (with_reducible refine Mr.setCell ?_ (by first | (simp; done) | (simp; omega) | omega | (refine leOf0 ?_; (repeat (first | (with_reducible exact Mr.refl _) | (with_reducible apply Mr.drew) | (with_reducible apply Mr.alloc) | (with_reducible apply Mr.ext) | (with_reducible refine Mr.setCell ?_ (by first | (simp; done) | (simp; omega) | omega) _))); done) | (refine leOf ?_; (repeat (first | (with_reducible exact Mr.refl _) | (with_reducible apply Mr.drew) | (with_reducible apply Mr.alloc) | (with_reducible apply Mr.ext) | (with_reducible refine Mr.setCell ?_ (by first | (simp; done) | (simp; omega) | omega) _))); done)) _)))⟩
    · obtain ⟨j, rfl⟩ := Int.eq_ofNat_of_zero_le (show 0 ≤ k by omega)
      obtain ⟨e1, e2⟩ := down_all a j (by omega)
      have m1 : min j 64 = j := by omega
      have m2 : min (62 - j) 64 = 62 - j := by omega
      have m3 : (62 - (j : Int)).toNat = 62 - j := by omega
      have h3 : (j : Int) ≤ 61 := by omega
      clear h2
      go_enter Try.func88, Try.ntmps88
      go_wp2_with (go_at_call 67; refine (counted_c _ _ _).mono ?_; rintro e w' ⟨rfl, x, rfl⟩)
      go_region_held3 (fun w' => w'.cell? ⟨w.heap.size, 0, none⟩ = some (.int .i64 (hi a)) ∧ w'.cell? ⟨w.heap.size, 1, none⟩ = some (.int .i64 (lo a))) ((simp [go_sem]; done)) (fail)
      go_wp2_with fail
      have E2 : Hid (z = a / 2 ^ j) := by
        have h := HD.out
        rw [dn_low a _ j (by omega)] at h
        exact h.symm
      exact bodyPost_ret (v := .agg #[.int .i64 (hi (a / 2 ^ j)), .int .i64 (lo (a / 2 ^ j))]) (by simp [results, Try.results88, go_sem]) rfl ⟨by rw [E2.out], Mr.mk' (by repeat (first | (with_reducible exact Mr.refl _) | (with_reducible apply Mr.drew) | (with_reducible apply Mr.alloc) | (with_reducible apply Mr.ext) | (with_reducible refine Mr.setCell ?_ (by first | (simp; done) | (simp; omega) | omega | (refine leOf0 ?_; (repeat (first | (with_reducible exact Mr.refl _) | (with_reducible apply Mr.drew) | (with_reducible apply Mr.alloc) | (with_reducible apply Mr.ext) | (with_reducible refine Mr.setCell ?_ (by first | (simp; done) | (simp; omega) | omega) _))); done) | (refine leOf ?_; (repeat (first | (with_reducible exact Mr.refl _) | (with_reducible apply Mr.drew) | (with_reducible apply Mr.alloc) | (with_reducible apply Mr.ext) | (with_reducible refine Mr.setCell ?_ (by first | (simp; done) | (simp; omega) | omega) _))); done)) _)))⟩
end Wd
end Go.Proofs.Ytkhfkfofggiadaa
