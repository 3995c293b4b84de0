/- The contracts of package wide, second part. -/
import Derived.Test.YtdedfnogaonphaaDoorWideC
namespace Go.Proofs.YtdedfnogaonphaaDoor
open Go.ChangeShapes Go.WideShapes Go.ChangeAt Go.RowKit
open Go.Proofs.YtdedfnogaonphaaDoor.Fx
set_option linter.unusedVariables false
attribute [local go_sem] Ext.cell Ext.froz Ext.lt Ext.lt1 Ext.lt2 Ext.lt3 Ext.all Ext.set_u drew_heap setCell_size Ext.set_size
namespace Wd
attribute [local go_sem ↓] eq_wide eqw_self
attribute [local go_sem] and62 and1 sgn64 not64 wrap_and

theorem vw_hl1 {n : Int} (h : -10633823966279326983230456482242756608 ≤ n ∧ n < 10633823966279326983230456482242756608) : vw (hi n) (lo n) = n := vw_hl (by rw [inr_iff]; exact h)
theorem cl_in {a : Int} (h0 : -288230376151711744 ≤ a) (h1 : a ≤ 288230376151711744) : cl a = a ∧ co a = false := by
  simp only [cl, co, wv, wb]; rw [if_neg (by omega), if_neg (by omega)]; refine ⟨rfl, ?_⟩; simp; omega
theorem cl_hi {a : Int} (h1 : 288230376151711744 < a) : cl a = 288230376151711744 ∧ co a = true := by
  simp only [cl, co, wv, wb]; rw [if_neg (by omega), if_pos h1]; refine ⟨rfl, ?_⟩; simp; omega
theorem cl_lo {a : Int} (h1 : a < -288230376151711744) : cl a = -288230376151711744 ∧ co a = true := by
  simp only [cl, co, wv, wb]; rw [if_pos h1]; refine ⟨rfl, ?_⟩; simp; omega
theorem int_math (a : Int) (h0 : -288230376151711744 ≤ a) (h1 : a ≤ 288230376151711744) : -1 ≤ hi a ∧ hi a ≤ 0 := by unfold hi; omega
set_option maxHeartbeats 2000000 in
theorem wint_c (p q : Int) (w : World) :
    Calls Tryd.prog 21 #[.agg #[.int .i64 p, .int .i64 q]] w fun e w' => e = .returned (.tuple #[.int .i64 (cl (vw p q)), .bool (!co (vw p q))]) ∧ ∃ x : Ext w, w' = x.u := by
  have ha := vw_inr p q
  generalize hg : vw p q = a at *
  have b1 := hi_bd ha
  have b3 := lo_bd a
  have b4 := hi_lo a
  have B4 : Hid (hi a * 4611686018427387904 + lo a = a) := b4
  have c2 := vw_hl ha
  have c1 : vw (hi 288230376151711744) (lo 288230376151711744) = 288230376151711744 := by decide
  have c3 : vw (hi (-288230376151711744)) (lo (-288230376151711744)) = -288230376151711744 := by decide
  clear ha b4
  by_cases h1 : 288230376151711744 < a
  · have d1 : cm a 288230376151711744 = 1 := by unfold cm; rw [if_neg (by omega), if_pos h1]
    have HR : Hid (cl a = 288230376151711744 ∧ co a = true) := cl_hi h1
    clear h1
    go_enter Tryd.func21, Tryd.ntmps21
    go_wp2_with (go_at_call 32; refine (counted_c _ _ _).mono ?_; rintro e w' ⟨rfl, x, rfl⟩)
    refine wp_region_ext (by kernel_rfl) (by kernel_rfl) ?_
    repeat (go_big_quiet_step ((first | (go_at_call 37; exact extCall (wof_c _ _ (by omega))) | (go_at_call 36; exact extCall (wcmp_c _ _ _ _ _)))))
    refine wpQuiet_nil ?_
    rintro w1 ⟨x1, rfl⟩
    go_wp2
    go_ret2
    exact ⟨ret_ib HR.out.1.symm (by rw [HR.out.2]; rfl), Mr.mk' (by repeat (first | (with_reducible exact Mr.refl _) | (with_reducible apply Mr.drew) | (with_reducible apply Mr.alloc) | (with_reducible apply Mr.ext) | (with_reducible refine Mr.setCell ?_ (by first | (simp; done) | (simp; omega) | omega | (refine leOf0 ?_; (repeat (first | (with_reducible exact Mr.refl _) | (with_reducible apply Mr.drew) | (with_reducible apply Mr.alloc) | (with_reducible apply Mr.ext) | (with_reducible refine Mr.setCell ?_ (by first | (simp; done) | (simp; omega) | omega) _))); done) | (refine leOf ?_; (repeat (first | (with_reducible exact Mr.refl _) | (with_reducible apply Mr.drew) | (with_reducible apply Mr.alloc) | (with_reducible apply Mr.ext) | (with_reducible refine Mr.setCell ?_ (by first | (simp; done) | (simp; omega) | omega) _))); done)) _)))⟩
  · by_cases h2 : a < -288230376151711744
    · have d1 : cm a 288230376151711744 = -1 := by unfold cm; rw [if_pos (by omega)]
      have d2 : cm a (-288230376151711744) = -1 := by unfold cm; rw [if_pos (by omega)]
      have HR : Hid (cl a = -288230376151711744 ∧ co a = true) := cl_lo h2
      clear h1 h2
      go_enter Tryd.func21, Tryd.ntmps21
      go_wp2_with (go_at_call 32; refine (counted_c _ _ _).mono ?_; rintro e w' ⟨rfl, x, rfl⟩)
      refine wp_region_ext (by kernel_rfl) (by kernel_rfl) ?_
      repeat (go_big_quiet_step ((first | (go_at_call 37; exact extCall (wof_c _ _ (by omega))) | (go_at_call 36; exact extCall (wcmp_c _ _ _ _ _)))))
      refine wpQuiet_nil ?_
      rintro w1 ⟨x1, rfl⟩
      go_wp2
      refine wp_region_ext (by kernel_rfl) (by kernel_rfl) ?_
      repeat (go_big_quiet_step ((first | (go_at_call 37; exact extCall (wof_c _ _ (by omega))) | (go_at_call 36; exact extCall (wcmp_c _ _ _ _ _)))))
      refine wpQuiet_nil ?_
      rintro w1 ⟨x2, rfl⟩
      go_wp2
      go_ret2
      exact ⟨ret_ib HR.out.1.symm (by rw [HR.out.2]; rfl), Mr.mk' (by repeat (first | (with_reducible exact Mr.refl _) | (with_reducible apply Mr.drew) | (with_reducible apply Mr.alloc) | (with_reducible apply Mr.ext) | (with_reducible refine Mr.setCell ?_ (by first | (simp; done) | (simp; omega) | omega | (refine leOf0 ?_; (repeat (first | (with_reducible exact Mr.refl _) | (with_reducible apply Mr.drew) | (with_reducible apply Mr.alloc) | (with_reducible apply Mr.ext) | (with_reducible refine Mr.setCell ?_ (by first | (simp; done) | (simp; omega) | omega) _))); done) | (refine leOf ?_; (repeat (first | (with_reducible exact Mr.refl _) | (with_reducible apply Mr.drew) | (with_reducible apply Mr.alloc) | (with_reducible apply Mr.ext) | (with_reducible refine Mr.setCell ?_ (by first | (simp; done) | (simp; omega) | omega) _))); done)) _)))⟩
    · have d1 : cm a 288230376151711744 ≤ 0 := by unfold cm; split <;> (try split) <;> omega
      have d2 : 0 ≤ cm a (-288230376151711744) := by unfold cm; split <;> (try split) <;> omega
      have HR : Hid (cl a = a ∧ co a = false) := cl_in (by omega) (by omega)
      obtain ⟨m1, m2⟩ := int_math a (by omega) (by omega)
      have HA : Hid (-288230376151711744 ≤ a ∧ a ≤ 288230376151711744) := ⟨by omega, by omega⟩
      clear h1 h2
      go_enter Tryd.func21, Tryd.ntmps21
      go_wp2_with (go_at_call 32; refine (counted_c _ _ _).mono ?_; rintro e w' ⟨rfl, x, rfl⟩)
      refine wp_region_ext (by kernel_rfl) (by kernel_rfl) ?_
      repeat (go_big_quiet_step ((first | (go_at_call 37; exact extCall (wof_c _ _ (by omega))) | (go_at_call 36; exact extCall (wcmp_c _ _ _ _ _)))))
      refine wpQuiet_nil ?_
      rintro w1 ⟨x1, rfl⟩
      go_wp2
      refine wp_region_ext (by kernel_rfl) (by kernel_rfl) ?_
      repeat (go_big_quiet_step ((first | (go_at_call 37; exact extCall (wof_c _ _ (by omega))) | (go_at_call 36; exact extCall (wcmp_c _ _ _ _ _)))))
      refine wpQuiet_nil ?_
      rintro w1 ⟨x2, rfl⟩
      go_wp2
      go_ret2
      exact ⟨ret_ib (by rw [HR.out.1]; exact B4.out) (by rw [HR.out.2]; rfl), Mr.mk' (by repeat (first | (with_reducible exact Mr.refl _) | (with_reducible apply Mr.drew) | (with_reducible apply Mr.alloc) | (with_reducible apply Mr.ext) | (with_reducible refine Mr.setCell ?_ (by first | (simp; done) | (simp; omega) | omega | (refine leOf0 ?_; (repeat (first | (with_reducible exact Mr.refl _) | (with_reducible apply Mr.drew) | (with_reducible apply Mr.alloc) | (with_reducible apply Mr.ext) | (with_reducible refine Mr.setCell ?_ (by first | (simp; done) | (simp; omega) | omega) _))); done) | (refine leOf ?_; (repeat (first | (with_reducible exact Mr.refl _) | (with_reducible apply Mr.drew) | (with_reducible apply Mr.alloc) | (with_reducible apply Mr.ext) | (with_reducible refine Mr.setCell ?_ (by first | (simp; done) | (simp; omega) | omega) _))); done)) _)))⟩
theorem dn_low (a k : Int) (j : Nat) (hj : (min (max k 0) 200).toNat = j) : dn a k = a / 2 ^ j := by unfold dn; rw [hj]
end Wd
end Go.Proofs.YtdedfnogaonphaaDoor
