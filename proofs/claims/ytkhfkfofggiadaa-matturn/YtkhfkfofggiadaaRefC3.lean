/- The contracts of the document's own answers of layer 2, second part. -/
import Derived.Test.YtkhfkfofggiadaaRefC2
namespace Go.Proofs.Ytkhfkfofggiadaa
open Go.ChangeShapes Go.WideShapes Go.ChangeAt Go.RowKit
open Go.Proofs.Ytkhfkfofggiadaa.Fx
set_option linter.unusedVariables false
attribute [local go_sem] Ext.cell Ext.froz Ext.lt Ext.lt1 Ext.lt2 Ext.lt3 Ext.all Ext.set_u drew_heap setCell_size Ext.set_size
namespace Wd
attribute [local go_sem ↓] eq_wide eqw_self
attribute [local go_sem] and62 and1 sgn64
theorem eqw_f {a b c d : Int} (h : a ≠ c ∨ b ≠ d) : eqw a b c d = false := by
  unfold eqw; simp; omega
set_option maxHeartbeats 2000000 in
theorem rcmp2_c (p q r s : Int) (w : World) :
    Calls Try.prog 61 #[.agg #[.int .i64 p, .int .i64 q], .agg #[.int .i64 r, .int .i64 s]] w fun e w' => e = .returned (.int .i64 (cm (vw p q) (vw r s))) ∧ ∃ x : Ext w, w' = x.u := by
  generalize hg : vw p q = a at *
  generalize hg2 : vw r s = b at *
  have HC : Hid (cm a b = if hi a = hi b then cm (lo a) (lo b) else cm (hi a) (hi b)) := cm_hl a b
  by_cases h1 : hi a < hi b
  · have C : Hid (cm a b = -1) := by have := HC.out; rw [if_neg (by omega)] at this; rw [Hid, this]; unfold cm; rw [if_pos h1]
    go_enter Try.func61, Try.ntmps61; go_wp2_with (go_at_call 81; refine (ras2_c _ _ _).mono ?_; rintro e w' ⟨rfl, x, rfl⟩)
    go_ret
    exact ⟨ret_i' C.out.symm, Mr.mk' (by repeat (first | (with_reducible exact Mr.refl _) | (with_reducible apply Mr.drew) | (with_reducible apply Mr.alloc) | (with_reducible apply Mr.ext) | (with_reducible refine Mr.setCell ?_ (by first | (simp; done) | (simp; omega) | omega | (refine leOf0 ?_; (repeat (first | (with_reducible exact Mr.refl _) | (with_reducible apply Mr.drew) | (with_reducible apply Mr.alloc) | (with_reducible apply Mr.ext) | (with_reducible refine Mr.setCell ?_ (by first | (simp; done) | (simp; omega) | omega) _))); done) | (refine leOf ?_; (repeat (first | (with_reducible exact Mr.refl _) | (with_reducible apply Mr.drew) | (with_reducible apply Mr.alloc) | (with_reducible apply Mr.ext) | (with_reducible refine Mr.setCell ?_ (by first | (simp; done) | (simp; omega) | omega) _))); done)) _)))⟩
  · by_cases h2 : hi a = hi b
    · have C : Hid (cm a b = cm (lo a) (lo b)) := by have := HC.out; rw [if_pos h2] at this; exact this
      have d1 : (hi a == hi b) = true := by simp [h2]
      by_cases h3 : lo a < lo b
      · have C2 : Hid (cm (lo a) (lo b) = -1) := by rw [Hid]; unfold cm; rw [if_pos h3]
        clear h2 HC
        go_enter Try.func61, Try.ntmps61; go_wp2_with (go_at_call 81; refine (ras2_c _ _ _).mono ?_; rintro e w' ⟨rfl, x, rfl⟩)
        go_ret
        exact ⟨ret_i' (by rw [C.out, C2.out]), Mr.mk' (by repeat (first | (with_reducible exact Mr.refl _) | (with_reducible apply Mr.drew) | (with_reducible apply Mr.alloc) | (with_reducible apply Mr.ext) | (with_reducible refine Mr.setCell ?_ (by first | (simp; done) | (simp; omega) | omega | (refine leOf0 ?_; (repeat (first | (with_reducible exact Mr.refl _) | (with_reducible apply Mr.drew) | (with_reducible apply Mr.alloc) | (with_reducible apply Mr.ext) | (with_reducible refine Mr.setCell ?_ (by first | (simp; done) | (simp; omega) | omega) _))); done) | (refine leOf ?_; (repeat (first | (with_reducible exact Mr.refl _) | (with_reducible apply Mr.drew) | (with_reducible apply Mr.alloc) | (with_reducible apply Mr.ext) | (with_reducible refine Mr.setCell ?_ (by first | (simp; done) | (simp; omega) | omega) _))); done)) _)))⟩
      · by_cases h4 : lo a = lo b
        · have C2 : Hid (cm (lo a) (lo b) = 0) := by rw [Hid]; unfold cm; rw [if_neg h3, if_neg (by omega)]
          have d2 : eqw (hi a) (lo a) (hi b) (lo b) = true := by unfold eqw; simp [h2, h4]
          clear h2 HC h4
          go_enter Try.func61, Try.ntmps61; go_wp2_with (go_at_call 81; refine (ras2_c _ _ _).mono ?_; rintro e w' ⟨rfl, x, rfl⟩)
          go_ret
          exact ⟨ret_i' (by rw [C.out, C2.out]), Mr.mk' (by repeat (first | (with_reducible exact Mr.refl _) | (with_reducible apply Mr.drew) | (with_reducible apply Mr.alloc) | (with_reducible apply Mr.ext) | (with_reducible refine Mr.setCell ?_ (by first | (simp; done) | (simp; omega) | omega | (refine leOf0 ?_; (repeat (first | (with_reducible exact Mr.refl _) | (with_reducible apply Mr.drew) | (with_reducible apply Mr.alloc) | (with_reducible apply Mr.ext) | (with_reducible refine Mr.setCell ?_ (by first | (simp; done) | (simp; omega) | omega) _))); done) | (refine leOf ?_; (repeat (first | (with_reducible exact Mr.refl _) | (with_reducible apply Mr.drew) | (with_reducible apply Mr.alloc) | (with_reducible apply Mr.ext) | (with_reducible refine Mr.setCell ?_ (by first | (simp; done) | (simp; omega) | omega) _))); done)) _)))⟩
        · have C2 : Hid (cm (lo a) (lo b) = 1) := by rw [Hid]; unfold cm; rw [if_neg h3, if_pos (by omega)]
          have d2 : eqw (hi a) (lo a) (hi b) (lo b) = false := eqw_f (.inr h4)
          clear h2 HC h4
          go_enter Try.func61, Try.ntmps61; go_wp2_with (go_at_call 81; refine (ras2_c _ _ _).mono ?_; rintro e w' ⟨rfl, x, rfl⟩)
          go_ret
          exact ⟨ret_i' (by rw [C.out, C2.out]), Mr.mk' (by repeat (first | (with_reducible exact Mr.refl _) | (with_reducible apply Mr.drew) | (with_reducible apply Mr.alloc) | (with_reducible apply Mr.ext) | (with_reducible refine Mr.setCell ?_ (by first | (simp; done) | (simp; omega) | omega | (refine leOf0 ?_; (repeat (first | (with_reducible exact Mr.refl _) | (with_reducible apply Mr.drew) | (with_reducible apply Mr.alloc) | (with_reducible apply Mr.ext) | (with_reducible refine Mr.setCell ?_ (by first | (simp; done) | (simp; omega) | omega) _))); done) | (refine leOf ?_; (repeat (first | (with_reducible exact Mr.refl _) | (with_reducible apply Mr.drew) | (with_reducible apply Mr.alloc) | (with_reducible apply Mr.ext) | (with_reducible refine Mr.setCell ?_ (by first | (simp; done) | (simp; omega) | omega) _))); done)) _)))⟩
    · have C : Hid (cm a b = 1) := by have := HC.out; rw [if_neg h2] at this; rw [Hid, this]; unfold cm; rw [if_neg h1, if_pos (by omega)]
      have d1 : (hi a == hi b) = false := by simp [h2]
      have d2 : eqw (hi a) (lo a) (hi b) (lo b) = false := eqw_f (.inl h2)
      clear HC h2
      go_enter Try.func61, Try.ntmps61; go_wp2_with (go_at_call 81; refine (ras2_c _ _ _).mono ?_; rintro e w' ⟨rfl, x, rfl⟩)
      go_ret
      exact ⟨ret_i' C.out.symm, Mr.mk' (by repeat (first | (with_reducible exact Mr.refl _) | (with_reducible apply Mr.drew) | (with_reducible apply Mr.alloc) | (with_reducible apply Mr.ext) | (with_reducible refine Mr.setCell ?_ (by first | (simp; done) | (simp; omega) | omega | (refine leOf0 ?_; (repeat (first | (with_reducible exact Mr.refl _) | (with_reducible apply Mr.drew) | (with_reducible apply Mr.alloc) | (with_reducible apply Mr.ext) | (with_reducible refine Mr.setCell ?_ (by first | (simp; done) | (simp; omega) | omega) _))); done) | (refine leOf ?_; (repeat (first | (with_reducible exact Mr.refl _) | (with_reducible apply Mr.drew) | (with_reducible apply Mr.alloc) | (with_reducible apply Mr.ext) | (with_reducible refine Mr.setCell ?_ (by first | (simp; done) | (simp; omega) | omega) _))); done)) _)))⟩
set_option maxHeartbeats 2000000 in
theorem rint2_c (p q : Int) (w : World) :
    Calls Try.prog 71 #[.agg #[.int .i64 p, .int .i64 q]] w fun e w' => e = .returned (.tuple #[.int .i64 (cl (vw p q)), .bool (!co (vw p q))]) ∧ ∃ x : Ext w, w' = x.u := by
  have ha := vw_inr p q
  generalize hg : vw p q = a at *
  have b1 := hi_bd ha
  have b3 := lo_bd a
  have b4 := hi_lo a
  have B4 : Hid (hi a * 4611686018427387904 + lo a = a) := b4
  clear ha b4
  by_cases h1 : 288230376151711744 < a
  · have HR : Hid (cl a = 288230376151711744 ∧ co a = true) := cl_hi h1
    have o1 : 0 ≤ hi a := by have := B4.out; omega
    have o2 : 1 ≤ hi a ∨ 288230376151711744 < lo a := by have := B4.out; omega
    clear h1
    rcases o2 with o2 | o2
    all_goals
      go_enter Try.func71, Try.ntmps71; go_wp2_with (go_at_call 81; refine (ras2_c _ _ _).mono ?_; rintro e w' ⟨rfl, x, rfl⟩)
      all_goals
        go_ret2
        exact ⟨ret_ib HR.out.1.symm (by rw [HR.out.2]; rfl), Mr.mk' (by repeat (first | (with_reducible exact Mr.refl _) | (with_reducible apply Mr.drew) | (with_reducible apply Mr.alloc) | (with_reducible apply Mr.ext) | (with_reducible refine Mr.setCell ?_ (by first | (simp; done) | (simp; omega) | omega | (refine leOf0 ?_; (repeat (first | (with_reducible exact Mr.refl _) | (with_reducible apply Mr.drew) | (with_reducible apply Mr.alloc) | (with_reducible apply Mr.ext) | (with_reducible refine Mr.setCell ?_ (by first | (simp; done) | (simp; omega) | omega) _))); done) | (refine leOf ?_; (repeat (first | (with_reducible exact Mr.refl _) | (with_reducible apply Mr.drew) | (with_reducible apply Mr.alloc) | (with_reducible apply Mr.ext) | (with_reducible refine Mr.setCell ?_ (by first | (simp; done) | (simp; omega) | omega) _))); done)) _)))⟩
  · by_cases h2 : a < -288230376151711744
    · have HR : Hid (cl a = -288230376151711744 ∧ co a = true) := cl_lo h2
      have o1 : hi a ≤ -1 := by have := B4.out; omega
      have o2 : hi a ≤ -2 ∨ lo a < 4323455642275676160 := by have := B4.out; omega
      clear h1 h2
      rcases o2 with o2 | o2
      all_goals
        go_enter Try.func71, Try.ntmps71; go_wp2_with (go_at_call 81; refine (ras2_c _ _ _).mono ?_; rintro e w' ⟨rfl, x, rfl⟩)
        all_goals
          go_ret2
          exact ⟨ret_ib HR.out.1.symm (by rw [HR.out.2]; rfl), Mr.mk' (by repeat (first | (with_reducible exact Mr.refl _) | (with_reducible apply Mr.drew) | (with_reducible apply Mr.alloc) | (with_reducible apply Mr.ext) | (with_reducible refine Mr.setCell ?_ (by first | (simp; done) | (simp; omega) | omega | (refine leOf0 ?_; (repeat (first | (with_reducible exact Mr.refl _) | (with_reducible apply Mr.drew) | (with_reducible apply Mr.alloc) | (with_reducible apply Mr.ext) | (with_reducible refine Mr.setCell ?_ (by first | (simp; done) | (simp; omega) | omega) _))); done) | (refine leOf ?_; (repeat (first | (with_reducible exact Mr.refl _) | (with_reducible apply Mr.drew) | (with_reducible apply Mr.alloc) | (with_reducible apply Mr.ext) | (with_reducible refine Mr.setCell ?_ (by first | (simp; done) | (simp; omega) | omega) _))); done)) _)))⟩
    · have HR : Hid (cl a = a ∧ co a = false) := cl_in (by omega) (by omega)
      by_cases h3 : 0 ≤ a
      · have o1 : hi a = 0 := by have := B4.out; omega
        have o2 : lo a ≤ 288230376151711744 := by have := B4.out; omega
        have o3 : Hid (lo a = a) := by have := B4.out; rw [Hid]; omega
        clear h1 h2 h3
        go_enter Try.func71, Try.ntmps71; go_wp2_with (go_at_call 81; refine (ras2_c _ _ _).mono ?_; rintro e w' ⟨rfl, x, rfl⟩)
        go_ret2
        exact ⟨ret_ib (by rw [HR.out.1]; exact o3.out) (by rw [HR.out.2]; rfl), Mr.mk' (by repeat (first | (with_reducible exact Mr.refl _) | (with_reducible apply Mr.drew) | (with_reducible apply Mr.alloc) | (with_reducible apply Mr.ext) | (with_reducible refine Mr.setCell ?_ (by first | (simp; done) | (simp; omega) | omega | (refine leOf0 ?_; (repeat (first | (with_reducible exact Mr.refl _) | (with_reducible apply Mr.drew) | (with_reducible apply Mr.alloc) | (with_reducible apply Mr.ext) | (with_reducible refine Mr.setCell ?_ (by first | (simp; done) | (simp; omega) | omega) _))); done) | (refine leOf ?_; (repeat (first | (with_reducible exact Mr.refl _) | (with_reducible apply Mr.drew) | (with_reducible apply Mr.alloc) | (with_reducible apply Mr.ext) | (with_reducible refine Mr.setCell ?_ (by first | (simp; done) | (simp; omega) | omega) _))); done)) _)))⟩
      · have o1 : hi a = -1 := by have := B4.out; omega
        have o2 : 4323455642275676160 ≤ lo a := by have := B4.out; omega
        have o3 : Hid (lo a - 4611686018427387904 = a) := by have := B4.out; rw [Hid]; omega
        clear h1 h2 h3
        go_enter Try.func71, Try.ntmps71; go_wp2_with (go_at_call 81; refine (ras2_c _ _ _).mono ?_; rintro e w' ⟨rfl, x, rfl⟩)
        go_ret2
        exact ⟨ret_ib (by rw [HR.out.1]; exact o3.out) (by rw [HR.out.2]; rfl), Mr.mk' (by repeat (first | (with_reducible exact Mr.refl _) | (with_reducible apply Mr.drew) | (with_reducible apply Mr.alloc) | (with_reducible apply Mr.ext) | (with_reducible refine Mr.setCell ?_ (by first | (simp; done) | (simp; omega) | omega | (refine leOf0 ?_; (repeat (first | (with_reducible exact Mr.refl _) | (with_reducible apply Mr.drew) | (with_reducible apply Mr.alloc) | (with_reducible apply Mr.ext) | (with_reducible refine Mr.setCell ?_ (by first | (simp; done) | (simp; omega) | omega) _))); done) | (refine leOf ?_; (repeat (first | (with_reducible exact Mr.refl _) | (with_reducible apply Mr.drew) | (with_reducible apply Mr.alloc) | (with_reducible apply Mr.ext) | (with_reducible refine Mr.setCell ?_ (by first | (simp; done) | (simp; omega) | omega) _))); done)) _)))⟩
end Wd
end Go.Proofs.Ytkhfkfofggiadaa
