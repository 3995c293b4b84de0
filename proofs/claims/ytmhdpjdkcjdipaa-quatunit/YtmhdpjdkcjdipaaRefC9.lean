/- The contracts of the document's own answers of layer 4. -/
import Derived.Test.YtmhdpjdkcjdipaaRootM
import Derived.Test.YtmhdpjdkcjdipaaRootM
import Derived.Test.YtmhdpjdkcjdipaaRefC2
namespace Go.Proofs.Ytmhdpjdkcjdipaa
open Go.ChangeShapes Go.WideShapes Go.ChangeAt Go.RowKit
open Go.Proofs.Ytmhdpjdkcjdipaa.Fx Go.Proofs.Ytmhdpjdkcjdipaa.Wd
set_option linter.unusedVariables false
attribute [local go_sem] Ext.cell Ext.froz Ext.lt Ext.lt1 Ext.lt2 Ext.lt3 Ext.all Ext.set_u drew_heap setCell_size Ext.set_size
namespace Rt
attribute [local go_sem ↓] eq_wide eqw_self
attribute [local go_sem] and62 and1 sgn64 not64 wrap_and
theorem fit_iff (n z : Int) : decide (cm (ml n n) z ≤ 0) = decide (ml n n ≤ z) := by
  have := cm_cases (ml n n) z
  rw [decide_eq_decide]; omega
set_option maxHeartbeats 1000000 in
theorem fits_c (n p q : Int) (w : World) :
    Calls Try.prog 81 #[.int .i64 n, .agg #[.int .i64 p, .int .i64 q]] w fun e w' => e = .returned (.bool (decide (ml n n ≤ vw p q))) ∧ ∃ x : Ext w, w' = x.u := by
  have e1 := vw_ml n n
  have E : Hid (decide (cm (ml n n) (vw p q) ≤ 0) = decide (ml n n ≤ vw p q)) := fit_iff n (vw p q)
  go_enter Try.func81, Try.ntmps81
  go_wp2
  refine wp_region_ext (by kernel_rfl) (by kernel_rfl) ?_
  repeat (go_big_quiet_step ((first | (go_at_call 64; exact extCall (rmul2_c _ _ _)) | (go_at_call 83; exact extCall (rcmp2_c _ _ _ _ _)))))
  refine wpQuiet_nil ?_
  rintro w1 ⟨x1, rfl⟩
  go_wp2
  go_ret
  exact ⟨ret_b' E.out, Mr.mk' (by repeat (first | (with_reducible exact Mr.refl _) | (with_reducible apply Mr.drew) | (with_reducible apply Mr.alloc) | (with_reducible apply Mr.ext) | (with_reducible refine Mr.setCell ?_ (by first | (simp; done) | (simp; omega) | omega | (refine leOf0 ?_; (repeat (first | (with_reducible exact Mr.refl _) | (with_reducible apply Mr.drew) | (with_reducible apply Mr.alloc) | (with_reducible apply Mr.ext) | (with_reducible refine Mr.setCell ?_ (by first | (simp; done) | (simp; omega) | omega) _))); done) | (refine leOf ?_; (repeat (first | (with_reducible exact Mr.refl _) | (with_reducible apply Mr.drew) | (with_reducible apply Mr.alloc) | (with_reducible apply Mr.ext) | (with_reducible refine Mr.setCell ?_ (by first | (simp; done) | (simp; omega) | omega) _))); done)) _)))⟩
/-- Bit by bit. -/
def Bt (z n B : Int) (j : Nat) : Prop := 0 ≤ n ∧ n ≤ 288230376151711744 ∧ j ≤ 59 ∧ B = 2 ^ j / 2 ∧ (n = 0 ∨ n * n ≤ z) ∧ (288230376151711744 < n + 2 ^ j ∨ z < (n + 2 ^ j) * (n + 2 ^ j))
theorem bit_bd {z n B : Int} {j : Nat} (h : Bt z n B j) : 0 ≤ n ∧ n ≤ 288230376151711744 ∧ 0 ≤ B ∧ B ≤ 288230376151711744 := by
  obtain ⟨h0, h1, h2, rfl, h3, h4⟩ := h
  have e : (2 : Int) ^ j ≤ 2 ^ 59 := by
    have h : (2 : Nat) ^ j ≤ 2 ^ 59 := Nat.pow_le_pow_right (by decide) h2
    have h2 : ((2 ^ j : Nat) : Int) ≤ ((2 ^ 59 : Nat) : Int) := Int.ofNat_le.2 h
    simpa using h2
  have p : (0 : Int) < 2 ^ j := Int.pow_pos (by decide)
  refine ⟨h0, h1, by omega, by omega⟩
theorem bit_end {z n B : Int} {j : Nat} (h : Bt z n B j) (hB : ¬ 0 < B) : sr z = n := by
  obtain ⟨h0, h1, h2, rfl, h3, h4⟩ := h
  cases j with
  | zero =>
    refine sr_of ⟨h0, h1, h3, ?_⟩
    rcases h4 with h4 | h4
    · exact .inl (by simp at h4; omega)
    · exact .inr (by simpa using h4)
  | succ j =>
    have p : (0 : Int) < 2 ^ j := Int.pow_pos (by decide)
    rw [Int.pow_succ] at hB; omega
theorem bit_step {z n B : Int} {j : Nat} (h : Bt z n B j) (hB : 0 < B) : ∃ B' : Int, B.tdiv 2 = B' ∧ 0 ≤ B' ∧ B' < B ∧ Hid (n + B ≤ 288230376151711744 → (n + B) * (n + B) ≤ z → Bt z (n + B) B' (j - 1)) ∧ Hid ((288230376151711744 < n + B ∨ z < (n + B) * (n + B)) → Bt z n B' (j - 1)) := by
  obtain ⟨h0, h1, h2, rfl, h3, h4⟩ := h
  cases j with
  | zero => simp at hB
  | succ j =>
    have p : (0 : Int) < 2 ^ j := Int.pow_pos (by decide)
    have e : (2 : Int) ^ (j + 1) / 2 = 2 ^ j := by rw [Int.pow_succ]; omega
    have e2 : n + (2 : Int) ^ (j + 1) = n + 2 ^ j + 2 ^ j := by rw [Int.pow_succ]; omega
    rw [e2] at h4
    rw [e] at hB ⊢
    refine ⟨2 ^ j / 2, by rw [Int.tdiv_eq_ediv_of_nonneg (by omega)], by omega, by omega, fun g1 g2 => ⟨by omega, g1, by omega, by rw [Nat.add_sub_cancel], .inr g2, by rw [Nat.add_sub_cancel]; exact h4⟩, fun g => ⟨h0, h1, by omega, by rw [Nat.add_sub_cancel], h3, by rw [Nat.add_sub_cancel]; exact g⟩⟩
theorem bit_start (z : Int) : Bt z 0 288230376151711744 59 := ⟨by omega, by omega, by omega, by decide, .inl rfl, .inl (by decide)⟩
theorem top_num : ml 288230376151711744 288230376151711744 = 83076749736557242056487941267521536 ∧ vw (hi 83076749736557242056487941267521536) (lo 83076749736557242056487941267521536) = 83076749736557242056487941267521536 ∧ vw (hi 576460752303423489) (lo 576460752303423489) = 576460752303423489 ∧ inr 83076749736557242632948693570945025 = true ∧ cut 83076749736557242632948693570945025 = 83076749736557242632948693570945025 ∧ vw (hi 83076749736557242632948693570945025) (lo 83076749736557242632948693570945025) = 83076749736557242632948693570945025 := by decide
theorem low_flag {z : Int} (h : 0 ≤ z) (g : sr z < 288230376151711744) : ro z = false := by
  cases e : ro z
  · rfl
  · have := ro_lim e h; omega
theorem top_flag {p q : Int} (h : 0 ≤ vw p q) (g : ¬ sr (vw p q) < 288230376151711744) : decide (cm 83076749736557242632948693570945025 (vw p q) ≤ 0) = (ro (vw p q) || !sn p q) := by
  have hs : sn p q = true := by
    cases e : sn p q
    · exfalso
      apply g
      rw [vw_nsn e, in_hit (z := 0) (m := 0) (by omega) (by omega) rfl]
      omega
    · rfl
  rw [hs, ro]
  have := cm_cases 83076749736557242632948693570945025 (vw p q)
  simp only [Bool.not_true, Bool.or_false, decide_eq_decide]
  omega
theorem hi_neg {z : Int} : hi z < 0 ↔ z < 0 := by unfold hi; omega
set_option maxRecDepth 100000 in
set_option maxHeartbeats 2000000 in
theorem rwide_c (p q : Int) (w : World) :
    Calls Try.prog 55 #[.agg #[.int .i64 p, .int .i64 q]] w fun e w' => e = .returned (.tuple #[.int .i64 (sr (vw p q)), .bool (ro (vw p q) || !sn p q)]) ∧ ∃ x : Ext w, w' = x.u := by
  by_cases hz : vw p q < 0
  · have h1 : hi (vw p q) < 0 := hi_neg.2 hz
    have E : Hid (sr (vw p q) = 0 ∧ ro (vw p q) = true) := ⟨sr_neg hz, ro_neg hz⟩
    clear hz
    go_enter Try.func55, Try.ntmps55
    go_wp2_with (go_at_call 80; refine (ras2_c _ _ _).mono ?_; rintro e w' ⟨rfl, x, rfl⟩)
    go_ret2
    exact ⟨ret_ib E.out.1.symm (by rw [E.out.2]; rfl), Mr.mk' (by repeat (first | (with_reducible exact Mr.refl _) | (with_reducible apply Mr.drew) | (with_reducible apply Mr.alloc) | (with_reducible apply Mr.ext) | (with_reducible refine Mr.setCell ?_ (by first | (simp; done) | (simp; omega) | omega | (refine leOf0 ?_; (repeat (first | (with_reducible exact Mr.refl _) | (with_reducible apply Mr.drew) | (with_reducible apply Mr.alloc) | (with_reducible apply Mr.ext) | (with_reducible refine Mr.setCell ?_ (by first | (simp; done) | (simp; omega) | omega) _))); done) | (refine leOf ?_; (repeat (first | (with_reducible exact Mr.refl _) | (with_reducible apply Mr.drew) | (with_reducible apply Mr.alloc) | (with_reducible apply Mr.ext) | (with_reducible refine Mr.setCell ?_ (by first | (simp; done) | (simp; omega) | omega) _))); done)) _)))⟩
  · have h1 : ¬ hi (vw p q) < 0 := fun h => hz (hi_neg.1 h)
    have hz0 : 0 ≤ vw p q := by omega
    have HL : Hid (sr (vw p q) < 288230376151711744 → (ro (vw p q) || !sn p q) = !sn p q) := fun g => by rw [low_flag hz0 g]; rfl
    have HT : Hid (¬ sr (vw p q) < 288230376151711744 → decide (cm 83076749736557242632948693570945025 (vw p q) ≤ 0) = (ro (vw p q) || !sn p q)) := top_flag hz0
    have v1 := vw_hl (vw_inr p q)
    obtain ⟨n1, n2, n3, n4, n5, n6⟩ := top_num
    clear hz hz0
    generalize hr : (ro (vw p q) || !sn p q) = R at *
    clear hr
    go_enter Try.func55, Try.ntmps55
    go_wp2_with (go_at_call 80; refine (ras2_c _ _ _).mono ?_; rintro e w' ⟨rfl, x, rfl⟩)
    go_loopw [5, 6] (fun l h wr => ∃ (n B : Int) (j : Nat), l = .int .i64 n ∧ h = .int .i64 B ∧ Hid (Bt (vw p q) n B j) ∧ ∃ y : Ext (x.u.alloc (.cells #[.int .i64 (hi (vw p q)), .int .i64 (lo (vw p q))] 54)), wr = y.u) (fun _ h _ => (intOf h).toNat)
    case atStart => exact ⟨0, _, 59, rfl, rfl, bit_start _, Mr.mk' (by repeat (first | (with_reducible exact Mr.refl _) | (with_reducible apply Mr.drew) | (with_reducible apply Mr.alloc) | (with_reducible apply Mr.ext) | (with_reducible refine Mr.setCell ?_ (by first | (simp; done) | (simp; omega) | omega | (refine leOf0 ?_; (repeat (first | (with_reducible exact Mr.refl _) | (with_reducible apply Mr.drew) | (with_reducible apply Mr.alloc) | (with_reducible apply Mr.ext) | (with_reducible refine Mr.setCell ?_ (by first | (simp; done) | (simp; omega) | omega) _))); done) | (refine leOf ?_; (repeat (first | (with_reducible exact Mr.refl _) | (with_reducible apply Mr.drew) | (with_reducible apply Mr.alloc) | (with_reducible apply Mr.ext) | (with_reducible refine Mr.setCell ?_ (by first | (simp; done) | (simp; omega) | omega) _))); done)) _)))⟩
    case round =>
      obtain ⟨n, B, j, rfl, rfl, hbt, y, rfl⟩ := hrel
      obtain ⟨b0, b1, b2, b3⟩ := bit_bd hbt.out
      by_cases hB : 0 < B
      · obtain ⟨B', s1, s2, s3, S4, S5⟩ := bit_step hbt.out hB
        by_cases hl : n + B ≤ 288230376151711744
        · have c1 : ml (n + B) (n + B) = (n + B) * (n + B) := ml_self (by omega) hl
          by_cases hf : (n + B) * (n + B) ≤ vw p q
          · go_wp2_with (go_at_call 81; refine (fits_c _ _ _ _).mono ?_; rintro e w' ⟨rfl, x, rfl⟩)
            go_roundw
            case rel => exact ⟨n + B, B', j - 1, rfl, rfl, S4.out hl hf, Mr.mk' (by repeat (first | (with_reducible exact Mr.refl _) | (with_reducible apply Mr.drew) | (with_reducible apply Mr.alloc) | (with_reducible apply Mr.ext) | (with_reducible refine Mr.setCell ?_ (by first | (simp; done) | (simp; omega) | omega | (refine leOf0 ?_; (repeat (first | (with_reducible exact Mr.refl _) | (with_reducible apply Mr.drew) | (with_reducible apply Mr.alloc) | (with_reducible apply Mr.ext) | (with_reducible refine Mr.setCell ?_ (by first | (simp; done) | (simp; omega) | omega) _))); done) | (refine leOf ?_; (repeat (first | (with_reducible exact Mr.refl _) | (with_reducible apply Mr.drew) | (with_reducible apply Mr.alloc) | (with_reducible apply Mr.ext) | (with_reducible refine Mr.setCell ?_ (by first | (simp; done) | (simp; omega) | omega) _))); done)) _)))⟩
            case measure => simp [intOf]; omega
          · go_wp2_with (go_at_call 81; refine (fits_c _ _ _ _).mono ?_; rintro e w' ⟨rfl, x, rfl⟩)
            go_roundw
            case rel => exact ⟨n, B', j - 1, rfl, rfl, S5.out (.inr (by omega)), Mr.mk' (by repeat (first | (with_reducible exact Mr.refl _) | (with_reducible apply Mr.drew) | (with_reducible apply Mr.alloc) | (with_reducible apply Mr.ext) | (with_reducible refine Mr.setCell ?_ (by first | (simp; done) | (simp; omega) | omega | (refine leOf0 ?_; (repeat (first | (with_reducible exact Mr.refl _) | (with_reducible apply Mr.drew) | (with_reducible apply Mr.alloc) | (with_reducible apply Mr.ext) | (with_reducible refine Mr.setCell ?_ (by first | (simp; done) | (simp; omega) | omega) _))); done) | (refine leOf ?_; (repeat (first | (with_reducible exact Mr.refl _) | (with_reducible apply Mr.drew) | (with_reducible apply Mr.alloc) | (with_reducible apply Mr.ext) | (with_reducible refine Mr.setCell ?_ (by first | (simp; done) | (simp; omega) | omega) _))); done)) _)))⟩
            case measure => simp [intOf]; omega
        · go_wp2
          go_roundw
          case rel => exact ⟨n, B', j - 1, rfl, rfl, S5.out (.inl (by omega)), Mr.mk' (by repeat (first | (with_reducible exact Mr.refl _) | (with_reducible apply Mr.drew) | (with_reducible apply Mr.alloc) | (with_reducible apply Mr.ext) | (with_reducible refine Mr.setCell ?_ (by first | (simp; done) | (simp; omega) | omega | (refine leOf0 ?_; (repeat (first | (with_reducible exact Mr.refl _) | (with_reducible apply Mr.drew) | (with_reducible apply Mr.alloc) | (with_reducible apply Mr.ext) | (with_reducible refine Mr.setCell ?_ (by first | (simp; done) | (simp; omega) | omega) _))); done) | (refine leOf ?_; (repeat (first | (with_reducible exact Mr.refl _) | (with_reducible apply Mr.drew) | (with_reducible apply Mr.alloc) | (with_reducible apply Mr.ext) | (with_reducible refine Mr.setCell ?_ (by first | (simp; done) | (simp; omega) | omega) _))); done)) _)))⟩
          case measure => simp [intOf]; omega
      · have E : Hid (sr (vw p q) = n) := bit_end hbt.out hB
        rw [E.out] at HL HT
        by_cases hl : n < 288230376151711744
        · go_wp2_with (go_at_call 76; refine (rsane_c _ _ _).mono ?_; rintro e w' ⟨rfl, x, rfl⟩)
          go_ret2
          exact ⟨ret_ib E.out.symm (HL.out hl).symm, Mr.mk' (by repeat (first | (with_reducible exact Mr.refl _) | (with_reducible apply Mr.drew) | (with_reducible apply Mr.alloc) | (with_reducible apply Mr.ext) | (with_reducible refine Mr.setCell ?_ (by first | (simp; done) | (simp; omega) | omega | (refine leOf0 ?_; (repeat (first | (with_reducible exact Mr.refl _) | (with_reducible apply Mr.drew) | (with_reducible apply Mr.alloc) | (with_reducible apply Mr.ext) | (with_reducible refine Mr.setCell ?_ (by first | (simp; done) | (simp; omega) | omega) _))); done) | (refine leOf ?_; (repeat (first | (with_reducible exact Mr.refl _) | (with_reducible apply Mr.drew) | (with_reducible apply Mr.alloc) | (with_reducible apply Mr.ext) | (with_reducible refine Mr.setCell ?_ (by first | (simp; done) | (simp; omega) | omega) _))); done)) _)))⟩
        · go_wp2_with (first | (go_at_call 64; refine (rmul2_c _ _ _).mono ?_; rintro e w' ⟨rfl, x, rfl⟩) | (go_at_call 82; refine (rof2_c _ _ ?_).mono ?_; (first | omega | exact ⟨by omega, by omega⟩); rintro e w' ⟨rfl, x, rfl⟩) | (go_at_call 73; refine (radd2_c _ _ _ _ _).mono ?_; rintro e w' ⟨rfl, x, rfl⟩) | (go_at_call 83; refine (rcmp2_c _ _ _ _ _).mono ?_; rintro e w' ⟨rfl, x, rfl⟩))
          go_ret2
          exact ⟨ret_ib E.out.symm (HT.out hl), Mr.mk' (by repeat (first | (with_reducible exact Mr.refl _) | (with_reducible apply Mr.drew) | (with_reducible apply Mr.alloc) | (with_reducible apply Mr.ext) | (with_reducible refine Mr.setCell ?_ (by first | (simp; done) | (simp; omega) | omega | (refine leOf0 ?_; (repeat (first | (with_reducible exact Mr.refl _) | (with_reducible apply Mr.drew) | (with_reducible apply Mr.alloc) | (with_reducible apply Mr.ext) | (with_reducible refine Mr.setCell ?_ (by first | (simp; done) | (simp; omega) | omega) _))); done) | (refine leOf ?_; (repeat (first | (with_reducible exact Mr.refl _) | (with_reducible apply Mr.drew) | (with_reducible apply Mr.alloc) | (with_reducible apply Mr.ext) | (with_reducible refine Mr.setCell ?_ (by first | (simp; done) | (simp; omega) | omega) _))); done)) _)))⟩
theorem cl_cl (a : Int) : cl (cl a) = cl a := (cl_in (cl_bd a).1 (cl_bd a).2).1
theorem ml_cl (a b : Int) : ml (cl a) b = ml a b := by unfold ml; rw [cl_cl]
theorem ml_clcl (a b : Int) : ml (cl a) (cl b) = ml a b := by unfold ml; rw [cl_cl, cl_cl]
end Rt
end Go.Proofs.Ytmhdpjdkcjdipaa
