/- The contracts of package root. -/
import Derived.Test.YthogobmflinnpaaRootM
import Derived.Test.YthogobmflinnpaaWideC3
import Derived.WalkMore
import Derived.ScopeJumps
namespace Go.Proofs.Ythogobmflinnpaa
open Go.ChangeShapes Go.WideShapes Go.ChangeAt Go.RowKit
open Go.Proofs.Ythogobmflinnpaa.Fx Go.Proofs.Ythogobmflinnpaa.Wd
set_option linter.unusedVariables false
attribute [local go_sem] Ext.cell Ext.froz Ext.lt Ext.lt1 Ext.lt2 Ext.lt3 Ext.all Ext.set_u drew_heap setCell_size Ext.set_size
namespace Rt
attribute [local go_sem ↓] eq_wide eqw_self
attribute [local go_sem] and62 and1 sgn64 not64 wrap_and
theorem in_bd {z L H : Int} (h : In z L H) : 0 ≤ L ∧ L < H ∧ H ≤ 288230376151711745 := ⟨h.1, h.2.1, h.2.2.1⟩
theorem mid_ex {z L H : Int} (h : In z L H) : ∃ M : Int, (L + H).tdiv 2 = M ∧ 0 ≤ M ∧ L ≤ M ∧ M < H := by
  obtain ⟨h0, h1, h2⟩ := in_bd h
  exact ⟨(L + H) / 2, by rw [Int.tdiv_eq_ediv_of_nonneg (by omega)], by omega, by omega, by omega⟩
theorem mid_end {z L H M : Int} (h : In z L H) (e : (L + H).tdiv 2 = M) (g : M = L) : L = sr z := by
  obtain ⟨h0, h1, h2⟩ := in_bd h
  rw [Int.tdiv_eq_ediv_of_nonneg (by omega)] at e
  exact (in_end h (by omega)).symm
theorem in_low {z L H M : Int} (h : In z L H) (h0 : L < M) (h1 : M < H) (g : M * M < z) : In z M H :=
  ⟨by have := h.1; omega, h1, h.2.2.1, .inr (by omega), h.2.2.2.2⟩
theorem in_high {z L H M : Int} (h : In z L H) (h0 : L < M) (h1 : M < H) (g : z < M * M) : In z L M :=
  ⟨h.1, h0, by have := h.2.2.1; omega, h.2.2.2.1, .inr g⟩
set_option maxRecDepth 100000 in
set_option maxHeartbeats 1000000 in
theorem search_c (p q : Int) (w : World) :
    Calls Try.prog 82 #[.agg #[.int .i64 p, .int .i64 q]] w fun e w' => e = .returned (.int .i64 (sr (vw p q))) ∧ ∃ x : Ext w, w' = x.u := by
  go_enter Try.func82, Try.ntmps82
  go_wp2
  refine wp_scope_jumps 0 (fun a' w' => (∃ y : Ext w, w' = y.u) ∧ ∃ n : Int, n = sr (vw p q) ∧ ∃ u0 u1 u4 u5 u6 u7 u8 u9 u10 u11 u12 u13 u14 u15 u16 u17 u18 u19 u20 u21 u22 u23 u24 u25 : Value, a' = { tmps := #[u0, u1, .int .i64 0, .int .i64 n, u4, u5, u6, u7, u8, u9, u10, u11, u12, u13, u14, u15, u16, u17, u18, u19, u20, u21, u22, u23, u24, u25], defers := [] }) (fun _ _ => 0) rfl ?_ ?_
  · go_wp2
    go_loopw [3, 4] (fun l h wr => ∃ L H : Int, l = .int .i64 L ∧ h = .int .i64 H ∧ Hid (In (vw p q) L H) ∧ ∃ y : Ext (w.alloc (.cells #[.int .i64 p, .int .i64 q] 46)), wr = y.u) (fun l h _ => (intOf h - intOf l).toNat)
    case atStart => exact ⟨0, _, rfl, rfl, ⟨by omega, by omega, by omega, .inl rfl, .inl rfl⟩, Mr.mk' (by repeat (first | (with_reducible exact Mr.refl _) | (with_reducible apply Mr.drew) | (with_reducible apply Mr.alloc) | (with_reducible apply Mr.ext) | (with_reducible refine Mr.setCell ?_ (by first | (simp; done) | (simp; omega) | omega | (refine leOf0 ?_; (repeat (first | (with_reducible exact Mr.refl _) | (with_reducible apply Mr.drew) | (with_reducible apply Mr.alloc) | (with_reducible apply Mr.ext) | (with_reducible refine Mr.setCell ?_ (by first | (simp; done) | (simp; omega) | omega) _))); done) | (refine leOf ?_; (repeat (first | (with_reducible exact Mr.refl _) | (with_reducible apply Mr.drew) | (with_reducible apply Mr.alloc) | (with_reducible apply Mr.ext) | (with_reducible refine Mr.setCell ?_ (by first | (simp; done) | (simp; omega) | omega) _))); done)) _)))⟩
    case round =>
      obtain ⟨L, H, rfl, rfl, hin, y, rfl⟩ := hrel
      obtain ⟨M, e1, m0, m1, m2⟩ := mid_ex hin.out
      obtain ⟨h0, h1, h2⟩ := in_bd hin.out
      by_cases hm : M = L
      · have d1 : (M == L) = true := by simp [hm]
        have E : Hid (L = sr (vw p q)) := mid_end hin.out e1 hm
        clear hm
        go_wp2
        go_step3
        exact ⟨rfl, Mr.mk' (by repeat (first | (with_reducible exact Mr.refl _) | (with_reducible apply Mr.drew) | (with_reducible apply Mr.alloc) | (with_reducible apply Mr.ext) | (with_reducible refine Mr.setCell ?_ (by first | (simp; done) | (simp; omega) | omega | (refine leOf0 ?_; (repeat (first | (with_reducible exact Mr.refl _) | (with_reducible apply Mr.drew) | (with_reducible apply Mr.alloc) | (with_reducible apply Mr.ext) | (with_reducible refine Mr.setCell ?_ (by first | (simp; done) | (simp; omega) | omega) _))); done) | (refine leOf ?_; (repeat (first | (with_reducible exact Mr.refl _) | (with_reducible apply Mr.drew) | (with_reducible apply Mr.alloc) | (with_reducible apply Mr.ext) | (with_reducible refine Mr.setCell ?_ (by first | (simp; done) | (simp; omega) | omega) _))); done)) _))), _, E.out, _, _, _, _, _, _, _, _, _, _, _, _, _, _, _, _, _, _, _, _, _, _, _, _, rfl⟩
      · have d1 : (M == L) = false := by simp [hm]
        have m3 : L < M := by omega
        clear hm
        have c1 : vw (hi (ml M M)) (lo (ml M M)) = M * M := by rw [vw_hl (ml_inr M M), ml_self (by omega) (by omega)]
        rcases cm_cases (M * M) (vw p q) with ⟨hc, c2⟩ | ⟨hc, c2⟩ | ⟨hc, c2⟩
        · have E : Hid (M = sr (vw p q)) := (in_hit (by omega) (by omega) hc).symm
          clear hc
          go_wp2
          refine wp_region_ext (by kernel_rfl) (by kernel_rfl) ?_
          (repeat (go_big_quiet_step ((first | (go_at_call 48; exact extCall (wmul_c _ _ _)) | (go_at_call 70; exact extCall (wof_c _ _ (by omega))) | (go_at_call 83; exact extCall (wcmp_c _ _ _ _ _)) | (go_at_call 68; exact extCall (wadd_c _ _ _ _ _)) | (go_at_call 72; exact extCall (sane_c _ _ _))))))
          refine wpQuiet_nil ?_
          rintro w1 ⟨x1, rfl⟩
          go_wp2
          go_step3
          exact ⟨rfl, Mr.mk' (by repeat (first | (with_reducible exact Mr.refl _) | (with_reducible apply Mr.drew) | (with_reducible apply Mr.alloc) | (with_reducible apply Mr.ext) | (with_reducible refine Mr.setCell ?_ (by first | (simp; done) | (simp; omega) | omega | (refine leOf0 ?_; (repeat (first | (with_reducible exact Mr.refl _) | (with_reducible apply Mr.drew) | (with_reducible apply Mr.alloc) | (with_reducible apply Mr.ext) | (with_reducible refine Mr.setCell ?_ (by first | (simp; done) | (simp; omega) | omega) _))); done) | (refine leOf ?_; (repeat (first | (with_reducible exact Mr.refl _) | (with_reducible apply Mr.drew) | (with_reducible apply Mr.alloc) | (with_reducible apply Mr.ext) | (with_reducible refine Mr.setCell ?_ (by first | (simp; done) | (simp; omega) | omega) _))); done)) _))), _, E.out, _, _, _, _, _, _, _, _, _, _, _, _, _, _, _, _, _, _, _, _, _, _, _, _, rfl⟩
        · have E : Hid (In (vw p q) M H) := in_low hin.out (by omega) (by omega) hc
          clear hc
          go_wp2
          refine wp_region_ext (by kernel_rfl) (by kernel_rfl) ?_
          (repeat (go_big_quiet_step ((first | (go_at_call 48; exact extCall (wmul_c _ _ _)) | (go_at_call 70; exact extCall (wof_c _ _ (by omega))) | (go_at_call 83; exact extCall (wcmp_c _ _ _ _ _)) | (go_at_call 68; exact extCall (wadd_c _ _ _ _ _)) | (go_at_call 72; exact extCall (sane_c _ _ _))))))
          refine wpQuiet_nil ?_
          rintro w1 ⟨x1, rfl⟩
          go_wp2
          go_roundw
          case rel => exact ⟨M, H, rfl, rfl, E, Mr.mk' (by repeat (first | (with_reducible exact Mr.refl _) | (with_reducible apply Mr.drew) | (with_reducible apply Mr.alloc) | (with_reducible apply Mr.ext) | (with_reducible refine Mr.setCell ?_ (by first | (simp; done) | (simp; omega) | omega | (refine leOf0 ?_; (repeat (first | (with_reducible exact Mr.refl _) | (with_reducible apply Mr.drew) | (with_reducible apply Mr.alloc) | (with_reducible apply Mr.ext) | (with_reducible refine Mr.setCell ?_ (by first | (simp; done) | (simp; omega) | omega) _))); done) | (refine leOf ?_; (repeat (first | (with_reducible exact Mr.refl _) | (with_reducible apply Mr.drew) | (with_reducible apply Mr.alloc) | (with_reducible apply Mr.ext) | (with_reducible refine Mr.setCell ?_ (by first | (simp; done) | (simp; omega) | omega) _))); done)) _)))⟩
          case measure => simp [intOf]; omega
        · have E : Hid (In (vw p q) L M) := in_high hin.out (by omega) (by omega) hc
          clear hc
          go_wp2
          refine wp_region_ext (by kernel_rfl) (by kernel_rfl) ?_
          (repeat (go_big_quiet_step ((first | (go_at_call 48; exact extCall (wmul_c _ _ _)) | (go_at_call 70; exact extCall (wof_c _ _ (by omega))) | (go_at_call 83; exact extCall (wcmp_c _ _ _ _ _)) | (go_at_call 68; exact extCall (wadd_c _ _ _ _ _)) | (go_at_call 72; exact extCall (sane_c _ _ _))))))
          refine wpQuiet_nil ?_
          rintro w1 ⟨x1, rfl⟩
          go_wp2
          go_roundw
          case rel => exact ⟨L, M, rfl, rfl, E, Mr.mk' (by repeat (first | (with_reducible exact Mr.refl _) | (with_reducible apply Mr.drew) | (with_reducible apply Mr.alloc) | (with_reducible apply Mr.ext) | (with_reducible refine Mr.setCell ?_ (by first | (simp; done) | (simp; omega) | omega | (refine leOf0 ?_; (repeat (first | (with_reducible exact Mr.refl _) | (with_reducible apply Mr.drew) | (with_reducible apply Mr.alloc) | (with_reducible apply Mr.ext) | (with_reducible refine Mr.setCell ?_ (by first | (simp; done) | (simp; omega) | omega) _))); done) | (refine leOf ?_; (repeat (first | (with_reducible exact Mr.refl _) | (with_reducible apply Mr.drew) | (with_reducible apply Mr.alloc) | (with_reducible apply Mr.ext) | (with_reducible refine Mr.setCell ?_ (by first | (simp; done) | (simp; omega) | omega) _))); done)) _)))⟩
          case measure => simp [intOf]; omega
  · rintro a' w' ⟨⟨y, rfl⟩, n, hn, u0, u1, u4, u5, u6, u7, u8, u9, u10, u11, u12, u13, u14, u15, u16, u17, u18, u19, u20, u21, u22, u23, u24, u25, rfl⟩
    go_wp2
    simp only [Exit.jump]
    go_ret
    exact ⟨ret_i' hn, y, rfl⟩
theorem next_math {n : Int} (h0 : 0 ≤ n) (h1 : n ≤ 288230376151711744) : vw (hi (ml n n)) (lo (ml n n)) = n * n ∧ vw (hi (2 * n + 1)) (lo (2 * n + 1)) = 2 * n + 1 ∧ cut (n * n + (2 * n + 1)) = (n + 1) * (n + 1) ∧ inr ((n + 1) * (n + 1)) = true := by
  have e : n * n + (2 * n + 1) = (n + 1) * (n + 1) := by grind
  have b1 := sq_le h0 h1
  have i1 : inr (n * n + (2 * n + 1)) = true := by rw [inr_iff]; have := sq_nn n; have := lim0; omega
  refine ⟨by rw [vw_hl (ml_inr n n), ml_self (by omega) h1], vw_hl1 (by omega), ?_, ?_⟩
  · rw [cut_of i1, e]
  · rw [← e]; exact i1
set_option maxHeartbeats 1000000 in
theorem next_c (n : Int) (w : World) (hn : 0 ≤ n ∧ n ≤ 288230376151711744) :
    Calls Try.prog 84 #[.int .i64 n] w fun e w' => e = .returned (.agg #[.int .i64 (hi ((n + 1) * (n + 1))), .int .i64 (lo ((n + 1) * (n + 1)))]) ∧ ∃ x : Ext w, w' = x.u := by
  obtain ⟨h0, h1⟩ := hn
  obtain ⟨e1, e2, e3, e4⟩ := next_math h0 h1
  clear e4
  go_enter Try.func84, Try.ntmps84
  go_wp2_with (first | (go_at_call 48; refine (wmul_c _ _ _).mono ?_; rintro e w' ⟨rfl, x, rfl⟩) | (go_at_call 70; refine (wof_c _ _ ?_).mono ?_; (first | omega | exact ⟨by omega, by omega⟩); rintro e w' ⟨rfl, x, rfl⟩) | (go_at_call 68; refine (wadd_c _ _ _ _ _).mono ?_; rintro e w' ⟨rfl, x, rfl⟩))
  exact bodyPost_ret (v := .agg #[.int .i64 (hi ((n + 1) * (n + 1))), .int .i64 (lo ((n + 1) * (n + 1)))]) (by simp [results, Try.results84, go_sem]) rfl ⟨rfl, Mr.mk' (by repeat (first | (with_reducible exact Mr.refl _) | (with_reducible apply Mr.drew) | (with_reducible apply Mr.alloc) | (with_reducible apply Mr.ext) | (with_reducible refine Mr.setCell ?_ (by first | (simp; done) | (simp; omega) | omega | (refine leOf0 ?_; (repeat (first | (with_reducible exact Mr.refl _) | (with_reducible apply Mr.drew) | (with_reducible apply Mr.alloc) | (with_reducible apply Mr.ext) | (with_reducible refine Mr.setCell ?_ (by first | (simp; done) | (simp; omega) | omega) _))); done) | (refine leOf ?_; (repeat (first | (with_reducible exact Mr.refl _) | (with_reducible apply Mr.drew) | (with_reducible apply Mr.alloc) | (with_reducible apply Mr.ext) | (with_reducible refine Mr.setCell ?_ (by first | (simp; done) | (simp; omega) | omega) _))); done)) _)))⟩
theorem vw_zero : vw (hi 0) (lo 0) = 0 := by decide
theorem wd_false {z : Int} {s : Bool} (h : ¬ z < 0) (g : z < (sr z + 1) * (sr z + 1)) : (ro z || !s) = !s := by
  rw [← next_iff (by omega), decide_eq_false (by omega)]; rfl
theorem wd_true {z : Int} {s : Bool} (h : ¬ z < 0) (g : (sr z + 1) * (sr z + 1) ≤ z) : (ro z || !s) = true := by
  rw [← next_iff (by omega), decide_eq_true g]; rfl
set_option maxHeartbeats 1000000 in
theorem wide_c (p q : Int) (w : World) :
    Calls Try.prog 59 #[.agg #[.int .i64 p, .int .i64 q]] w fun e w' => e = .returned (.tuple #[.int .i64 (sr (vw p q)), .bool (ro (vw p q) || !sn p q)]) ∧ ∃ x : Ext w, w' = x.u := by
  have hz := sr_bd (vw p q)
  have v0 := vw_zero
  have v1 := vw_hl (next_math hz.1 hz.2).2.2.2
  have W1 : Hid (cm (vw p q) 0 ≠ -1 → cm ((sr (vw p q) + 1) * (sr (vw p q) + 1)) (vw p q) = 1 → (ro (vw p q) || !sn p q) = !sn p q) := fun h g => wd_false (by have := cm_cases (vw p q) 0; omega) (by have := cm_cases ((sr (vw p q) + 1) * (sr (vw p q) + 1)) (vw p q); omega)
  have W2 : Hid (cm (vw p q) 0 ≠ -1 → cm ((sr (vw p q) + 1) * (sr (vw p q) + 1)) (vw p q) ≠ 1 → (ro (vw p q) || !sn p q) = true) := fun h g => wd_true (by have := cm_cases (vw p q) 0; omega) (by have := cm_cases ((sr (vw p q) + 1) * (sr (vw p q) + 1)) (vw p q); omega)
  have W3 : Hid (cm (vw p q) 0 = -1 → (ro (vw p q) || !sn p q) = true) := fun h => by rw [ro_neg (by have := cm_cases (vw p q) 0; omega)]; rfl
  generalize hr : (ro (vw p q) || !sn p q) = R at *
  clear hr
  generalize hn : sr (vw p q) = n at *
  generalize hm : (n + 1) * (n + 1) = N at *
  rcases cm_cases (vw p q) 0 with ⟨h1, c1⟩ | ⟨h1, c1⟩ | ⟨h1, c1⟩ <;> rcases cm_cases N (vw p q) with ⟨h2, c2⟩ | ⟨h2, c2⟩ | ⟨h2, c2⟩
  all_goals
    clear h1 h2
    go_enter Try.func59, Try.ntmps59
    go_wp2_with (go_at_call 82; refine (search_c _ _ _).mono ?_; rintro e w' ⟨rfl, x, rfl⟩)
    refine wp_region_ext (by kernel_rfl) (by kernel_rfl) ?_
    (repeat (go_big_quiet_step ((first | (go_at_call 84; exact extCall (next_c _ _ (by omega))) | (go_at_call 70; exact extCall (wof_c _ _ (by omega))) | (go_at_call 83; exact extCall (wcmp_c _ _ _ _ _))))))
    refine wpQuiet_nil ?_
    rintro w1 ⟨x1, rfl⟩
    go_wp2
    refine wp_region_ext (by kernel_rfl) (by kernel_rfl) ?_
    (repeat (go_big_quiet_step ((first | (go_at_call 84; exact extCall (next_c _ _ (by omega))) | (go_at_call 70; exact extCall (wof_c _ _ (by omega))) | (go_at_call 83; exact extCall (wcmp_c _ _ _ _ _))))))
    refine wpQuiet_nil ?_
    rintro w1 ⟨x2, rfl⟩
    go_wp2_with (go_at_call 72; refine (sane_c _ _ _).mono ?_; rintro e w' ⟨rfl, x, rfl⟩)
    go_ret2
    refine ⟨ret_ib rfl ?_, Mr.mk' (by repeat (first | (with_reducible exact Mr.refl _) | (with_reducible apply Mr.drew) | (with_reducible apply Mr.alloc) | (with_reducible apply Mr.ext) | (with_reducible refine Mr.setCell ?_ (by first | (simp; done) | (simp; omega) | omega | (refine leOf0 ?_; (repeat (first | (with_reducible exact Mr.refl _) | (with_reducible apply Mr.drew) | (with_reducible apply Mr.alloc) | (with_reducible apply Mr.ext) | (with_reducible refine Mr.setCell ?_ (by first | (simp; done) | (simp; omega) | omega) _))); done) | (refine leOf ?_; (repeat (first | (with_reducible exact Mr.refl _) | (with_reducible apply Mr.drew) | (with_reducible apply Mr.alloc) | (with_reducible apply Mr.ext) | (with_reducible refine Mr.setCell ?_ (by first | (simp; done) | (simp; omega) | omega) _))); done)) _)))⟩
    first
    | exact (W3.out c1).symm
    | exact (W2.out (by rw [c1]; decide) (by rw [c2]; decide)).symm
    | exact (W1.out (by rw [c1]; decide) c2).symm
theorem vw_ml (a b : Int) : vw (hi (ml a b)) (lo (ml a b)) = ml a b := vw_hl (ml_inr a b)
theorem sn_ml (a b : Int) : sn (hi (ml a b)) (lo (ml a b)) = true := sn_hl (ml_inr a b)
theorem sq2_inr (a b : Int) : inr (ml a a + ml b b) = true := by
  have ha := cl_bd a
  have hb := cl_bd b
  have h1 : ml a a ≤ 83076749736557242056487941267521536 := by
    have := sq_le (a := ab a) (b := 288230376151711744) (ab_bd a).1 (ab_bd a).2
    have e : ml a a = ab a * ab a := by
      unfold ml
      by_cases h : a < 0
      · rw [ab_neg h, Int.neg_mul_neg]
      · rw [ab_pos h]
    have := lim0
    omega
  have h2 : ml b b ≤ 83076749736557242056487941267521536 := by
    have := sq_le (a := ab b) (b := 288230376151711744) (ab_bd b).1 (ab_bd b).2
    have e : ml b b = ab b * ab b := by
      unfold ml
      by_cases h : b < 0
      · rw [ab_neg h, Int.neg_mul_neg]
      · rw [ab_pos h]
    have := lim0
    omega
  have h3 : 0 ≤ ml a a := sq_nn _
  have h4 : 0 ≤ ml b b := sq_nn _
  rw [inr_iff]; omega
end Rt
end Go.Proofs.Ythogobmflinnpaa
