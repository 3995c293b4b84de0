/- Square roots as plain integers: the mathematics alone. -/
import Derived.Test.YtmhdpjdkcjdipaaWideC
import Derived.WalkMore
import Derived.ScopeJumps
namespace Go.Proofs.Ytmhdpjdkcjdipaa
open Go.RowKit
open Go.Proofs.Ytmhdpjdkcjdipaa.Fx Go.Proofs.Ytmhdpjdkcjdipaa.Wd
namespace Rt
/-- That a value is the root of a number (0 of one below 0; the greatest value if there is none). -/
def Is (z n : Int) : Prop := 0 ≤ n ∧ n ≤ 288230376151711744 ∧ (n = 0 ∨ n * n ≤ z) ∧ (n = 288230376151711744 ∨ z < (n + 1) * (n + 1))
theorem sq_lt {a b : Int} (h0 : 0 ≤ a) (h : a < b) : a * a < b * b := Int.mul_lt_mul' (by omega) h h0 (by omega)
theorem sq_le {a b : Int} (h0 : 0 ≤ a) (h : a ≤ b) : a * a ≤ b * b := Int.mul_le_mul h h h0 (by omega)
theorem sq_nn (a : Int) : 0 ≤ a * a := by
  rcases Int.le_total 0 a with h | h
  · exact Int.mul_nonneg h h
  · have := Int.mul_nonneg (a := -a) (b := -a) (by omega) (by omega)
    rwa [Int.neg_mul_neg] at this
theorem lt_of_sq {a b : Int} (h0 : 0 ≤ b) (h : a * a < b * b) : a < b := by
  rcases Int.lt_or_le a b with g | g
  · exact g
  · have := sq_le h0 g; omega
theorem le_of_sq {a b : Int} (h0 : 0 ≤ b) (h : a * a ≤ b * b) : a ≤ b := by
  rcases Int.lt_or_le b a with g | g
  · have := sq_lt h0 g; omega
  · exact g
theorem one_way {z n m : Int} (h : Is z n) (g : Is z m) : n ≤ m := by
  obtain ⟨h0, h1, h2, h3⟩ := h
  obtain ⟨g0, g1, g2, g3⟩ := g
  rcases g3 with rfl | g3
  · exact h1
  · rcases h2 with rfl | h2
    · exact g0
    · have := lt_of_sq (a := n) (b := m + 1) (by omega) (by omega)
      omega
theorem uniq {z n m : Int} (h : Is z n) (g : Is z m) : n = m := by
  have := one_way h g; have := one_way g h; omega
theorem ex_from (z : Int) (j : Nat) : ∀ k : Int, 0 ≤ k → k + j = 288230376151711744 → (k = 0 ∨ k * k ≤ z) → ∃ n, Is z n := by
  induction j with
  | zero => intro k h0 h1 h2; exact ⟨k, h0, by omega, h2, .inl (by omega)⟩
  | succ j ih =>
    intro k h0 h1 h2
    rcases Int.lt_or_le z ((k + 1) * (k + 1)) with h | h
    · exact ⟨k, h0, by omega, h2, .inr h⟩
    · exact ih (k + 1) (by omega) (by omega) (.inr h)
theorem ex (z : Int) : ∃ n, Is z n := ex_from z 288230376151711744 0 (by omega) (by omega) (.inl rfl)
/-- The root, and whether there is none. -/
noncomputable def sr (z : Int) : Int := Classical.choose (ex z)
def ro (z : Int) : Bool := decide (z < 0 ∨ 83076749736557242632948693570945025 ≤ z)
theorem sr_is (z : Int) : Is z (sr z) := Classical.choose_spec (ex z)
theorem sr_of {z n : Int} (h : Is z n) : sr z = n := uniq (sr_is z) h
theorem sr_bd (z : Int) : 0 ≤ sr z ∧ sr z ≤ 288230376151711744 := ⟨(sr_is z).1, (sr_is z).2.1⟩
/-- The search: both ends closed in. -/
def In (z L H : Int) : Prop := 0 ≤ L ∧ L < H ∧ H ≤ 288230376151711745 ∧ (L = 0 ∨ L * L ≤ z) ∧ (H = 288230376151711745 ∨ z < H * H)
theorem in_end {z L H : Int} (h : In z L H) (e : H = L + 1) : sr z = L := by
  obtain ⟨h0, h1, h2, h3, h4⟩ := h
  subst e
  exact sr_of ⟨h0, by omega, h3, by rcases h4 with h4 | h4; exact .inl (by omega); exact .inr h4⟩
theorem in_hit {z m : Int} (h0 : 0 ≤ m) (h1 : m ≤ 288230376151711744) (e : m * m = z) : sr z = m :=
  sr_of ⟨h0, h1, .inr (by omega), .inr (by have := sq_lt h0 (show m < m + 1 by omega); omega)⟩
theorem ro_neg {z : Int} (h : z < 0) : ro z = true := by simp [ro]; exact .inl h
theorem sr_neg {z : Int} (h : z < 0) : sr z = 0 := sr_of ⟨by omega, by omega, .inl rfl, .inr (by omega)⟩
theorem lim1 : (288230376151711744 + 1 : Int) * (288230376151711744 + 1) = 83076749736557242632948693570945025 := by decide
theorem lim0 : (288230376151711744 : Int) * 288230376151711744 = 83076749736557242056487941267521536 := by decide
/-- The next square is no greater: nothing but the greatest value's. -/
theorem next_iff {z : Int} (h : 0 ≤ z) : decide ((sr z + 1) * (sr z + 1) ≤ z) = ro z := by
  have hi := sr_is z
  have hb := sr_bd z
  generalize sr z = n at *
  obtain ⟨h0, h1, h2, h3⟩ := hi
  have := lim1
  rw [ro, decide_eq_decide]
  rcases h3 with rfl | h3
  · omega
  · have := sq_le (a := n + 1) (b := 288230376151711744 + 1) (by omega) (by omega)
    omega
theorem ml_self {m : Int} (h0 : -288230376151711744 ≤ m) (h1 : m ≤ 288230376151711744) : ml m m = m * m := by
  unfold ml; rw [(cl_in h0 h1).1]
theorem ml_in {m n : Int} (h0 : -288230376151711744 ≤ m) (h1 : m ≤ 288230376151711744) (g0 : -288230376151711744 ≤ n) (g1 : n ≤ 288230376151711744) : ml m n = m * n := by
  unfold ml; rw [(cl_in h0 h1).1, (cl_in g0 g1).1]
theorem cm_cases (a b : Int) : (a = b ∧ cm a b = 0) ∨ (a < b ∧ cm a b = -1) ∨ (b < a ∧ cm a b = 1) := by
  unfold cm
  rcases Int.lt_trichotomy a b with h | h | h
  · right; left; rw [if_pos h]; exact ⟨h, rfl⟩
  · left; rw [if_neg (by omega), if_neg (by omega)]; exact ⟨h, rfl⟩
  · right; right; rw [if_neg (by omega), if_pos h]; exact ⟨h, rfl⟩
end Rt
end Go.Proofs.Ytmhdpjdkcjdipaa
/- Square roots as plain integers: what the statements need of them. -/
namespace Go.Proofs.Ytmhdpjdkcjdipaa
open Go.RowKit
open Go.Proofs.Ytmhdpjdkcjdipaa.Fx Go.Proofs.Ytmhdpjdkcjdipaa.Wd
namespace Rt
theorem ro_iff (z : Int) : ro z = true ↔ (z < 0 ∨ 83076749736557242632948693570945025 ≤ z) := by simp [ro]
theorem ro_f {z : Int} (h : ro z = false) : 0 ≤ z ∧ z < 83076749736557242632948693570945025 := by
  have := ro_iff z; rw [h] at this; simp at this; omega
theorem ro_of {z : Int} (h : 0 ≤ z) (g : z < 83076749736557242632948693570945025) : ro z = false := by
  cases e : ro z
  · rfl
  · rw [ro_iff] at e; omega
theorem ro_lim {z : Int} (h : ro z = true) (g : 0 ≤ z) : sr z = 288230376151711744 := by
  have := lim1; have := lim0
  rw [ro_iff] at h
  exact sr_of ⟨by omega, by omega, .inr (by omega), .inl rfl⟩
theorem sr_sq {z : Int} (h : 0 ≤ z) : sr z * sr z ≤ z := by
  have hi := sr_is z
  generalize sr z = n at *
  obtain ⟨h0, h1, h2, h3⟩ := hi
  rcases h2 with rfl | h2
  · omega
  · exact h2
theorem sr_next {z : Int} (h : ro z = false) : z < (sr z + 1) * (sr z + 1) := by
  have := next_iff (ro_f h).1
  rw [h] at this
  have := of_decide_eq_false this
  omega
theorem sr_mono {y z : Int} (h : y ≤ z) : sr y ≤ sr z := by
  obtain ⟨h0, h1, h2, h3⟩ := sr_is y
  obtain ⟨g0, g1, g2, g3⟩ := sr_is z
  generalize sr y = n at *
  generalize sr z = m at *
  rcases g3 with rfl | g3
  · exact h1
  · rcases h2 with rfl | h2
    · exact g0
    · have := lt_of_sq (a := n) (b := m + 1) (by omega) (by omega)
      omega
theorem ml_ab (a : Int) : ml a a = ab a * ab a := by
  unfold ml
  by_cases h : a < 0
  · rw [ab_neg h, Int.neg_mul_neg]
  · rw [ab_pos h]
theorem ml_nn (a : Int) : 0 ≤ ml a a := sq_nn _
theorem sr_back {x m : Int} (h0 : 0 ≤ x) (h1 : x ≤ 288230376151711744) (h2 : 0 ≤ m) (h3 : m ≤ 2 * x) : sr (x * x + m) = x ∧ ro (x * x + m) = false := by
  have e : (x + 1) * (x + 1) = x * x + (2 * x + 1) := by grind
  have := lim1
  have := sq_le (a := x + 1) (b := 288230376151711744 + 1) (by omega) (by omega)
  have := sq_nn x
  exact ⟨sr_of ⟨h0, h1, .inr (by omega), .inr (by omega)⟩, ro_of (by omega) (by omega)⟩
theorem cl_ab (a : Int) : cl (ab a) = ab a := (cl_in (by have := ab_bd a; omega) (ab_bd a).2).1
theorem hyp_ge (a b : Int) : ab a ≤ sr (ml a a + ml b b) ∧ ab b ≤ sr (ml a a + ml b b) := by
  have ha := ab_bd a
  have hb := ab_bd b
  have e := ml_ab a; have e' := ml_ab b
  have h1 : sr (ab a * ab a) = ab a := in_hit ha.1 ha.2 rfl
  have h2 : sr (ab b * ab b) = ab b := in_hit hb.1 hb.2 rfl
  have n1 := ml_nn a; have n2 := ml_nn b
  have m1 := sr_mono (y := ab a * ab a) (z := ml a a + ml b b) (by omega)
  have m2 := sr_mono (y := ab b * ab b) (z := ml a a + ml b b) (by omega)
  omega
theorem hyp_le (a b : Int) : sr (ml a a + ml b b) ≤ cl (ab a + ab b) := by
  have ha := ab_bd a
  have hb := ab_bd b
  have hs := sr_bd (ml a a + ml b b)
  have e : (ab a + ab b) * (ab a + ab b) = ab a * ab a + ab b * ab b + 2 * (ab a * ab b) := by grind
  have hn := Int.mul_nonneg ha.1 hb.1
  have hq := sr_sq (z := ml a a + ml b b) (by have := ml_nn a; have := ml_nn b; omega)
  have e1 := ml_ab a; have e2 := ml_ab b
  have hl := le_of_sq (a := sr (ml a a + ml b b)) (b := ab a + ab b) (by omega) (by omega)
  generalize ab a + ab b = t at *
  rcases Int.lt_or_le 288230376151711744 t with h | h
  · rw [(cl_hi h).1]; omega
  · rw [(cl_in (by omega) h).1]; omega
theorem four {z : Int} (h0 : 0 ≤ z) (h1 : ro (4 * z) = false) : ro z = false ∧ (sr (4 * z) = 2 * sr z ∨ sr (4 * z) = 2 * sr z + 1) := by
  have r0 := ro_f h1
  have r1 : ro z = false := ro_of h0 (by omega)
  have a1 := sr_sq h0
  have a2 := sr_next r1
  have b1 := sr_sq (z := 4 * z) (by omega)
  have b2 := sr_next h1
  have s0 := sr_bd z
  have s1 := sr_bd (4 * z)
  generalize sr z = s at *
  generalize sr (4 * z) = t at *
  have e1 : (2 * s) * (2 * s) = 4 * (s * s) := by grind
  have e2 : (2 * s + 2) * (2 * s + 2) = 4 * ((s + 1) * (s + 1)) := by grind
  have c1 := lt_of_sq (a := 2 * s) (b := t + 1) (by omega) (by omega)
  have c2 := lt_of_sq (a := t) (b := 2 * s + 2) (by omega) (by omega)
  exact ⟨r1, by omega⟩
theorem cm_le (a b : Int) (h : a ≤ b) : cm a b ≤ 0 := by have := cm_cases a b; omega
theorem cm_gt (a b : Int) (h : b < a) : 0 < cm a b := by have := cm_cases a b; omega
theorem cm_lt' (a b : Int) (h : a < b) : cm a b < 0 := by have := cm_cases a b; omega
theorem and57 (n : Int) : bits .and .i64 n 144115188075855871 = n % 144115188075855872 := by
  have h : (BitVec.ofInt 64 144115188075855871).toNat = 2 ^ 57 - 1 := by decide
  have key : (BitVec.ofInt 64 n &&& BitVec.ofInt 64 144115188075855871).toNat = (n % ((2 ^ 64 : Nat) : Int)).toNat % 2 ^ 57 := by
    rw [BitVec.toNat_and, BitVec.toNat_ofInt, h, Nat.and_two_pow_sub_one_eq_mod]
  show IntKind.i64.wrap ((BitVec.ofInt 64 n &&& BitVec.ofInt 64 144115188075855871).toNat : Nat) = _
  rw [key, IntKind.wrap_i64]
  omega
end Rt
end Go.Proofs.Ytmhdpjdkcjdipaa
/- The contracts of package root. -/
namespace Go.Proofs.Ytmhdpjdkcjdipaa
open Go.ChangeShapes Go.WideShapes Go.ChangeAt Go.RowKit
open Go.Proofs.Ytmhdpjdkcjdipaa.Fx Go.Proofs.Ytmhdpjdkcjdipaa.Wd
set_option linter.unusedVariables false
attribute [local go_sem] Ext.cell Ext.froz Ext.lt Ext.lt1 Ext.lt2 Ext.lt3 Ext.all Ext.set_u drew_heap setCell_size Ext.set_size
namespace Rt
attribute [local go_sem ↓] eq_wide eqw_self
attribute [local go_sem] and62 and1 sgn64 not64 wrap_and
theorem in_bd {z L H : Int} (h : In z L H) : 0 ≤ L ∧ L < H ∧ H ≤ 288230376151711745 := ⟨h.1, h.2.1, h.2.2.1⟩
theorem mid_ex {z L H : Int} (h : In z L H) : ∃ M : Int, (L + H).tdiv 2 = M ∧ 0 ≤ M ∧ L ≤ M ∧ M < H := by
  obtain ⟨h0, h1, h2⟩ := in_bd h
  exact ⟨(L + H) / 2, by rw [Int.tdiv_eq_ediv_of_nonneg (by omega)], by omega, by omega, by omega⟩
theorem mid_end {z L H M : Int} (h : In z L H) (e : (L + H).tdiv 2 = M) (g : M = L) : L = sr z := by
  obtain ⟨h0, h1, h2⟩ := in_bd h
  rw [Int.tdiv_eq_ediv_of_nonneg (by omega)] at e
  exact (in_end h (by omega)).symm
theorem in_low {z L H M : Int} (h : In z L H) (h0 : L < M) (h1 : M < H) (g : M * M < z) : In z M H :=
  ⟨by have := h.1; omega, h1, h.2.2.1, .inr (by omega), h.2.2.2.2⟩
theorem in_high {z L H M : Int} (h : In z L H) (h0 : L < M) (h1 : M < H) (g : z < M * M) : In z L M :=
  ⟨h.1, h0, by have := h.2.2.1; omega, h.2.2.2.1, .inr g⟩
set_option maxRecDepth 100000 in
set_option maxHeartbeats 1000000 in
theorem search_c (p q : Int) (w : World) :
    Calls Try.prog 77 #[.agg #[.int .i64 p, .int .i64 q]] w fun e w' => e = .returned (.int .i64 (sr (vw p q))) ∧ ∃ x : Ext w, w' = x.u := by
  go_enter Try.func77, Try.ntmps77
  go_wp2
  refine wp_scope_jumps 0 (fun a' w' => (∃ y : Ext w, w' = y.u) ∧ ∃ n : Int, n = sr (vw p q) ∧ ∃ u0 u1 u4 u5 u6 u7 u8 u9 u10 u11 u12 u13 u14 u15 u16 u17 u18 u19 u20 u21 u22 u23 u24 u25 : Value, a' = { tmps := #[u0, u1, .int .i64 0, .int .i64 n, u4, u5, u6, u7, u8, u9, u10, u11, u12, u13, u14, u15, u16, u17, u18, u19, u20, u21, u22, u23, u24, u25], defers := [] }) (fun _ _ => 0) rfl ?_ ?_
  · go_wp2
    go_loopw [3, 4] (fun l h wr => ∃ L H : Int, l = .int .i64 L ∧ h = .int .i64 H ∧ Hid (In (vw p q) L H) ∧ ∃ y : Ext (w.alloc (.cells #[.int .i64 p, .int .i64 q] 54)), wr = y.u) (fun l h _ => (intOf h - intOf l).toNat)
    case atStart => exact ⟨0, _, rfl, rfl, ⟨by omega, by omega, by omega, .inl rfl, .inl rfl⟩, Mr.mk' (by repeat (first | (with_reducible exact Mr.refl _) | (with_reducible apply Mr.drew) | (with_reducible apply Mr.alloc) | (with_reducible apply Mr.ext) | (with_reducible refine Mr.setCell ?_ (by first | (simp; done) | (simp; omega) | omega | (refine leOf0 ?_; (repeat (first | (with_reducible exact Mr.refl _) | (with_reducible apply Mr.drew) | (with_reducible apply Mr.alloc) | (with_reducible apply Mr.ext) | (with_reducible refine Mr.setCell ?_ (by first | (simp; done) | (simp; omega) | omega) _))); done) | (refine leOf ?_; (repeat (first | (with_reducible exact Mr.refl _) | (with_reducible apply Mr.drew) | (with_reducible apply Mr.alloc) | (with_reducible apply Mr.ext) | (with_reducible refine Mr.setCell ?_ (by first | (simp; done) | (simp; omega) | omega) _))); done)) _)))⟩
    case round =>
      obtain ⟨L, H, rfl, rfl, hin, y, rfl⟩ := hrel
      obtain ⟨M, e1, m0, m1, m2⟩ := mid_ex hin.out
      obtain ⟨h0, h1, h2⟩ := in_bd hin.out
      by_cases hm : M = L
      · have d1 : (M == L) = true := by simp [hm]
        have E : Hid (L = sr (vw p q)) := mid_end hin.out e1 hm
        clear hm
        go_wp2
        go_step3
        exact ⟨rfl, Mr.mk' (by repeat (first | (with_reducible exact Mr.refl _) | (with_reducible apply Mr.drew) | (with_reducible apply Mr.alloc) | (with_reducible apply Mr.ext) | (with_reducible refine Mr.setCell ?_ (by first | (simp; done) | (simp; omega) | omega | (refine leOf0 ?_; (repeat (first | (with_reducible exact Mr.refl _) | (with_reducible apply Mr.drew) | (with_reducible apply Mr.alloc) | (with_reducible apply Mr.ext) | (with_reducible refine Mr.setCell ?_ (by first | (simp; done) | (simp; omega) | omega) _))); done) | (refine leOf ?_; (repeat (first | (with_reducible exact Mr.refl _) | (with_reducible apply Mr.drew) | (with_reducible apply Mr.alloc) | (with_reducible apply Mr.ext) | (with_reducible refine Mr.setCell ?_ (by first | (simp; done) | (simp; omega) | omega) _))); done)) _))), _, E.out, _, _, _, _, _, _, _, _, _, _, _, _, _, _, _, _, _, _, _, _, _, _, _, _, rfl⟩
      · have d1 : (M == L) = false := by simp [hm]
        have m3 : L < M := by omega
        clear hm
        have c1 : vw (hi (ml M M)) (lo (ml M M)) = M * M := by rw [vw_hl (ml_inr M M), ml_self (by omega) (by omega)]
        rcases cm_cases (M * M) (vw p q) with ⟨hc, c2⟩ | ⟨hc, c2⟩ | ⟨hc, c2⟩
        · have E : Hid (M = sr (vw p q)) := (in_hit (by omega) (by omega) hc).symm
          clear hc
          go_wp2
          refine wp_region_ext (by kernel_rfl) (by kernel_rfl) ?_
          (repeat (go_big_quiet_step ((first | (go_at_call 63; exact extCall (wmul_c _ _ _)) | (go_at_call 70; exact extCall (wof_c _ _ (by omega))) | (go_at_call 78; exact extCall (wcmp_c _ _ _ _ _)) | (go_at_call 66; exact extCall (wadd_c _ _ _ _ _)) | (go_at_call 72; exact extCall (sane_c _ _ _))))))
          refine wpQuiet_nil ?_
          rintro w1 ⟨x1, rfl⟩
          go_wp2
          go_step3
          exact ⟨rfl, Mr.mk' (by repeat (first | (with_reducible exact Mr.refl _) | (with_reducible apply Mr.drew) | (with_reducible apply Mr.alloc) | (with_reducible apply Mr.ext) | (with_reducible refine Mr.setCell ?_ (by first | (simp; done) | (simp; omega) | omega | (refine leOf0 ?_; (repeat (first | (with_reducible exact Mr.refl _) | (with_reducible apply Mr.drew) | (with_reducible apply Mr.alloc) | (with_reducible apply Mr.ext) | (with_reducible refine Mr.setCell ?_ (by first | (simp; done) | (simp; omega) | omega) _))); done) | (refine leOf ?_; (repeat (first | (with_reducible exact Mr.refl _) | (with_reducible apply Mr.drew) | (with_reducible apply Mr.alloc) | (with_reducible apply Mr.ext) | (with_reducible refine Mr.setCell ?_ (by first | (simp; done) | (simp; omega) | omega) _))); done)) _))), _, E.out, _, _, _, _, _, _, _, _, _, _, _, _, _, _, _, _, _, _, _, _, _, _, _, _, rfl⟩
        · have E : Hid (In (vw p q) M H) := in_low hin.out (by omega) (by omega) hc
          clear hc
          go_wp2
          refine wp_region_ext (by kernel_rfl) (by kernel_rfl) ?_
          (repeat (go_big_quiet_step ((first | (go_at_call 63; exact extCall (wmul_c _ _ _)) | (go_at_call 70; exact extCall (wof_c _ _ (by omega))) | (go_at_call 78; exact extCall (wcmp_c _ _ _ _ _)) | (go_at_call 66; exact extCall (wadd_c _ _ _ _ _)) | (go_at_call 72; exact extCall (sane_c _ _ _))))))
          refine wpQuiet_nil ?_
          rintro w1 ⟨x1, rfl⟩
          go_wp2
          go_roundw
          case rel => exact ⟨M, H, rfl, rfl, E, Mr.mk' (by repeat (first | (with_reducible exact Mr.refl _) | (with_reducible apply Mr.drew) | (with_reducible apply Mr.alloc) | (with_reducible apply Mr.ext) | (with_reducible refine Mr.setCell ?_ (by first | (simp; done) | (simp; omega) | omega | (refine leOf0 ?_; (repeat (first | (with_reducible exact Mr.refl _) | (with_reducible apply Mr.drew) | (with_reducible apply Mr.alloc) | (with_reducible apply Mr.ext) | (with_reducible refine Mr.setCell ?_ (by first | (simp; done) | (simp; omega) | omega) _))); done) | (refine leOf ?_; (repeat (first | (with_reducible exact Mr.refl _) | (with_reducible apply Mr.drew) | (with_reducible apply Mr.alloc) | (with_reducible apply Mr.ext) | (with_reducible refine Mr.setCell ?_ (by first | (simp; done) | (simp; omega) | omega) _))); done)) _)))⟩
          case measure => simp [intOf]; omega
        · have E : Hid (In (vw p q) L M) := in_high hin.out (by omega) (by omega) hc
          clear hc
          go_wp2
          refine wp_region_ext (by kernel_rfl) (by kernel_rfl) ?_
          (repeat (go_big_quiet_step ((first | (go_at_call 63; exact extCall (wmul_c _ _ _)) | (go_at_call 70; exact extCall (wof_c _ _ (by omega))) | (go_at_call 78; exact extCall (wcmp_c _ _ _ _ _)) | (go_at_call 66; exact extCall (wadd_c _ _ _ _ _)) | (go_at_call 72; exact extCall (sane_c _ _ _))))))
          refine wpQuiet_nil ?_
          rintro w1 ⟨x1, rfl⟩
          go_wp2
          go_roundw
          case rel => exact ⟨L, M, rfl, rfl, E, Mr.mk' (by repeat (first | (with_reducible exact Mr.refl _) | (with_reducible apply Mr.drew) | (with_reducible apply Mr.alloc) | (with_reducible apply Mr.ext) | (with_reducible refine Mr.setCell ?_ (by first | (simp; done) | (simp; omega) | omega | (refine leOf0 ?_; (repeat (first | (with_reducible exact Mr.refl _) | (with_reducible apply Mr.drew) | (with_reducible apply Mr.alloc) | (with_reducible apply Mr.ext) | (with_reducible refine Mr.setCell ?_ (by first | (simp; done) | (simp; omega) | omega) _))); done) | (refine leOf ?_; (repeat (first | (with_reducible exact Mr.refl _) | (with_reducible apply Mr.drew) | (with_reducible apply Mr.alloc) | (with_reducible apply Mr.ext) | (with_reducible refine Mr.setCell ?_ (by first | (simp; done) | (simp; omega) | omega) _))); done)) _)))⟩
          case measure => simp [intOf]; omega
  · rintro a' w' ⟨⟨y, rfl⟩, n, hn, u0, u1, u4, u5, u6, u7, u8, u9, u10, u11, u12, u13, u14, u15, u16, u17, u18, u19, u20, u21, u22, u23, u24, u25, rfl⟩
    go_wp2
    simp only [Exit.jump]
    go_ret
    exact ⟨ret_i' hn, y, rfl⟩
theorem next_math {n : Int} (h0 : 0 ≤ n) (h1 : n ≤ 288230376151711744) : vw (hi (ml n n)) (lo (ml n n)) = n * n ∧ vw (hi (2 * n + 1)) (lo (2 * n + 1)) = 2 * n + 1 ∧ cut (n * n + (2 * n + 1)) = (n + 1) * (n + 1) ∧ inr ((n + 1) * (n + 1)) = true := by
  have e : n * n + (2 * n + 1) = (n + 1) * (n + 1) := by grind
  have b1 := sq_le h0 h1
  have i1 : inr (n * n + (2 * n + 1)) = true := by rw [inr_iff]; have := sq_nn n; have := lim0; omega
  refine ⟨by rw [vw_hl (ml_inr n n), ml_self (by omega) h1], vw_hl1 (by omega), ?_, ?_⟩
  · rw [cut_of i1, e]
  · rw [← e]; exact i1
set_option maxHeartbeats 1000000 in
theorem next_c (n : Int) (w : World) (hn : 0 ≤ n ∧ n ≤ 288230376151711744) :
    Calls Try.prog 79 #[.int .i64 n] w fun e w' => e = .returned (.agg #[.int .i64 (hi ((n + 1) * (n + 1))), .int .i64 (lo ((n + 1) * (n + 1)))]) ∧ ∃ x : Ext w, w' = x.u := by
  obtain ⟨h0, h1⟩ := hn
  obtain ⟨e1, e2, e3, e4⟩ := next_math h0 h1
  clear e4
  go_enter Try.func79, Try.ntmps79
  go_wp2_with (first | (go_at_call 63; refine (wmul_c _ _ _).mono ?_; rintro e w' ⟨rfl, x, rfl⟩) | (go_at_call 70; refine (wof_c _ _ ?_).mono ?_; (first | omega | exact ⟨by omega, by omega⟩); rintro e w' ⟨rfl, x, rfl⟩) | (go_at_call 66; refine (wadd_c _ _ _ _ _).mono ?_; rintro e w' ⟨rfl, x, rfl⟩))
  exact bodyPost_ret (v := .agg #[.int .i64 (hi ((n + 1) * (n + 1))), .int .i64 (lo ((n + 1) * (n + 1)))]) (by simp [results, Try.results79, go_sem]) rfl ⟨rfl, Mr.mk' (by repeat (first | (with_reducible exact Mr.refl _) | (with_reducible apply Mr.drew) | (with_reducible apply Mr.alloc) | (with_reducible apply Mr.ext) | (with_reducible refine Mr.setCell ?_ (by first | (simp; done) | (simp; omega) | omega | (refine leOf0 ?_; (repeat (first | (with_reducible exact Mr.refl _) | (with_reducible apply Mr.drew) | (with_reducible apply Mr.alloc) | (with_reducible apply Mr.ext) | (with_reducible refine Mr.setCell ?_ (by first | (simp; done) | (simp; omega) | omega) _))); done) | (refine leOf ?_; (repeat (first | (with_reducible exact Mr.refl _) | (with_reducible apply Mr.drew) | (with_reducible apply Mr.alloc) | (with_reducible apply Mr.ext) | (with_reducible refine Mr.setCell ?_ (by first | (simp; done) | (simp; omega) | omega) _))); done)) _)))⟩
theorem vw_zero : vw (hi 0) (lo 0) = 0 := by decide
theorem wd_false {z : Int} {s : Bool} (h : ¬ z < 0) (g : z < (sr z + 1) * (sr z + 1)) : (ro z || !s) = !s := by
  rw [← next_iff (by omega), decide_eq_false (by omega)]; rfl
theorem wd_true {z : Int} {s : Bool} (h : ¬ z < 0) (g : (sr z + 1) * (sr z + 1) ≤ z) : (ro z || !s) = true := by
  rw [← next_iff (by omega), decide_eq_true g]; rfl
set_option maxHeartbeats 1000000 in
theorem wide_c (p q : Int) (w : World) :
    Calls Try.prog 54 #[.agg #[.int .i64 p, .int .i64 q]] w fun e w' => e = .returned (.tuple #[.int .i64 (sr (vw p q)), .bool (ro (vw p q) || !sn p q)]) ∧ ∃ x : Ext w, w' = x.u := by
  have hz := sr_bd (vw p q)
  have v0 := vw_zero
  have v1 := vw_hl (next_math hz.1 hz.2).2.2.2
  have W1 : Hid (cm (vw p q) 0 ≠ -1 → cm ((sr (vw p q) + 1) * (sr (vw p q) + 1)) (vw p q) = 1 → (ro (vw p q) || !sn p q) = !sn p q) := fun h g => wd_false (by have := cm_cases (vw p q) 0; omega) (by have := cm_cases ((sr (vw p q) + 1) * (sr (vw p q) + 1)) (vw p q); omega)
  have W2 : Hid (cm (vw p q) 0 ≠ -1 → cm ((sr (vw p q) + 1) * (sr (vw p q) + 1)) (vw p q) ≠ 1 → (ro (vw p q) || !sn p q) = true) := fun h g => wd_true (by have := cm_cases (vw p q) 0; omega) (by have := cm_cases ((sr (vw p q) + 1) * (sr (vw p q) + 1)) (vw p q); omega)
  have W3 : Hid (cm (vw p q) 0 = -1 → (ro (vw p q) || !sn p q) = true) := fun h => by rw [ro_neg (by have := cm_cases (vw p q) 0; omega)]; rfl
  generalize hr : (ro (vw p q) || !sn p q) = R at *
  clear hr
  generalize hn : sr (vw p q) = n at *
  generalize hm : (n + 1) * (n + 1) = N at *
  rcases cm_cases (vw p q) 0 with ⟨h1, c1⟩ | ⟨h1, c1⟩ | ⟨h1, c1⟩ <;> rcases cm_cases N (vw p q) with ⟨h2, c2⟩ | ⟨h2, c2⟩ | ⟨h2, c2⟩
  all_goals
    clear h1 h2
    go_enter Try.func54, Try.ntmps54
    go_wp2_with (go_at_call 77; refine (search_c _ _ _).mono ?_; rintro e w' ⟨rfl, x, rfl⟩)
    refine wp_region_ext (by kernel_rfl) (by kernel_rfl) ?_
    (repeat (go_big_quiet_step ((first | (go_at_call 79; exact extCall (next_c _ _ (by omega))) | (go_at_call 70; exact extCall (wof_c _ _ (by omega))) | (go_at_call 78; exact extCall (wcmp_c _ _ _ _ _))))))
    refine wpQuiet_nil ?_
    rintro w1 ⟨x1, rfl⟩
    go_wp2
    refine wp_region_ext (by kernel_rfl) (by kernel_rfl) ?_
    (repeat (go_big_quiet_step ((first | (go_at_call 79; exact extCall (next_c _ _ (by omega))) | (go_at_call 70; exact extCall (wof_c _ _ (by omega))) | (go_at_call 78; exact extCall (wcmp_c _ _ _ _ _))))))
    refine wpQuiet_nil ?_
    rintro w1 ⟨x2, rfl⟩
    go_wp2_with (go_at_call 72; refine (sane_c _ _ _).mono ?_; rintro e w' ⟨rfl, x, rfl⟩)
    go_ret2
    refine ⟨ret_ib rfl ?_, Mr.mk' (by repeat (first | (with_reducible exact Mr.refl _) | (with_reducible apply Mr.drew) | (with_reducible apply Mr.alloc) | (with_reducible apply Mr.ext) | (with_reducible refine Mr.setCell ?_ (by first | (simp; done) | (simp; omega) | omega | (refine leOf0 ?_; (repeat (first | (with_reducible exact Mr.refl _) | (with_reducible apply Mr.drew) | (with_reducible apply Mr.alloc) | (with_reducible apply Mr.ext) | (with_reducible refine Mr.setCell ?_ (by first | (simp; done) | (simp; omega) | omega) _))); done) | (refine leOf ?_; (repeat (first | (with_reducible exact Mr.refl _) | (with_reducible apply Mr.drew) | (with_reducible apply Mr.alloc) | (with_reducible apply Mr.ext) | (with_reducible refine Mr.setCell ?_ (by first | (simp; done) | (simp; omega) | omega) _))); done)) _)))⟩
    first
    | exact (W3.out c1).symm
    | exact (W2.out (by rw [c1]; decide) (by rw [c2]; decide)).symm
    | exact (W1.out (by rw [c1]; decide) c2).symm
theorem vw_ml (a b : Int) : vw (hi (ml a b)) (lo (ml a b)) = ml a b := vw_hl (ml_inr a b)
theorem sn_ml (a b : Int) : sn (hi (ml a b)) (lo (ml a b)) = true := sn_hl (ml_inr a b)
theorem sq2_inr (a b : Int) : inr (ml a a + ml b b) = true := by
  have ha := cl_bd a
  have hb := cl_bd b
  have h1 : ml a a ≤ 83076749736557242056487941267521536 := by
    have := sq_le (a := ab a) (b := 288230376151711744) (ab_bd a).1 (ab_bd a).2
    have e : ml a a = ab a * ab a := by
      unfold ml
      by_cases h : a < 0
      · rw [ab_neg h, Int.neg_mul_neg]
      · rw [ab_pos h]
    have := lim0
    omega
  have h2 : ml b b ≤ 83076749736557242056487941267521536 := by
    have := sq_le (a := ab b) (b := 288230376151711744) (ab_bd b).1 (ab_bd b).2
    have e : ml b b = ab b * ab b := by
      unfold ml
      by_cases h : b < 0
      · rw [ab_neg h, Int.neg_mul_neg]
      · rw [ab_pos h]
    have := lim0
    omega
  have h3 : 0 ≤ ml a a := sq_nn _
  have h4 : 0 ≤ ml b b := sq_nn _
  rw [inr_iff]; omega
end Rt
end Go.Proofs.Ytmhdpjdkcjdipaa
