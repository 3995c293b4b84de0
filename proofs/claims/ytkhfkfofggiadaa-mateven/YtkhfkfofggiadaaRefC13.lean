/- The contracts of the document's own answers of layer 6, third part: the mean. -/
import Derived.Test.YtkhfkfofggiadaaRefC12
namespace Go.Proofs.Ytkhfkfofggiadaa
open Go.ChangeShapes Go.WideShapes Go.ChangeAt Go.RowKit
open Go.Proofs.Ytkhfkfofggiadaa.Fx Go.Proofs.Ytkhfkfofggiadaa.Wd
set_option linter.unusedVariables false
attribute [local go_sem] Ext.cell Ext.froz Ext.lt Ext.lt1 Ext.lt2 Ext.lt3 Ext.all Ext.set_u drew_heap setCell_size Ext.set_size
namespace Sm
open Sl
/-- The mean: the sum by how many there are, rounded. -/
def mn (l : List Int) : Int := if (vk l 64).length = 0 then 0 else (2 * tot l + (vk l 64).length) / (2 * (vk l 64).length)
theorem ck_nil {l : List Int} (h : (vk l 64).length = 0) : ck l 64 = false := by
  unfold vk at h
  rw [List.length_map, List.length_eq_zero_iff] at h
  unfold ck; rw [h]; rfl
theorem tot_bd (l : List Int) : -((vk l 64).length * 288230376151711744) ≤ tot l ∧ tot l ≤ (vk l 64).length * 288230376151711744 := ws_bd1 _ (fun j => vk_bd l 64 j) _
theorem mid_math {T M N L0 H0 : Int} (hN : 1 ≤ N) (hN2 : N ≤ 64) (hM : M = T / (2 * N)) (h0 : -288230376151711744 ≤ L0) (h1 : L0 ≤ M) (h2 : M ≤ H0) (h3 : H0 ≤ 288230376151711744) (h4 : L0 < H0) :
    ∃ D m : Int, (H0 - L0).tdiv 2 = D ∧ H0 - D = m ∧ (0 ≤ D ∧ D ≤ 288230376151711744) ∧ (L0 < m ∧ m ≤ H0) ∧ ((m ≤ M ∧ cm (2 * N * m) T ≤ 0) ∨ (M ≤ m - 1 ∧ ¬ cm (2 * N * m) T ≤ 0)) := by
  refine ⟨(H0 - L0) / 2, _, by rw [Int.tdiv_eq_ediv_of_nonneg (by omega)], rfl, by omega, by omega, ?_⟩
  generalize H0 - (H0 - L0) / 2 = m
  have key : m ≤ M ↔ 2 * N * m ≤ T := by
    rw [hM, Int.le_ediv_iff_mul_le (by omega), Int.mul_comm m]
  have := Rt.cm_cases (2 * N * m) T
  by_cases g : m ≤ M
  · left; have := key.1 g; exact ⟨g, by omega⟩
  · right
    have : ¬ 2 * N * m ≤ T := fun h => g (key.2 h)
    exact ⟨by omega, by omega⟩
theorem mean_in {z T1 T : Int} {L : Nat} (h0 : 1 ≤ L) (e1 : z + z = T1) (e2 : T1 + L = T) (b0 : -(L * 288230376151711744) ≤ z) (b1 : z ≤ L * 288230376151711744) : -288230376151711744 ≤ (-288230376151711744 : Int) ∧ -288230376151711744 ≤ T / (2 * L) ∧ T / (2 * L) ≤ 288230376151711744 ∧ (288230376151711744 : Int) ≤ 288230376151711744 := by
  refine ⟨by omega, ?_, ?_, by omega⟩
  · rw [Int.le_ediv_iff_mul_le (by omega)]; omega
  · have : T / (2 * L) < 288230376151711744 + 1 := by
      apply Int.ediv_lt_of_lt_mul (by omega); omega
    omega
set_option maxRecDepth 100000 in
set_option maxHeartbeats 4000000 in
theorem rmean_c (a : Option Addr) (c : Nat) (l : List Int) (w : World) (h : Sl.Is w a c l) :
    Calls Try.prog 44 #[.slice a l.length c] w fun e w' => e = .returned (.tuple #[.int .i64 (mn l), .bool (ck l 64)]) ∧ ∃ x : Ext w, w' = x.u := by
  have h64 := vk_64 l
  by_cases h0 : (vk l 64).length = 0
  · have E : Hid (mn l = 0 ∧ ck l 64 = false) := ⟨by unfold mn; rw [if_pos h0], ck_nil h0⟩
    go_enter Try.func44, Try.ntmps44
    go_wp2_with (go_at_call 51; refine (rcut_c _ _ _ _ ?_).mono ?_; assumption; rintro e w1 ⟨a', c', rfl, x, rfl, hIs⟩; have hm0 := x.h; generalize x.u = W0 at *; clear x)
    go_ret2
    exact ⟨ret_ib E.out.1.symm E.out.2.symm, Mr.mk' (hm0.trans (by repeat (first | (with_reducible exact Mr.refl _) | (with_reducible apply Mr.drew) | (with_reducible apply Mr.alloc) | (with_reducible apply Mr.ext) | (with_reducible refine Mr.setCell ?_ (by first | (simp; done) | (simp; omega) | omega | (refine leOf0 ?_; (repeat (first | (with_reducible exact Mr.refl _) | (with_reducible apply Mr.drew) | (with_reducible apply Mr.alloc) | (with_reducible apply Mr.ext) | (with_reducible refine Mr.setCell ?_ (by first | (simp; done) | (simp; omega) | omega) _))); done) | (refine leOf ?_; (repeat (first | (with_reducible exact Mr.refl _) | (with_reducible apply Mr.drew) | (with_reducible apply Mr.alloc) | (with_reducible apply Mr.ext) | (with_reducible refine Mr.setCell ?_ (by first | (simp; done) | (simp; omega) | omega) _))); done)) _))))⟩
  · have hE : Hid (mn l = (2 * tot l + (vk l 64).length) / (2 * (vk l 64).length)) := by unfold mn; rw [if_neg h0]; trivial
    have h0' : (((vk l 64).length : Int) == 0) = false := by rw [Bool.eq_false_iff]; simp; exact fun e => h0 (by rw [e]; rfl)
    have htb := tot_bd l
    go_enter Try.func44, Try.ntmps44
    go_wp2_with (go_at_call 51; refine (rcut_c _ _ _ _ ?_).mono ?_; assumption; rintro e w1 ⟨a', c', rfl, x, rfl, hIs⟩; have hm0 := x.h; generalize x.u = W0 at *; clear x)
    go_loopw [7] (fun i wr => ∃ (k : Nat) (z : Int), k ≤ (vk l 64).length ∧ i = .int .i64 k ∧ Hid (ws (gt (vk l 64)) k = z) ∧ ∃ y : Ext (W0.alloc (.cells #[.int .i64 (hi z), .int .i64 (lo z)] 53)), wr = y.u) (fun i _ => (64 - intOf i).toNat)
    case atStart => exact ⟨0, 0, by omega, rfl, rfl, by rw [hl_zero.1, hl_zero.2]; exact Mr.mk' (by repeat (first | (with_reducible exact Mr.refl _) | (with_reducible apply Mr.drew) | (with_reducible apply Mr.alloc) | (with_reducible apply Mr.ext) | (with_reducible refine Mr.setCell ?_ (by first | (simp; done) | (simp; omega) | omega | (refine leOf0 ?_; (repeat (first | (with_reducible exact Mr.refl _) | (with_reducible apply Mr.drew) | (with_reducible apply Mr.alloc) | (with_reducible apply Mr.ext) | (with_reducible refine Mr.setCell ?_ (by first | (simp; done) | (simp; omega) | omega) _))); done) | (refine leOf ?_; (repeat (first | (with_reducible exact Mr.refl _) | (with_reducible apply Mr.drew) | (with_reducible apply Mr.alloc) | (with_reducible apply Mr.ext) | (with_reducible refine Mr.setCell ?_ (by first | (simp; done) | (simp; omega) | omega) _))); done)) _)))⟩
    case round =>
      obtain ⟨k, z, hk, rfl, hz, y, rfl⟩ := hrel
      by_cases hlt : k < (vk l 64).length
      · have hl1' : (k : Int) < (vk l 64).length := by omega
        obtain ⟨b1, o1, rfl, hb1, hc1⟩ := hIs.at' k hlt
        have hck1 := hc1 k hlt
        have hb1a : b1 < W0.heap.size + 1 := by omega
        have hi1 : inr z = true := by rw [← hz.out]; exact tot_inr l (by omega)
        have hi2 : inr (z + gt (vk l 64) k) = true := by
          have := tot_inr l (k := k + 1) (by omega)
          simp only [ws, hz.out] at this
          exact this
        have hN : Hid (ws (gt (vk l 64)) (k + 1) = z + gt (vk l 64) k) := by simp only [Hid, ws, hz.out]
        have hbX := vk_bd l 64 k
        generalize hX : gt (vk l 64) k = X at *
        generalize hL : (vk l 64).length = L at *
        have v1 := vw_hl hi1
        have v2 : vw (hi X) (lo X) = X := vw_hl1 (by omega)
        have v3 := cut_of hi2
        clear hIs hc1
        generalize hZ : z + X = Z at *
        go_wp2
        go_region_held3 (fun w' => w'.cell? ⟨W0.heap.size, 0, none⟩ = some (.int .i64 (hi z)) ∧ w'.cell? ⟨W0.heap.size, 1, none⟩ = some (.int .i64 (lo z)) ∧ w'.cell? ⟨b1, o1 + k, none⟩ = some (.int .i64 X)) ((simp [go_sem, *]; done)) (first | (go_at_call 60; refine (rof2_c _ _ ?_).mono ?_; (exact ⟨by omega, by omega⟩); rintro e w' ⟨rfl, x, rfl⟩) | (go_at_call 59; refine (radd2_c _ _ _ _ _).mono ?_; rintro e w' ⟨rfl, x, rfl⟩))
        all_goals
          go_wp2_with fail
          go_roundw
          case rel =>
            refine ⟨k + 1, Z, by omega, by go_num, hN, Mr.mk' ?_⟩
            repeat (with_reducible apply Mr.alloc)
            exact mr_set2 (V := W0.alloc (.cells #[.int .i64 (hi z), .int .i64 (lo z)] 53)) _ (by repeat (first | (with_reducible exact Mr.refl _) | (with_reducible apply Mr.drew) | (with_reducible apply Mr.alloc) | (with_reducible apply Mr.ext) | (with_reducible refine Mr.setCell ?_ (by first | (simp; done) | (simp; omega) | omega | (refine leOf0 ?_; (repeat (first | (with_reducible exact Mr.refl _) | (with_reducible apply Mr.drew) | (with_reducible apply Mr.alloc) | (with_reducible apply Mr.ext) | (with_reducible refine Mr.setCell ?_ (by first | (simp; done) | (simp; omega) | omega | (refine leOf0 ?_; (repeat (first | (with_reducible exact Mr.refl _) | (with_reducible apply Mr.drew) | (with_reducible apply Mr.alloc) | (with_reducible apply Mr.ext) | (with_reducible refine Mr.setCell ?_ (by first | (simp; done) | (simp; omega) | omega) _))); done) | (refine leOf ?_; (repeat (first | (with_reducible exact Mr.refl _) | (with_reducible apply Mr.drew) | (with_reducible apply Mr.alloc) | (with_reducible apply Mr.ext) | (with_reducible refine Mr.setCell ?_ (by first | (simp; done) | (simp; omega) | omega) _))); done)) _))); done) | (refine leOf ?_; (repeat (first | (with_reducible exact Mr.refl _) | (with_reducible apply Mr.drew) | (with_reducible apply Mr.alloc) | (with_reducible apply Mr.ext) | (with_reducible refine Mr.setCell ?_ (by first | (simp; done) | (simp; omega) | omega | (refine leOf0 ?_; (repeat (first | (with_reducible exact Mr.refl _) | (with_reducible apply Mr.drew) | (with_reducible apply Mr.alloc) | (with_reducible apply Mr.ext) | (with_reducible refine Mr.setCell ?_ (by first | (simp; done) | (simp; omega) | omega) _))); done) | (refine leOf ?_; (repeat (first | (with_reducible exact Mr.refl _) | (with_reducible apply Mr.drew) | (with_reducible apply Mr.alloc) | (with_reducible apply Mr.ext) | (with_reducible refine Mr.setCell ?_ (by first | (simp; done) | (simp; omega) | omega) _))); done)) _))); done)) _))) (by simp [go_sem])
          case measure => simp [intOf]; omega
      · have hm : Hid (tot l = z) := by
          rw [Hid, ← hz.out]; unfold tot
          rw [show (vk l 64).length = k by omega]
        have hlt' : ¬ (k : Int) < (vk l 64).length := by omega
        rw [hm.out] at htb
        have i0 : inr z = true := by rw [← hm.out]; exact tot_inr l (by omega)
        generalize hL : (vk l 64).length = L at *
        have v1 : vw (hi z) (lo z) = z := vw_hl i0
        have i1 : inr (z + z) = true := by rw [inr_iff]; omega
        have i2 : inr (z + z + L) = true := by rw [inr_iff]; omega
        have v2 := vw_hl i1
        have v3 := cut_of i1
        have v4 : vw (hi (L : Int)) (lo (L : Int)) = L := vw_hl1 (by omega)
        have v5 := cut_of i2
        have v6 := vw_hl i2
        have HM : Hid (mn l = (z + z + L) / (2 * L)) := by rw [Hid, hE.out, hm.out]; congr 1; omega
        clear hIs hE hz
        generalize hT1 : z + z = T1 at *
        generalize hT : T1 + (L : Int) = T at *
        go_wp2_with (go_at_call 59; refine (radd2_c _ _ _ _ _).mono ?_; rintro e w' ⟨rfl, x, rfl⟩)
        go_cut [12] (fun v wx => ∃ B : Nat, v = .pointer (some ⟨B, 0, none⟩) ∧ wx.cell? ⟨B, 0, none⟩ = some (.int .i64 (hi T)) ∧ wx.cell? ⟨B, 1, none⟩ = some (.int .i64 (lo T)) ∧ B < wx.heap.size ∧ Mr w wx)
        case first =>
          go_region_held3 (fun w' => w'.cell? ⟨x.u.heap.size, 0, none⟩ = some (.int .i64 (hi T1)) ∧ w'.cell? ⟨x.u.heap.size, 1, none⟩ = some (.int .i64 (lo T1))) ((simp [go_sem]; done)) (first | (go_at_call 60; refine (rof2_c _ _ ?_).mono ?_; (exact ⟨by omega, by omega⟩); rintro e w' ⟨rfl, x, rfl⟩) | (go_at_call 59; refine (radd2_c _ _ _ _ _).mono ?_; rintro e w' ⟨rfl, x, rfl⟩))
          all_goals
            go_wp2_with fail
            go_meet
            case rel => exact ⟨_, rfl, by simp [go_sem], by simp [go_sem], by simp [go_sem], hm0.trans (by repeat (first | (with_reducible exact Mr.refl _) | (with_reducible apply Mr.drew) | (with_reducible apply Mr.alloc) | (with_reducible apply Mr.ext) | (with_reducible refine Mr.setCell ?_ (by first | (simp; done) | (simp; omega) | omega | (refine leOf0 ?_; (repeat (first | (with_reducible exact Mr.refl _) | (with_reducible apply Mr.drew) | (with_reducible apply Mr.alloc) | (with_reducible apply Mr.ext) | (with_reducible refine Mr.setCell ?_ (by first | (simp; done) | (simp; omega) | omega | (refine leOf0 ?_; (repeat (first | (with_reducible exact Mr.refl _) | (with_reducible apply Mr.drew) | (with_reducible apply Mr.alloc) | (with_reducible apply Mr.ext) | (with_reducible refine Mr.setCell ?_ (by first | (simp; done) | (simp; omega) | omega) _))); done) | (refine leOf ?_; (repeat (first | (with_reducible exact Mr.refl _) | (with_reducible apply Mr.drew) | (with_reducible apply Mr.alloc) | (with_reducible apply Mr.ext) | (with_reducible refine Mr.setCell ?_ (by first | (simp; done) | (simp; omega) | omega) _))); done)) _))); done) | (refine leOf ?_; (repeat (first | (with_reducible exact Mr.refl _) | (with_reducible apply Mr.drew) | (with_reducible apply Mr.alloc) | (with_reducible apply Mr.ext) | (with_reducible refine Mr.setCell ?_ (by first | (simp; done) | (simp; omega) | omega | (refine leOf0 ?_; (repeat (first | (with_reducible exact Mr.refl _) | (with_reducible apply Mr.drew) | (with_reducible apply Mr.alloc) | (with_reducible apply Mr.ext) | (with_reducible refine Mr.setCell ?_ (by first | (simp; done) | (simp; omega) | omega) _))); done) | (refine leOf ?_; (repeat (first | (with_reducible exact Mr.refl _) | (with_reducible apply Mr.drew) | (with_reducible apply Mr.alloc) | (with_reducible apply Mr.ext) | (with_reducible refine Mr.setCell ?_ (by first | (simp; done) | (simp; omega) | omega) _))); done)) _))); done)) _)))⟩
        case rest =>
          obtain ⟨B, rfl, hc0, hc1, hB, hmw⟩ := hcut
          go_wp2_with fail
          go_loopw [14, 15] (fun l0 h0 wr => ∃ (L0 H0 : Int), l0 = .int .i64 L0 ∧ h0 = .int .i64 H0 ∧ (-288230376151711744 ≤ L0 ∧ L0 ≤ T / (2 * L) ∧ T / (2 * L) ≤ H0 ∧ H0 ≤ 288230376151711744) ∧ wr.cell? ⟨B, 0, none⟩ = some (.int .i64 (hi T)) ∧ wr.cell? ⟨B, 1, none⟩ = some (.int .i64 (lo T)) ∧ B < wr.heap.size ∧ Mr w wr) (fun l0 h0 _ => (intOf h0 - intOf l0).toNat)
          case atStart => exact ⟨_, _, rfl, rfl, mean_in (by omega) hT1 hT htb.1 htb.2, hc0, hc1, hB, hmw⟩
          case round =>
            obtain ⟨L0, H0, rfl, rfl, ⟨q0, q1, q2, q3⟩, hc0, hc1, hB, hmw⟩ := hrel
            generalize hM : T / (2 * (L : Int)) = M at *
            by_cases hlt2 : L0 < H0
            · obtain ⟨D, m, e1, e2, ⟨d0, d1⟩, ⟨m0, m1⟩, ⟨g1, g2⟩ | ⟨g1, g2⟩⟩ := mid_math (T := T) (M := M) (N := L) (by omega) (by omega) hM.symm q0 q1 q2 q3 hlt2
              · have c1 : vw (hi (ml (2 * (L : Int)) m)) (lo (ml (2 * (L : Int)) m)) = 2 * L * m := by rw [vw_hl (ml_inr _ _), Rt.ml_in (by omega) (by omega) (by omega) (by omega)]
                have dd : decide (cm (2 * (L : Int) * m) T ≤ 0) = true := by simpa using g2
                go_wp2
                refine wp_region_ext (by kernel_rfl) (by kernel_rfl) ?_
                repeat (go_big_quiet_step ((first | (go_at_call 62; exact extCall (rmul2_c _ _ _)) | (go_at_call 61; exact extCall (rcmp2_c _ _ _ _ _)))))
                refine wpQuiet_nil ?_
                rintro w1 ⟨x1, rfl⟩
                go_wp2
                go_roundw
                case rel => exact ⟨m, H0, rfl, rfl, ⟨by omega, by omega, by omega, by omega⟩, by rw [Ext.cell x1 B 0 hB]; exact hc0, by rw [Ext.cell x1 B 1 hB]; exact hc1, Nat.lt_of_lt_of_le hB x1.h.below.size, hmw.ext x1⟩
                case measure => simp [intOf]; omega
              · have c1 : vw (hi (ml (2 * (L : Int)) m)) (lo (ml (2 * (L : Int)) m)) = 2 * L * m := by rw [vw_hl (ml_inr _ _), Rt.ml_in (by omega) (by omega) (by omega) (by omega)]
                have dd : decide (cm (2 * (L : Int) * m) T ≤ 0) = false := by simpa using g2
                go_wp2
                refine wp_region_ext (by kernel_rfl) (by kernel_rfl) ?_
                repeat (go_big_quiet_step ((first | (go_at_call 62; exact extCall (rmul2_c _ _ _)) | (go_at_call 61; exact extCall (rcmp2_c _ _ _ _ _)))))
                refine wpQuiet_nil ?_
                rintro w1 ⟨x1, rfl⟩
                go_wp2
                go_roundw
                case rel => exact ⟨L0, m - 1, rfl, rfl, ⟨by omega, by omega, by omega, by omega⟩, by rw [Ext.cell x1 B 0 hB]; exact hc0, by rw [Ext.cell x1 B 1 hB]; exact hc1, Nat.lt_of_lt_of_le hB x1.h.below.size, hmw.ext x1⟩
                case measure => simp [intOf]; omega
            · have HR : Hid (L0 = mn l) := by rw [Hid, HM.out]; omega
              go_wp2
              go_ret2
              exact ⟨ret_ib HR.out rfl, Mr.mk' hmw⟩
end Sm
end Go.Proofs.Ytkhfkfofggiadaa
