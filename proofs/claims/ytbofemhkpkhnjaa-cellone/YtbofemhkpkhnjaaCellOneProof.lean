/- For every list of words and every access the law CellOne answers true: one word alone changes at once. No condition. -/
import Derived.Test.YtbofemhkpkhnjaaRows
import Derived.WalkKit
import Derived.ProofKit
import Derived.OpenShut
import Derived.ShutString
import Derived.ChangeOld
import Derived.Below
import Derived.Test.YtbofemhkpkhnjaaCellC2
import Derived.Test.YtbofemhkpkhnjaaCellM2
import Derived.Test.YtbofemhkpkhnjaaAccR
namespace Go.Proofs.Ytbofemhkpkhnjaa.cellOne
open Go.ChangeShapes Go.WideShapes Go.ChangeAt Go.RowKit
set_option linter.unusedVariables false
theorem own : ownKnob Try.prog.godebug = none := by kernel_rfl
theorem laidOut : laidOutB Try.prog = true := by kernel_rfl

open Go.Proofs.Ytbofemhkpkhnjaa.Ce Go.Proofs.Ytbofemhkpkhnjaa.Wl
attribute [local go_sem] Ext.cell Ext.froz Ext.lt Ext.lt1 Ext.lt2 Ext.lt3 Ext.all Ext.set_u drew_heap setCell_size Ext.set_size
set_option maxHeartbeats 4000000 in
set_option maxRecDepth 100000 in
theorem walk (s0 : Option Addr) (n0 c0 : Nat) (z0 : List Int) (xk1 : Int) (xi1 : Int) (xa1 : Int) (xb1 : Int) (w : World) (w0 : Wl.IsRow .u64 w s0 n0 c0 z0) (w1 : Ce.Acc.ok ⟨xk1, xi1, xa1, xb1⟩) :
    Calls Try.prog 4 #[.slice s0 n0 c0, .agg #[.int .i64 xk1, .int .i64 xi1, .int .u64 xa1, .int .u64 xb1]] w fun e w' => e = .returned (.bool true) ∧ Below w.heap.size w w' := by
  obtain ⟨l, eL, hL⟩ := of_row w0
  clear w0
  have hm := hL.max
  have hl := hL.le
  unfold maxLen at hm
  have h9 : n0 ≤ 9223372036854775807 := by omega
  clear hm hl
  have t1 : Unit := ()
  have t2 : Unit := ()
  have t3 : Unit := ()
  by_cases h256 : (256 : Int) < n0
  · go_enter Try.func4, Try.ntmps4
    go_wp2_with (first | (go_at_call 9; refine (awake11_c _).mono ?_; rintro e w' ⟨rfl, x, rfl⟩))
    go_ret; exact ⟨rfl, Mr.grown (by repeat (first | (with_reducible exact Mr.refl _) | (with_reducible assumption) | (with_reducible apply Mr.drew) | (with_reducible apply Mr.alloc) | (with_reducible apply Mr.ext) | (with_reducible refine Mr.setCell ?_ (by first | (simp; done) | (simp; omega) | omega | (refine leOf0 ?_; (repeat (first | (with_reducible exact Mr.refl _) | (with_reducible apply Mr.drew) | (with_reducible apply Mr.alloc) | (with_reducible apply Mr.ext) | (with_reducible refine Mr.setCell ?_ (by first | (simp; done) | (simp; omega) | omega) _))); done) | (refine leOf ?_; (repeat (first | (with_reducible exact Mr.refl _) | (with_reducible apply Mr.drew) | (with_reducible apply Mr.alloc) | (with_reducible apply Mr.ext) | (with_reducible refine Mr.setCell ?_ (by first | (simp; done) | (simp; omega) | omega) _))); done)) _)))⟩
  · have h6 : l.length ≤ 256 := by omega
    have hb : Wb l := hL.bd
    have eC : (cut l).length = n0 := by rw [cut_all h6, eL]
    have hone := one_gt h6 ⟨xk1, xi1, xa1, xb1⟩
    have eA : (doM l ⟨xk1, xi1, xa1, xb1⟩).length = n0 := by rw [doM_len, eC]
    have eCA : (cut (doM l ⟨xk1, xi1, xa1, xb1⟩)).length = n0 := by rw [doM_all, eA]
    obtain ⟨T, eT⟩ : ∃ T, doW l ⟨xk1, xi1, xa1, xb1⟩ = T := ⟨_, rfl⟩
    by_cases hin : 0 ≤ xi1 ∧ xi1 < n0
    · obtain ⟨j, rfl⟩ := Int.eq_ofNat_of_zero_le hin.1
      have hj : j < l.length := by omega
      have hj1 : (j : Int) < n0 := hin.2
      have hj2 : ¬ (n0 : Int) ≤ j := by omega
      obtain ⟨A2, A0, A1, A3⟩ := one_in (k := xk1) (a := xa1) (b := xb1) h6 hj hb
      rw [eT] at A0 A3
      have hok2 : Acc.ok ⟨0, j, 0, 0⟩ := by unfold Acc.ok; simp only; omega
      generalize eMM : doM l ⟨xk1, j, xa1, xb1⟩ = M at *
      have hone0 := hone
      clear hone
      have hone : Hid (∀ k, ¬ gt M k = gt l k → k = j) := fun k hk => by
        rcases hone0 k with h | h
        · exact absurd h hk
        · have := h.1; simp only at this; omega
      have hnz : xk1 = 0 → Hid (∀ k, gt M k = gt l k) := fun e k => by
        rcases hone0 k with h | h
        · exact h
        · exact absurd e h.2
      clear hone0
      by_cases k0 : xk1 = 0
      · subst k0
        have hA0 := A0 rfl
        replace hnz := hnz rfl
        clear A0 A1 A3
        go_enter Try.func4, Try.ntmps4
        go_wp2_with (first | (go_at_call 9; refine (awake11_c _).mono ?_; rintro e w' ⟨rfl, x, rfl⟩) | (go_at_call 15; (have := t1; clear this t1); refine (cdo_c _ (hL.mr (by repeat (first | (with_reducible exact Mr.refl _) | (with_reducible assumption) | (with_reducible apply Mr.drew) | (with_reducible apply Mr.alloc) | (with_reducible apply Mr.ext) | (with_reducible refine Mr.setCell ?_ (by first | (simp; done) | (simp; omega) | omega | (refine leOf0 ?_; (repeat (first | (with_reducible exact Mr.refl _) | (with_reducible apply Mr.drew) | (with_reducible apply Mr.alloc) | (with_reducible apply Mr.ext) | (with_reducible refine Mr.setCell ?_ (by first | (simp; done) | (simp; omega) | omega) _))); done) | (refine leOf ?_; (repeat (first | (with_reducible exact Mr.refl _) | (with_reducible apply Mr.drew) | (with_reducible apply Mr.alloc) | (with_reducible apply Mr.ext) | (with_reducible refine Mr.setCell ?_ (by first | (simp; done) | (simp; omega) | omega) _))); done)) _)))) eL w1).mono ?_; rw [eC, eT, eMM]; rintro e w' ⟨b1, c1, rfl, x1, rfl, hA⟩))
        go_loopw [8] (fun i wr => ∃ k : Nat, k ≤ n0 ∧ i = .int .i64 k ∧ ∃ y : Ext x1.u, wr = y.u) (fun i _ => n0 - (intOf i).toNat)
        case atStart => exact ⟨0, by omega, rfl, Mr.mk' (Mr.refl _)⟩
        case round =>
          (obtain ⟨k, hk, rfl, y, rfl⟩ := hrel)
          by_cases hlt : k < n0
          · have hlt' : (k : Int) < n0 := by omega
            by_cases he : gt M k = gt l k
            · (obtain ⟨B1, o1, rfl, hB1, hc1⟩ := (hA.ext y).num k (by omega); obtain ⟨B2, o2, rfl, hB2, hc2⟩ := hL.num k (by omega))
              rw [he] at hc1
              clear hone hA hL he hnz A2 hA0
              generalize gt l k = v at *
              go_wp2
              refine wp_region_ext (by kernel_rfl) (by kernel_rfl) ?_; (repeat (go_big_quiet_step (fail))); refine wpQuiet_nil ?_; rintro w9 ⟨x9, rfl⟩; go_wp2
              go_roundw
              case rel => exact ⟨k + 1, by omega, by first | rfl | simp, Mr.mk' (by repeat (first | (with_reducible exact Mr.refl _) | (with_reducible assumption) | (with_reducible apply Mr.drew) | (with_reducible apply Mr.alloc) | (with_reducible apply Mr.ext) | (with_reducible refine Mr.setCell ?_ (by first | (simp; done) | (simp; omega) | omega | (refine leOf0 ?_; (repeat (first | (with_reducible exact Mr.refl _) | (with_reducible apply Mr.drew) | (with_reducible apply Mr.alloc) | (with_reducible apply Mr.ext) | (with_reducible refine Mr.setCell ?_ (by first | (simp; done) | (simp; omega) | omega) _))); done) | (refine leOf ?_; (repeat (first | (with_reducible exact Mr.refl _) | (with_reducible apply Mr.drew) | (with_reducible apply Mr.alloc) | (with_reducible apply Mr.ext) | (with_reducible refine Mr.setCell ?_ (by first | (simp; done) | (simp; omega) | omega) _))); done)) _)))⟩
              case measure => simp [intOf]; omega
            · exact absurd (hnz.out k) he
          · obtain rfl : k = n0 := by omega
            obtain ⟨B1, o1, rfl, hB1, hc1⟩ := (hA.ext y).num j (by omega)
            obtain ⟨B2, o2, rfl, hB2, hc2⟩ := hL.num j hj
            rw [hnz.out j] at A2 hc1
            clear hone hL hlt hnz
            generalize hGL : gt l j = gl at *
            skip
            go_wp2_with (first | (go_at_call 15; refine (cdo_c _ (hA.mr (by repeat (first | (with_reducible exact Mr.refl _) | (with_reducible assumption) | (with_reducible apply Mr.drew) | (with_reducible apply Mr.alloc) | (with_reducible apply Mr.ext) | (with_reducible refine Mr.setCell ?_ (by first | (simp; done) | (simp; omega) | omega | (refine leOf0 ?_; (repeat (first | (with_reducible exact Mr.refl _) | (with_reducible apply Mr.drew) | (with_reducible apply Mr.alloc) | (with_reducible apply Mr.ext) | (with_reducible refine Mr.setCell ?_ (by first | (simp; done) | (simp; omega) | omega) _))); done) | (refine leOf ?_; (repeat (first | (with_reducible exact Mr.refl _) | (with_reducible apply Mr.drew) | (with_reducible apply Mr.alloc) | (with_reducible apply Mr.ext) | (with_reducible refine Mr.setCell ?_ (by first | (simp; done) | (simp; omega) | omega) _))); done)) _)))) eA hok2).mono ?_; rw [eCA, A2]; rintro e w' ⟨b2, c2, rfl, x2, rfl, -⟩))
            refine wp_region_ext (by kernel_rfl) (by kernel_rfl) ?_; (repeat (go_big_quiet_step (fail))); refine wpQuiet_nil ?_; rintro w9 ⟨x9, rfl⟩; go_wp2
            go_ret; exact ⟨rfl, Mr.grown (by repeat (first | (with_reducible exact Mr.refl _) | (with_reducible assumption) | (with_reducible apply Mr.drew) | (with_reducible apply Mr.alloc) | (with_reducible apply Mr.ext) | (with_reducible refine Mr.setCell ?_ (by first | (simp; done) | (simp; omega) | omega | (refine leOf0 ?_; (repeat (first | (with_reducible exact Mr.refl _) | (with_reducible apply Mr.drew) | (with_reducible apply Mr.alloc) | (with_reducible apply Mr.ext) | (with_reducible refine Mr.setCell ?_ (by first | (simp; done) | (simp; omega) | omega) _))); done) | (refine leOf ?_; (repeat (first | (with_reducible exact Mr.refl _) | (with_reducible apply Mr.drew) | (with_reducible apply Mr.alloc) | (with_reducible apply Mr.ext) | (with_reducible refine Mr.setCell ?_ (by first | (simp; done) | (simp; omega) | omega) _))); done)) _)))⟩
      · by_cases k1 : xk1 = 1
        · subst k1
          have hA1 := A1 rfl
          clear A0 A1 A3 hnz k0
          go_enter Try.func4, Try.ntmps4
          go_wp2_with (first | (go_at_call 9; refine (awake11_c _).mono ?_; rintro e w' ⟨rfl, x, rfl⟩) | (go_at_call 15; (have := t1; clear this t1); refine (cdo_c _ (hL.mr (by repeat (first | (with_reducible exact Mr.refl _) | (with_reducible assumption) | (with_reducible apply Mr.drew) | (with_reducible apply Mr.alloc) | (with_reducible apply Mr.ext) | (with_reducible refine Mr.setCell ?_ (by first | (simp; done) | (simp; omega) | omega | (refine leOf0 ?_; (repeat (first | (with_reducible exact Mr.refl _) | (with_reducible apply Mr.drew) | (with_reducible apply Mr.alloc) | (with_reducible apply Mr.ext) | (with_reducible refine Mr.setCell ?_ (by first | (simp; done) | (simp; omega) | omega) _))); done) | (refine leOf ?_; (repeat (first | (with_reducible exact Mr.refl _) | (with_reducible apply Mr.drew) | (with_reducible apply Mr.alloc) | (with_reducible apply Mr.ext) | (with_reducible refine Mr.setCell ?_ (by first | (simp; done) | (simp; omega) | omega) _))); done)) _)))) eL w1).mono ?_; rw [eC, eT, eMM]; rintro e w' ⟨b1, c1, rfl, x1, rfl, hA⟩))
          go_loopw [8] (fun i wr => ∃ k : Nat, k ≤ n0 ∧ i = .int .i64 k ∧ ∃ y : Ext x1.u, wr = y.u) (fun i _ => n0 - (intOf i).toNat)
          case atStart => exact ⟨0, by omega, rfl, Mr.mk' (Mr.refl _)⟩
          case round =>
            (obtain ⟨k, hk, rfl, y, rfl⟩ := hrel)
            by_cases hlt : k < n0
            · have hlt' : (k : Int) < n0 := by omega
              by_cases he : gt M k = gt l k
              · (obtain ⟨B1, o1, rfl, hB1, hc1⟩ := (hA.ext y).num k (by omega); obtain ⟨B2, o2, rfl, hB2, hc2⟩ := hL.num k (by omega))
                rw [he] at hc1
                clear hone hA hL he A2 hA1
                generalize gt l k = v at *
                go_wp2
                refine wp_region_ext (by kernel_rfl) (by kernel_rfl) ?_; (repeat (go_big_quiet_step (fail))); refine wpQuiet_nil ?_; rintro w9 ⟨x9, rfl⟩; go_wp2
                go_roundw
                case rel => exact ⟨k + 1, by omega, by first | rfl | simp, Mr.mk' (by repeat (first | (with_reducible exact Mr.refl _) | (with_reducible assumption) | (with_reducible apply Mr.drew) | (with_reducible apply Mr.alloc) | (with_reducible apply Mr.ext) | (with_reducible refine Mr.setCell ?_ (by first | (simp; done) | (simp; omega) | omega | (refine leOf0 ?_; (repeat (first | (with_reducible exact Mr.refl _) | (with_reducible apply Mr.drew) | (with_reducible apply Mr.alloc) | (with_reducible apply Mr.ext) | (with_reducible refine Mr.setCell ?_ (by first | (simp; done) | (simp; omega) | omega) _))); done) | (refine leOf ?_; (repeat (first | (with_reducible exact Mr.refl _) | (with_reducible apply Mr.drew) | (with_reducible apply Mr.alloc) | (with_reducible apply Mr.ext) | (with_reducible refine Mr.setCell ?_ (by first | (simp; done) | (simp; omega) | omega) _))); done)) _)))⟩
                case measure => simp [intOf]; omega
              · have hk := hone.out k he
                obtain rfl : k = j := hk
                (obtain ⟨B1, o1, rfl, hB1, hc1⟩ := (hA.ext y).num k (by omega); obtain ⟨B2, o2, rfl, hB2, hc2⟩ := hL.num k (by omega))
                generalize gt l k = v at *
                generalize gt M k = u at *
                have he' : (u == v) = false := by simpa using he
                have he2 : (u != v) = true := by simpa using he
                clear hone hA hL he A2 hA1
                go_wp2
                refine wp_region_ext (by kernel_rfl) (by kernel_rfl) ?_; (repeat (go_big_quiet_step (fail))); refine wpQuiet_nil ?_; rintro w9 ⟨x9, rfl⟩; go_wp2
                go_roundw
                case rel => exact ⟨k + 1, by omega, by first | rfl | simp, Mr.mk' (by repeat (first | (with_reducible exact Mr.refl _) | (with_reducible assumption) | (with_reducible apply Mr.drew) | (with_reducible apply Mr.alloc) | (with_reducible apply Mr.ext) | (with_reducible refine Mr.setCell ?_ (by first | (simp; done) | (simp; omega) | omega | (refine leOf0 ?_; (repeat (first | (with_reducible exact Mr.refl _) | (with_reducible apply Mr.drew) | (with_reducible apply Mr.alloc) | (with_reducible apply Mr.ext) | (with_reducible refine Mr.setCell ?_ (by first | (simp; done) | (simp; omega) | omega) _))); done) | (refine leOf ?_; (repeat (first | (with_reducible exact Mr.refl _) | (with_reducible apply Mr.drew) | (with_reducible apply Mr.alloc) | (with_reducible apply Mr.ext) | (with_reducible refine Mr.setCell ?_ (by first | (simp; done) | (simp; omega) | omega) _))); done)) _)))⟩
                case measure => simp [intOf]; omega
            · obtain rfl : k = n0 := by omega
              obtain ⟨B1, o1, rfl, hB1, hc1⟩ := (hA.ext y).num j (by omega)
              obtain ⟨B2, o2, rfl, hB2, hc2⟩ := hL.num j hj
              rw [hA1] at A2 hc1
              clear hone hL hlt 
              generalize hGL : gt l j = gl at *
              skip
              go_wp2_with (first | (go_at_call 15; refine (cdo_c _ (hA.mr (by repeat (first | (with_reducible exact Mr.refl _) | (with_reducible assumption) | (with_reducible apply Mr.drew) | (with_reducible apply Mr.alloc) | (with_reducible apply Mr.ext) | (with_reducible refine Mr.setCell ?_ (by first | (simp; done) | (simp; omega) | omega | (refine leOf0 ?_; (repeat (first | (with_reducible exact Mr.refl _) | (with_reducible apply Mr.drew) | (with_reducible apply Mr.alloc) | (with_reducible apply Mr.ext) | (with_reducible refine Mr.setCell ?_ (by first | (simp; done) | (simp; omega) | omega) _))); done) | (refine leOf ?_; (repeat (first | (with_reducible exact Mr.refl _) | (with_reducible apply Mr.drew) | (with_reducible apply Mr.alloc) | (with_reducible apply Mr.ext) | (with_reducible refine Mr.setCell ?_ (by first | (simp; done) | (simp; omega) | omega) _))); done)) _)))) eA hok2).mono ?_; rw [eCA, A2]; rintro e w' ⟨b2, c2, rfl, x2, rfl, -⟩))
              refine wp_region_ext (by kernel_rfl) (by kernel_rfl) ?_; (repeat (go_big_quiet_step (fail))); refine wpQuiet_nil ?_; rintro w9 ⟨x9, rfl⟩; go_wp2
              go_ret; exact ⟨rfl, Mr.grown (by repeat (first | (with_reducible exact Mr.refl _) | (with_reducible assumption) | (with_reducible apply Mr.drew) | (with_reducible apply Mr.alloc) | (with_reducible apply Mr.ext) | (with_reducible refine Mr.setCell ?_ (by first | (simp; done) | (simp; omega) | omega | (refine leOf0 ?_; (repeat (first | (with_reducible exact Mr.refl _) | (with_reducible apply Mr.drew) | (with_reducible apply Mr.alloc) | (with_reducible apply Mr.ext) | (with_reducible refine Mr.setCell ?_ (by first | (simp; done) | (simp; omega) | omega) _))); done) | (refine leOf ?_; (repeat (first | (with_reducible exact Mr.refl _) | (with_reducible apply Mr.drew) | (with_reducible apply Mr.alloc) | (with_reducible apply Mr.ext) | (with_reducible refine Mr.setCell ?_ (by first | (simp; done) | (simp; omega) | omega) _))); done)) _)))⟩
        · by_cases k3 : xk1 = 3
          · subst k3
            obtain ⟨e3, f3⟩ := A3 rfl
            clear A0 A1 A3 hnz k0 k1
            go_enter Try.func4, Try.ntmps4
            go_wp2_with (first | (go_at_call 9; refine (awake11_c _).mono ?_; rintro e w' ⟨rfl, x, rfl⟩) | (go_at_call 15; (have := t1; clear this t1); refine (cdo_c _ (hL.mr (by repeat (first | (with_reducible exact Mr.refl _) | (with_reducible assumption) | (with_reducible apply Mr.drew) | (with_reducible apply Mr.alloc) | (with_reducible apply Mr.ext) | (with_reducible refine Mr.setCell ?_ (by first | (simp; done) | (simp; omega) | omega | (refine leOf0 ?_; (repeat (first | (with_reducible exact Mr.refl _) | (with_reducible apply Mr.drew) | (with_reducible apply Mr.alloc) | (with_reducible apply Mr.ext) | (with_reducible refine Mr.setCell ?_ (by first | (simp; done) | (simp; omega) | omega) _))); done) | (refine leOf ?_; (repeat (first | (with_reducible exact Mr.refl _) | (with_reducible apply Mr.drew) | (with_reducible apply Mr.alloc) | (with_reducible apply Mr.ext) | (with_reducible refine Mr.setCell ?_ (by first | (simp; done) | (simp; omega) | omega) _))); done)) _)))) eL w1).mono ?_; rw [eC, eT, eMM]; rintro e w' ⟨b1, c1, rfl, x1, rfl, hA⟩))
            go_loopw [8] (fun i wr => ∃ k : Nat, k ≤ n0 ∧ i = .int .i64 k ∧ ∃ y : Ext x1.u, wr = y.u) (fun i _ => n0 - (intOf i).toNat)
            case atStart => exact ⟨0, by omega, rfl, Mr.mk' (Mr.refl _)⟩
            case round =>
              (obtain ⟨k, hk, rfl, y, rfl⟩ := hrel)
              by_cases hlt : k < n0
              · have hlt' : (k : Int) < n0 := by omega
                by_cases he : gt M k = gt l k
                · (obtain ⟨B1, o1, rfl, hB1, hc1⟩ := (hA.ext y).num k (by omega); obtain ⟨B2, o2, rfl, hB2, hc2⟩ := hL.num k (by omega))
                  rw [he] at hc1
                  clear hone hA hL he A2 e3 f3
                  generalize gt l k = v at *
                  go_wp2
                  refine wp_region_ext (by kernel_rfl) (by kernel_rfl) ?_; (repeat (go_big_quiet_step (fail))); refine wpQuiet_nil ?_; rintro w9 ⟨x9, rfl⟩; go_wp2
                  go_roundw
                  case rel => exact ⟨k + 1, by omega, by first | rfl | simp, Mr.mk' (by repeat (first | (with_reducible exact Mr.refl _) | (with_reducible assumption) | (with_reducible apply Mr.drew) | (with_reducible apply Mr.alloc) | (with_reducible apply Mr.ext) | (with_reducible refine Mr.setCell ?_ (by first | (simp; done) | (simp; omega) | omega | (refine leOf0 ?_; (repeat (first | (with_reducible exact Mr.refl _) | (with_reducible apply Mr.drew) | (with_reducible apply Mr.alloc) | (with_reducible apply Mr.ext) | (with_reducible refine Mr.setCell ?_ (by first | (simp; done) | (simp; omega) | omega) _))); done) | (refine leOf ?_; (repeat (first | (with_reducible exact Mr.refl _) | (with_reducible apply Mr.drew) | (with_reducible apply Mr.alloc) | (with_reducible apply Mr.ext) | (with_reducible refine Mr.setCell ?_ (by first | (simp; done) | (simp; omega) | omega) _))); done)) _)))⟩
                  case measure => simp [intOf]; omega
                · have hk := hone.out k he
                  obtain rfl : k = j := hk
                  (obtain ⟨B1, o1, rfl, hB1, hc1⟩ := (hA.ext y).num k (by omega); obtain ⟨B2, o2, rfl, hB2, hc2⟩ := hL.num k (by omega))
                  generalize gt l k = v at *
                  generalize gt M k = u at *
                  have he' : (u == v) = false := by simpa using he
                  have he2 : (u != v) = true := by simpa using he
                  clear hone hA hL he A2 e3 f3
                  go_wp2
                  refine wp_region_ext (by kernel_rfl) (by kernel_rfl) ?_; (repeat (go_big_quiet_step (fail))); refine wpQuiet_nil ?_; rintro w9 ⟨x9, rfl⟩; go_wp2
                  go_roundw
                  case rel => exact ⟨k + 1, by omega, by first | rfl | simp, Mr.mk' (by repeat (first | (with_reducible exact Mr.refl _) | (with_reducible assumption) | (with_reducible apply Mr.drew) | (with_reducible apply Mr.alloc) | (with_reducible apply Mr.ext) | (with_reducible refine Mr.setCell ?_ (by first | (simp; done) | (simp; omega) | omega | (refine leOf0 ?_; (repeat (first | (with_reducible exact Mr.refl _) | (with_reducible apply Mr.drew) | (with_reducible apply Mr.alloc) | (with_reducible apply Mr.ext) | (with_reducible refine Mr.setCell ?_ (by first | (simp; done) | (simp; omega) | omega) _))); done) | (refine leOf ?_; (repeat (first | (with_reducible exact Mr.refl _) | (with_reducible apply Mr.drew) | (with_reducible apply Mr.alloc) | (with_reducible apply Mr.ext) | (with_reducible refine Mr.setCell ?_ (by first | (simp; done) | (simp; omega) | omega) _))); done)) _)))⟩
                  case measure => simp [intOf]; omega
              · obtain rfl : k = n0 := by omega
                obtain ⟨B1, o1, rfl, hB1, hc1⟩ := (hA.ext y).num j (by omega)
                obtain ⟨B2, o2, rfl, hB2, hc2⟩ := hL.num j hj
                skip
                clear hone hL hlt 
                generalize hGL : gt l j = gl at *
                generalize hGM : gt M j = gm at *
                go_wp2_with (first | (go_at_call 15; refine (cdo_c _ (hA.mr (by repeat (first | (with_reducible exact Mr.refl _) | (with_reducible assumption) | (with_reducible apply Mr.drew) | (with_reducible apply Mr.alloc) | (with_reducible apply Mr.ext) | (with_reducible refine Mr.setCell ?_ (by first | (simp; done) | (simp; omega) | omega | (refine leOf0 ?_; (repeat (first | (with_reducible exact Mr.refl _) | (with_reducible apply Mr.drew) | (with_reducible apply Mr.alloc) | (with_reducible apply Mr.ext) | (with_reducible refine Mr.setCell ?_ (by first | (simp; done) | (simp; omega) | omega) _))); done) | (refine leOf ?_; (repeat (first | (with_reducible exact Mr.refl _) | (with_reducible apply Mr.drew) | (with_reducible apply Mr.alloc) | (with_reducible apply Mr.ext) | (with_reducible refine Mr.setCell ?_ (by first | (simp; done) | (simp; omega) | omega) _))); done)) _)))) eA hok2).mono ?_; rw [eCA, A2]; rintro e w' ⟨b2, c2, rfl, x2, rfl, -⟩))
                refine wp_region_ext (by kernel_rfl) (by kernel_rfl) ?_; (repeat (go_big_quiet_step (fail))); refine wpQuiet_nil ?_; rintro w9 ⟨x9, rfl⟩; go_wp2
                go_ret; exact ⟨rfl, Mr.grown (by repeat (first | (with_reducible exact Mr.refl _) | (with_reducible assumption) | (with_reducible apply Mr.drew) | (with_reducible apply Mr.alloc) | (with_reducible apply Mr.ext) | (with_reducible refine Mr.setCell ?_ (by first | (simp; done) | (simp; omega) | omega | (refine leOf0 ?_; (repeat (first | (with_reducible exact Mr.refl _) | (with_reducible apply Mr.drew) | (with_reducible apply Mr.alloc) | (with_reducible apply Mr.ext) | (with_reducible refine Mr.setCell ?_ (by first | (simp; done) | (simp; omega) | omega) _))); done) | (refine leOf ?_; (repeat (first | (with_reducible exact Mr.refl _) | (with_reducible apply Mr.drew) | (with_reducible apply Mr.alloc) | (with_reducible apply Mr.ext) | (with_reducible refine Mr.setCell ?_ (by first | (simp; done) | (simp; omega) | omega) _))); done)) _)))⟩
          · have e0 : (xk1 == 0) = false := by simpa using k0
            have e1 : (xk1 == 1) = false := by simpa using k1
            have e3 : (xk1 == 3) = false := by simpa using k3
            have f0 : (xk1 != 0) = true := by simpa using k0
            have f1 : (xk1 != 1) = true := by simpa using k1
            have f3 : (xk1 != 3) = true := by simpa using k3
            clear A0 A1 A3 hnz k0 k1 k3
            go_enter Try.func4, Try.ntmps4
            go_wp2_with (first | (go_at_call 9; refine (awake11_c _).mono ?_; rintro e w' ⟨rfl, x, rfl⟩) | (go_at_call 15; (have := t1; clear this t1); refine (cdo_c _ (hL.mr (by repeat (first | (with_reducible exact Mr.refl _) | (with_reducible assumption) | (with_reducible apply Mr.drew) | (with_reducible apply Mr.alloc) | (with_reducible apply Mr.ext) | (with_reducible refine Mr.setCell ?_ (by first | (simp; done) | (simp; omega) | omega | (refine leOf0 ?_; (repeat (first | (with_reducible exact Mr.refl _) | (with_reducible apply Mr.drew) | (with_reducible apply Mr.alloc) | (with_reducible apply Mr.ext) | (with_reducible refine Mr.setCell ?_ (by first | (simp; done) | (simp; omega) | omega) _))); done) | (refine leOf ?_; (repeat (first | (with_reducible exact Mr.refl _) | (with_reducible apply Mr.drew) | (with_reducible apply Mr.alloc) | (with_reducible apply Mr.ext) | (with_reducible refine Mr.setCell ?_ (by first | (simp; done) | (simp; omega) | omega) _))); done)) _)))) eL w1).mono ?_; rw [eC, eT, eMM]; rintro e w' ⟨b1, c1, rfl, x1, rfl, hA⟩))
            go_loopw [8] (fun i wr => ∃ k : Nat, k ≤ n0 ∧ i = .int .i64 k ∧ ∃ y : Ext x1.u, wr = y.u) (fun i _ => n0 - (intOf i).toNat)
            case atStart => exact ⟨0, by omega, rfl, Mr.mk' (Mr.refl _)⟩
            case round =>
              (obtain ⟨k, hk, rfl, y, rfl⟩ := hrel)
              by_cases hlt : k < n0
              · have hlt' : (k : Int) < n0 := by omega
                by_cases he : gt M k = gt l k
                · (obtain ⟨B1, o1, rfl, hB1, hc1⟩ := (hA.ext y).num k (by omega); obtain ⟨B2, o2, rfl, hB2, hc2⟩ := hL.num k (by omega))
                  rw [he] at hc1
                  clear hone hA hL he A2
                  generalize gt l k = v at *
                  go_wp2
                  refine wp_region_ext (by kernel_rfl) (by kernel_rfl) ?_; (repeat (go_big_quiet_step (fail))); refine wpQuiet_nil ?_; rintro w9 ⟨x9, rfl⟩; go_wp2
                  go_roundw
                  case rel => exact ⟨k + 1, by omega, by first | rfl | simp, Mr.mk' (by repeat (first | (with_reducible exact Mr.refl _) | (with_reducible assumption) | (with_reducible apply Mr.drew) | (with_reducible apply Mr.alloc) | (with_reducible apply Mr.ext) | (with_reducible refine Mr.setCell ?_ (by first | (simp; done) | (simp; omega) | omega | (refine leOf0 ?_; (repeat (first | (with_reducible exact Mr.refl _) | (with_reducible apply Mr.drew) | (with_reducible apply Mr.alloc) | (with_reducible apply Mr.ext) | (with_reducible refine Mr.setCell ?_ (by first | (simp; done) | (simp; omega) | omega) _))); done) | (refine leOf ?_; (repeat (first | (with_reducible exact Mr.refl _) | (with_reducible apply Mr.drew) | (with_reducible apply Mr.alloc) | (with_reducible apply Mr.ext) | (with_reducible refine Mr.setCell ?_ (by first | (simp; done) | (simp; omega) | omega) _))); done)) _)))⟩
                  case measure => simp [intOf]; omega
                · have hk := hone.out k he
                  obtain rfl : k = j := hk
                  (obtain ⟨B1, o1, rfl, hB1, hc1⟩ := (hA.ext y).num k (by omega); obtain ⟨B2, o2, rfl, hB2, hc2⟩ := hL.num k (by omega))
                  generalize gt l k = v at *
                  generalize gt M k = u at *
                  have he' : (u == v) = false := by simpa using he
                  have he2 : (u != v) = true := by simpa using he
                  clear hone hA hL he A2
                  go_wp2
                  refine wp_region_ext (by kernel_rfl) (by kernel_rfl) ?_; (repeat (go_big_quiet_step (fail))); refine wpQuiet_nil ?_; rintro w9 ⟨x9, rfl⟩; go_wp2
                  go_roundw
                  case rel => exact ⟨k + 1, by omega, by first | rfl | simp, Mr.mk' (by repeat (first | (with_reducible exact Mr.refl _) | (with_reducible assumption) | (with_reducible apply Mr.drew) | (with_reducible apply Mr.alloc) | (with_reducible apply Mr.ext) | (with_reducible refine Mr.setCell ?_ (by first | (simp; done) | (simp; omega) | omega | (refine leOf0 ?_; (repeat (first | (with_reducible exact Mr.refl _) | (with_reducible apply Mr.drew) | (with_reducible apply Mr.alloc) | (with_reducible apply Mr.ext) | (with_reducible refine Mr.setCell ?_ (by first | (simp; done) | (simp; omega) | omega) _))); done) | (refine leOf ?_; (repeat (first | (with_reducible exact Mr.refl _) | (with_reducible apply Mr.drew) | (with_reducible apply Mr.alloc) | (with_reducible apply Mr.ext) | (with_reducible refine Mr.setCell ?_ (by first | (simp; done) | (simp; omega) | omega) _))); done)) _)))⟩
                  case measure => simp [intOf]; omega
              · obtain rfl : k = n0 := by omega
                obtain ⟨B1, o1, rfl, hB1, hc1⟩ := (hA.ext y).num j (by omega)
                obtain ⟨B2, o2, rfl, hB2, hc2⟩ := hL.num j hj
                skip
                clear hone hL hlt 
                generalize hGL : gt l j = gl at *
                generalize hGM : gt M j = gm at *
                go_wp2_with (first | (go_at_call 15; refine (cdo_c _ (hA.mr (by repeat (first | (with_reducible exact Mr.refl _) | (with_reducible assumption) | (with_reducible apply Mr.drew) | (with_reducible apply Mr.alloc) | (with_reducible apply Mr.ext) | (with_reducible refine Mr.setCell ?_ (by first | (simp; done) | (simp; omega) | omega | (refine leOf0 ?_; (repeat (first | (with_reducible exact Mr.refl _) | (with_reducible apply Mr.drew) | (with_reducible apply Mr.alloc) | (with_reducible apply Mr.ext) | (with_reducible refine Mr.setCell ?_ (by first | (simp; done) | (simp; omega) | omega) _))); done) | (refine leOf ?_; (repeat (first | (with_reducible exact Mr.refl _) | (with_reducible apply Mr.drew) | (with_reducible apply Mr.alloc) | (with_reducible apply Mr.ext) | (with_reducible refine Mr.setCell ?_ (by first | (simp; done) | (simp; omega) | omega) _))); done)) _)))) eA hok2).mono ?_; rw [eCA, A2]; rintro e w' ⟨b2, c2, rfl, x2, rfl, -⟩))
                refine wp_region_ext (by kernel_rfl) (by kernel_rfl) ?_; (repeat (go_big_quiet_step (fail))); refine wpQuiet_nil ?_; rintro w9 ⟨x9, rfl⟩; go_wp2
                go_ret; exact ⟨rfl, Mr.grown (by repeat (first | (with_reducible exact Mr.refl _) | (with_reducible assumption) | (with_reducible apply Mr.drew) | (with_reducible apply Mr.alloc) | (with_reducible apply Mr.ext) | (with_reducible refine Mr.setCell ?_ (by first | (simp; done) | (simp; omega) | omega | (refine leOf0 ?_; (repeat (first | (with_reducible exact Mr.refl _) | (with_reducible apply Mr.drew) | (with_reducible apply Mr.alloc) | (with_reducible apply Mr.ext) | (with_reducible refine Mr.setCell ?_ (by first | (simp; done) | (simp; omega) | omega) _))); done) | (refine leOf ?_; (repeat (first | (with_reducible exact Mr.refl _) | (with_reducible apply Mr.drew) | (with_reducible apply Mr.alloc) | (with_reducible apply Mr.ext) | (with_reducible refine Mr.setCell ?_ (by first | (simp; done) | (simp; omega) | omega) _))); done)) _)))⟩
    · have hT : T = 0 := by rw [← eT]; exact one_out h6 (by rw [eL]; exact hin)
      subst hT
      have hall : ∀ k, k < n0 → gt (doM l ⟨xk1, xi1, xa1, xb1⟩) k = gt l k := fun k hk => by
        rcases hone k with h | h
        · exact h
        · exact absurd ⟨by have := h.1; simp only at this; omega, by have := h.1; simp only at this; omega⟩ hin
      have hall : Hid _ := hall
      generalize eMM : doM l ⟨xk1, xi1, xa1, xb1⟩ = M at *
      clear hone hb
      have hout : xi1 < 0 ∨ (¬ xi1 < 0 ∧ (n0 : Int) ≤ xi1) := by omega
      clear hin
      rcases hout with h1 | ⟨h1, h2⟩
      all_goals
        go_enter Try.func4, Try.ntmps4
        go_wp2_with (first | (go_at_call 9; refine (awake11_c _).mono ?_; rintro e w' ⟨rfl, x, rfl⟩) | (go_at_call 15; (have := t1; clear this t1); refine (cdo_c _ (hL.mr (by repeat (first | (with_reducible exact Mr.refl _) | (with_reducible assumption) | (with_reducible apply Mr.drew) | (with_reducible apply Mr.alloc) | (with_reducible apply Mr.ext) | (with_reducible refine Mr.setCell ?_ (by first | (simp; done) | (simp; omega) | omega | (refine leOf0 ?_; (repeat (first | (with_reducible exact Mr.refl _) | (with_reducible apply Mr.drew) | (with_reducible apply Mr.alloc) | (with_reducible apply Mr.ext) | (with_reducible refine Mr.setCell ?_ (by first | (simp; done) | (simp; omega) | omega) _))); done) | (refine leOf ?_; (repeat (first | (with_reducible exact Mr.refl _) | (with_reducible apply Mr.drew) | (with_reducible apply Mr.alloc) | (with_reducible apply Mr.ext) | (with_reducible refine Mr.setCell ?_ (by first | (simp; done) | (simp; omega) | omega) _))); done)) _)))) eL w1).mono ?_; rw [eC, eT, eMM]; rintro e w' ⟨b1, c1, rfl, x1, rfl, hA⟩))
        go_loopw [8] (fun i wr => ∃ k : Nat, k ≤ n0 ∧ i = .int .i64 k ∧ ∃ y : Ext x1.u, wr = y.u) (fun i _ => n0 - (intOf i).toNat)
        case atStart => exact ⟨0, by omega, rfl, Mr.mk' (Mr.refl _)⟩
        case round =>
          (obtain ⟨k, hk, rfl, y, rfl⟩ := hrel)
          by_cases hlt : k < n0
          · have hlt' : (k : Int) < n0 := by omega
            (obtain ⟨B1, o1, rfl, hB1, hc1⟩ := (hA.ext y).num k (by omega); obtain ⟨B2, o2, rfl, hB2, hc2⟩ := hL.num k (by omega))
            rw [hall.out k hlt] at hc1
            clear hall hA hL
            generalize gt l k = v at *
            go_wp2
            refine wp_region_ext (by kernel_rfl) (by kernel_rfl) ?_; (repeat (go_big_quiet_step (fail))); refine wpQuiet_nil ?_; rintro w9 ⟨x9, rfl⟩; go_wp2
            go_roundw
            case rel => exact ⟨k + 1, by omega, by first | rfl | simp, Mr.mk' (by repeat (first | (with_reducible exact Mr.refl _) | (with_reducible assumption) | (with_reducible apply Mr.drew) | (with_reducible apply Mr.alloc) | (with_reducible apply Mr.ext) | (with_reducible refine Mr.setCell ?_ (by first | (simp; done) | (simp; omega) | omega | (refine leOf0 ?_; (repeat (first | (with_reducible exact Mr.refl _) | (with_reducible apply Mr.drew) | (with_reducible apply Mr.alloc) | (with_reducible apply Mr.ext) | (with_reducible refine Mr.setCell ?_ (by first | (simp; done) | (simp; omega) | omega) _))); done) | (refine leOf ?_; (repeat (first | (with_reducible exact Mr.refl _) | (with_reducible apply Mr.drew) | (with_reducible apply Mr.alloc) | (with_reducible apply Mr.ext) | (with_reducible refine Mr.setCell ?_ (by first | (simp; done) | (simp; omega) | omega) _))); done)) _)))⟩
            case measure => simp [intOf]; omega
          · obtain rfl : k = n0 := by omega
            clear hall hA hL
            go_wp2
            go_ret; exact ⟨rfl, Mr.grown (by repeat (first | (with_reducible exact Mr.refl _) | (with_reducible assumption) | (with_reducible apply Mr.drew) | (with_reducible apply Mr.alloc) | (with_reducible apply Mr.ext) | (with_reducible refine Mr.setCell ?_ (by first | (simp; done) | (simp; omega) | omega | (refine leOf0 ?_; (repeat (first | (with_reducible exact Mr.refl _) | (with_reducible apply Mr.drew) | (with_reducible apply Mr.alloc) | (with_reducible apply Mr.ext) | (with_reducible refine Mr.setCell ?_ (by first | (simp; done) | (simp; omega) | omega) _))); done) | (refine leOf ?_; (repeat (first | (with_reducible exact Mr.refl _) | (with_reducible apply Mr.drew) | (with_reducible apply Mr.alloc) | (with_reducible apply Mr.ext) | (with_reducible refine Mr.setCell ?_ (by first | (simp; done) | (simp; omega) | omega) _))); done)) _)))⟩

set_option maxRecDepth 100000 in
theorem lifted (os : Os) (started : os.Started) (H : Type) (enc : TypeId × Value → H) :
    ReturnsInHanded {} Try.checked os 4 .any (Rows.cellOneSpec.pre6 enc Try.prog Try.f4 Rows.cellOneRow.domain false) (Rows.cellOneSpec.post enc Try.prog Try.f4 false true false false) := by
  refine returnsInHanded_of_change (C := Try.checked) own started (by kernel_rfl) Try.func4
    (ChangeSpec.witness6 (enc := enc) (C := Try.checked) false ⟨#[], #[.slice none 0 0, .agg #[.int .i64 0, .int .i64 0, .int .u64 0, .int .u64 0]], []⟩ 8 (by kernel_rfl) (by kernel_rfl) (by kernel_rfl) (by kernel_rfl)) ?_
  intro W base args ds gs before hval0 hW hcnd _
  have hval : ∀ (j : Nat) t v, Try.f4.params[j]? = some t → args[j]? = some v → Value.okWide Try.prog W .any base t v := hval0
  have hW' := hW
  obtain ⟨p, q, hA0, hV, rfl, hfz, hnd⟩ := hW
  have hA : DataW.TrodAll enc Try.prog W 0 (fun _ => true) true Try.f4.params.toList args.toList ds p := hA0
  rw [Try.params4] at hA hval
  obtain ⟨v0, vs0, d0, ds0, p_0, q_0, hargs, rfl, rfl, h0, r0⟩ := trodAll_cons hA
  obtain ⟨v1, vs1, d1, ds1, p_1, q_1, rfl, rfl, rfl, h1, r1⟩ := trodAll_cons r0
  obtain ⟨rfl, rfl, rfl⟩ := trodAll_nil r1
  obtain rfl : args = #[v0, v1] := by cases args; simp_all
  obtain ⟨rfl, rfl⟩ := trodVars_none hV
  obtain ⟨s0, n0, c0, rfl⟩ := okWide_slice Try.underlying22 (hval 0 22 v0 rfl rfl)
  have k0 := h0
  have lt0 : ∀ x ∈ p_0, x.block < W.heap.size := by obtain ⟨m, hm⟩ := k0; exact DataW.trod_lt m _ _ _ hm
  obtain ⟨z0, w0⟩ : ∃ zs, Wl.IsRow .u64 W s0 n0 c0 zs := by
    obtain ⟨fuel, hf⟩ := h0
    rcases open_ints Try.underlying22 Try.underlying30 (by kernel_rfl) hf with ⟨hcs, _⟩ | ⟨x, l, c, zs, hcs, _, hl, hm, hz, _, hcell, hwz⟩
    · simp [Value.cells] at hcs
      obtain ⟨rfl, rfl, rfl⟩ := hcs
      exact ⟨[], .inl ⟨rfl, rfl, rfl, rfl⟩⟩
    · simp [Value.cells] at hcs
      obtain ⟨rfl, rfl, rfl⟩ := hcs
      exact ⟨zs, .inr ⟨_, rfl, hl, hm, by simpa using hz, hcell, hwz⟩⟩
  have k1 := h1
  have lt1 : ∀ x ∈ p_1, x.block < W.heap.size := by obtain ⟨m, hm⟩ := k1; exact DataW.trod_lt m _ _ _ hm
  obtain ⟨xk1, xi1, xa1, xb1, rfl, w1⟩ := Ce.open_acc (hval 1 32 v1 rfl rfl) h1
  clear hA0 hval0
  refine (walk s0 n0 c0 z0 xk1 xi1 xa1 xb1 W w0 w1).mono fun e W' ⟨he, bel⟩ => ?_
  subst he
  exact ⟨_, rfl, _, _, _, [], _, [], hW', trodAll_mk1 (shut_bool Try.underlying4 _), (trodAll_cons_mk (Below.trod laidOut (by kernel_rfl) (of_decide_eq_true (by kernel_rfl)) k0 bel lt0) (trodAll_cons_mk (Below.trod laidOut (by kernel_rfl) (of_decide_eq_true (by kernel_rfl)) k1 bel lt1) trodAll_mk0)), rfl, bel.frame _, fun h => by cases h⟩

theorem over : Rows.cellOneRow.holds Try.pinned (OpenSpec.ofChange Rows.cellOneSpec) :=
  OpenClaim.holds_of_wide 4 Try.f4 rfl rfl rfl rfl rfl rfl rfl ⟨rfl, rfl, rfl, rfl, rfl⟩ rfl rfl rfl rfl rfl (by kernel_rfl) Try.func4 (by kernel_rfl)
    (of_decide_eq_true (by kernel_rfl)) (by unfold Func.isWrapper; first | (rw [if_pos (by decide +kernel)]; kernel_rfl) | (rw [if_neg (by decide +kernel)]; exact ⟨rfl, rfl⟩))
    (fun os started H enc _ => lifted os started H enc)

theorem proved : Rows.CellOneSaid :=
  over
#print axioms proved
end Go.Proofs.Ytbofemhkpkhnjaa.cellOne
