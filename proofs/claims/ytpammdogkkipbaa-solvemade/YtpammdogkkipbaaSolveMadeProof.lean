/- For every list of lists of ints the law SolveMade answers true: of a matrix whose lower half is up to 2^8, made of something whose list is 2^-8 at least, the product of what it is made of, the list and that turned is within 2^-10 of the lower half. No condition. -/
import Derived.Test.YtpammdogkkipbaaRows
import Derived.WalkKit
import Derived.ProofKit
import Derived.OpenShut
import Derived.ShutString
import Derived.ChangeOld
import Derived.Below
import Derived.Test.YtpammdogkkipbaaMatR
import Derived.Test.YtpammdogkkipbaaSolveC2
import Derived.Test.YtpammdogkkipbaaMatC3
import Derived.Test.YtpammdogkkipbaaRefC20
namespace Go.Proofs.Ytpammdogkkipbaa.solveMade
open Go.ChangeShapes Go.WideShapes Go.ChangeAt Go.RowKit
set_option linter.unusedVariables false
theorem own : ownKnob Try.prog.godebug = none := by kernel_rfl
theorem laidOut : laidOutB Try.prog = true := by kernel_rfl

open Go.Proofs.Ytpammdogkkipbaa.Fx Go.Proofs.Ytpammdogkkipbaa.Sl Go.Proofs.Ytpammdogkkipbaa.Sm Go.Proofs.Ytpammdogkkipbaa.Ma Go.Proofs.Ytpammdogkkipbaa.Sv Go.Proofs.Ytpammdogkkipbaa.Sc
attribute [local go_sem] Ext.cell Ext.froz Ext.lt Ext.lt1 Ext.lt2 Ext.lt3 Ext.all Ext.set_u drew_heap setCell_size Ext.set_size
/-- The row of the list at place i. -/
def dR (D : Nat → Int) (n i : Nat) : List Int := Ma.mk (fun j => if j = i then D i else 0) n
theorem dR_dg (D : Nat → Int) (n : Nat) : mkR (dR D n) n = dg n D := rfl
set_option maxHeartbeats 4000000 in
set_option maxRecDepth 100000 in
theorem walk (s0 : Option Addr) (n0 c0 : Nat) (w : World) (w0 : IsRows w s0 n0 c0) :
    Calls Try.prog 6 #[.slice s0 n0 c0] w fun e w' => e = .returned (.bool true) ∧ Below w.heap.size w w' := by
  obtain ⟨L, eL, hL⟩ := of_rows w0
  clear w0
  obtain ⟨bO, hO⟩ : ∃ b, facO L = b := ⟨_, rfl⟩
  obtain ⟨n1', e1⟩ : ∃ n, (facL L).length = n := ⟨_, rfl⟩
  obtain ⟨n2', e2⟩ : ∃ n, (facD L).length = n := ⟨_, rfl⟩
  have hm := hL.max
  have hl := hL.le
  unfold maxLen at hm
  have h9 : n0 ≤ 9223372036854775807 := by omega
  clear hm hl
  obtain ⟨i1, hj, hy0, hy1, hy2⟩ := info_parts infoS
  cases fL : few L
  · go_enter Try.func6, Try.ntmps6; go_wp2_with (first | (go_at_call 8; refine (awake10_c _).mono ?_; rintro e w' ⟨rfl, x, rfl⟩) | (go_at_call 9; refine (rfew_c _ (hL.mr (by repeat (first | (with_reducible exact Mr.refl _) | (with_reducible assumption) | (with_reducible apply Mr.drew) | (with_reducible apply Mr.alloc) | (with_reducible apply Mr.ext) | (with_reducible refine Mr.setCell ?_ (by first | (simp; done) | (simp; omega) | omega | (refine leOf0 ?_; (repeat (first | (with_reducible exact Mr.refl _) | (with_reducible apply Mr.drew) | (with_reducible apply Mr.alloc) | (with_reducible apply Mr.ext) | (with_reducible refine Mr.setCell ?_ (by first | (simp; done) | (simp; omega) | omega) _))); done) | (refine leOf ?_; (repeat (first | (with_reducible exact Mr.refl _) | (with_reducible apply Mr.drew) | (with_reducible apply Mr.alloc) | (with_reducible apply Mr.ext) | (with_reducible refine Mr.setCell ?_ (by first | (simp; done) | (simp; omega) | omega) _))); done)) _)))) eL).mono ?_; rw [fL]; rintro e w' ⟨rfl, x, rfl⟩) | (go_at_call 16; refine (msane_u (hL.mr (by repeat (first | (with_reducible exact Mr.refl _) | (with_reducible assumption) | (with_reducible apply Mr.drew) | (with_reducible apply Mr.alloc) | (with_reducible apply Mr.ext) | (with_reducible refine Mr.setCell ?_ (by first | (simp; done) | (simp; omega) | omega | (refine leOf0 ?_; (repeat (first | (with_reducible exact Mr.refl _) | (with_reducible apply Mr.drew) | (with_reducible apply Mr.alloc) | (with_reducible apply Mr.ext) | (with_reducible refine Mr.setCell ?_ (by first | (simp; done) | (simp; omega) | omega) _))); done) | (refine leOf ?_; (repeat (first | (with_reducible exact Mr.refl _) | (with_reducible apply Mr.drew) | (with_reducible apply Mr.alloc) | (with_reducible apply Mr.ext) | (with_reducible refine Mr.setCell ?_ (by first | (simp; done) | (simp; omega) | omega) _))); done)) _)))) eL).mono ?_; rw [hq]; rintro e w' ⟨rfl, x, rfl⟩) | (go_at_call 10; refine Calls.mono (sfactor_u (hL.mr (by repeat (first | (with_reducible exact Mr.refl _) | (with_reducible assumption) | (with_reducible apply Mr.drew) | (with_reducible apply Mr.alloc) | (with_reducible apply Mr.ext) | (with_reducible refine Mr.setCell ?_ (by first | (simp; done) | (simp; omega) | omega | (refine leOf0 ?_; (repeat (first | (with_reducible exact Mr.refl _) | (with_reducible apply Mr.drew) | (with_reducible apply Mr.alloc) | (with_reducible apply Mr.ext) | (with_reducible refine Mr.setCell ?_ (by first | (simp; done) | (simp; omega) | omega) _))); done) | (refine leOf ?_; (repeat (first | (with_reducible exact Mr.refl _) | (with_reducible apply Mr.drew) | (with_reducible apply Mr.alloc) | (with_reducible apply Mr.ext) | (with_reducible refine Mr.setCell ?_ (by first | (simp; done) | (simp; omega) | omega) _))); done)) _)))) eL) ?_; rintro e w' ⟨a1, d1, a2, d2, rfl, x, rfl, hF, hD⟩; rw [e1, e2, hO])); go_ret; exact ⟨rfl, Mr.grown (by repeat (first | (with_reducible exact Mr.refl _) | (with_reducible assumption) | (with_reducible apply Mr.drew) | (with_reducible apply Mr.alloc) | (with_reducible apply Mr.ext) | (with_reducible refine Mr.setCell ?_ (by first | (simp; done) | (simp; omega) | omega | (refine leOf0 ?_; (repeat (first | (with_reducible exact Mr.refl _) | (with_reducible apply Mr.drew) | (with_reducible apply Mr.alloc) | (with_reducible apply Mr.ext) | (with_reducible refine Mr.setCell ?_ (by first | (simp; done) | (simp; omega) | omega) _))); done) | (refine leOf ?_; (repeat (first | (with_reducible exact Mr.refl _) | (with_reducible apply Mr.drew) | (with_reducible apply Mr.alloc) | (with_reducible apply Mr.ext) | (with_reducible refine Mr.setCell ?_ (by first | (simp; done) | (simp; omega) | omega) _))); done)) _)))⟩
  · cases hq : Sl.sq L
    · go_enter Try.func6, Try.ntmps6; go_wp2_with (first | (go_at_call 8; refine (awake10_c _).mono ?_; rintro e w' ⟨rfl, x, rfl⟩) | (go_at_call 9; refine (rfew_c _ (hL.mr (by repeat (first | (with_reducible exact Mr.refl _) | (with_reducible assumption) | (with_reducible apply Mr.drew) | (with_reducible apply Mr.alloc) | (with_reducible apply Mr.ext) | (with_reducible refine Mr.setCell ?_ (by first | (simp; done) | (simp; omega) | omega | (refine leOf0 ?_; (repeat (first | (with_reducible exact Mr.refl _) | (with_reducible apply Mr.drew) | (with_reducible apply Mr.alloc) | (with_reducible apply Mr.ext) | (with_reducible refine Mr.setCell ?_ (by first | (simp; done) | (simp; omega) | omega) _))); done) | (refine leOf ?_; (repeat (first | (with_reducible exact Mr.refl _) | (with_reducible apply Mr.drew) | (with_reducible apply Mr.alloc) | (with_reducible apply Mr.ext) | (with_reducible refine Mr.setCell ?_ (by first | (simp; done) | (simp; omega) | omega) _))); done)) _)))) eL).mono ?_; rw [fL]; rintro e w' ⟨rfl, x, rfl⟩) | (go_at_call 16; refine (msane_u (hL.mr (by repeat (first | (with_reducible exact Mr.refl _) | (with_reducible assumption) | (with_reducible apply Mr.drew) | (with_reducible apply Mr.alloc) | (with_reducible apply Mr.ext) | (with_reducible refine Mr.setCell ?_ (by first | (simp; done) | (simp; omega) | omega | (refine leOf0 ?_; (repeat (first | (with_reducible exact Mr.refl _) | (with_reducible apply Mr.drew) | (with_reducible apply Mr.alloc) | (with_reducible apply Mr.ext) | (with_reducible refine Mr.setCell ?_ (by first | (simp; done) | (simp; omega) | omega) _))); done) | (refine leOf ?_; (repeat (first | (with_reducible exact Mr.refl _) | (with_reducible apply Mr.drew) | (with_reducible apply Mr.alloc) | (with_reducible apply Mr.ext) | (with_reducible refine Mr.setCell ?_ (by first | (simp; done) | (simp; omega) | omega) _))); done)) _)))) eL).mono ?_; rw [hq]; rintro e w' ⟨rfl, x, rfl⟩) | (go_at_call 10; refine Calls.mono (sfactor_u (hL.mr (by repeat (first | (with_reducible exact Mr.refl _) | (with_reducible assumption) | (with_reducible apply Mr.drew) | (with_reducible apply Mr.alloc) | (with_reducible apply Mr.ext) | (with_reducible refine Mr.setCell ?_ (by first | (simp; done) | (simp; omega) | omega | (refine leOf0 ?_; (repeat (first | (with_reducible exact Mr.refl _) | (with_reducible apply Mr.drew) | (with_reducible apply Mr.alloc) | (with_reducible apply Mr.ext) | (with_reducible refine Mr.setCell ?_ (by first | (simp; done) | (simp; omega) | omega) _))); done) | (refine leOf ?_; (repeat (first | (with_reducible exact Mr.refl _) | (with_reducible apply Mr.drew) | (with_reducible apply Mr.alloc) | (with_reducible apply Mr.ext) | (with_reducible refine Mr.setCell ?_ (by first | (simp; done) | (simp; omega) | omega) _))); done)) _)))) eL) ?_; rintro e w' ⟨a1, d1, a2, d2, rfl, x, rfl, hF, hD⟩; rw [e1, e2, hO])); go_ret; exact ⟨rfl, Mr.grown (by repeat (first | (with_reducible exact Mr.refl _) | (with_reducible assumption) | (with_reducible apply Mr.drew) | (with_reducible apply Mr.alloc) | (with_reducible apply Mr.ext) | (with_reducible refine Mr.setCell ?_ (by first | (simp; done) | (simp; omega) | omega | (refine leOf0 ?_; (repeat (first | (with_reducible exact Mr.refl _) | (with_reducible apply Mr.drew) | (with_reducible apply Mr.alloc) | (with_reducible apply Mr.ext) | (with_reducible refine Mr.setCell ?_ (by first | (simp; done) | (simp; omega) | omega) _))); done) | (refine leOf ?_; (repeat (first | (with_reducible exact Mr.refl _) | (with_reducible apply Mr.drew) | (with_reducible apply Mr.alloc) | (with_reducible apply Mr.ext) | (with_reducible refine Mr.setCell ?_ (by first | (simp; done) | (simp; omega) | omega) _))); done)) _)))⟩
    · cases bO
      · go_enter Try.func6, Try.ntmps6; go_wp2_with (first | (go_at_call 8; refine (awake10_c _).mono ?_; rintro e w' ⟨rfl, x, rfl⟩) | (go_at_call 9; refine (rfew_c _ (hL.mr (by repeat (first | (with_reducible exact Mr.refl _) | (with_reducible assumption) | (with_reducible apply Mr.drew) | (with_reducible apply Mr.alloc) | (with_reducible apply Mr.ext) | (with_reducible refine Mr.setCell ?_ (by first | (simp; done) | (simp; omega) | omega | (refine leOf0 ?_; (repeat (first | (with_reducible exact Mr.refl _) | (with_reducible apply Mr.drew) | (with_reducible apply Mr.alloc) | (with_reducible apply Mr.ext) | (with_reducible refine Mr.setCell ?_ (by first | (simp; done) | (simp; omega) | omega) _))); done) | (refine leOf ?_; (repeat (first | (with_reducible exact Mr.refl _) | (with_reducible apply Mr.drew) | (with_reducible apply Mr.alloc) | (with_reducible apply Mr.ext) | (with_reducible refine Mr.setCell ?_ (by first | (simp; done) | (simp; omega) | omega) _))); done)) _)))) eL).mono ?_; rw [fL]; rintro e w' ⟨rfl, x, rfl⟩) | (go_at_call 16; refine (msane_u (hL.mr (by repeat (first | (with_reducible exact Mr.refl _) | (with_reducible assumption) | (with_reducible apply Mr.drew) | (with_reducible apply Mr.alloc) | (with_reducible apply Mr.ext) | (with_reducible refine Mr.setCell ?_ (by first | (simp; done) | (simp; omega) | omega | (refine leOf0 ?_; (repeat (first | (with_reducible exact Mr.refl _) | (with_reducible apply Mr.drew) | (with_reducible apply Mr.alloc) | (with_reducible apply Mr.ext) | (with_reducible refine Mr.setCell ?_ (by first | (simp; done) | (simp; omega) | omega) _))); done) | (refine leOf ?_; (repeat (first | (with_reducible exact Mr.refl _) | (with_reducible apply Mr.drew) | (with_reducible apply Mr.alloc) | (with_reducible apply Mr.ext) | (with_reducible refine Mr.setCell ?_ (by first | (simp; done) | (simp; omega) | omega) _))); done)) _)))) eL).mono ?_; rw [hq]; rintro e w' ⟨rfl, x, rfl⟩) | (go_at_call 10; refine Calls.mono (sfactor_u (hL.mr (by repeat (first | (with_reducible exact Mr.refl _) | (with_reducible assumption) | (with_reducible apply Mr.drew) | (with_reducible apply Mr.alloc) | (with_reducible apply Mr.ext) | (with_reducible refine Mr.setCell ?_ (by first | (simp; done) | (simp; omega) | omega | (refine leOf0 ?_; (repeat (first | (with_reducible exact Mr.refl _) | (with_reducible apply Mr.drew) | (with_reducible apply Mr.alloc) | (with_reducible apply Mr.ext) | (with_reducible refine Mr.setCell ?_ (by first | (simp; done) | (simp; omega) | omega) _))); done) | (refine leOf ?_; (repeat (first | (with_reducible exact Mr.refl _) | (with_reducible apply Mr.drew) | (with_reducible apply Mr.alloc) | (with_reducible apply Mr.ext) | (with_reducible refine Mr.setCell ?_ (by first | (simp; done) | (simp; omega) | omega) _))); done)) _)))) eL) ?_; rintro e w' ⟨a1, d1, a2, d2, rfl, x, rfl, hF, hD⟩; rw [e1, e2, hO])); go_ret; exact ⟨rfl, Mr.grown (by repeat (first | (with_reducible exact Mr.refl _) | (with_reducible assumption) | (with_reducible apply Mr.drew) | (with_reducible apply Mr.alloc) | (with_reducible apply Mr.ext) | (with_reducible refine Mr.setCell ?_ (by first | (simp; done) | (simp; omega) | omega | (refine leOf0 ?_; (repeat (first | (with_reducible exact Mr.refl _) | (with_reducible apply Mr.drew) | (with_reducible apply Mr.alloc) | (with_reducible apply Mr.ext) | (with_reducible refine Mr.setCell ?_ (by first | (simp; done) | (simp; omega) | omega) _))); done) | (refine leOf ?_; (repeat (first | (with_reducible exact Mr.refl _) | (with_reducible apply Mr.drew) | (with_reducible apply Mr.alloc) | (with_reducible apply Mr.ext) | (with_reducible refine Mr.setCell ?_ (by first | (simp; done) | (simp; omega) | omega) _))); done)) _)))⟩
      · obtain ⟨⟨h1, h6⟩, hr1⟩ := sq_ok hq eL
        obtain rfl : n1' = n0 := by rw [← e1]; unfold facL; rw [hO, if_pos rfl, mkR_length, eL]
        obtain rfl : n2' = n1' := by rw [← e2]; unfold facD; rw [hO, if_pos rfl, mk_length, eL]
        obtain ⟨n, hn⟩ : ∃ n, n2' = n := ⟨_, rfl⟩
        subst hn
        have t1 : Unit := ()
        go_enter Try.func6, Try.ntmps6; go_wp2_with (first | (go_at_call 8; refine (awake10_c _).mono ?_; rintro e w' ⟨rfl, x, rfl⟩) | (go_at_call 9; refine (rfew_c _ (hL.mr (by repeat (first | (with_reducible exact Mr.refl _) | (with_reducible assumption) | (with_reducible apply Mr.drew) | (with_reducible apply Mr.alloc) | (with_reducible apply Mr.ext) | (with_reducible refine Mr.setCell ?_ (by first | (simp; done) | (simp; omega) | omega | (refine leOf0 ?_; (repeat (first | (with_reducible exact Mr.refl _) | (with_reducible apply Mr.drew) | (with_reducible apply Mr.alloc) | (with_reducible apply Mr.ext) | (with_reducible refine Mr.setCell ?_ (by first | (simp; done) | (simp; omega) | omega) _))); done) | (refine leOf ?_; (repeat (first | (with_reducible exact Mr.refl _) | (with_reducible apply Mr.drew) | (with_reducible apply Mr.alloc) | (with_reducible apply Mr.ext) | (with_reducible refine Mr.setCell ?_ (by first | (simp; done) | (simp; omega) | omega) _))); done)) _)))) eL).mono ?_; rw [fL]; rintro e w' ⟨rfl, x, rfl⟩) | (go_at_call 16; refine (msane_u (hL.mr (by repeat (first | (with_reducible exact Mr.refl _) | (with_reducible assumption) | (with_reducible apply Mr.drew) | (with_reducible apply Mr.alloc) | (with_reducible apply Mr.ext) | (with_reducible refine Mr.setCell ?_ (by first | (simp; done) | (simp; omega) | omega | (refine leOf0 ?_; (repeat (first | (with_reducible exact Mr.refl _) | (with_reducible apply Mr.drew) | (with_reducible apply Mr.alloc) | (with_reducible apply Mr.ext) | (with_reducible refine Mr.setCell ?_ (by first | (simp; done) | (simp; omega) | omega) _))); done) | (refine leOf ?_; (repeat (first | (with_reducible exact Mr.refl _) | (with_reducible apply Mr.drew) | (with_reducible apply Mr.alloc) | (with_reducible apply Mr.ext) | (with_reducible refine Mr.setCell ?_ (by first | (simp; done) | (simp; omega) | omega) _))); done)) _)))) eL).mono ?_; rw [hq]; rintro e w' ⟨rfl, x, rfl⟩) | (go_at_call 10; refine Calls.mono (sfactor_u (hL.mr (by repeat (first | (with_reducible exact Mr.refl _) | (with_reducible assumption) | (with_reducible apply Mr.drew) | (with_reducible apply Mr.alloc) | (with_reducible apply Mr.ext) | (with_reducible refine Mr.setCell ?_ (by first | (simp; done) | (simp; omega) | omega | (refine leOf0 ?_; (repeat (first | (with_reducible exact Mr.refl _) | (with_reducible apply Mr.drew) | (with_reducible apply Mr.alloc) | (with_reducible apply Mr.ext) | (with_reducible refine Mr.setCell ?_ (by first | (simp; done) | (simp; omega) | omega) _))); done) | (refine leOf ?_; (repeat (first | (with_reducible exact Mr.refl _) | (with_reducible apply Mr.drew) | (with_reducible apply Mr.alloc) | (with_reducible apply Mr.ext) | (with_reducible refine Mr.setCell ?_ (by first | (simp; done) | (simp; omega) | omega) _))); done)) _)))) eL) ?_; rintro e w' ⟨a1, d1, a2, d2, rfl, x, rfl, hF, hD⟩; rw [e1, e2, hO]))
        have hF' := hF.mr (w' := x.u) (by repeat (first | (with_reducible exact Mr.refl _) | (with_reducible assumption) | (with_reducible apply Mr.drew) | (with_reducible apply Mr.alloc) | (with_reducible apply Mr.ext) | (with_reducible refine Mr.setCell ?_ (by first | (simp; done) | (simp; omega) | omega | (refine leOf0 ?_; (repeat (first | (with_reducible exact Mr.refl _) | (with_reducible apply Mr.drew) | (with_reducible apply Mr.alloc) | (with_reducible apply Mr.ext) | (with_reducible refine Mr.setCell ?_ (by first | (simp; done) | (simp; omega) | omega) _))); done) | (refine leOf ?_; (repeat (first | (with_reducible exact Mr.refl _) | (with_reducible apply Mr.drew) | (with_reducible apply Mr.alloc) | (with_reducible apply Mr.ext) | (with_reducible refine Mr.setCell ?_ (by first | (simp; done) | (simp; omega) | omega) _))); done)) _)))
        have hD' := hD.mr (w' := x.u) (by repeat (first | (with_reducible exact Mr.refl _) | (with_reducible assumption) | (with_reducible apply Mr.drew) | (with_reducible apply Mr.alloc) | (with_reducible apply Mr.ext) | (with_reducible refine Mr.setCell ?_ (by first | (simp; done) | (simp; omega) | omega | (refine leOf0 ?_; (repeat (first | (with_reducible exact Mr.refl _) | (with_reducible apply Mr.drew) | (with_reducible apply Mr.alloc) | (with_reducible apply Mr.ext) | (with_reducible refine Mr.setCell ?_ (by first | (simp; done) | (simp; omega) | omega) _))); done) | (refine leOf ?_; (repeat (first | (with_reducible exact Mr.refl _) | (with_reducible apply Mr.drew) | (with_reducible apply Mr.alloc) | (with_reducible apply Mr.ext) | (with_reducible refine Mr.setCell ?_ (by first | (simp; done) | (simp; omega) | omega) _))); done)) _)))
        have hmw : Mr w x.u := (by repeat (first | (with_reducible exact Mr.refl _) | (with_reducible assumption) | (with_reducible apply Mr.drew) | (with_reducible apply Mr.alloc) | (with_reducible apply Mr.ext) | (with_reducible refine Mr.setCell ?_ (by first | (simp; done) | (simp; omega) | omega | (refine leOf0 ?_; (repeat (first | (with_reducible exact Mr.refl _) | (with_reducible apply Mr.drew) | (with_reducible apply Mr.alloc) | (with_reducible apply Mr.ext) | (with_reducible refine Mr.setCell ?_ (by first | (simp; done) | (simp; omega) | omega) _))); done) | (refine leOf ?_; (repeat (first | (with_reducible exact Mr.refl _) | (with_reducible apply Mr.drew) | (with_reducible apply Mr.alloc) | (with_reducible apply Mr.ext) | (with_reducible refine Mr.setCell ?_ (by first | (simp; done) | (simp; omega) | omega) _))); done)) _)))
        have hL' := hL.mr hmw
        clear hF hD hL
        have hF := hF'
        have hD := hD'
        have hL := hL'
        clear hF' hD' hL'
        generalize x.u = W0 at *
        obtain ⟨D, hDe⟩ : ∃ D, Df (nm L) = D := ⟨_, rfl⟩
        have hDg : ∀ i, i < n2' → gt (facD L) i = D i := fun i hi => by unfold facD; rw [hO, if_pos rfl, eL, gt_mk, if_pos hi, hDe]
        have hDb : ∀ i, -288230376151711744 ≤ D i ∧ D i ≤ 288230376151711744 := fun i => by rw [← hDe]; exact Df_bd _ _
        replace hDe : Hid (Df (nm L) = D) := hDe
        have hmk2 := run_make_row' (P := Try.prog) 23 3 (.int .i64 0) 8 Try.underlying23 infoI rfl .i64 .i64 n2' (by omega) (by omega)
        go_loopw [7, 8] (fun v i wr => ∃ k : Nat, k ≤ n2' ∧ i = .int .i64 k ∧ Ow W0 wr v k (dR D n2') ∧ (∃ y : Ext W0, wr = y.u) ∧ Hid (∀ r, r < k → 16777216 ≤ D r ∧ ∀ p, p ≤ r → -1099511627776 ≤ gt (rw' L r) p ∧ gt (rw' L r) p ≤ 1099511627776)) (fun _ i _ => (n2' - (intOf i).toNat))
        case atStart => exact ⟨0, by omega, rfl, Ow.nil _ _, Mr.mk' (Mr.refl _), fun r hr => by omega⟩
        case round =>
          obtain ⟨k, hk, rfl, hOw, ⟨y, rfl⟩, HB⟩ := hrel
          by_cases hlt : k < n2'
          · have hlt' : (k : Int) < n2' := by omega
            obtain ⟨bd, od, rfl, hbd, hcd⟩ := hD.num k (by omega)
            rw [hDg k hlt] at hcd
            obtain ⟨g', cap', eg, hG, hGs, hfz, hcl, hset⟩ := owns_set (owns_made y.u n2' (by unfold maxLen; omega)) hlt
            simp only [Value.slice.injEq, Option.some.injEq, Addr.mk.injEq] at eg
            obtain ⟨⟨rfl, -⟩, -, rfl⟩ := eg
            have hs := hset (.int .i64 (D k))
            rw [← List.map_set, mk_set _ _ _ hlt] at hs
            have eW : (y.u.alloc (.cells (madeCells #[.int .i64 0] n2') 3)).setCell ⟨y.u.heap.size, k, none⟩ (.int .i64 (D k)) = (y.u.alloc (.cells ((madeCells #[.int .i64 0] n2').setIfInBounds k (.int .i64 (D k))) 3)) := by simp [go_sem]
            have hRow : Rw (y.u.alloc (.cells ((madeCells #[.int .i64 0] n2').setIfInBounds k (.int .i64 (D k))) 3)) (.slice (some ⟨y.u.heap.size, 0, none⟩) n2' n2') (dR D n2' k) := by rw [← eW]; exact rw_owns hs (mk_bd (fun j _ => by have := hDb k; split <;> omega))
            obtain ⟨vals, hO1, hO2⟩ := hOw
            have hdk := hDb k
            obtain ⟨X, hX⟩ : ∃ X, D k = X := ⟨_, rfl⟩
            rw [hX] at hcd hRow hdk
            have m1 : Mr y.u (y.u.alloc (.cells ((madeCells #[.int .i64 0] n2').setIfInBounds k (.int .i64 X)) 3)) := (Mr.refl _).alloc _
            have hpush : ∀ (v' : Value) (w1 : World), w1.ownsRow W0.heap.size 23 1 v' (k + 1) (vals ++ [.slice (some ⟨y.u.heap.size, 0, none⟩) n2' n2']) → ((y.u.alloc (.cells ((madeCells #[.int .i64 0] n2').setIfInBounds k (.int .i64 X)) 3)).alloc (.cells #[.slice (some ⟨y.u.heap.size, 0, none⟩) n2' n2'] 23)).grownBy w1 u7.ownBlock → Ow W0 w1 v' (k + 1) (dR D n2') := fun v' w1 ho hg =>
              Ow.push ((owns_mr hO1 m1).alloc _) (fun i hi => ((hO2 i hi).mr m1).mr ((Mr.refl _).alloc _)) (hRow.mr ((Mr.refl _).alloc _)) ho hg
            have hmr : ∀ (w1 : World), ((y.u.alloc (.cells ((madeCells #[.int .i64 0] n2').setIfInBounds k (.int .i64 X)) 3)).alloc (.cells #[.slice (some ⟨y.u.heap.size, 0, none⟩) n2' n2'] 23)).grownBy w1 u7.ownBlock → ∃ z' : Ext W0, w1 = z'.u := fun w1 hg => Mr.mk' (((y.h.trans m1).alloc _).grownBy hg (fun j e => (hO1.lt j e).1))
            have hsz := y.h.below.size
            have hmc : (madeCells #[.int .i64 0] n2')[k]? = some (.int .i64 0) := by
              rw [← Array.getElem?_toList, made_list, List.getElem?_replicate, if_pos hlt]
            clear hRow eW hs hset hcl hfz hGs hG
            replace hX : Hid (D k = X) := hX
            go_wp2_with (first | (at_builtin; refine wpList_append_own _ rfl _ _ 22 rfl W0.heap.size 23 i1 (.slice none 0 0) 1 24 Try.underlying22 hj hy0 hy1 hy2 rfl (by decide) _ _ _ rfl ((owns_mr hO1 m1).alloc _) ⟨y.u.heap.size + 1, 0, none⟩ 1 1 [.slice (some ⟨y.u.heap.size, 0, none⟩) n2' n2'] rfl rfl (cell_oneB _ _ _ (by simp)) (one_cellS _ _ _) (by unfold maxLen; omega) (by omega) (by simp; omega) ?_; intro v' w1 hown' hgrow _; have hO' := hpush v' w1 hown' hgrow; obtain ⟨z', rfl⟩ := hmr w1 hgrow; clear hgrow hown'))
            clear hpush hmr hO1 hO2 m1 hmc hmk2
            go_loopw [10] (fun i wr => ∃ q : Nat, q ≤ k + 1 ∧ i = .int .i64 q ∧ wr = z'.u ∧ Hid (0 < q → 16777216 ≤ X) ∧ Hid (∀ p, p < q → -1099511627776 ≤ gt (rw' L k) p ∧ gt (rw' L k) p ≤ 1099511627776)) (fun i _ => (k + 1 - (intOf i).toNat))
            case atStart => exact ⟨0, by omega, rfl, rfl, fun h => by omega, fun p hp => by omega⟩
            case round =>
              obtain ⟨q, hq1, rfl, rfl, H1, H2⟩ := hrel
              by_cases hqk : q ≤ k
              · have hqk' : (q : Int) ≤ k := by omega
                have hqn : (q : Int) < n2' := by omega
                obtain ⟨b1, o1, ra, rc, rfl, hb1, hc1, hI⟩ := hL.row k (by omega)
                rw [hr1 k hlt] at hc1
                obtain ⟨b2, o2, rfl, hb2, hc2⟩ := hI.num q (by rw [hr1 k hlt]; omega)
                have H3 : Hid (-1099511627776 ≤ gt (rw' L k) q → gt (rw' L k) q ≤ 1099511627776 → ∀ p, p < q + 1 → -1099511627776 ≤ gt (rw' L k) p ∧ gt (rw' L k) p ≤ 1099511627776) := fun g1 g2 p hp => by
                  rcases Nat.lt_or_ge p q with g | g
                  · exact H2.out p g
                  · obtain rfl : p = q := (by omega)
                    exact ⟨g1, g2⟩
                generalize gt (rw' L k) q = V at *
                have hz := hmw.trans z'.h
                clear hI hL hF hD HB hO'
                by_cases hx : X < 16777216
                · go_wp2
                  go_ret
                  exact ⟨rfl, hz.grown⟩
                · by_cases v1 : 1099511627776 < V
                  · go_wp2
                    go_ret
                    exact ⟨rfl, hz.grown⟩
                  · by_cases v2 : V < -1099511627776
                    · go_wp2
                      go_ret
                      exact ⟨rfl, hz.grown⟩
                    · go_wp2
                      go_roundw
                      case rel => exact ⟨q + 1, by omega, by go_num, by first | rfl | trivial, fun _ => by omega, H3.out (by omega) (by omega)⟩
                      case measure => simp [intOf]; omega
              · obtain rfl : q = k + 1 := by omega
                have hqk' : ¬ ((k : Int) + 1 ≤ k) := by omega
                have HB' : Hid (∀ r, r < k + 1 → 16777216 ≤ D r ∧ ∀ p, p ≤ r → -1099511627776 ≤ gt (rw' L r) p ∧ gt (rw' L r) p ≤ 1099511627776) := fun r hr => by
                  rcases Nat.lt_or_ge r k with g | g
                  · exact HB.out r g
                  · obtain rfl : r = k := (by omega)
                    exact ⟨by rw [hX.out]; exact H1.out (by omega), fun p hp => H2.out p (by omega)⟩
                clear HB H1 H2 hL hF hD
                go_wp2
                go_roundw
                case rel => exact ⟨k + 1, by omega, by go_num, hO', ⟨z', rfl⟩, HB'⟩
                case measure => simp [intOf]; omega
          · obtain rfl : k = n2' := by omega
            obtain ⟨aM, cM, rfl, hM⟩ := hOw.done
            rw [dR_dg] at hM
            have hMd : Md (nm L) k := by
              have := md_of hO (fun j hj => by rw [hDe.out]; exact (HB.out j (by omega)).1) (fun i j hi hj => (HB.out i (by omega)).2 j hj)
              rwa [eL] at this
            obtain ⟨q1, q2, q3, q4⟩ := made_all eL hO hMd
            rw [hDe.out] at q1 q2
            have eM : (dg k D).length = k := mat_length _ _
            have lP : (mat k (pP (nm L))).length = k := mat_length _ _
            have lT : (tuL (facL L)).length = k := by rw [tu_len (by unfold facL; rw [hO, if_pos rfl, eL]; exact sq_mat _ h1 h6), e1]
            have lQ : (mat k (fun i j => rn (pS (nm L) k i j))).length = k := mat_length _ _
            clear hOw hlt hk hmk2 hDg hDb
            go_wp2_with (first | (go_at_call 19; (have := t1; clear this t1); refine Calls.mono (mmul_u (hF.mr (by repeat (first | (with_reducible exact Mr.refl _) | (with_reducible assumption) | (with_reducible apply Mr.drew) | (with_reducible apply Mr.alloc) | (with_reducible apply Mr.ext) | (with_reducible refine Mr.setCell ?_ (by first | (simp; done) | (simp; omega) | omega | (refine leOf0 ?_; (repeat (first | (with_reducible exact Mr.refl _) | (with_reducible apply Mr.drew) | (with_reducible apply Mr.alloc) | (with_reducible apply Mr.ext) | (with_reducible refine Mr.setCell ?_ (by first | (simp; done) | (simp; omega) | omega) _))); done) | (refine leOf ?_; (repeat (first | (with_reducible exact Mr.refl _) | (with_reducible apply Mr.drew) | (with_reducible apply Mr.alloc) | (with_reducible apply Mr.ext) | (with_reducible refine Mr.setCell ?_ (by first | (simp; done) | (simp; omega) | omega) _))); done)) _)))) e1 (hM.mr (by repeat (first | (with_reducible exact Mr.refl _) | (with_reducible assumption) | (with_reducible apply Mr.drew) | (with_reducible apply Mr.alloc) | (with_reducible apply Mr.ext) | (with_reducible refine Mr.setCell ?_ (by first | (simp; done) | (simp; omega) | omega | (refine leOf0 ?_; (repeat (first | (with_reducible exact Mr.refl _) | (with_reducible apply Mr.drew) | (with_reducible apply Mr.alloc) | (with_reducible apply Mr.ext) | (with_reducible refine Mr.setCell ?_ (by first | (simp; done) | (simp; omega) | omega) _))); done) | (refine leOf ?_; (repeat (first | (with_reducible exact Mr.refl _) | (with_reducible apply Mr.drew) | (with_reducible apply Mr.alloc) | (with_reducible apply Mr.ext) | (with_reducible refine Mr.setCell ?_ (by first | (simp; done) | (simp; omega) | omega) _))); done)) _)))) eM) ?_; rintro e w' ⟨aP, cP, rfl, x, rfl, hP⟩; rw [q1, q2, lP]; rw [q1] at hP) | (go_at_call 20; refine Calls.mono (mturned_u (hF.mr (by repeat (first | (with_reducible exact Mr.refl _) | (with_reducible assumption) | (with_reducible apply Mr.drew) | (with_reducible apply Mr.alloc) | (with_reducible apply Mr.ext) | (with_reducible refine Mr.setCell ?_ (by first | (simp; done) | (simp; omega) | omega | (refine leOf0 ?_; (repeat (first | (with_reducible exact Mr.refl _) | (with_reducible apply Mr.drew) | (with_reducible apply Mr.alloc) | (with_reducible apply Mr.ext) | (with_reducible refine Mr.setCell ?_ (by first | (simp; done) | (simp; omega) | omega) _))); done) | (refine leOf ?_; (repeat (first | (with_reducible exact Mr.refl _) | (with_reducible apply Mr.drew) | (with_reducible apply Mr.alloc) | (with_reducible apply Mr.ext) | (with_reducible refine Mr.setCell ?_ (by first | (simp; done) | (simp; omega) | omega) _))); done)) _)))) e1) ?_; rintro e w' ⟨aT, cT, rfl, x, rfl, hT⟩; rw [lT]) | (go_at_call 19; refine Calls.mono (mmul_u (hP.mr (by repeat (first | (with_reducible exact Mr.refl _) | (with_reducible assumption) | (with_reducible apply Mr.drew) | (with_reducible apply Mr.alloc) | (with_reducible apply Mr.ext) | (with_reducible refine Mr.setCell ?_ (by first | (simp; done) | (simp; omega) | omega | (refine leOf0 ?_; (repeat (first | (with_reducible exact Mr.refl _) | (with_reducible apply Mr.drew) | (with_reducible apply Mr.alloc) | (with_reducible apply Mr.ext) | (with_reducible refine Mr.setCell ?_ (by first | (simp; done) | (simp; omega) | omega) _))); done) | (refine leOf ?_; (repeat (first | (with_reducible exact Mr.refl _) | (with_reducible apply Mr.drew) | (with_reducible apply Mr.alloc) | (with_reducible apply Mr.ext) | (with_reducible refine Mr.setCell ?_ (by first | (simp; done) | (simp; omega) | omega) _))); done)) _)))) lP (hT.mr (by repeat (first | (with_reducible exact Mr.refl _) | (with_reducible assumption) | (with_reducible apply Mr.drew) | (with_reducible apply Mr.alloc) | (with_reducible apply Mr.ext) | (with_reducible refine Mr.setCell ?_ (by first | (simp; done) | (simp; omega) | omega | (refine leOf0 ?_; (repeat (first | (with_reducible exact Mr.refl _) | (with_reducible apply Mr.drew) | (with_reducible apply Mr.alloc) | (with_reducible apply Mr.ext) | (with_reducible refine Mr.setCell ?_ (by first | (simp; done) | (simp; omega) | omega) _))); done) | (refine leOf ?_; (repeat (first | (with_reducible exact Mr.refl _) | (with_reducible apply Mr.drew) | (with_reducible apply Mr.alloc) | (with_reducible apply Mr.ext) | (with_reducible refine Mr.setCell ?_ (by first | (simp; done) | (simp; omega) | omega) _))); done)) _)))) lT) ?_; rintro e w' ⟨aQ, cQ, rfl, x, rfl, hQ⟩; rw [q3, q4, lQ]; rw [q3] at hQ))
            have hQ' := hQ.mr (w' := x.u) (by repeat (first | (with_reducible exact Mr.refl _) | (with_reducible assumption) | (with_reducible apply Mr.drew) | (with_reducible apply Mr.alloc) | (with_reducible apply Mr.ext) | (with_reducible refine Mr.setCell ?_ (by first | (simp; done) | (simp; omega) | omega | (refine leOf0 ?_; (repeat (first | (with_reducible exact Mr.refl _) | (with_reducible apply Mr.drew) | (with_reducible apply Mr.alloc) | (with_reducible apply Mr.ext) | (with_reducible refine Mr.setCell ?_ (by first | (simp; done) | (simp; omega) | omega) _))); done) | (refine leOf ?_; (repeat (first | (with_reducible exact Mr.refl _) | (with_reducible apply Mr.drew) | (with_reducible apply Mr.alloc) | (with_reducible apply Mr.ext) | (with_reducible refine Mr.setCell ?_ (by first | (simp; done) | (simp; omega) | omega) _))); done)) _)))
            have hm2 : Mr w x.u := hmw.trans (by repeat (first | (with_reducible exact Mr.refl _) | (with_reducible assumption) | (with_reducible apply Mr.drew) | (with_reducible apply Mr.alloc) | (with_reducible apply Mr.ext) | (with_reducible refine Mr.setCell ?_ (by first | (simp; done) | (simp; omega) | omega | (refine leOf0 ?_; (repeat (first | (with_reducible exact Mr.refl _) | (with_reducible apply Mr.drew) | (with_reducible apply Mr.alloc) | (with_reducible apply Mr.ext) | (with_reducible refine Mr.setCell ?_ (by first | (simp; done) | (simp; omega) | omega) _))); done) | (refine leOf ?_; (repeat (first | (with_reducible exact Mr.refl _) | (with_reducible apply Mr.drew) | (with_reducible apply Mr.alloc) | (with_reducible apply Mr.ext) | (with_reducible refine Mr.setCell ?_ (by first | (simp; done) | (simp; omega) | omega) _))); done)) _)))
            have hL2 := hL.mr (w' := x.u) (by repeat (first | (with_reducible exact Mr.refl _) | (with_reducible assumption) | (with_reducible apply Mr.drew) | (with_reducible apply Mr.alloc) | (with_reducible apply Mr.ext) | (with_reducible refine Mr.setCell ?_ (by first | (simp; done) | (simp; omega) | omega | (refine leOf0 ?_; (repeat (first | (with_reducible exact Mr.refl _) | (with_reducible apply Mr.drew) | (with_reducible apply Mr.alloc) | (with_reducible apply Mr.ext) | (with_reducible refine Mr.setCell ?_ (by first | (simp; done) | (simp; omega) | omega) _))); done) | (refine leOf ?_; (repeat (first | (with_reducible exact Mr.refl _) | (with_reducible apply Mr.drew) | (with_reducible apply Mr.alloc) | (with_reducible apply Mr.ext) | (with_reducible refine Mr.setCell ?_ (by first | (simp; done) | (simp; omega) | omega) _))); done)) _)))
            clear hQ hL hF hD hM hP hT
            generalize x.u = W1 at *
            have hnr : ∀ i j, j ≤ i → i < k → rn (pS (nm L) k i j) - gt (rw' L i) j ≤ 4194304 ∧ gt (rw' L i) j - rn (pS (nm L) k i j) ≤ 4194304 := fun i j hj hi => q_near hMd hj hi
            have hab : ∀ i j, j ≤ i → i < k → -1099511627776 ≤ gt (rw' L i) j ∧ gt (rw' L i) j ≤ 1099511627776 := fun i j hj hi => (HB.out i hi).2 j hj
            clear hMd HB q1 q2 q3 q4
            go_loopw [15] (fun i wr => ∃ p : Nat, p ≤ k ∧ i = .int .i64 p ∧ ∃ y : Ext W1, wr = y.u) (fun i _ => (k - (intOf i).toNat))
            case atStart => exact ⟨0, by omega, rfl, Mr.mk' (Mr.refl _)⟩
            case round =>
              obtain ⟨p, hp, rfl, y2, rfl⟩ := hrel
              by_cases hpt : p < k
              · have hpt' : (p : Int) < k := by omega
                go_wp2
                go_loopw [16] (fun i wr => ∃ q : Nat, q ≤ p + 1 ∧ i = .int .i64 q ∧ ∃ y : Ext W1, wr = y.u) (fun i _ => (p + 1 - (intOf i).toNat))
                case atStart => exact ⟨0, by omega, rfl, y2, rfl⟩
                case round =>
                  obtain ⟨q, hq1, rfl, y3, rfl⟩ := hrel
                  by_cases hqp : q ≤ p
                  · have hqp' : (q : Int) ≤ p := by omega
                    have hqn : (q : Int) < k := by omega
                    obtain ⟨b1, o1, ra, rc, rfl, hb1, hc1, hI⟩ := hL2.row p (by omega)
                    rw [hr1 p hpt] at hc1
                    obtain ⟨b2, o2, rfl, hb2, hc2⟩ := hI.num q (by rw [hr1 p hpt]; omega)
                    obtain ⟨b3, o3, rb, rd, rfl, hb3, hc3, hJ⟩ := hQ'.row p (by omega)
                    rw [rw_mat _ hpt, mk_length] at hc3
                    rw [rw_mat _ hpt] at hJ
                    obtain ⟨b4, o4, rfl, hb4, hc4⟩ := hJ.num q (by rw [mk_length]; omega)
                    rw [gt_mk, if_pos (by omega)] at hc4
                    obtain ⟨g1, g2⟩ := hnr p q hqp hpt
                    obtain ⟨g3, g4⟩ := hab p q hqp hpt
                    generalize gt (rw' L p) q = V at *
                    generalize rn (pS (nm L) k p q) = U at *
                    have f1 : decide (4194304 < U - V) = false := decide_eq_false (by omega)
                    have f2 : decide (4194304 < V - U) = false := decide_eq_false (by omega)
                    have f3 : -1099515822080 ≤ U ∧ U ≤ 1099515822080 := by omega
                    clear hI hJ hnr hab hL2 hQ'
                    go_wp2
                    refine wp_region_ext (by kernel_rfl) (by kernel_rfl) ?_; (repeat (go_big_quiet_step (fail))); refine wpQuiet_nil ?_; rintro w9 ⟨x9, rfl⟩
                    go_wp2
                    go_roundw
                    case rel => exact ⟨q + 1, by omega, by go_num, Mr.mk' (by repeat (first | (with_reducible exact Mr.refl _) | (with_reducible assumption) | (with_reducible apply Mr.drew) | (with_reducible apply Mr.alloc) | (with_reducible apply Mr.ext) | (with_reducible refine Mr.setCell ?_ (by first | (simp; done) | (simp; omega) | omega | (refine leOf0 ?_; (repeat (first | (with_reducible exact Mr.refl _) | (with_reducible apply Mr.drew) | (with_reducible apply Mr.alloc) | (with_reducible apply Mr.ext) | (with_reducible refine Mr.setCell ?_ (by first | (simp; done) | (simp; omega) | omega) _))); done) | (refine leOf ?_; (repeat (first | (with_reducible exact Mr.refl _) | (with_reducible apply Mr.drew) | (with_reducible apply Mr.alloc) | (with_reducible apply Mr.ext) | (with_reducible refine Mr.setCell ?_ (by first | (simp; done) | (simp; omega) | omega) _))); done)) _)))⟩
                    case measure => simp [intOf]; omega
                  · obtain rfl : q = p + 1 := by omega
                    have hqp' : ¬ ((p : Int) + 1 ≤ p) := by omega
                    clear hnr hab hL2 hQ'
                    go_wp2
                    go_roundw
                    case rel => exact ⟨p + 1, by omega, by go_num, y3, rfl⟩
                    case measure => simp [intOf]; omega
              · obtain rfl : p = k := by omega
                clear hnr hab hL2 hQ'
                go_wp2
                go_ret
                exact ⟨rfl, (hm2.trans y2.h).grown⟩

set_option maxRecDepth 100000 in
theorem lifted (os : Os) (started : os.Started) (H : Type) (enc : TypeId × Value → H) :
    ReturnsInHanded {} Try.checked os 6 .any (Rows.solveMadeSpec.pre6 enc Try.prog Try.f6 Rows.solveMadeRow.domain false) (Rows.solveMadeSpec.post enc Try.prog Try.f6 false true false false) := by
  refine returnsInHanded_of_change (C := Try.checked) own started (by kernel_rfl) Try.func6
    (ChangeSpec.witness6 (enc := enc) (C := Try.checked) false ⟨#[], #[.slice none 0 0], []⟩ 8 (by kernel_rfl) (by kernel_rfl) (by kernel_rfl) (by kernel_rfl)) ?_
  intro W base args ds gs before hval0 hW hcnd _
  have hval : ∀ (j : Nat) t v, Try.f6.params[j]? = some t → args[j]? = some v → Value.okWide Try.prog W .any base t v := hval0
  have hW' := hW
  obtain ⟨p, q, hA0, hV, rfl, hfz, hnd⟩ := hW
  have hA : DataW.TrodAll enc Try.prog W 0 (fun _ => true) true Try.f6.params.toList args.toList ds p := hA0
  rw [Try.params6] at hA hval
  obtain ⟨v0, vs0, d0, ds0, p_0, q_0, hargs, rfl, rfl, h0, r0⟩ := trodAll_cons hA
  obtain ⟨rfl, rfl, rfl⟩ := trodAll_nil r0
  obtain rfl : args = #[v0] := by cases args; simp_all
  obtain ⟨rfl, rfl⟩ := trodVars_none hV
  obtain ⟨s0, n0, c0, rfl⟩ := okWide_slice Try.underlying22 (hval 0 22 v0 rfl rfl)
  have k0 := h0
  have lt0 : ∀ x ∈ p_0, x.block < W.heap.size := by obtain ⟨m, hm⟩ := k0; exact DataW.trod_lt m _ _ _ hm
  have w0 : IsRows W s0 n0 c0 := by
    obtain ⟨fuel, hf⟩ := h0
    rcases Go.Deep.open_int_rows Try.underlying22 Try.underlying23 Try.underlying3 (by kernel_rfl) (by kernel_rfl) hf with ⟨hcs, _⟩ | ⟨x, l, c, A, L, C, Z, hcs, _, hl, hm, _, hr⟩
    · simp [Value.cells] at hcs
      obtain ⟨rfl, rfl, rfl⟩ := hcs
      exact .inl ⟨rfl, rfl, rfl⟩
    · simp [Value.cells] at hcs
      obtain ⟨rfl, rfl, rfl⟩ := hcs
      exact .inr ⟨x, A, L, C, Z, rfl, hl, hm, fun r hr' => by obtain ⟨a1, a2, a3, a4, a5, a6, a7⟩ := hr r hr'; exact ⟨a1, a2, a3, a4, a5, a6, fun a' e => (a7 a' e).2⟩⟩
  clear hA0 hval0
  refine (walk s0 n0 c0 W w0).mono fun e W' ⟨he, bel⟩ => ?_
  subst he
  exact ⟨_, rfl, _, _, _, [], _, [], hW', trodAll_mk1 (shut_bool Try.underlying4 _), (trodAll_cons_mk (Below.trod laidOut (by kernel_rfl) (of_decide_eq_true (by kernel_rfl)) k0 bel lt0) trodAll_mk0), rfl, bel.frame _, fun h => by cases h⟩

theorem over : Rows.solveMadeRow.holds Try.pinned (OpenSpec.ofChange Rows.solveMadeSpec) :=
  OpenClaim.holds_of_wide 6 Try.f6 rfl rfl rfl rfl rfl rfl rfl ⟨rfl, rfl, rfl, rfl, rfl⟩ rfl rfl rfl rfl rfl (by kernel_rfl) Try.func6 (by kernel_rfl)
    (of_decide_eq_true (by kernel_rfl)) (by unfold Func.isWrapper; first | (rw [if_pos (by decide +kernel)]; kernel_rfl) | (rw [if_neg (by decide +kernel)]; exact ⟨rfl, rfl⟩))
    (fun os started H enc _ => lifted os started H enc)

theorem proved : Rows.SolveMadeSaid :=
  over
#print axioms proved
end Go.Proofs.Ytpammdogkkipbaa.solveMade
