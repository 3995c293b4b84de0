/- The contracts of the document's own answers of layer 3, third part: Over. -/
import Derived.Test.YtpammdogkkipbaaRefC7
namespace Go.Proofs.Ytpammdogkkipbaa
open Go.ChangeShapes Go.WideShapes Go.ChangeAt Go.RowKit
open Go.Proofs.Ytpammdogkkipbaa.Fx Go.Proofs.Ytpammdogkkipbaa.Wd Go.Proofs.Ytpammdogkkipbaa.Dv
set_option linter.unusedVariables false
attribute [local go_sem] Ext.cell Ext.froz Ext.lt Ext.lt1 Ext.lt2 Ext.lt3 Ext.all Ext.set_u drew_heap setCell_size Ext.set_size
namespace Sc
attribute [local go_sem ↓] eq_wide eqw_self
attribute [local go_sem] and62 and1 sgn64
theorem cl_lt' (a : Int) : cl a < 0 ↔ a < 0 := by
  unfold cl wv
  repeat' split
  all_goals omega
theorem cl_gt' (a : Int) : 0 < cl a ↔ 0 < a := by
  unfold cl wv
  repeat' split
  all_goals omega
theorem ab_cl (a : Int) : ab (cl a) = ab a := by unfold ab; rw [(clcl a).1]
theorem neg_cl (z : Int) : cl (-z) = -cl z ∧ co (-z) = co z := by
  constructor
  · unfold cl wv
    repeat' split
    all_goals omega
  · unfold co wb; rw [Bool.eq_iff_iff]; simp; omega
theorem clq {Q t e : Int} (h : Qi Q t) (h0 : 0 ≤ e) (h1 : e ≤ 1) : cl (Q + e) = cl (t + e) ∧ co (Q + e) = co (t + e) ∧ cl (-(Q + e)) = -cl (t + e) ∧ co (-(Q + e)) = co (t + e) := by
  obtain ⟨a, b, c⟩ := h
  have n := neg_cl (Q + e)
  rw [n.1, n.2]
  rcases c with rfl | ⟨c1, c2⟩
  · exact ⟨rfl, rfl, rfl, rfl⟩
  · obtain ⟨u1, u2⟩ := cl_hi (a := Q + e) (by omega)
    obtain ⟨v1, v2⟩ := cl_hi (a := t + e) (by omega)
    rw [u1, u2, v1, v2]
    exact ⟨rfl, rfl, rfl, rfl⟩
set_option maxHeartbeats 1000000 in
theorem rover0_c (a : Int) (w : World) :
    Calls Try.prog 54 #[.int .i64 a, .int .i64 0] w fun e w' => e = .returned (.tuple #[.int .i64 (qv a 0), .bool (qb a 0)]) ∧ ∃ x : Ext w, w' = x.u := by
  have z : cl 0 = 0 := by decide
  have V : Hid (qv a 0 = cm a 0 * 288230376151711744 ∧ qb a 0 = true) := ⟨by unfold qv; rw [if_pos rfl], by unfold qb; rw [if_pos rfl]⟩
  have g1 := cl_lt' a
  have g2 := cl_gt' a
  rcases Int.lt_trichotomy a 0 with h | h | h
  · have C : Hid (cm a 0 = -1) := by rw [Hid]; unfold cm; rw [if_pos h]
    have k1 : cl a < 0 := by omega
    clear g1 g2 h
    go_enter Try.func54, Try.ntmps54
    go_wp2_with (go_at_call 68; refine (ras_c _ _).mono ?_; rintro e w' ⟨rfl, rfl⟩)
    go_ret2
    exact ⟨ret_ib (by rw [V.out.1, C.out]; rfl) V.out.2.symm, Mr.mk' (by repeat (first | (with_reducible exact Mr.refl _) | (with_reducible apply Mr.drew) | (with_reducible apply Mr.alloc) | (with_reducible apply Mr.ext) | (with_reducible refine Mr.setCell ?_ (by first | (simp; done) | (simp; omega) | omega | (refine leOf0 ?_; (repeat (first | (with_reducible exact Mr.refl _) | (with_reducible apply Mr.drew) | (with_reducible apply Mr.alloc) | (with_reducible apply Mr.ext) | (with_reducible refine Mr.setCell ?_ (by first | (simp; done) | (simp; omega) | omega) _))); done) | (refine leOf ?_; (repeat (first | (with_reducible exact Mr.refl _) | (with_reducible apply Mr.drew) | (with_reducible apply Mr.alloc) | (with_reducible apply Mr.ext) | (with_reducible refine Mr.setCell ?_ (by first | (simp; done) | (simp; omega) | omega) _))); done)) _)))⟩
  · subst h
    have C : Hid (cm 0 0 = 0) := by rw [Hid]; rfl
    clear g1 g2
    go_enter Try.func54, Try.ntmps54
    go_wp2_with (go_at_call 68; refine (ras_c _ _).mono ?_; rintro e w' ⟨rfl, rfl⟩)
    go_ret2
    exact ⟨ret_ib (by rw [V.out.1, C.out]; rfl) V.out.2.symm, Mr.mk' (by repeat (first | (with_reducible exact Mr.refl _) | (with_reducible apply Mr.drew) | (with_reducible apply Mr.alloc) | (with_reducible apply Mr.ext) | (with_reducible refine Mr.setCell ?_ (by first | (simp; done) | (simp; omega) | omega | (refine leOf0 ?_; (repeat (first | (with_reducible exact Mr.refl _) | (with_reducible apply Mr.drew) | (with_reducible apply Mr.alloc) | (with_reducible apply Mr.ext) | (with_reducible refine Mr.setCell ?_ (by first | (simp; done) | (simp; omega) | omega) _))); done) | (refine leOf ?_; (repeat (first | (with_reducible exact Mr.refl _) | (with_reducible apply Mr.drew) | (with_reducible apply Mr.alloc) | (with_reducible apply Mr.ext) | (with_reducible refine Mr.setCell ?_ (by first | (simp; done) | (simp; omega) | omega) _))); done)) _)))⟩
  · have C : Hid (cm a 0 = 1) := by rw [Hid]; unfold cm; rw [if_neg (by omega), if_pos h]
    have k1 : 0 < cl a := by omega
    clear g1 g2 h
    go_enter Try.func54, Try.ntmps54
    go_wp2_with (go_at_call 68; refine (ras_c _ _).mono ?_; rintro e w' ⟨rfl, rfl⟩)
    go_ret2
    exact ⟨ret_ib (by rw [V.out.1, C.out]; rfl) V.out.2.symm, Mr.mk' (by repeat (first | (with_reducible exact Mr.refl _) | (with_reducible apply Mr.drew) | (with_reducible apply Mr.alloc) | (with_reducible apply Mr.ext) | (with_reducible refine Mr.setCell ?_ (by first | (simp; done) | (simp; omega) | omega | (refine leOf0 ?_; (repeat (first | (with_reducible exact Mr.refl _) | (with_reducible apply Mr.drew) | (with_reducible apply Mr.alloc) | (with_reducible apply Mr.ext) | (with_reducible refine Mr.setCell ?_ (by first | (simp; done) | (simp; omega) | omega) _))); done) | (refine leOf ?_; (repeat (first | (with_reducible exact Mr.refl _) | (with_reducible apply Mr.drew) | (with_reducible apply Mr.alloc) | (with_reducible apply Mr.ext) | (with_reducible refine Mr.setCell ?_ (by first | (simp; done) | (simp; omega) | omega) _))); done)) _)))⟩
set_option maxHeartbeats 2000000 in
theorem rover1_c (a b : Int) (w : World) (h : b ≠ 0) :
    Calls Try.prog 54 #[.int .i64 a, .int .i64 b] w fun e w' => e = .returned (.tuple #[.int .i64 (qv a b), .bool (qb a b)]) ∧ ∃ x : Ext w, w' = x.u := by
  have hz : ¬ cl b = 0 := by have := cl_lt' b; have := cl_gt' b; omega
  have hb : (cl b == 0) = false := by simp [hz]
  have a1 := ab_bd a
  have a2 := ab_bd b
  have a3 := ab_one h
  have c1 := ab_cl a
  have c2 := ab_cl b
  have key : bl a b = (!(decide (cl a < 0) == decide (cl b < 0))) := by
    rw [show decide (cl a < 0) = decide (a < 0) from decide_eq_decide.2 (cl_lt' a), show decide (cl b < 0) = decide (b < 0) from decide_eq_decide.2 (cl_lt' b)]
    rfl
  have r0 := Int.emod_nonneg (ab a * 4294967296) (show ab b ≠ 0 by omega)
  have r1 := Int.emod_lt_of_pos (ab a * 4294967296) (show 0 < ab b by omega)
  have E := mg_eq a1.1 (show 0 < ab b by omega) (bl a b)
  generalize hT : ab a * 4294967296 / ab b = T at *
  generalize hR : ab a * 4294967296 % ab b = R at *
  cases hr : bl a b
  · rw [hr] at key E
    simp only [and_true] at E
    have k2 : (decide (cl a < 0) == decide (cl b < 0)) = true := by
      cases hk : (decide (cl a < 0) == decide (cl b < 0))
      · rw [hk] at key; cases key
      · rfl
    have V : Hid (qv a b = cl (mg (ab a) (ab b) false) ∧ qb a b = (co (mg (ab a) (ab b) false) || co a || co b)) := by
      constructor
      · unfold qv; rw [if_neg h, hr, if_neg Bool.false_ne_true]
      · unfold qb; rw [if_neg h, hr]
    clear key h
    by_cases c : ab b ≤ 2 * R
    · rw [if_pos (by omega)] at E
      cases hc : co (mg (ab a) (ab b) false)
      all_goals
        have K : Hid (∀ Q, Qi Q T → cl (Q + 1) = qv a b ∧ co (Q + 1) = co (mg (ab a) (ab b) false) ∧ True ∧ True) := fun Q HQ => by
          have k := clq (e := 1) HQ (by omega) (by omega)
          rw [← E, ← V.out.1] at k
          exact ⟨k.1, k.2.1, trivial, trivial⟩
        rw [hc] at K
        have V2 : Hid (qb a b = _) := V.out.2
        rw [hc] at V2
        clear E V
        cases hd : co a
        all_goals
          rw [hd] at V2
          go_enter Try.func54, Try.ntmps54; go_wp2_with (first | (go_at_call 68; refine (ras_c _ _).mono ?_; rintro e w' ⟨rfl, rfl⟩) | (go_at_call 70; refine (rabs_c _ _).mono ?_; rintro e w' ⟨rfl, rfl⟩) | (go_at_call 69; refine (divide_c _ _ _ ?_ ?_ ?_ ?_).mono ?_; omega; omega; omega; omega; rintro e w' ⟨Q, HQ, rfl, rfl⟩; rw [hT] at HQ; have hq0 := HQ.1; have hq1 := HQ.2.1; obtain ⟨k1, k2, k3, k4⟩ := K.out Q HQ; clear HQ) | (go_at_call 71; refine (rclamp_c _ _).mono ?_; rintro e w' ⟨rfl, rfl⟩) | (go_at_call 72; refine (changed_c _ _).mono ?_; rintro e w' ⟨rfl, rfl⟩))
          go_ret2
          exact ⟨ret_ib rfl (by rw [V2.out]; simp), Mr.mk' (by repeat (first | (with_reducible exact Mr.refl _) | (with_reducible apply Mr.drew) | (with_reducible apply Mr.alloc) | (with_reducible apply Mr.ext) | (with_reducible refine Mr.setCell ?_ (by first | (simp; done) | (simp; omega) | omega | (refine leOf0 ?_; (repeat (first | (with_reducible exact Mr.refl _) | (with_reducible apply Mr.drew) | (with_reducible apply Mr.alloc) | (with_reducible apply Mr.ext) | (with_reducible refine Mr.setCell ?_ (by first | (simp; done) | (simp; omega) | omega) _))); done) | (refine leOf ?_; (repeat (first | (with_reducible exact Mr.refl _) | (with_reducible apply Mr.drew) | (with_reducible apply Mr.alloc) | (with_reducible apply Mr.ext) | (with_reducible refine Mr.setCell ?_ (by first | (simp; done) | (simp; omega) | omega) _))); done)) _)))⟩
    · rw [if_neg (by omega), Int.add_zero] at E
      cases hc : co (mg (ab a) (ab b) false)
      all_goals
        have K : Hid (∀ Q, Qi Q T → cl (Q) = qv a b ∧ co (Q) = co (mg (ab a) (ab b) false) ∧ True ∧ True) := fun Q HQ => by
          have k := clq (e := 0) HQ (by omega) (by omega)
          simp only [Int.add_zero] at k; rw [← E, ← V.out.1] at k
          exact ⟨k.1, k.2.1, trivial, trivial⟩
        rw [hc] at K
        have V2 : Hid (qb a b = _) := V.out.2
        rw [hc] at V2
        clear E V
        cases hd : co a
        all_goals
          rw [hd] at V2
          go_enter Try.func54, Try.ntmps54; go_wp2_with (first | (go_at_call 68; refine (ras_c _ _).mono ?_; rintro e w' ⟨rfl, rfl⟩) | (go_at_call 70; refine (rabs_c _ _).mono ?_; rintro e w' ⟨rfl, rfl⟩) | (go_at_call 69; refine (divide_c _ _ _ ?_ ?_ ?_ ?_).mono ?_; omega; omega; omega; omega; rintro e w' ⟨Q, HQ, rfl, rfl⟩; rw [hT] at HQ; have hq0 := HQ.1; have hq1 := HQ.2.1; obtain ⟨k1, k2, k3, k4⟩ := K.out Q HQ; clear HQ) | (go_at_call 71; refine (rclamp_c _ _).mono ?_; rintro e w' ⟨rfl, rfl⟩) | (go_at_call 72; refine (changed_c _ _).mono ?_; rintro e w' ⟨rfl, rfl⟩))
          go_ret2
          exact ⟨ret_ib rfl (by rw [V2.out]; simp), Mr.mk' (by repeat (first | (with_reducible exact Mr.refl _) | (with_reducible apply Mr.drew) | (with_reducible apply Mr.alloc) | (with_reducible apply Mr.ext) | (with_reducible refine Mr.setCell ?_ (by first | (simp; done) | (simp; omega) | omega | (refine leOf0 ?_; (repeat (first | (with_reducible exact Mr.refl _) | (with_reducible apply Mr.drew) | (with_reducible apply Mr.alloc) | (with_reducible apply Mr.ext) | (with_reducible refine Mr.setCell ?_ (by first | (simp; done) | (simp; omega) | omega) _))); done) | (refine leOf ?_; (repeat (first | (with_reducible exact Mr.refl _) | (with_reducible apply Mr.drew) | (with_reducible apply Mr.alloc) | (with_reducible apply Mr.ext) | (with_reducible refine Mr.setCell ?_ (by first | (simp; done) | (simp; omega) | omega) _))); done)) _)))⟩
  · rw [hr] at key E
    simp only [Bool.true_eq_false, and_false, or_false] at E
    have k2 : (decide (cl a < 0) == decide (cl b < 0)) = false := by
      cases hk : (decide (cl a < 0) == decide (cl b < 0))
      · rfl
      · rw [hk] at key; cases key
    have V : Hid (qv a b = -cl (mg (ab a) (ab b) true) ∧ qb a b = (co (mg (ab a) (ab b) true) || co a || co b)) := by
      constructor
      · unfold qv; rw [if_neg h, hr, if_pos rfl]
      · unfold qb; rw [if_neg h, hr]
    clear key h
    by_cases c : ab b < 2 * R
    · rw [if_pos c] at E
      cases hc : co (mg (ab a) (ab b) true)
      all_goals
        have K : Hid (∀ Q, Qi Q T → cl (-(Q + 1)) = qv a b ∧ co (-(Q + 1)) = co (mg (ab a) (ab b) true) ∧ True ∧ True) := fun Q HQ => by
          have k := clq (e := 1) HQ (by omega) (by omega)
          rw [← E, ← V.out.1] at k
          exact ⟨k.2.2.1, k.2.2.2, trivial, trivial⟩
        rw [hc] at K
        have V2 : Hid (qb a b = _) := V.out.2
        rw [hc] at V2
        clear E V
        cases hd : co a
        all_goals
          rw [hd] at V2
          go_enter Try.func54, Try.ntmps54; go_wp2_with (first | (go_at_call 68; refine (ras_c _ _).mono ?_; rintro e w' ⟨rfl, rfl⟩) | (go_at_call 70; refine (rabs_c _ _).mono ?_; rintro e w' ⟨rfl, rfl⟩) | (go_at_call 69; refine (divide_c _ _ _ ?_ ?_ ?_ ?_).mono ?_; omega; omega; omega; omega; rintro e w' ⟨Q, HQ, rfl, rfl⟩; rw [hT] at HQ; have hq0 := HQ.1; have hq1 := HQ.2.1; obtain ⟨k1, k2, k3, k4⟩ := K.out Q HQ; clear HQ) | (go_at_call 71; refine (rclamp_c _ _).mono ?_; rintro e w' ⟨rfl, rfl⟩) | (go_at_call 72; refine (changed_c _ _).mono ?_; rintro e w' ⟨rfl, rfl⟩))
          go_ret2
          exact ⟨ret_ib rfl (by rw [V2.out]; simp), Mr.mk' (by repeat (first | (with_reducible exact Mr.refl _) | (with_reducible apply Mr.drew) | (with_reducible apply Mr.alloc) | (with_reducible apply Mr.ext) | (with_reducible refine Mr.setCell ?_ (by first | (simp; done) | (simp; omega) | omega | (refine leOf0 ?_; (repeat (first | (with_reducible exact Mr.refl _) | (with_reducible apply Mr.drew) | (with_reducible apply Mr.alloc) | (with_reducible apply Mr.ext) | (with_reducible refine Mr.setCell ?_ (by first | (simp; done) | (simp; omega) | omega) _))); done) | (refine leOf ?_; (repeat (first | (with_reducible exact Mr.refl _) | (with_reducible apply Mr.drew) | (with_reducible apply Mr.alloc) | (with_reducible apply Mr.ext) | (with_reducible refine Mr.setCell ?_ (by first | (simp; done) | (simp; omega) | omega) _))); done)) _)))⟩
    · rw [if_neg c, Int.add_zero] at E
      cases hc : co (mg (ab a) (ab b) true)
      all_goals
        have K : Hid (∀ Q, Qi Q T → cl (-Q) = qv a b ∧ co (-Q) = co (mg (ab a) (ab b) true) ∧ True ∧ True) := fun Q HQ => by
          have k := clq (e := 0) HQ (by omega) (by omega)
          simp only [Int.add_zero] at k; rw [← E, ← V.out.1] at k
          exact ⟨k.2.2.1, k.2.2.2, trivial, trivial⟩
        rw [hc] at K
        have V2 : Hid (qb a b = _) := V.out.2
        rw [hc] at V2
        clear E V
        cases hd : co a
        all_goals
          rw [hd] at V2
          go_enter Try.func54, Try.ntmps54; go_wp2_with (first | (go_at_call 68; refine (ras_c _ _).mono ?_; rintro e w' ⟨rfl, rfl⟩) | (go_at_call 70; refine (rabs_c _ _).mono ?_; rintro e w' ⟨rfl, rfl⟩) | (go_at_call 69; refine (divide_c _ _ _ ?_ ?_ ?_ ?_).mono ?_; omega; omega; omega; omega; rintro e w' ⟨Q, HQ, rfl, rfl⟩; rw [hT] at HQ; have hq0 := HQ.1; have hq1 := HQ.2.1; obtain ⟨k1, k2, k3, k4⟩ := K.out Q HQ; clear HQ) | (go_at_call 71; refine (rclamp_c _ _).mono ?_; rintro e w' ⟨rfl, rfl⟩) | (go_at_call 72; refine (changed_c _ _).mono ?_; rintro e w' ⟨rfl, rfl⟩))
          go_ret2
          exact ⟨ret_ib rfl (by rw [V2.out]; simp), Mr.mk' (by repeat (first | (with_reducible exact Mr.refl _) | (with_reducible apply Mr.drew) | (with_reducible apply Mr.alloc) | (with_reducible apply Mr.ext) | (with_reducible refine Mr.setCell ?_ (by first | (simp; done) | (simp; omega) | omega | (refine leOf0 ?_; (repeat (first | (with_reducible exact Mr.refl _) | (with_reducible apply Mr.drew) | (with_reducible apply Mr.alloc) | (with_reducible apply Mr.ext) | (with_reducible refine Mr.setCell ?_ (by first | (simp; done) | (simp; omega) | omega) _))); done) | (refine leOf ?_; (repeat (first | (with_reducible exact Mr.refl _) | (with_reducible apply Mr.drew) | (with_reducible apply Mr.alloc) | (with_reducible apply Mr.ext) | (with_reducible refine Mr.setCell ?_ (by first | (simp; done) | (simp; omega) | omega) _))); done)) _)))⟩
theorem rover_c (a b : Int) (w : World) :
    Calls Try.prog 54 #[.int .i64 a, .int .i64 b] w fun e w' => e = .returned (.tuple #[.int .i64 (qv a b), .bool (qb a b)]) ∧ ∃ x : Ext w, w' = x.u := by
  by_cases h : b = 0
  · subst h; exact rover0_c a w
  · exact rover1_c a b w h
end Sc
end Go.Proofs.Ytpammdogkkipbaa
