/- The contracts of the document's own answers of layer 7. -/
import Derived.Test.YthogobmflinnpaaVecM
import Derived.Test.YthogobmflinnpaaRefC12
import Derived.Test.YthogobmflinnpaaRefC8
import Derived.RegionTactic
namespace Go.Proofs.Ythogobmflinnpaa
open Go.ChangeShapes Go.WideShapes Go.ChangeAt Go.RowKit
open Go.Proofs.Ythogobmflinnpaa.Fx Go.Proofs.Ythogobmflinnpaa.Wd Go.Proofs.Ythogobmflinnpaa.Sc Go.Proofs.Ythogobmflinnpaa.Rt Go.Proofs.Ythogobmflinnpaa.Sm
set_option linter.unusedVariables false
attribute [local go_sem] Ext.cell Ext.froz Ext.lt Ext.lt1 Ext.lt2 Ext.lt3 Ext.all Ext.set_u drew_heap setCell_size Ext.set_size
namespace Vc
open Sl
theorem ret_vb {x y z : Int} {p q : Bool} (g : p = q) : Ending.returned (.tuple #[.agg #[.int .i64 x, .int .i64 y, .int .i64 z], .bool p]) = .returned (.tuple #[.agg #[.int .i64 x, .int .i64 y, .int .i64 z], .bool q]) := by rw [g]
set_option maxHeartbeats 1000000 in
theorem radd7_c (a0 a1 a2 b0 b1 b2 : Int) (w : World) :
    Calls Try.prog 11 #[.agg #[.int .i64 a0, .int .i64 a1, .int .i64 a2], .agg #[.int .i64 b0, .int .i64 b1, .int .i64 b2]] w fun e w' => e = .returned (.tuple #[.agg #[.int .i64 (av a0 b0), .int .i64 (av a1 b1), .int .i64 (av a2 b2)], .bool (ao a0 b0 || ao a1 b1 || ao a2 b2)]) ∧ ∃ x : Ext w, w' = x.u := by
  cases h0 : ao a0 b0 <;> cases h1 : ao a1 b1 <;> cases h2 : ao a2 b2
  all_goals
    go_enter Try.func11, Try.ntmps11
    go_wp2_with (go_at_call 27; refine (radd_c _ _ _).mono ?_; rintro e w' ⟨rfl, rfl⟩)
    exact bodyPost_ret (by simp [results, Try.results11, go_sem]) rfl ⟨rfl, Mr.mk' (by repeat (first | (with_reducible exact Mr.refl _) | (with_reducible apply Mr.drew) | (with_reducible apply Mr.alloc) | (with_reducible apply Mr.ext) | (with_reducible refine Mr.setCell ?_ (by first | (simp; done) | (simp; omega) | omega | (refine leOf0 ?_; (repeat (first | (with_reducible exact Mr.refl _) | (with_reducible apply Mr.drew) | (with_reducible apply Mr.alloc) | (with_reducible apply Mr.ext) | (with_reducible refine Mr.setCell ?_ (by first | (simp; done) | (simp; omega) | omega) _))); done) | (refine leOf ?_; (repeat (first | (with_reducible exact Mr.refl _) | (with_reducible apply Mr.drew) | (with_reducible apply Mr.alloc) | (with_reducible apply Mr.ext) | (with_reducible refine Mr.setCell ?_ (by first | (simp; done) | (simp; omega) | omega) _))); done)) _)))⟩
set_option maxHeartbeats 1000000 in
theorem rsub7_c (a0 a1 a2 b0 b1 b2 : Int) (w : World) :
    Calls Try.prog 13 #[.agg #[.int .i64 a0, .int .i64 a1, .int .i64 a2], .agg #[.int .i64 b0, .int .i64 b1, .int .i64 b2]] w fun e w' => e = .returned (.tuple #[.agg #[.int .i64 (sv a0 b0), .int .i64 (sv a1 b1), .int .i64 (sv a2 b2)], .bool (so a0 b0 || so a1 b1 || so a2 b2)]) ∧ ∃ x : Ext w, w' = x.u := by
  cases h0 : so a0 b0 <;> cases h1 : so a1 b1 <;> cases h2 : so a2 b2
  all_goals
    go_enter Try.func13, Try.ntmps13
    go_wp2_with (go_at_call 30; refine (rsub_c _ _ _).mono ?_; rintro e w' ⟨rfl, rfl⟩)
    exact bodyPost_ret (by simp [results, Try.results13, go_sem]) rfl ⟨rfl, Mr.mk' (by repeat (first | (with_reducible exact Mr.refl _) | (with_reducible apply Mr.drew) | (with_reducible apply Mr.alloc) | (with_reducible apply Mr.ext) | (with_reducible refine Mr.setCell ?_ (by first | (simp; done) | (simp; omega) | omega | (refine leOf0 ?_; (repeat (first | (with_reducible exact Mr.refl _) | (with_reducible apply Mr.drew) | (with_reducible apply Mr.alloc) | (with_reducible apply Mr.ext) | (with_reducible refine Mr.setCell ?_ (by first | (simp; done) | (simp; omega) | omega) _))); done) | (refine leOf ?_; (repeat (first | (with_reducible exact Mr.refl _) | (with_reducible apply Mr.drew) | (with_reducible apply Mr.alloc) | (with_reducible apply Mr.ext) | (with_reducible refine Mr.setCell ?_ (by first | (simp; done) | (simp; omega) | omega) _))); done)) _)))⟩
set_option maxHeartbeats 1000000 in
theorem rscale7_c (a0 a1 a2 s : Int) (w : World) :
    Calls Try.prog 15 #[.agg #[.int .i64 a0, .int .i64 a1, .int .i64 a2], .int .i64 s] w fun e w' => e = .returned (.tuple #[.agg #[.int .i64 (tv a0 s), .int .i64 (tv a1 s), .int .i64 (tv a2 s)], .bool (tb a0 s || tb a1 s || tb a2 s)]) ∧ ∃ x : Ext w, w' = x.u := by
  cases h0 : tb a0 s <;> cases h1 : tb a1 s <;> cases h2 : tb a2 s
  all_goals
    go_enter Try.func15, Try.ntmps15
    go_wp2_with (go_at_call 33; refine (rtimes_c _ _ _).mono ?_; rintro e w' ⟨rfl, x, rfl⟩)
    exact bodyPost_ret (by simp [results, Try.results15, go_sem]) rfl ⟨rfl, Mr.mk' (by repeat (first | (with_reducible exact Mr.refl _) | (with_reducible apply Mr.drew) | (with_reducible apply Mr.alloc) | (with_reducible apply Mr.ext) | (with_reducible refine Mr.setCell ?_ (by first | (simp; done) | (simp; omega) | omega | (refine leOf0 ?_; (repeat (first | (with_reducible exact Mr.refl _) | (with_reducible apply Mr.drew) | (with_reducible apply Mr.alloc) | (with_reducible apply Mr.ext) | (with_reducible refine Mr.setCell ?_ (by first | (simp; done) | (simp; omega) | omega) _))); done) | (refine leOf ?_; (repeat (first | (with_reducible exact Mr.refl _) | (with_reducible apply Mr.drew) | (with_reducible apply Mr.alloc) | (with_reducible apply Mr.ext) | (with_reducible refine Mr.setCell ?_ (by first | (simp; done) | (simp; omega) | omega) _))); done)) _)))⟩
/-- Three numbers as a list. -/
theorem rlist_c (a0 a1 a2 : Int) (w : World) (h0 : B64 a0) (h1 : B64 a1) (h2 : B64 a2) :
    Calls Try.prog 36 #[.agg #[.int .i64 a0, .int .i64 a1, .int .i64 a2]] w fun e w' => ∃ B, e = .returned (.slice (some ⟨B, 0, none⟩) 3 3) ∧ Mr w w' ∧ Is w' (some ⟨B, 0, none⟩) 3 [a0, a1, a2] := by
  go_enter Try.func36, Try.ntmps36
  go_wp2
  go_ret
  exact ⟨_, rfl, (by repeat (first | (with_reducible exact Mr.refl _) | (with_reducible apply Mr.drew) | (with_reducible apply Mr.alloc) | (with_reducible apply Mr.ext) | (with_reducible refine Mr.setCell ?_ (by first | (simp; done) | (simp; omega) | omega | (refine leOf0 ?_; (repeat (first | (with_reducible exact Mr.refl _) | (with_reducible apply Mr.drew) | (with_reducible apply Mr.alloc) | (with_reducible apply Mr.ext) | (with_reducible refine Mr.setCell ?_ (by first | (simp; done) | (simp; omega) | omega) _))); done) | (refine leOf ?_; (repeat (first | (with_reducible exact Mr.refl _) | (with_reducible apply Mr.drew) | (with_reducible apply Mr.alloc) | (with_reducible apply Mr.ext) | (with_reducible refine Mr.setCell ?_ (by first | (simp; done) | (simp; omega) | omega) _))); done)) _))), is3 _ (by simp) h0 h1 h2⟩
theorem rnorm_n7 {a : Option Addr} {c : Nat} {l : List Int} {w : World} (n : Nat) (h : Sl.Is w a c l) (hn : l.length = n) :
    Calls Try.prog 41 #[.slice a n c] w fun e w' => e = .returned (.tuple #[.int .i64 (lv l), .bool (lb l)]) ∧ ∃ x : Ext w, w' = x.u := by
  subst hn; exact rnorm_c a c l w h
theorem rdot_n7 {a b : Option Addr} {c d : Nat} {l m : List Int} {w : World} (n k : Nat) (h : Sl.Is w a c l) (g : Sl.Is w b d m) (hn : l.length = n) (hk : m.length = k) :
    Calls Try.prog 35 #[.slice a n c, .slice b k d] w fun e w' => e = .returned (.tuple #[.int .i64 (dv l m), .bool (db l m)]) ∧ ∃ x : Ext w, w' = x.u := by
  subst hn; subst hk; exact rdot_c a b c d l m w h g
set_option maxHeartbeats 1000000 in
theorem rlen7_c (a0 a1 a2 : Int) (w : World) (hA0 : B64 a0) (hA1 : B64 a1) (hA2 : B64 a2) :
    Calls Try.prog 21 #[.agg #[.int .i64 a0, .int .i64 a1, .int .i64 a2]] w fun e w' => e = .returned (.tuple #[.int .i64 (lv [a0, a1, a2]), .bool (lb [a0, a1, a2])]) ∧ ∃ x : Ext w, w' = x.u := by
  go_enter Try.func21, Try.ntmps21
  go_wp2_with (first | (go_at_call 36; refine (rlist_c _ _ _ _ hA0 hA1 hA2).mono ?_; rintro e w1 ⟨B1, rfl, hm1, I1⟩; obtain ⟨x1, rfl⟩ := Mr.mk' hm1) | (go_at_call 41; refine (rnorm_n7 3 I1 rfl).mono ?_; rintro e w' ⟨rfl, x, rfl⟩))
  go_ret2
  exact ⟨rfl, Mr.mk' (by repeat (first | (with_reducible exact Mr.refl _) | (with_reducible apply Mr.drew) | (with_reducible apply Mr.alloc) | (with_reducible apply Mr.ext) | (with_reducible refine Mr.setCell ?_ (by first | (simp; done) | (simp; omega) | omega | (refine leOf0 ?_; (repeat (first | (with_reducible exact Mr.refl _) | (with_reducible apply Mr.drew) | (with_reducible apply Mr.alloc) | (with_reducible apply Mr.ext) | (with_reducible refine Mr.setCell ?_ (by first | (simp; done) | (simp; omega) | omega) _))); done) | (refine leOf ?_; (repeat (first | (with_reducible exact Mr.refl _) | (with_reducible apply Mr.drew) | (with_reducible apply Mr.alloc) | (with_reducible apply Mr.ext) | (with_reducible refine Mr.setCell ?_ (by first | (simp; done) | (simp; omega) | omega) _))); done)) _)))⟩
set_option maxHeartbeats 1000000 in
theorem rpart_c (p q r s : Int) (w : World) (hp : B64 p) (hq : B64 q) (hr : B64 r) :
    Calls Try.prog 39 #[.int .i64 p, .int .i64 q, .int .i64 r, .int .i64 s] w fun e w' => e = .returned (.tuple #[.int .i64 (pv p q r s), .bool (pb p q r s)]) ∧ ∃ x : Ext w, w' = x.u := by
  have hs : B64 (-cl s) := by have := cl_bd s; exact ⟨by omega, by omega⟩
  have E1 : Hid (dv [p, q] [r, -cl s] = pv p q r s) := rfl
  have E2 : Hid ((co s || db [p, q] [r, -cl s]) = pb p q r s) := rfl
  cases hc : co s <;> cases hd : db [p, q] [r, -cl s]
  all_goals
    rw [hc, hd] at E2
    go_enter Try.func39, Try.ntmps39
    go_wp2_with (first | (go_at_call 46; refine (rclamp_c _ _).mono ?_; rintro e w' ⟨rfl, rfl⟩) | (go_at_call 58; refine (rneg_c _ _).mono ?_; rintro e w' ⟨rfl, rfl⟩) | (go_at_call 35; refine (rdot_n7 2 2 ((is2 _ rfl hp hq).mr ?_) (is2 _ (by simp) hr hs) rfl rfl).mono ?_; exact (by repeat (first | (with_reducible exact Mr.refl _) | (with_reducible apply Mr.drew) | (with_reducible apply Mr.alloc) | (with_reducible apply Mr.ext) | (with_reducible refine Mr.setCell ?_ (by first | (simp; done) | (simp; omega) | omega | (refine leOf0 ?_; (repeat (first | (with_reducible exact Mr.refl _) | (with_reducible apply Mr.drew) | (with_reducible apply Mr.alloc) | (with_reducible apply Mr.ext) | (with_reducible refine Mr.setCell ?_ (by first | (simp; done) | (simp; omega) | omega) _))); done) | (refine leOf ?_; (repeat (first | (with_reducible exact Mr.refl _) | (with_reducible apply Mr.drew) | (with_reducible apply Mr.alloc) | (with_reducible apply Mr.ext) | (with_reducible refine Mr.setCell ?_ (by first | (simp; done) | (simp; omega) | omega) _))); done)) _))); rintro e w' ⟨rfl, x, rfl⟩))
    go_ret2
    exact ⟨ret_ib E1.out E2.out, Mr.mk' (by repeat (first | (with_reducible exact Mr.refl _) | (with_reducible apply Mr.drew) | (with_reducible apply Mr.alloc) | (with_reducible apply Mr.ext) | (with_reducible refine Mr.setCell ?_ (by first | (simp; done) | (simp; omega) | omega | (refine leOf0 ?_; (repeat (first | (with_reducible exact Mr.refl _) | (with_reducible apply Mr.drew) | (with_reducible apply Mr.alloc) | (with_reducible apply Mr.ext) | (with_reducible refine Mr.setCell ?_ (by first | (simp; done) | (simp; omega) | omega) _))); done) | (refine leOf ?_; (repeat (first | (with_reducible exact Mr.refl _) | (with_reducible apply Mr.drew) | (with_reducible apply Mr.alloc) | (with_reducible apply Mr.ext) | (with_reducible refine Mr.setCell ?_ (by first | (simp; done) | (simp; omega) | omega) _))); done)) _)))⟩
set_option maxHeartbeats 2000000 in
theorem rdot7_c (a0 a1 a2 b0 b1 b2 : Int) (w : World) (hA0 : B64 a0) (hA1 : B64 a1) (hA2 : B64 a2) (hB0 : B64 b0) (hB1 : B64 b1) (hB2 : B64 b2) :
    Calls Try.prog 17 #[.agg #[.int .i64 a0, .int .i64 a1, .int .i64 a2], .agg #[.int .i64 b0, .int .i64 b1, .int .i64 b2]] w fun e w' => e = .returned (.tuple #[.int .i64 (dv [a0, a1, a2] [b0, b1, b2]), .bool (db [a0, a1, a2] [b0, b1, b2])]) ∧ ∃ x : Ext w, w' = x.u := by
  have tA : Unit := ()
  go_enter Try.func17, Try.ntmps17
  go_wp2_with fail
  go_region_with (first | (go_at_call 36; (have := tA; clear this tA); refine (rlist_c _ _ _ _ hA0 hA1 hA2).mono ?_; rintro e w1 ⟨B1, rfl, hm1, I1⟩; obtain ⟨x1, rfl⟩ := Mr.mk' hm1) | (go_at_call 36; refine (rlist_c _ _ _ _ hB0 hB1 hB2).mono ?_; rintro e w2 ⟨B2, rfl, hm2, I2⟩; obtain ⟨x2, rfl⟩ := Mr.mk' hm2) | (go_at_call 35; refine (rdot_n7 3 3 (by first | exact I1 | exact I1.mr (by repeat (first | (with_reducible exact Mr.refl _) | (with_reducible apply Mr.drew) | (with_reducible apply Mr.alloc) | (with_reducible apply Mr.ext) | (with_reducible refine Mr.setCell ?_ (by first | (simp; done) | (simp; omega) | omega | (refine leOf0 ?_; (repeat (first | (with_reducible exact Mr.refl _) | (with_reducible apply Mr.drew) | (with_reducible apply Mr.alloc) | (with_reducible apply Mr.ext) | (with_reducible refine Mr.setCell ?_ (by first | (simp; done) | (simp; omega) | omega) _))); done) | (refine leOf ?_; (repeat (first | (with_reducible exact Mr.refl _) | (with_reducible apply Mr.drew) | (with_reducible apply Mr.alloc) | (with_reducible apply Mr.ext) | (with_reducible refine Mr.setCell ?_ (by first | (simp; done) | (simp; omega) | omega) _))); done)) _)))) (by first | exact I2 | exact I2.mr (by repeat (first | (with_reducible exact Mr.refl _) | (with_reducible apply Mr.drew) | (with_reducible apply Mr.alloc) | (with_reducible apply Mr.ext) | (with_reducible refine Mr.setCell ?_ (by first | (simp; done) | (simp; omega) | omega | (refine leOf0 ?_; (repeat (first | (with_reducible exact Mr.refl _) | (with_reducible apply Mr.drew) | (with_reducible apply Mr.alloc) | (with_reducible apply Mr.ext) | (with_reducible refine Mr.setCell ?_ (by first | (simp; done) | (simp; omega) | omega) _))); done) | (refine leOf ?_; (repeat (first | (with_reducible exact Mr.refl _) | (with_reducible apply Mr.drew) | (with_reducible apply Mr.alloc) | (with_reducible apply Mr.ext) | (with_reducible refine Mr.setCell ?_ (by first | (simp; done) | (simp; omega) | omega) _))); done)) _)))) rfl rfl).mono ?_; rintro e w' ⟨rfl, x, rfl⟩))
  all_goals
    go_wp2_with fail
    go_ret2
    exact ⟨rfl, Mr.mk' (by repeat (first | (with_reducible exact Mr.refl _) | (with_reducible apply Mr.drew) | (with_reducible apply Mr.alloc) | (with_reducible apply Mr.ext) | (with_reducible refine Mr.setCell ?_ (by first | (simp; done) | (simp; omega) | omega | (refine leOf0 ?_; (repeat (first | (with_reducible exact Mr.refl _) | (with_reducible apply Mr.drew) | (with_reducible apply Mr.alloc) | (with_reducible apply Mr.ext) | (with_reducible refine Mr.setCell ?_ (by first | (simp; done) | (simp; omega) | omega) _))); done) | (refine leOf ?_; (repeat (first | (with_reducible exact Mr.refl _) | (with_reducible apply Mr.drew) | (with_reducible apply Mr.alloc) | (with_reducible apply Mr.ext) | (with_reducible refine Mr.setCell ?_ (by first | (simp; done) | (simp; omega) | omega) _))); done)) _)))⟩
set_option maxHeartbeats 2000000 in
theorem rcross7_c (a0 a1 a2 b0 b1 b2 : Int) (w : World) (hA0 : B64 a0) (hA1 : B64 a1) (hA2 : B64 a2) (hB0 : B64 b0) (hB1 : B64 b1) (hB2 : B64 b2) :
    Calls Try.prog 19 #[.agg #[.int .i64 a0, .int .i64 a1, .int .i64 a2], .agg #[.int .i64 b0, .int .i64 b1, .int .i64 b2]] w fun e w' => e = .returned (.tuple #[.agg #[.int .i64 (pv a1 a2 b2 b1), .int .i64 (pv a2 a0 b0 b2), .int .i64 (pv a0 a1 b1 b0)], .bool (pb a1 a2 b2 b1 || pb a2 a0 b0 b2 || pb a0 a1 b1 b0)]) ∧ ∃ x : Ext w, w' = x.u := by
  cases h0 : pb a1 a2 b2 b1 <;> cases h1 : pb a2 a0 b0 b2 <;> cases h2 : pb a0 a1 b1 b0
  all_goals
    go_enter Try.func19, Try.ntmps19
    go_wp2_with (go_at_call 39; refine (rpart_c _ _ _ _ _ (by assumption) (by assumption) (by assumption)).mono ?_; rintro e w' ⟨rfl, x, rfl⟩)
    exact bodyPost_ret (by simp [results, Try.results19, go_sem]) rfl ⟨rfl, Mr.mk' (by repeat (first | (with_reducible exact Mr.refl _) | (with_reducible apply Mr.drew) | (with_reducible apply Mr.alloc) | (with_reducible apply Mr.ext) | (with_reducible refine Mr.setCell ?_ (by first | (simp; done) | (simp; omega) | omega | (refine leOf0 ?_; (repeat (first | (with_reducible exact Mr.refl _) | (with_reducible apply Mr.drew) | (with_reducible apply Mr.alloc) | (with_reducible apply Mr.ext) | (with_reducible refine Mr.setCell ?_ (by first | (simp; done) | (simp; omega) | omega) _))); done) | (refine leOf ?_; (repeat (first | (with_reducible exact Mr.refl _) | (with_reducible apply Mr.drew) | (with_reducible apply Mr.alloc) | (with_reducible apply Mr.ext) | (with_reducible refine Mr.setCell ?_ (by first | (simp; done) | (simp; omega) | omega) _))); done)) _)))⟩
set_option maxHeartbeats 4000000 in
theorem runit7_c (a0 a1 a2 : Int) (w : World) (hA0 : B64 a0) (hA1 : B64 a1) (hA2 : B64 a2) :
    Calls Try.prog 23 #[.agg #[.int .i64 a0, .int .i64 a1, .int .i64 a2]] w fun e w' => e = .returned (if lv [a0, a1, a2] = 0 then .tuple #[.agg #[.int .i64 0, .int .i64 0, .int .i64 0], .bool true] else .tuple #[.agg #[.int .i64 (qv a0 (lv [a0, a1, a2])), .int .i64 (qv a1 (lv [a0, a1, a2])), .int .i64 (qv a2 (lv [a0, a1, a2]))], .bool (lb [a0, a1, a2] || qb a0 (lv [a0, a1, a2]) || qb a1 (lv [a0, a1, a2]) || qb a2 (lv [a0, a1, a2]))]) ∧ ∃ x : Ext w, w' = x.u := by
  obtain ⟨n, hn⟩ : ∃ n, lv [a0, a1, a2] = n := ⟨_, rfl⟩
  rw [hn]
  by_cases h : n = 0
  · subst h
    go_enter Try.func23, Try.ntmps23
    go_wp2_with (go_at_call 21; refine (rlen7_c _ _ _ _ hA0 hA1 hA2).mono ?_; rintro e w' ⟨rfl, x, rfl⟩)
    exact bodyPost_ret (by simp [results, Try.results23, go_sem]) rfl ⟨rfl, Mr.mk' (by repeat (first | (with_reducible exact Mr.refl _) | (with_reducible apply Mr.drew) | (with_reducible apply Mr.alloc) | (with_reducible apply Mr.ext) | (with_reducible refine Mr.setCell ?_ (by first | (simp; done) | (simp; omega) | omega | (refine leOf0 ?_; (repeat (first | (with_reducible exact Mr.refl _) | (with_reducible apply Mr.drew) | (with_reducible apply Mr.alloc) | (with_reducible apply Mr.ext) | (with_reducible refine Mr.setCell ?_ (by first | (simp; done) | (simp; omega) | omega) _))); done) | (refine leOf ?_; (repeat (first | (with_reducible exact Mr.refl _) | (with_reducible apply Mr.drew) | (with_reducible apply Mr.alloc) | (with_reducible apply Mr.ext) | (with_reducible refine Mr.setCell ?_ (by first | (simp; done) | (simp; omega) | omega) _))); done)) _)))⟩
  · rw [if_neg h]
    have h' : (n == 0) = false := by simpa using h
    cases h0 : lb [a0, a1, a2] <;> cases h1 : qb a0 n <;> cases h2 : qb a1 n <;> cases h3 : qb a2 n
    all_goals
      go_enter Try.func23, Try.ntmps23
      go_wp2_with (first | (go_at_call 21; refine (rlen7_c _ _ _ _ hA0 hA1 hA2).mono ?_; rintro e w' ⟨rfl, x, rfl⟩) | (go_at_call 44; refine (rover_c _ _ _).mono ?_; rintro e w' ⟨rfl, x, rfl⟩))
      exact bodyPost_ret (by simp [results, Try.results23, go_sem]) rfl ⟨rfl, Mr.mk' (by repeat (first | (with_reducible exact Mr.refl _) | (with_reducible apply Mr.drew) | (with_reducible apply Mr.alloc) | (with_reducible apply Mr.ext) | (with_reducible refine Mr.setCell ?_ (by first | (simp; done) | (simp; omega) | omega | (refine leOf0 ?_; (repeat (first | (with_reducible exact Mr.refl _) | (with_reducible apply Mr.drew) | (with_reducible apply Mr.alloc) | (with_reducible apply Mr.ext) | (with_reducible refine Mr.setCell ?_ (by first | (simp; done) | (simp; omega) | omega) _))); done) | (refine leOf ?_; (repeat (first | (with_reducible exact Mr.refl _) | (with_reducible apply Mr.drew) | (with_reducible apply Mr.alloc) | (with_reducible apply Mr.ext) | (with_reducible refine Mr.setCell ?_ (by first | (simp; done) | (simp; omega) | omega) _))); done)) _)))⟩
end Vc
end Go.Proofs.Ythogobmflinnpaa
