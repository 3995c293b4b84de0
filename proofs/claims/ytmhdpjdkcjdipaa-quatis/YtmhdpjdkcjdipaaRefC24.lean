/- The contracts of the document's own answers of layer 9, last part. -/
import Derived.Test.YtmhdpjdkcjdipaaRefC23
namespace Go.Proofs.Ytmhdpjdkcjdipaa
open Go.ChangeShapes Go.WideShapes Go.ChangeAt Go.RowKit
open Go.Proofs.Ytmhdpjdkcjdipaa.Fx Go.Proofs.Ytmhdpjdkcjdipaa.Wd Go.Proofs.Ytmhdpjdkcjdipaa.Sc Go.Proofs.Ytmhdpjdkcjdipaa.Rt Go.Proofs.Ytmhdpjdkcjdipaa.Sm Go.Proofs.Ytmhdpjdkcjdipaa.Vc
set_option linter.unusedVariables false
attribute [local go_sem] Ext.cell Ext.froz Ext.lt Ext.lt1 Ext.lt2 Ext.lt3 Ext.all Ext.set_u drew_heap setCell_size Ext.set_size
namespace Qa
open Sl
theorem rnorm_n9 {a : Option Addr} {c : Nat} {l : List Int} {w : World} (n : Nat) (h : Sl.Is w a c l) (hn : l.length = n) :
    Calls Try.prog 37 #[.slice a n c] w fun e w' => e = .returned (.tuple #[.int .i64 (lv l), .bool (lb l)]) ∧ ∃ x : Ext w, w' = x.u := by
  subst hn; exact rnorm_c a c l w h
set_option maxRecDepth 100000 in
set_option maxHeartbeats 1000000 in
theorem rnorm9_c {a0 a1 a2 a3 n : Int} {f : Bool} {w : World} (hA : W64 (⟨a0, a1, a2, a3⟩ : Q)) (hn : nv (⟨a0, a1, a2, a3⟩ : Q) = n) (hf : nb (⟨a0, a1, a2, a3⟩ : Q) = f) : Calls Try.prog 14 #[.agg #[.int .i64 a0, .int .i64 a1, .int .i64 a2, .int .i64 a3]] w fun e w' => e = .returned (.tuple #[.int .i64 n, .bool f]) ∧ ∃ x : Ext w, w' = x.u := by
  have e1 : lv [a0, a1, a2, a3] = n := by rw [← hn]; exact (lv4 (⟨a0, a1, a2, a3⟩ : Q)).1
  have e2 : lb [a0, a1, a2, a3] = f := by rw [← hf]; exact (lv4 (⟨a0, a1, a2, a3⟩ : Q)).2
  go_enter Try.func14, Try.ntmps14
  go_wp2_with (first | (go_at_call 37; refine (rnorm_n9 (l := [a0, a1, a2, a3]) 4 (by first | exact is4 _ (by simp) hA.1 hA.2.1 hA.2.2.1 hA.2.2.2 | exact (is4 _ (by simp) hA.1 hA.2.1 hA.2.2.1 hA.2.2.2).mr (by repeat (first | (with_reducible exact Mr.refl _) | (with_reducible apply Mr.drew) | (with_reducible apply Mr.alloc) | (with_reducible apply Mr.ext) | (with_reducible refine Mr.setCell ?_ (by first | (simp; done) | (simp; omega) | omega | (refine leOf0 ?_; (repeat (first | (with_reducible exact Mr.refl _) | (with_reducible apply Mr.drew) | (with_reducible apply Mr.alloc) | (with_reducible apply Mr.ext) | (with_reducible refine Mr.setCell ?_ (by first | (simp; done) | (simp; omega) | omega) _))); done) | (refine leOf ?_; (repeat (first | (with_reducible exact Mr.refl _) | (with_reducible apply Mr.drew) | (with_reducible apply Mr.alloc) | (with_reducible apply Mr.ext) | (with_reducible refine Mr.setCell ?_ (by first | (simp; done) | (simp; omega) | omega) _))); done)) _)))) rfl).mono ?_; rw [e1, e2]; rintro e w' ⟨rfl, x, rfl⟩))
  go_ret2
  exact ⟨rfl, Mr.mk' (by repeat (first | (with_reducible exact Mr.refl _) | (with_reducible apply Mr.drew) | (with_reducible apply Mr.alloc) | (with_reducible apply Mr.ext) | (with_reducible refine Mr.setCell ?_ (by first | (simp; done) | (simp; omega) | omega | (refine leOf0 ?_; (repeat (first | (with_reducible exact Mr.refl _) | (with_reducible apply Mr.drew) | (with_reducible apply Mr.alloc) | (with_reducible apply Mr.ext) | (with_reducible refine Mr.setCell ?_ (by first | (simp; done) | (simp; omega) | omega) _))); done) | (refine leOf ?_; (repeat (first | (with_reducible exact Mr.refl _) | (with_reducible apply Mr.drew) | (with_reducible apply Mr.alloc) | (with_reducible apply Mr.ext) | (with_reducible refine Mr.setCell ?_ (by first | (simp; done) | (simp; omega) | omega) _))); done)) _)))⟩
theorem mr_set1 {V V' W : World} (X : Ext W) {a : Addr} {p : Value} (h : Mr V X.u) (e : V.setCell a p = V') : Mr V' (X.set a p).u := by
  rw [← e]
  exact h.both a p
set_option maxRecDepth 100000 in
set_option maxHeartbeats 4000000 in
theorem runit9_c {a0 a1 a2 a3 m0 m1 m2 m3 : Int} {f : Bool} {w : World} (hA : W64 (⟨a0, a1, a2, a3⟩ : Q)) (hM : unit (⟨a0, a1, a2, a3⟩ : Q) = (⟨m0, m1, m2, m3⟩ : Q)) (hf : ub (⟨a0, a1, a2, a3⟩ : Q) = f) : Calls Try.prog 16 #[.agg #[.int .i64 a0, .int .i64 a1, .int .i64 a2, .int .i64 a3]] w fun e w' => e = .returned (.tuple #[.agg #[.int .i64 m0, .int .i64 m1, .int .i64 m2, .int .i64 m3], .bool f]) ∧ ∃ x : Ext w, w' = x.u := by
  obtain ⟨n, hn⟩ : ∃ n, nv (⟨a0, a1, a2, a3⟩ : Q) = n := ⟨_, rfl⟩
  obtain ⟨c, hnb⟩ : ∃ c, nb (⟨a0, a1, a2, a3⟩ : Q) = c := ⟨_, rfl⟩
  unfold unit at hM
  unfold ub at hf
  rw [hn] at hM hf
  by_cases h : n = 0
  · rw [if_pos h] at hM hf
    subst h
    unfold one at hM
    simp only [Q.mk.injEq] at hM
    obtain ⟨rfl, rfl, rfl, rfl⟩ := hM
    subst hf
    go_enter Try.func16, Try.ntmps16
    go_wp2_with (first | (go_at_call 14; refine (rnorm9_c hA hn hnb).mono ?_; rintro e w' ⟨rfl, x, rfl⟩) | (go_at_call 24; refine (rone9_c _).mono ?_; rintro e w' ⟨rfl, x, rfl⟩))
    exact bodyPost_ret (by simp [results, Try.results16, go_sem]) rfl ⟨rfl, Mr.mk' (by repeat (first | (with_reducible exact Mr.refl _) | (with_reducible apply Mr.drew) | (with_reducible apply Mr.alloc) | (with_reducible apply Mr.ext) | (with_reducible refine Mr.setCell ?_ (by first | (simp; done) | (simp; omega) | omega | (refine leOf0 ?_; (repeat (first | (with_reducible exact Mr.refl _) | (with_reducible apply Mr.drew) | (with_reducible apply Mr.alloc) | (with_reducible apply Mr.ext) | (with_reducible refine Mr.setCell ?_ (by first | (simp; done) | (simp; omega) | omega) _))); done) | (refine leOf ?_; (repeat (first | (with_reducible exact Mr.refl _) | (with_reducible apply Mr.drew) | (with_reducible apply Mr.alloc) | (with_reducible apply Mr.ext) | (with_reducible refine Mr.setCell ?_ (by first | (simp; done) | (simp; omega) | omega) _))); done)) _)))⟩
  · rw [if_neg h] at hM hf
    simp only [Q.mk.injEq] at hM
    obtain ⟨rfl, rfl, rfl, rfl⟩ := hM
    rw [hnb] at hf
    have h' : (n == 0) = false := by simpa using h
    go_enter Try.func16, Try.ntmps16
    go_wp2_with (first | (go_at_call 14; refine (rnorm9_c hA hn hnb).mono ?_; rintro e w' ⟨rfl, x, rfl⟩) | (go_at_call 24; refine (rone9_c _).mono ?_; rintro e w' ⟨rfl, x, rfl⟩))
    go_loopw [5, 7] (fun o i wr => (o = .bool (c) ∧ i = .int .i64 0 ∧ ∃ y : Ext (x.u.alloc (.cells #[.int .i64 0, .int .i64 0, .int .i64 0, .int .i64 0] 22)), wr = y.u) ∨ (o = .bool (c || qb a0 n) ∧ i = .int .i64 1 ∧ ∃ y : Ext (x.u.alloc (.cells #[.int .i64 (qv a0 n), .int .i64 0, .int .i64 0, .int .i64 0] 22)), wr = y.u) ∨ (o = .bool (c || qb a0 n || qb a1 n) ∧ i = .int .i64 2 ∧ ∃ y : Ext (x.u.alloc (.cells #[.int .i64 (qv a0 n), .int .i64 (qv a1 n), .int .i64 0, .int .i64 0] 22)), wr = y.u) ∨ (o = .bool (c || qb a0 n || qb a1 n || qb a2 n) ∧ i = .int .i64 3 ∧ ∃ y : Ext (x.u.alloc (.cells #[.int .i64 (qv a0 n), .int .i64 (qv a1 n), .int .i64 (qv a2 n), .int .i64 0] 22)), wr = y.u) ∨ (o = .bool (c || qb a0 n || qb a1 n || qb a2 n || qb a3 n) ∧ i = .int .i64 4 ∧ ∃ y : Ext (x.u.alloc (.cells #[.int .i64 (qv a0 n), .int .i64 (qv a1 n), .int .i64 (qv a2 n), .int .i64 (qv a3 n)] 22)), wr = y.u)) (fun _ i _ => (4 - intOf i).toNat)
    case atStart => exact .inl ⟨rfl, rfl, Mr.mk' (Mr.refl _)⟩
    case round =>
      clear hn hnb hA
      rcases hrel with ⟨rfl, rfl, y, rfl⟩ | ⟨rfl, rfl, y, rfl⟩ | ⟨rfl, rfl, y, rfl⟩ | ⟨rfl, rfl, y, rfl⟩ | ⟨rfl, rfl, y, rfl⟩
      · clear hf
        generalize hg : (c) = g at *
        cases g
        all_goals
          go_wp2_with (first | (go_at_call 40; refine (rover_c _ _ _).mono ?_; rintro e w' ⟨rfl, x9, rfl⟩))
          go_roundw
          case rel => exact .inr (.inl ⟨by first | rfl | simp [hg], rfl, Mr.mk' (mr_set1 (V := (x.u.alloc (.cells #[.int .i64 0, .int .i64 0, .int .i64 0, .int .i64 0] 22))) _ (by repeat (first | (with_reducible exact Mr.refl _) | (with_reducible apply Mr.drew) | (with_reducible apply Mr.alloc) | (with_reducible apply Mr.ext) | (with_reducible refine Mr.setCell ?_ (by first | (simp; done) | (simp; omega) | omega | (refine leOf0 ?_; (repeat (first | (with_reducible exact Mr.refl _) | (with_reducible apply Mr.drew) | (with_reducible apply Mr.alloc) | (with_reducible apply Mr.ext) | (with_reducible refine Mr.setCell ?_ (by first | (simp; done) | (simp; omega) | omega) _))); done) | (refine leOf ?_; (repeat (first | (with_reducible exact Mr.refl _) | (with_reducible apply Mr.drew) | (with_reducible apply Mr.alloc) | (with_reducible apply Mr.ext) | (with_reducible refine Mr.setCell ?_ (by first | (simp; done) | (simp; omega) | omega) _))); done)) _))) (by simp [go_sem]))⟩)
          case measure => simp [intOf]
      · clear hf
        generalize hg : (c || qb a0 n) = g at *
        cases g
        all_goals
          go_wp2_with (first | (go_at_call 40; refine (rover_c _ _ _).mono ?_; rintro e w' ⟨rfl, x9, rfl⟩))
          go_roundw
          case rel => exact .inr (.inr (.inl ⟨by first | rfl | simp [hg], rfl, Mr.mk' (mr_set1 (V := (x.u.alloc (.cells #[.int .i64 (qv a0 n), .int .i64 0, .int .i64 0, .int .i64 0] 22))) _ (by repeat (first | (with_reducible exact Mr.refl _) | (with_reducible apply Mr.drew) | (with_reducible apply Mr.alloc) | (with_reducible apply Mr.ext) | (with_reducible refine Mr.setCell ?_ (by first | (simp; done) | (simp; omega) | omega | (refine leOf0 ?_; (repeat (first | (with_reducible exact Mr.refl _) | (with_reducible apply Mr.drew) | (with_reducible apply Mr.alloc) | (with_reducible apply Mr.ext) | (with_reducible refine Mr.setCell ?_ (by first | (simp; done) | (simp; omega) | omega) _))); done) | (refine leOf ?_; (repeat (first | (with_reducible exact Mr.refl _) | (with_reducible apply Mr.drew) | (with_reducible apply Mr.alloc) | (with_reducible apply Mr.ext) | (with_reducible refine Mr.setCell ?_ (by first | (simp; done) | (simp; omega) | omega) _))); done)) _))) (by simp [go_sem]))⟩))
          case measure => simp [intOf]
      · clear hf
        generalize hg : (c || qb a0 n || qb a1 n) = g at *
        cases g
        all_goals
          go_wp2_with (first | (go_at_call 40; refine (rover_c _ _ _).mono ?_; rintro e w' ⟨rfl, x9, rfl⟩))
          go_roundw
          case rel => exact .inr (.inr (.inr (.inl ⟨by first | rfl | simp [hg], rfl, Mr.mk' (mr_set1 (V := (x.u.alloc (.cells #[.int .i64 (qv a0 n), .int .i64 (qv a1 n), .int .i64 0, .int .i64 0] 22))) _ (by repeat (first | (with_reducible exact Mr.refl _) | (with_reducible apply Mr.drew) | (with_reducible apply Mr.alloc) | (with_reducible apply Mr.ext) | (with_reducible refine Mr.setCell ?_ (by first | (simp; done) | (simp; omega) | omega | (refine leOf0 ?_; (repeat (first | (with_reducible exact Mr.refl _) | (with_reducible apply Mr.drew) | (with_reducible apply Mr.alloc) | (with_reducible apply Mr.ext) | (with_reducible refine Mr.setCell ?_ (by first | (simp; done) | (simp; omega) | omega) _))); done) | (refine leOf ?_; (repeat (first | (with_reducible exact Mr.refl _) | (with_reducible apply Mr.drew) | (with_reducible apply Mr.alloc) | (with_reducible apply Mr.ext) | (with_reducible refine Mr.setCell ?_ (by first | (simp; done) | (simp; omega) | omega) _))); done)) _))) (by simp [go_sem]))⟩)))
          case measure => simp [intOf]
      · clear hf
        generalize hg : (c || qb a0 n || qb a1 n || qb a2 n) = g at *
        cases g
        all_goals
          go_wp2_with (first | (go_at_call 40; refine (rover_c _ _ _).mono ?_; rintro e w' ⟨rfl, x9, rfl⟩))
          go_roundw
          case rel => exact .inr (.inr (.inr (.inr (⟨by first | rfl | simp [hg], rfl, Mr.mk' (mr_set1 (V := (x.u.alloc (.cells #[.int .i64 (qv a0 n), .int .i64 (qv a1 n), .int .i64 (qv a2 n), .int .i64 0] 22))) _ (by repeat (first | (with_reducible exact Mr.refl _) | (with_reducible apply Mr.drew) | (with_reducible apply Mr.alloc) | (with_reducible apply Mr.ext) | (with_reducible refine Mr.setCell ?_ (by first | (simp; done) | (simp; omega) | omega | (refine leOf0 ?_; (repeat (first | (with_reducible exact Mr.refl _) | (with_reducible apply Mr.drew) | (with_reducible apply Mr.alloc) | (with_reducible apply Mr.ext) | (with_reducible refine Mr.setCell ?_ (by first | (simp; done) | (simp; omega) | omega) _))); done) | (refine leOf ?_; (repeat (first | (with_reducible exact Mr.refl _) | (with_reducible apply Mr.drew) | (with_reducible apply Mr.alloc) | (with_reducible apply Mr.ext) | (with_reducible refine Mr.setCell ?_ (by first | (simp; done) | (simp; omega) | omega) _))); done)) _))) (by simp [go_sem]))⟩))))
          case measure => simp [intOf]
      · rw [hf]
        go_wp2
        exact bodyPost_ret (by simp [results, Try.results16, go_sem]) rfl ⟨rfl, Mr.mk' (by repeat (first | (with_reducible exact Mr.refl _) | (with_reducible apply Mr.drew) | (with_reducible apply Mr.alloc) | (with_reducible apply Mr.ext) | (with_reducible refine Mr.setCell ?_ (by first | (simp; done) | (simp; omega) | omega | (refine leOf0 ?_; (repeat (first | (with_reducible exact Mr.refl _) | (with_reducible apply Mr.drew) | (with_reducible apply Mr.alloc) | (with_reducible apply Mr.ext) | (with_reducible refine Mr.setCell ?_ (by first | (simp; done) | (simp; omega) | omega) _))); done) | (refine leOf ?_; (repeat (first | (with_reducible exact Mr.refl _) | (with_reducible apply Mr.drew) | (with_reducible apply Mr.alloc) | (with_reducible apply Mr.ext) | (with_reducible refine Mr.setCell ?_ (by first | (simp; done) | (simp; omega) | omega) _))); done)) _)))⟩
theorem tv_b64 (a b : Int) : B64 (tv a b) := cl_b64 _
set_option maxRecDepth 100000 in
set_option maxHeartbeats 4000000 in
theorem rsmall9_c {a b c m0 m1 m2 m3 : Int} {f : Bool} {w : World} (hM : unit (sml a b c) = (⟨m0, m1, m2, m3⟩ : Q)) (hf : (tb a 2147483648 || tb b 2147483648 || tb c 2147483648 || ub (sml a b c)) = f) : Calls Try.prog 18 #[.agg #[.int .i64 a, .int .i64 b, .int .i64 c]] w fun e w' => e = .returned (.tuple #[.agg #[.int .i64 m0, .int .i64 m1, .int .i64 m2, .int .i64 m3], .bool f]) ∧ ∃ x : Ext w, w' = x.u := by
  have hS6 : W64 (sml a b c) := ⟨(by decide : B64 4294967296), tv_b64 _ _, tv_b64 _ _, tv_b64 _ _⟩
  obtain ⟨u, hu⟩ : ∃ u, ub (sml a b c) = u := ⟨_, rfl⟩
  rw [hu] at hf
  unfold sml at hM hu hS6
  go_enter Try.func18, Try.ntmps18
  go_wp2_with (first | (go_at_call 24; refine (rone9_c _).mono ?_; rintro e w' ⟨rfl, x, rfl⟩))
  go_loopw [5, 6] (fun o i wr => (o = .bool (false) ∧ i = .int .i64 0 ∧ ∃ y : Ext (x.u.alloc (.cells #[.int .i64 4294967296, .int .i64 0, .int .i64 0, .int .i64 0] 22)), wr = y.u) ∨ (o = .bool (tb a 2147483648) ∧ i = .int .i64 1 ∧ ∃ y : Ext (x.u.alloc (.cells #[.int .i64 4294967296, .int .i64 (tv a 2147483648), .int .i64 0, .int .i64 0] 22)), wr = y.u) ∨ (o = .bool (tb a 2147483648 || tb b 2147483648) ∧ i = .int .i64 2 ∧ ∃ y : Ext (x.u.alloc (.cells #[.int .i64 4294967296, .int .i64 (tv a 2147483648), .int .i64 (tv b 2147483648), .int .i64 0] 22)), wr = y.u) ∨ (o = .bool (tb a 2147483648 || tb b 2147483648 || tb c 2147483648) ∧ i = .int .i64 3 ∧ ∃ y : Ext (x.u.alloc (.cells #[.int .i64 4294967296, .int .i64 (tv a 2147483648), .int .i64 (tv b 2147483648), .int .i64 (tv c 2147483648)] 22)), wr = y.u)) (fun _ i _ => (3 - intOf i).toNat)
  case atStart => exact .inl ⟨rfl, rfl, Mr.mk' (Mr.refl _)⟩
  case round =>
    rcases hrel with ⟨rfl, rfl, y, rfl⟩ | ⟨rfl, rfl, y, rfl⟩ | ⟨rfl, rfl, y, rfl⟩ | ⟨rfl, rfl, y, rfl⟩
    · · clear hf hM hu hS6
        all_goals
          go_wp2_with (first | (go_at_call 42; refine (rtimes_c _ _ _).mono ?_; rintro e w' ⟨rfl, x9, rfl⟩))
          go_roundw
          case rel => exact .inr (.inl ⟨by first | rfl | simp, rfl, Mr.mk' (mr_set1 (V := (x.u.alloc (.cells #[.int .i64 4294967296, .int .i64 0, .int .i64 0, .int .i64 0] 22))) _ (by repeat (first | (with_reducible exact Mr.refl _) | (with_reducible apply Mr.drew) | (with_reducible apply Mr.alloc) | (with_reducible apply Mr.ext) | (with_reducible refine Mr.setCell ?_ (by first | (simp; done) | (simp; omega) | omega | (refine leOf0 ?_; (repeat (first | (with_reducible exact Mr.refl _) | (with_reducible apply Mr.drew) | (with_reducible apply Mr.alloc) | (with_reducible apply Mr.ext) | (with_reducible refine Mr.setCell ?_ (by first | (simp; done) | (simp; omega) | omega) _))); done) | (refine leOf ?_; (repeat (first | (with_reducible exact Mr.refl _) | (with_reducible apply Mr.drew) | (with_reducible apply Mr.alloc) | (with_reducible apply Mr.ext) | (with_reducible refine Mr.setCell ?_ (by first | (simp; done) | (simp; omega) | omega) _))); done)) _))) (by simp [go_sem]))⟩)
          case measure => simp [intOf]
    · · clear hf hM hu hS6
        generalize hg : (tb a 2147483648) = g at *
        cases g
        all_goals
          go_wp2_with (first | (go_at_call 42; refine (rtimes_c _ _ _).mono ?_; rintro e w' ⟨rfl, x9, rfl⟩))
          go_roundw
          case rel => exact .inr (.inr (.inl ⟨by first | rfl | simp [hg], rfl, Mr.mk' (mr_set1 (V := (x.u.alloc (.cells #[.int .i64 4294967296, .int .i64 (tv a 2147483648), .int .i64 0, .int .i64 0] 22))) _ (by repeat (first | (with_reducible exact Mr.refl _) | (with_reducible apply Mr.drew) | (with_reducible apply Mr.alloc) | (with_reducible apply Mr.ext) | (with_reducible refine Mr.setCell ?_ (by first | (simp; done) | (simp; omega) | omega | (refine leOf0 ?_; (repeat (first | (with_reducible exact Mr.refl _) | (with_reducible apply Mr.drew) | (with_reducible apply Mr.alloc) | (with_reducible apply Mr.ext) | (with_reducible refine Mr.setCell ?_ (by first | (simp; done) | (simp; omega) | omega) _))); done) | (refine leOf ?_; (repeat (first | (with_reducible exact Mr.refl _) | (with_reducible apply Mr.drew) | (with_reducible apply Mr.alloc) | (with_reducible apply Mr.ext) | (with_reducible refine Mr.setCell ?_ (by first | (simp; done) | (simp; omega) | omega) _))); done)) _))) (by simp [go_sem]))⟩))
          case measure => simp [intOf]
    · · clear hf hM hu hS6
        generalize hg : (tb a 2147483648 || tb b 2147483648) = g at *
        cases g
        all_goals
          go_wp2_with (first | (go_at_call 42; refine (rtimes_c _ _ _).mono ?_; rintro e w' ⟨rfl, x9, rfl⟩))
          go_roundw
          case rel => exact .inr (.inr (.inr (⟨by first | rfl | simp [hg], rfl, Mr.mk' (mr_set1 (V := (x.u.alloc (.cells #[.int .i64 4294967296, .int .i64 (tv a 2147483648), .int .i64 (tv b 2147483648), .int .i64 0] 22))) _ (by repeat (first | (with_reducible exact Mr.refl _) | (with_reducible apply Mr.drew) | (with_reducible apply Mr.alloc) | (with_reducible apply Mr.ext) | (with_reducible refine Mr.setCell ?_ (by first | (simp; done) | (simp; omega) | omega | (refine leOf0 ?_; (repeat (first | (with_reducible exact Mr.refl _) | (with_reducible apply Mr.drew) | (with_reducible apply Mr.alloc) | (with_reducible apply Mr.ext) | (with_reducible refine Mr.setCell ?_ (by first | (simp; done) | (simp; omega) | omega) _))); done) | (refine leOf ?_; (repeat (first | (with_reducible exact Mr.refl _) | (with_reducible apply Mr.drew) | (with_reducible apply Mr.alloc) | (with_reducible apply Mr.ext) | (with_reducible refine Mr.setCell ?_ (by first | (simp; done) | (simp; omega) | omega) _))); done)) _))) (by simp [go_sem]))⟩)))
          case measure => simp [intOf]
    · generalize hg : (tb a 2147483648 || tb b 2147483648 || tb c 2147483648) = g at *
      subst hf
      cases g
      all_goals
        go_wp2_with (first | (go_at_call 16; refine (runit9_c hS6 hM hu).mono ?_; rintro e w' ⟨rfl, x, rfl⟩))
        exact bodyPost_ret (by simp [results, Try.results18, go_sem]) rfl ⟨rfl, Mr.mk' (by repeat (first | (with_reducible exact Mr.refl _) | (with_reducible apply Mr.drew) | (with_reducible apply Mr.alloc) | (with_reducible apply Mr.ext) | (with_reducible refine Mr.setCell ?_ (by first | (simp; done) | (simp; omega) | omega | (refine leOf0 ?_; (repeat (first | (with_reducible exact Mr.refl _) | (with_reducible apply Mr.drew) | (with_reducible apply Mr.alloc) | (with_reducible apply Mr.ext) | (with_reducible refine Mr.setCell ?_ (by first | (simp; done) | (simp; omega) | omega) _))); done) | (refine leOf ?_; (repeat (first | (with_reducible exact Mr.refl _) | (with_reducible apply Mr.drew) | (with_reducible apply Mr.alloc) | (with_reducible apply Mr.ext) | (with_reducible refine Mr.setCell ?_ (by first | (simp; done) | (simp; omega) | omega) _))); done)) _)))⟩
set_option maxRecDepth 100000 in
set_option maxHeartbeats 4000000 in
theorem rrot9_c {a0 a1 a2 a3 a b c m0 m1 m2 m3 : Int} {f : Bool} {w : World} (hA : W64 (⟨a0, a1, a2, a3⟩ : Q)) (hV : W64 (pure a b c)) (hM : rot (⟨a0, a1, a2, a3⟩ : Q) a b c = (⟨m0, m1, m2, m3⟩ : Q)) (hf : rb (⟨a0, a1, a2, a3⟩ : Q) a b c = f) : Calls Try.prog 20 #[.agg #[.int .i64 a0, .int .i64 a1, .int .i64 a2, .int .i64 a3], .agg #[.int .i64 a, .int .i64 b, .int .i64 c]] w fun e w' => e = .returned (.tuple #[.agg #[.int .i64 m1, .int .i64 m2, .int .i64 m3], .bool f]) ∧ ∃ x : Ext w, w' = x.u := by
  have hH6 : W64 (half (⟨a0, a1, a2, a3⟩ : Q) a b c) := mul_w64 _ _
  have hB6 := back_w64 (⟨a0, a1, a2, a3⟩ : Q)
  obtain ⟨h0', h1', h2', h3', hH⟩ : ∃ p q r s, half (⟨a0, a1, a2, a3⟩ : Q) a b c = ⟨p, q, r, s⟩ := ⟨_, _, _, _, rfl⟩
  obtain ⟨b0, b1, b2, b3, hB⟩ : ∃ p q r s, back (⟨a0, a1, a2, a3⟩ : Q) = ⟨p, q, r, s⟩ := ⟨_, _, _, _, rfl⟩
  have h1 : mul (⟨a0, a1, a2, a3⟩ : Q) ⟨0, a, b, c⟩ = ⟨h0', h1', h2', h3'⟩ := hH
  have h2 : mul ⟨h0', h1', h2', h3'⟩ ⟨b0, b1, b2, b3⟩ = (⟨m0, m1, m2, m3⟩ : Q) := by rw [← hM]; unfold rot; rw [hH, hB]
  obtain ⟨g1, f1'⟩ : ∃ g, mb (⟨a0, a1, a2, a3⟩ : Q) ⟨0, a, b, c⟩ = g := ⟨_, rfl⟩
  obtain ⟨g2, f2'⟩ : ∃ g, mb ⟨h0', h1', h2', h3'⟩ ⟨b0, b1, b2, b3⟩ = g := ⟨_, rfl⟩
  have hf' : (g1 || g2) = f := by rw [← hf, ← f1', ← f2']; unfold rb; rw [hH, hB]; rfl
  rw [hH] at hH6
  rw [hB] at hB6
  unfold pure at hV
  clear hM hf hH
  have k1 : Unit := ()
  have k2 : Unit := ()
  subst hf'
  cases g1
  all_goals
    go_enter Try.func20, Try.ntmps20
    go_wp2_with (first | (go_at_call 12; (have := k1; clear this k1); refine (rmul9_c hA hV h1 f1').mono ?_; rintro e w' ⟨rfl, x, rfl⟩))
    go_region_held3 (fun w' => w'.cell? ⟨x.u.heap.size, 0, none⟩ = some (.int .i64 h0') ∧ w'.cell? ⟨x.u.heap.size, 1, none⟩ = some (.int .i64 h1') ∧ w'.cell? ⟨x.u.heap.size, 2, none⟩ = some (.int .i64 h2') ∧ w'.cell? ⟨x.u.heap.size, 3, none⟩ = some (.int .i64 h3') ∧ w'.cell? ⟨w.heap.size, 0, none⟩ = some (.int .i64 a0) ∧ w'.cell? ⟨w.heap.size, 1, none⟩ = some (.int .i64 a1) ∧ w'.cell? ⟨w.heap.size, 2, none⟩ = some (.int .i64 a2) ∧ w'.cell? ⟨w.heap.size, 3, none⟩ = some (.int .i64 a3)) ((simp [go_sem]; done)) (first | (go_at_call 12; (have := k2; clear this k2); refine (rmul9_c hH6 hB6 h2 f2').mono ?_; rintro e w' ⟨rfl, x, rfl⟩) | (go_at_call 22; refine (rback9_c hB).mono ?_; rintro e w' ⟨rfl, x, rfl⟩))
    all_goals
      go_wp2_with fail
      exact bodyPost_ret (by simp [results, Try.results20, go_sem]) rfl ⟨rfl, Mr.mk' (by repeat (first | (with_reducible exact Mr.refl _) | (with_reducible apply Mr.drew) | (with_reducible apply Mr.alloc) | (with_reducible apply Mr.ext) | (with_reducible refine Mr.setCell ?_ (by first | (simp; done) | (simp; omega) | omega | (refine leOf0 ?_; (repeat (first | (with_reducible exact Mr.refl _) | (with_reducible apply Mr.drew) | (with_reducible apply Mr.alloc) | (with_reducible apply Mr.ext) | (with_reducible refine Mr.setCell ?_ (by first | (simp; done) | (simp; omega) | omega) _))); done) | (refine leOf ?_; (repeat (first | (with_reducible exact Mr.refl _) | (with_reducible apply Mr.drew) | (with_reducible apply Mr.alloc) | (with_reducible apply Mr.ext) | (with_reducible refine Mr.setCell ?_ (by first | (simp; done) | (simp; omega) | omega) _))); done)) _)))⟩
end Qa
end Go.Proofs.Ytmhdpjdkcjdipaa
