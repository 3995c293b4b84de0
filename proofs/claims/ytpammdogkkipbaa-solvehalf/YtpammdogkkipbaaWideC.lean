/- The contracts of package wide. -/
import Derived.Test.YtpammdogkkipbaaMemC
import Derived.Test.YtpammdogkkipbaaFixC
import Derived.Test.YtpammdogkkipbaaWideM
import Derived.Deep.RegionHeld3
import Derived.Deep.RegionWith
import Derived.Deep.DrawnRows
import Derived.Deep.DeepCutAuto
namespace Go.Proofs.Ytpammdogkkipbaa
open Go.ChangeShapes Go.WideShapes Go.ChangeAt Go.RowKit
open Go.Proofs.Ytpammdogkkipbaa.Fx
set_option linter.unusedVariables false
attribute [local go_sem] Ext.cell Ext.froz Ext.lt Ext.lt1 Ext.lt2 Ext.lt3 Ext.all Ext.set_u drew_heap setCell_size Ext.set_size
namespace Wd
theorem eq_wide (a b c d : Int) (w : World) : (Op.equalIn 10000 75 (.agg #[.int .i64 a, .int .i64 b]) (.agg #[.int .i64 c, .int .i64 d])).run Try.prog w = .ok (eqw a b c d) w := by
  by_cases h : a = c
  · by_cases k : b = d <;> simp [go_sem, eqw, h, k]
  · simp [go_sem, eqw, h]
attribute [local go_sem ↓] eq_wide eqw_self
theorem sgn64 : IntKind.i64.signed = true := rfl
attribute [local go_sem] and62 and1 sgn64 not64
def sh (h : Int) : Int := min (max h (-2305843009213693952)) 2305843009213693951
def sl (l : Int) : Int := min (max l 0) 4611686018427387903
theorem eqw_sn (p q : Int) : eqw p q (sh p) (sl q) = sn p q := by
  unfold eqw sh sl sn; simp only [decide_eq_decide]; omega
set_option maxHeartbeats 400000 in
theorem stopped_c (p q : Int) (w : World) :
    Calls Try.prog 101 #[.agg #[.int .i64 p, .int .i64 q]] w fun e w' => e = .returned (.agg #[.int .i64 (sh p), .int .i64 (sl q)]) ∧ ∃ x : Ext w, w' = x.u := by
  go_enter Try.func101, Try.ntmps101
  go_wp2
  all_goals
    exact bodyPost_ret (v := .agg #[.int .i64 (sh p), .int .i64 (sl q)]) (by simp [results, Try.results101, go_sem]; unfold sh sl; omega) rfl ⟨rfl, Mr.mk' (by repeat (first | (with_reducible exact Mr.refl _) | (with_reducible apply Mr.drew) | (with_reducible apply Mr.alloc) | (with_reducible apply Mr.ext) | (with_reducible refine Mr.setCell ?_ (by first | (simp; done) | (simp; omega) | omega | (refine leOf0 ?_; (repeat (first | (with_reducible exact Mr.refl _) | (with_reducible apply Mr.drew) | (with_reducible apply Mr.alloc) | (with_reducible apply Mr.ext) | (with_reducible refine Mr.setCell ?_ (by first | (simp; done) | (simp; omega) | omega) _))); done) | (refine leOf ?_; (repeat (first | (with_reducible exact Mr.refl _) | (with_reducible apply Mr.drew) | (with_reducible apply Mr.alloc) | (with_reducible apply Mr.ext) | (with_reducible refine Mr.setCell ?_ (by first | (simp; done) | (simp; omega) | omega) _))); done)) _)))⟩
set_option maxHeartbeats 400000 in
theorem sane_c (p q : Int) (w : World) :
    Calls Try.prog 92 #[.agg #[.int .i64 p, .int .i64 q]] w fun e w' => e = .returned (.bool (sn p q)) ∧ ∃ x : Ext w, w' = x.u := by
  go_enter Try.func92, Try.ntmps92
  go_wp2
  refine wp_region_ext (by kernel_rfl) (by kernel_rfl) ?_
  repeat (go_big_quiet_step ((go_at_call 101; exact extCall (stopped_c _ _ _))))
  refine wpQuiet_nil ?_
  rintro w1 ⟨x1, rfl⟩
  go_wp2
  go_ret
  exact ⟨by rw [← eqw_sn]; rfl, Mr.mk' (by repeat (first | (with_reducible exact Mr.refl _) | (with_reducible apply Mr.drew) | (with_reducible apply Mr.alloc) | (with_reducible apply Mr.ext) | (with_reducible refine Mr.setCell ?_ (by first | (simp; done) | (simp; omega) | omega | (refine leOf0 ?_; (repeat (first | (with_reducible exact Mr.refl _) | (with_reducible apply Mr.drew) | (with_reducible apply Mr.alloc) | (with_reducible apply Mr.ext) | (with_reducible refine Mr.setCell ?_ (by first | (simp; done) | (simp; omega) | omega) _))); done) | (refine leOf ?_; (repeat (first | (with_reducible exact Mr.refl _) | (with_reducible apply Mr.drew) | (with_reducible apply Mr.alloc) | (with_reducible apply Mr.ext) | (with_reducible refine Mr.setCell ?_ (by first | (simp; done) | (simp; omega) | omega) _))); done)) _)))⟩
set_option maxHeartbeats 400000 in
theorem counted_c (p q : Int) (w : World) :
    Calls Try.prog 97 #[.agg #[.int .i64 p, .int .i64 q]] w fun e w' => e = .returned (.agg #[.int .i64 (hi (vw p q)), .int .i64 (lo (vw p q))]) ∧ ∃ x : Ext w, w' = x.u := by
  cases hs : sn p q
  · have h1 : vw p q = 0 := vw_nsn hs
    go_enter Try.func97, Try.ntmps97
    go_wp2_with (go_at_call 92; refine (sane_c _ _ _).mono ?_; rintro e w' ⟨rfl, x, rfl⟩)
    exact bodyPost_ret (v := .agg #[.int .i64 (hi 0), .int .i64 (lo 0)]) (by simp [results, Try.results97, go_sem, hl_zero.1, hl_zero.2]) rfl ⟨by rw [h1], Mr.mk' (by repeat (first | (with_reducible exact Mr.refl _) | (with_reducible apply Mr.drew) | (with_reducible apply Mr.alloc) | (with_reducible apply Mr.ext) | (with_reducible refine Mr.setCell ?_ (by first | (simp; done) | (simp; omega) | omega | (refine leOf0 ?_; (repeat (first | (with_reducible exact Mr.refl _) | (with_reducible apply Mr.drew) | (with_reducible apply Mr.alloc) | (with_reducible apply Mr.ext) | (with_reducible refine Mr.setCell ?_ (by first | (simp; done) | (simp; omega) | omega) _))); done) | (refine leOf ?_; (repeat (first | (with_reducible exact Mr.refl _) | (with_reducible apply Mr.drew) | (with_reducible apply Mr.alloc) | (with_reducible apply Mr.ext) | (with_reducible refine Mr.setCell ?_ (by first | (simp; done) | (simp; omega) | omega) _))); done)) _)))⟩
  · have h1 := hl_vw hs
    have HD : Hid (p = hi (vw p q) ∧ q = lo (vw p q)) := h1
    clear h1
    go_enter Try.func97, Try.ntmps97
    go_wp2_with (go_at_call 92; refine (sane_c _ _ _).mono ?_; rintro e w' ⟨rfl, x, rfl⟩)
    exact bodyPost_ret (v := .agg #[.int .i64 (hi (vw p q)), .int .i64 (lo (vw p q))]) (by simp [results, Try.results97, go_sem]; exact HD.out) rfl ⟨rfl, Mr.mk' (by repeat (first | (with_reducible exact Mr.refl _) | (with_reducible apply Mr.drew) | (with_reducible apply Mr.alloc) | (with_reducible apply Mr.ext) | (with_reducible refine Mr.setCell ?_ (by first | (simp; done) | (simp; omega) | omega | (refine leOf0 ?_; (repeat (first | (with_reducible exact Mr.refl _) | (with_reducible apply Mr.drew) | (with_reducible apply Mr.alloc) | (with_reducible apply Mr.ext) | (with_reducible refine Mr.setCell ?_ (by first | (simp; done) | (simp; omega) | omega) _))); done) | (refine leOf ?_; (repeat (first | (with_reducible exact Mr.refl _) | (with_reducible apply Mr.drew) | (with_reducible apply Mr.alloc) | (with_reducible apply Mr.ext) | (with_reducible refine Mr.setCell ?_ (by first | (simp; done) | (simp; omega) | omega) _))); done)) _)))⟩
set_option maxHeartbeats 400000 in
theorem wof_c (n : Int) (w : World) (hn : -9223372036854775808 ≤ n ∧ n ≤ 9223372036854775807) :
    Calls Try.prog 90 #[.int .i64 n] w fun e w' => e = .returned (.agg #[.int .i64 (hi n), .int .i64 (lo n)]) ∧ ∃ x : Ext w, w' = x.u := by
  obtain ⟨hn0, hn1⟩ := hn
  go_enter Try.func90, Try.ntmps90
  go_wp2
  exact bodyPost_ret (v := .agg #[.int .i64 (hi n), .int .i64 (lo n)]) (by simp [results, Try.results90, go_sem]; exact ⟨rfl, rfl⟩) rfl ⟨rfl, Mr.mk' (by repeat (first | (with_reducible exact Mr.refl _) | (with_reducible apply Mr.drew) | (with_reducible apply Mr.alloc) | (with_reducible apply Mr.ext) | (with_reducible refine Mr.setCell ?_ (by first | (simp; done) | (simp; omega) | omega | (refine leOf0 ?_; (repeat (first | (with_reducible exact Mr.refl _) | (with_reducible apply Mr.drew) | (with_reducible apply Mr.alloc) | (with_reducible apply Mr.ext) | (with_reducible refine Mr.setCell ?_ (by first | (simp; done) | (simp; omega) | omega) _))); done) | (refine leOf ?_; (repeat (first | (with_reducible exact Mr.refl _) | (with_reducible apply Mr.drew) | (with_reducible apply Mr.alloc) | (with_reducible apply Mr.ext) | (with_reducible refine Mr.setCell ?_ (by first | (simp; done) | (simp; omega) | omega) _))); done)) _)))⟩
set_option maxHeartbeats 400000 in
theorem nan_c (a : Int) (w : World) :
    Calls Try.prog 59 #[.int .i64 a] w fun e w' => e = .returned (.bool false) ∧ w' = w := by
  go_enter Try.func59, Try.ntmps59
  go_wp2
  go_ret
  exact ⟨rfl, rfl⟩
theorem ret_i' {a b : Int} (h : a = b) : Ending.returned (.int .i64 a) = .returned (.int .i64 b) := by rw [h]
set_option maxHeartbeats 400000 in
theorem cmp_c (a b : Int) (w : World) :
    Calls Try.prog 32 #[.int .i64 a, .int .i64 b] w fun e w' => e = .returned (.int .i64 (cm a b)) ∧ w' = w := by
  go_enter Try.func32, Try.ntmps32
  go_wp2_with (go_at_call 59; refine (nan_c _ _).mono ?_; rintro e w' ⟨rfl, rfl⟩)
  all_goals
    go_ret
    exact ⟨ret_i' (by unfold cm; repeat' split
                      all_goals omega), rfl⟩
theorem add_math {a b : Int} (ha : inr a = true) (hb : inr b = true) : hi (a + b) = hi a + hi b + (lo a + lo b) / 4611686018427387904 ∧ lo (a + b) = (lo a + lo b) % 4611686018427387904 := by
  unfold hi lo; omega
set_option maxHeartbeats 2000000 in
theorem wadd_c (p q r s : Int) (w : World) :
    Calls Try.prog 86 #[.agg #[.int .i64 p, .int .i64 q], .agg #[.int .i64 r, .int .i64 s]] w fun e w' => e = .returned (.tuple #[.agg #[.int .i64 (hi (cut (vw p q + vw r s))), .int .i64 (lo (cut (vw p q + vw r s)))], .bool (inr (vw p q + vw r s))]) ∧ ∃ x : Ext w, w' = x.u := by
  have ha := vw_inr p q
  have hb := vw_inr r s
  generalize hg : vw p q = a at *
  generalize hg2 : vw r s = b at *
  obtain ⟨m1, m2⟩ := add_math ha hb
  have b1 := hi_bd ha
  have b2 := hi_bd hb
  have b3 := lo_bd a
  have b4 := lo_bd b
  have M1 : Hid (hi (a + b) = hi a + hi b + (lo a + lo b) / 4611686018427387904) := m1
  have M2 : Hid (lo (a + b) = (lo a + lo b) % 4611686018427387904) := m2
  clear m1 m2
  have m3 : sn (hi a + hi b + (lo a + lo b) / 4611686018427387904) ((lo a + lo b) % 4611686018427387904) = inr (a + b) := by
    rw [← M1.out, ← M2.out, sn_hl_eq]
  clear ha hb
  go_enter Try.func86, Try.ntmps86
  go_wp2
  go_cut [] (fun wx => ∃ y : Ext (((w.alloc (.cells #[.int .i64 (hi a), .int .i64 (lo a)] 75)).alloc (.cells #[.int .i64 (hi b), .int .i64 (lo b)] 75)).alloc (.cells #[.int .i64 0, .int .i64 0] 75)), wx = y.u)
  case first =>
    go_region_with ((go_at_call 97; refine (counted_c _ _ _).mono ?_; rintro e w' ⟨rfl, x, rfl⟩))
    all_goals
      go_wp2_with fail
      go_meet
      case rel => exact Mr.mk' (two_store _ _ _ _ _ _ _ _ _ _ (by simp [go_sem]))
  case rest =>
    obtain ⟨y, rfl⟩ := hcut
    cases hi0 : inr (a + b)
    all_goals
      rw [hi0] at m3
      go_wp2_with (go_at_call 92; refine (sane_c _ _ _).mono ?_; rintro e w' ⟨rfl, x, rfl⟩)
    · exact bodyPost_ret (v := .tuple #[.agg #[.int .i64 0, .int .i64 0], .bool false]) (by simp [results, Try.results86, go_sem]) rfl ⟨by rw [cut_no hi0, hl_zero.1, hl_zero.2, hi0], Mr.mk' (by repeat (first | (with_reducible exact Mr.refl _) | (with_reducible apply Mr.drew) | (with_reducible apply Mr.alloc) | (with_reducible apply Mr.ext) | (with_reducible refine Mr.setCell ?_ (by first | (simp; done) | (simp; omega) | omega | (refine leOf0 ?_; (repeat (first | (with_reducible exact Mr.refl _) | (with_reducible apply Mr.drew) | (with_reducible apply Mr.alloc) | (with_reducible apply Mr.ext) | (with_reducible refine Mr.setCell ?_ (by first | (simp; done) | (simp; omega) | omega) _))); done) | (refine leOf ?_; (repeat (first | (with_reducible exact Mr.refl _) | (with_reducible apply Mr.drew) | (with_reducible apply Mr.alloc) | (with_reducible apply Mr.ext) | (with_reducible refine Mr.setCell ?_ (by first | (simp; done) | (simp; omega) | omega) _))); done)) _)))⟩
    · exact bodyPost_ret (v := .tuple #[.agg #[.int .i64 (hi a + hi b + (lo a + lo b) / 4611686018427387904), .int .i64 ((lo a + lo b) % 4611686018427387904)], .bool true]) (by simp [results, Try.results86, go_sem]) rfl ⟨by rw [cut_of hi0, M1.out, M2.out, hi0], Mr.mk' (by repeat (first | (with_reducible exact Mr.refl _) | (with_reducible apply Mr.drew) | (with_reducible apply Mr.alloc) | (with_reducible apply Mr.ext) | (with_reducible refine Mr.setCell ?_ (by first | (simp; done) | (simp; omega) | omega | (refine leOf0 ?_; (repeat (first | (with_reducible exact Mr.refl _) | (with_reducible apply Mr.drew) | (with_reducible apply Mr.alloc) | (with_reducible apply Mr.ext) | (with_reducible refine Mr.setCell ?_ (by first | (simp; done) | (simp; omega) | omega) _))); done) | (refine leOf ?_; (repeat (first | (with_reducible exact Mr.refl _) | (with_reducible apply Mr.drew) | (with_reducible apply Mr.alloc) | (with_reducible apply Mr.ext) | (with_reducible refine Mr.setCell ?_ (by first | (simp; done) | (simp; omega) | omega) _))); done)) _)))⟩
theorem neg_math (a : Int) (h : inr a = true) : vw (-1 - hi a) (4611686018427387903 - lo a) = -1 - a := by
  have h1 := hi_bd h
  have h2 := lo_bd a
  have h3 := hi_lo a
  rw [vw_sn (by rw [sn_iff]; omega)]
  omega
theorem vw_one : vw (hi 1) (lo 1) = 1 := by decide
set_option maxHeartbeats 2000000 in
theorem wneg_c (p q : Int) (w : World) :
    Calls Try.prog 94 #[.agg #[.int .i64 p, .int .i64 q]] w fun e w' => e = .returned (.agg #[.int .i64 (hi (cut (-vw p q))), .int .i64 (lo (cut (-vw p q)))]) ∧ ∃ x : Ext w, w' = x.u := by
  have ha := vw_inr p q
  generalize hg : vw p q = a at *
  have b1 := hi_bd ha
  have b3 := lo_bd a
  have n1 : bits .xor .i64 (-1) (hi a) = -1 - hi a := not64 _ (by omega) (by omega)
  have n2 := neg_math a ha
  have n3 := vw_one
  clear ha
  go_enter Try.func94, Try.ntmps94
  go_wp2_with (go_at_call 97; refine (counted_c _ _ _).mono ?_; rintro e w' ⟨rfl, x, rfl⟩)
  go_region_held3 (fun w' => w'.cell? ⟨x.u.heap.size, 0, none⟩ = some (.int .i64 (-1 - hi a)) ∧ w'.cell? ⟨x.u.heap.size, 1, none⟩ = some (.int .i64 (4611686018427387903 - lo a))) ((simp [go_sem]; done)) (first | (go_at_call 90; refine (wof_c _ _ ?_).mono ?_; (first | omega | exact ⟨by omega, by omega⟩); rintro e w' ⟨rfl, x, rfl⟩) | (go_at_call 86; refine (wadd_c _ _ _ _ _).mono ?_; rintro e w' ⟨rfl, x, rfl⟩))
  all_goals
    go_wp2_with fail
    exact bodyPost_ret (v := .agg #[.int .i64 (hi (cut (-1 - a + 1))), .int .i64 (lo (cut (-1 - a + 1)))]) (by simp [results, Try.results94, go_sem]) rfl ⟨by rw [show -1 - a + 1 = -a by omega], Mr.mk' (by repeat (first | (with_reducible exact Mr.refl _) | (with_reducible apply Mr.drew) | (with_reducible apply Mr.alloc) | (with_reducible apply Mr.ext) | (with_reducible refine Mr.setCell ?_ (by first | (simp; done) | (simp; omega) | omega | (refine leOf0 ?_; (repeat (first | (with_reducible exact Mr.refl _) | (with_reducible apply Mr.drew) | (with_reducible apply Mr.alloc) | (with_reducible apply Mr.ext) | (with_reducible refine Mr.setCell ?_ (by first | (simp; done) | (simp; omega) | omega) _))); done) | (refine leOf ?_; (repeat (first | (with_reducible exact Mr.refl _) | (with_reducible apply Mr.drew) | (with_reducible apply Mr.alloc) | (with_reducible apply Mr.ext) | (with_reducible refine Mr.setCell ?_ (by first | (simp; done) | (simp; omega) | omega) _))); done)) _)))⟩
theorem cm_hl (a b : Int) : cm a b = if hi a = hi b then cm (lo a) (lo b) else cm (hi a) (hi b) := by
  unfold cm hi lo
  repeat' split
  all_goals omega
set_option maxHeartbeats 2000000 in
theorem wcmp_c (p q r s : Int) (w : World) :
    Calls Try.prog 100 #[.agg #[.int .i64 p, .int .i64 q], .agg #[.int .i64 r, .int .i64 s]] w fun e w' => e = .returned (.int .i64 (cm (vw p q) (vw r s))) ∧ ∃ x : Ext w, w' = x.u := by
  generalize hg : vw p q = a at *
  generalize hg2 : vw r s = b at *
  go_enter Try.func100, Try.ntmps100
  go_wp2
  go_cut [] (fun wx => ∃ y : Ext ((w.alloc (.cells #[.int .i64 (hi a), .int .i64 (lo a)] 75)).alloc (.cells #[.int .i64 (hi b), .int .i64 (lo b)] 75)), wx = y.u)
  case first =>
    go_region_with ((go_at_call 97; refine (counted_c _ _ _).mono ?_; rintro e w' ⟨rfl, x, rfl⟩))
    all_goals
      go_wp2_with fail
      go_meet
      case rel => exact Mr.mk' (two_store _ _ _ _ _ _ _ _ _ _ (by simp [go_sem]))
  case rest =>
    obtain ⟨y, rfl⟩ := hcut
    have hc := cm_hl a b
    have HC : Hid (cm a b = if hi a = hi b then cm (lo a) (lo b) else cm (hi a) (hi b)) := hc
    clear hc
    by_cases he : hi a = hi b
    · have hb : (hi a != hi b) = false := by simp [he]
      have HC2 : Hid (cm a b = cm (lo a) (lo b)) := by have := HC.out; rw [if_pos he] at this; exact this
      clear HC he
      go_wp2_with (go_at_call 32; refine (cmp_c _ _ _).mono ?_; rintro e w' ⟨rfl, rfl⟩)
      go_ret
      exact ⟨ret_i' HC2.out.symm, Mr.mk' (by repeat (first | (with_reducible exact Mr.refl _) | (with_reducible apply Mr.drew) | (with_reducible apply Mr.alloc) | (with_reducible apply Mr.ext) | (with_reducible refine Mr.setCell ?_ (by first | (simp; done) | (simp; omega) | omega | (refine leOf0 ?_; (repeat (first | (with_reducible exact Mr.refl _) | (with_reducible apply Mr.drew) | (with_reducible apply Mr.alloc) | (with_reducible apply Mr.ext) | (with_reducible refine Mr.setCell ?_ (by first | (simp; done) | (simp; omega) | omega) _))); done) | (refine leOf ?_; (repeat (first | (with_reducible exact Mr.refl _) | (with_reducible apply Mr.drew) | (with_reducible apply Mr.alloc) | (with_reducible apply Mr.ext) | (with_reducible refine Mr.setCell ?_ (by first | (simp; done) | (simp; omega) | omega) _))); done)) _)))⟩
    · have hb : (hi a != hi b) = true := by simp [he]
      have HC2 : Hid (cm a b = cm (hi a) (hi b)) := by have := HC.out; rw [if_neg he] at this; exact this
      clear HC he
      go_wp2_with (go_at_call 32; refine (cmp_c _ _ _).mono ?_; rintro e w' ⟨rfl, rfl⟩)
      go_ret
      exact ⟨ret_i' HC2.out.symm, Mr.mk' (by repeat (first | (with_reducible exact Mr.refl _) | (with_reducible apply Mr.drew) | (with_reducible apply Mr.alloc) | (with_reducible apply Mr.ext) | (with_reducible refine Mr.setCell ?_ (by first | (simp; done) | (simp; omega) | omega | (refine leOf0 ?_; (repeat (first | (with_reducible exact Mr.refl _) | (with_reducible apply Mr.drew) | (with_reducible apply Mr.alloc) | (with_reducible apply Mr.ext) | (with_reducible refine Mr.setCell ?_ (by first | (simp; done) | (simp; omega) | omega) _))); done) | (refine leOf ?_; (repeat (first | (with_reducible exact Mr.refl _) | (with_reducible apply Mr.drew) | (with_reducible apply Mr.alloc) | (with_reducible apply Mr.ext) | (with_reducible refine Mr.setCell ?_ (by first | (simp; done) | (simp; omega) | omega) _))); done)) _)))⟩
end Wd
end Go.Proofs.Ytpammdogkkipbaa
/- The contracts of package wide, second part. -/
namespace Go.Proofs.Ytpammdogkkipbaa
open Go.ChangeShapes Go.WideShapes Go.ChangeAt Go.RowKit
open Go.Proofs.Ytpammdogkkipbaa.Fx
set_option linter.unusedVariables false
attribute [local go_sem] Ext.cell Ext.froz Ext.lt Ext.lt1 Ext.lt2 Ext.lt3 Ext.all Ext.set_u drew_heap setCell_size Ext.set_size
namespace Wd
attribute [local go_sem ↓] eq_wide eqw_self
attribute [local go_sem] and62 and1 sgn64 not64 wrap_and

theorem vw_hl1 {n : Int} (h : -10633823966279326983230456482242756608 ≤ n ∧ n < 10633823966279326983230456482242756608) : vw (hi n) (lo n) = n := vw_hl (by rw [inr_iff]; exact h)
theorem cl_in {a : Int} (h0 : -288230376151711744 ≤ a) (h1 : a ≤ 288230376151711744) : cl a = a ∧ co a = false := by
  simp only [cl, co, wv, wb]; rw [if_neg (by omega), if_neg (by omega)]; refine ⟨rfl, ?_⟩; simp; omega
theorem cl_hi {a : Int} (h1 : 288230376151711744 < a) : cl a = 288230376151711744 ∧ co a = true := by
  simp only [cl, co, wv, wb]; rw [if_neg (by omega), if_pos h1]; refine ⟨rfl, ?_⟩; simp; omega
theorem cl_lo {a : Int} (h1 : a < -288230376151711744) : cl a = -288230376151711744 ∧ co a = true := by
  simp only [cl, co, wv, wb]; rw [if_pos h1]; refine ⟨rfl, ?_⟩; simp; omega
theorem int_math (a : Int) (h0 : -288230376151711744 ≤ a) (h1 : a ≤ 288230376151711744) : -1 ≤ hi a ∧ hi a ≤ 0 := by unfold hi; omega
set_option maxHeartbeats 2000000 in
theorem wint_c (p q : Int) (w : World) :
    Calls Try.prog 91 #[.agg #[.int .i64 p, .int .i64 q]] w fun e w' => e = .returned (.tuple #[.int .i64 (cl (vw p q)), .bool (!co (vw p q))]) ∧ ∃ x : Ext w, w' = x.u := by
  have ha := vw_inr p q
  generalize hg : vw p q = a at *
  have b1 := hi_bd ha
  have b3 := lo_bd a
  have b4 := hi_lo a
  have B4 : Hid (hi a * 4611686018427387904 + lo a = a) := b4
  have c2 := vw_hl ha
  have c1 : vw (hi 288230376151711744) (lo 288230376151711744) = 288230376151711744 := by decide
  have c3 : vw (hi (-288230376151711744)) (lo (-288230376151711744)) = -288230376151711744 := by decide
  clear ha b4
  by_cases h1 : 288230376151711744 < a
  · have d1 : cm a 288230376151711744 = 1 := by unfold cm; rw [if_neg (by omega), if_pos h1]
    have HR : Hid (cl a = 288230376151711744 ∧ co a = true) := cl_hi h1
    clear h1
    go_enter Try.func91, Try.ntmps91
    go_wp2_with (go_at_call 97; refine (counted_c _ _ _).mono ?_; rintro e w' ⟨rfl, x, rfl⟩)
    refine wp_region_ext (by kernel_rfl) (by kernel_rfl) ?_
    repeat (go_big_quiet_step ((first | (go_at_call 90; exact extCall (wof_c _ _ (by omega))) | (go_at_call 100; exact extCall (wcmp_c _ _ _ _ _)))))
    refine wpQuiet_nil ?_
    rintro w1 ⟨x1, rfl⟩
    go_wp2
    go_ret2
    exact ⟨ret_ib HR.out.1.symm (by rw [HR.out.2]; rfl), Mr.mk' (by repeat (first | (with_reducible exact Mr.refl _) | (with_reducible apply Mr.drew) | (with_reducible apply Mr.alloc) | (with_reducible apply Mr.ext) | (with_reducible refine Mr.setCell ?_ (by first | (simp; done) | (simp; omega) | omega | (refine leOf0 ?_; (repeat (first | (with_reducible exact Mr.refl _) | (with_reducible apply Mr.drew) | (with_reducible apply Mr.alloc) | (with_reducible apply Mr.ext) | (with_reducible refine Mr.setCell ?_ (by first | (simp; done) | (simp; omega) | omega) _))); done) | (refine leOf ?_; (repeat (first | (with_reducible exact Mr.refl _) | (with_reducible apply Mr.drew) | (with_reducible apply Mr.alloc) | (with_reducible apply Mr.ext) | (with_reducible refine Mr.setCell ?_ (by first | (simp; done) | (simp; omega) | omega) _))); done)) _)))⟩
  · by_cases h2 : a < -288230376151711744
    · have d1 : cm a 288230376151711744 = -1 := by unfold cm; rw [if_pos (by omega)]
      have d2 : cm a (-288230376151711744) = -1 := by unfold cm; rw [if_pos (by omega)]
      have HR : Hid (cl a = -288230376151711744 ∧ co a = true) := cl_lo h2
      clear h1 h2
      go_enter Try.func91, Try.ntmps91
      go_wp2_with (go_at_call 97; refine (counted_c _ _ _).mono ?_; rintro e w' ⟨rfl, x, rfl⟩)
      refine wp_region_ext (by kernel_rfl) (by kernel_rfl) ?_
      repeat (go_big_quiet_step ((first | (go_at_call 90; exact extCall (wof_c _ _ (by omega))) | (go_at_call 100; exact extCall (wcmp_c _ _ _ _ _)))))
      refine wpQuiet_nil ?_
      rintro w1 ⟨x1, rfl⟩
      go_wp2
      refine wp_region_ext (by kernel_rfl) (by kernel_rfl) ?_
      repeat (go_big_quiet_step ((first | (go_at_call 90; exact extCall (wof_c _ _ (by omega))) | (go_at_call 100; exact extCall (wcmp_c _ _ _ _ _)))))
      refine wpQuiet_nil ?_
      rintro w1 ⟨x2, rfl⟩
      go_wp2
      go_ret2
      exact ⟨ret_ib HR.out.1.symm (by rw [HR.out.2]; rfl), Mr.mk' (by repeat (first | (with_reducible exact Mr.refl _) | (with_reducible apply Mr.drew) | (with_reducible apply Mr.alloc) | (with_reducible apply Mr.ext) | (with_reducible refine Mr.setCell ?_ (by first | (simp; done) | (simp; omega) | omega | (refine leOf0 ?_; (repeat (first | (with_reducible exact Mr.refl _) | (with_reducible apply Mr.drew) | (with_reducible apply Mr.alloc) | (with_reducible apply Mr.ext) | (with_reducible refine Mr.setCell ?_ (by first | (simp; done) | (simp; omega) | omega) _))); done) | (refine leOf ?_; (repeat (first | (with_reducible exact Mr.refl _) | (with_reducible apply Mr.drew) | (with_reducible apply Mr.alloc) | (with_reducible apply Mr.ext) | (with_reducible refine Mr.setCell ?_ (by first | (simp; done) | (simp; omega) | omega) _))); done)) _)))⟩
    · have d1 : cm a 288230376151711744 ≤ 0 := by unfold cm; split <;> (try split) <;> omega
      have d2 : 0 ≤ cm a (-288230376151711744) := by unfold cm; split <;> (try split) <;> omega
      have HR : Hid (cl a = a ∧ co a = false) := cl_in (by omega) (by omega)
      obtain ⟨m1, m2⟩ := int_math a (by omega) (by omega)
      have HA : Hid (-288230376151711744 ≤ a ∧ a ≤ 288230376151711744) := ⟨by omega, by omega⟩
      clear h1 h2
      go_enter Try.func91, Try.ntmps91
      go_wp2_with (go_at_call 97; refine (counted_c _ _ _).mono ?_; rintro e w' ⟨rfl, x, rfl⟩)
      refine wp_region_ext (by kernel_rfl) (by kernel_rfl) ?_
      repeat (go_big_quiet_step ((first | (go_at_call 90; exact extCall (wof_c _ _ (by omega))) | (go_at_call 100; exact extCall (wcmp_c _ _ _ _ _)))))
      refine wpQuiet_nil ?_
      rintro w1 ⟨x1, rfl⟩
      go_wp2
      refine wp_region_ext (by kernel_rfl) (by kernel_rfl) ?_
      repeat (go_big_quiet_step ((first | (go_at_call 90; exact extCall (wof_c _ _ (by omega))) | (go_at_call 100; exact extCall (wcmp_c _ _ _ _ _)))))
      refine wpQuiet_nil ?_
      rintro w1 ⟨x2, rfl⟩
      go_wp2
      go_ret2
      exact ⟨ret_ib (by rw [HR.out.1]; exact B4.out) (by rw [HR.out.2]; rfl), Mr.mk' (by repeat (first | (with_reducible exact Mr.refl _) | (with_reducible apply Mr.drew) | (with_reducible apply Mr.alloc) | (with_reducible apply Mr.ext) | (with_reducible refine Mr.setCell ?_ (by first | (simp; done) | (simp; omega) | omega | (refine leOf0 ?_; (repeat (first | (with_reducible exact Mr.refl _) | (with_reducible apply Mr.drew) | (with_reducible apply Mr.alloc) | (with_reducible apply Mr.ext) | (with_reducible refine Mr.setCell ?_ (by first | (simp; done) | (simp; omega) | omega) _))); done) | (refine leOf ?_; (repeat (first | (with_reducible exact Mr.refl _) | (with_reducible apply Mr.drew) | (with_reducible apply Mr.alloc) | (with_reducible apply Mr.ext) | (with_reducible refine Mr.setCell ?_ (by first | (simp; done) | (simp; omega) | omega) _))); done)) _)))⟩
theorem dn_low (a k : Int) (j : Nat) (hj : (min (max k 0) 200).toNat = j) : dn a k = a / 2 ^ j := by unfold dn; rw [hj]
set_option maxHeartbeats 2000000 in
theorem wdown_c (p q k : Int) (w : World) :
    Calls Try.prog 89 #[.agg #[.int .i64 p, .int .i64 q], .int .i64 k] w fun e w' => e = .returned (.agg #[.int .i64 (hi (dn (vw p q) k)), .int .i64 (lo (dn (vw p q) k))]) ∧ ∃ x : Ext w, w' = x.u := by
  have ha := vw_inr p q
  generalize hg : vw p q = a at *
  have b1 := hi_bd ha
  have b3 := lo_bd a
  have b4 := hi_lo a
  have B4 : Hid (hi a * 4611686018427387904 + lo a = a) := b4
  clear ha b4
  generalize hd : dn a k = z
  have HD : Hid (dn a k = z) := hd
  clear hd
  by_cases h1 : k < 0
  · have e1 : bits .or .i64 0 (lo a) = lo a := by
      have := or64 62 0 (lo a) (by omega) (by decide) (by decide) b3.1 (by omega) (by omega)
      rw [this]; omega
    have E2 : Hid (z = a) := by
      have h := HD.out
      unfold dn at h
      rw [show (min (max k 0) 200).toNat = 0 by omega] at h
      simp at h
      exact h.symm
    go_enter Try.func89, Try.ntmps89
    go_wp2_with (go_at_call 97; refine (counted_c _ _ _).mono ?_; rintro e w' ⟨rfl, x, rfl⟩)
    go_region_held3 (fun w' => w'.cell? ⟨w.heap.size, 0, none⟩ = some (.int .i64 (hi a)) ∧ w'.cell? ⟨w.heap.size, 1, none⟩ = some (.int .i64 (lo a))) ((simp [go_sem]; done)) (fail)
    go_wp2_with fail
    exact bodyPost_ret (v := .agg #[.int .i64 (hi a), .int .i64 (lo a)]) (by simp [results, Try.results89, go_sem]) rfl ⟨by rw [E2.out], Mr.mk' (by repeat (first | (with_reducible exact Mr.refl _) | (with_reducible apply Mr.drew) | (with_reducible apply Mr.alloc) | (with_reducible apply Mr.ext) | (with_reducible refine Mr.setCell ?_ (by first | (simp; done) | (simp; omega) | omega | (refine leOf0 ?_; (repeat (first | (with_reducible exact Mr.refl _) | (with_reducible apply Mr.drew) | (with_reducible apply Mr.alloc) | (with_reducible apply Mr.ext) | (with_reducible refine Mr.setCell ?_ (by first | (simp; done) | (simp; omega) | omega) _))); done) | (refine leOf ?_; (repeat (first | (with_reducible exact Mr.refl _) | (with_reducible apply Mr.drew) | (with_reducible apply Mr.alloc) | (with_reducible apply Mr.ext) | (with_reducible refine Mr.setCell ?_ (by first | (simp; done) | (simp; omega) | omega) _))); done)) _)))⟩
  · by_cases h2 : 62 ≤ k
    · have m1 : dn a k = hi a / 2 ^ min (min k 200 - 62).toNat 64 := by
        rw [shr_cap (by omega) (by omega), dn_low a k (min k 200).toNat (by omega), dn_high a _ (by omega)]
        congr 2
        omega
      have m2 := div_pow_bd (T := 2305843009213693951) (by omega) (by omega) b1.2 (min (min k 200 - 62).toNat 64)
      rw [← m1] at m2
      by_cases h3 : 200 < k
      · rw [show min k 200 = 200 by omega] at m1
        have m3 : hi a / 18446744073709551616 = z := by rw [← HD.out, m1]; rfl
        have M2 : Hid (dn a k = z) := HD.out
        rw [M2.out] at m2
        clear m1 M2
        go_enter Try.func89, Try.ntmps89
        go_wp2_with (first | (go_at_call 97; refine (counted_c _ _ _).mono ?_; rintro e w' ⟨rfl, x, rfl⟩) | (go_at_call 90; refine (wof_c _ _ ?_).mono ?_; (first | omega | exact ⟨by omega, by omega⟩); rintro e w' ⟨rfl, x, rfl⟩))
        exact bodyPost_ret (v := .agg #[.int .i64 (hi z), .int .i64 (lo z)]) (by simp [results, Try.results89, go_sem]) rfl ⟨rfl, Mr.mk' (by repeat (first | (with_reducible exact Mr.refl _) | (with_reducible apply Mr.drew) | (with_reducible apply Mr.alloc) | (with_reducible apply Mr.ext) | (with_reducible refine Mr.setCell ?_ (by first | (simp; done) | (simp; omega) | omega | (refine leOf0 ?_; (repeat (first | (with_reducible exact Mr.refl _) | (with_reducible apply Mr.drew) | (with_reducible apply Mr.alloc) | (with_reducible apply Mr.ext) | (with_reducible refine Mr.setCell ?_ (by first | (simp; done) | (simp; omega) | omega) _))); done) | (refine leOf ?_; (repeat (first | (with_reducible exact Mr.refl _) | (with_reducible apply Mr.drew) | (with_reducible apply Mr.alloc) | (with_reducible apply Mr.ext) | (with_reducible refine Mr.setCell ?_ (by first | (simp; done) | (simp; omega) | omega) _))); done)) _)))⟩
      · rw [show min k 200 = k by omega] at m1
        have m3 : hi a / 2 ^ min (k - 62).toNat 64 = z := by rw [← HD.out, m1]
        have M2 : Hid (dn a k = z) := HD.out
        rw [M2.out] at m2
        clear m1 M2
        go_enter Try.func89, Try.ntmps89
        go_wp2_with (first | (go_at_call 97; refine (counted_c _ _ _).mono ?_; rintro e w' ⟨rfl, x, rfl⟩) | (go_at_call 90; refine (wof_c _ _ ?_).mono ?_; (first | omega | exact ⟨by omega, by omega⟩); rintro e w' ⟨rfl, x, rfl⟩))
        exact bodyPost_ret (v := .agg #[.int .i64 (hi z), .int .i64 (lo z)]) (by simp [results, Try.results89, go_sem]) rfl ⟨rfl, Mr.mk' (by repeat (first | (with_reducible exact Mr.refl _) | (with_reducible apply Mr.drew) | (with_reducible apply Mr.alloc) | (with_reducible apply Mr.ext) | (with_reducible refine Mr.setCell ?_ (by first | (simp; done) | (simp; omega) | omega | (refine leOf0 ?_; (repeat (first | (with_reducible exact Mr.refl _) | (with_reducible apply Mr.drew) | (with_reducible apply Mr.alloc) | (with_reducible apply Mr.ext) | (with_reducible refine Mr.setCell ?_ (by first | (simp; done) | (simp; omega) | omega) _))); done) | (refine leOf ?_; (repeat (first | (with_reducible exact Mr.refl _) | (with_reducible apply Mr.drew) | (with_reducible apply Mr.alloc) | (with_reducible apply Mr.ext) | (with_reducible refine Mr.setCell ?_ (by first | (simp; done) | (simp; omega) | omega) _))); done)) _)))⟩
    · obtain ⟨j, rfl⟩ := Int.eq_ofNat_of_zero_le (show 0 ≤ k by omega)
      obtain ⟨e1, e2⟩ := down_all a j (by omega)
      have m1 : min j 64 = j := by omega
      have m2 : min (62 - j) 64 = 62 - j := by omega
      have m3 : (62 - (j : Int)).toNat = 62 - j := by omega
      have h3 : (j : Int) ≤ 61 := by omega
      clear h2
      go_enter Try.func89, Try.ntmps89
      go_wp2_with (go_at_call 97; refine (counted_c _ _ _).mono ?_; rintro e w' ⟨rfl, x, rfl⟩)
      go_region_held3 (fun w' => w'.cell? ⟨w.heap.size, 0, none⟩ = some (.int .i64 (hi a)) ∧ w'.cell? ⟨w.heap.size, 1, none⟩ = some (.int .i64 (lo a))) ((simp [go_sem]; done)) (fail)
      go_wp2_with fail
      have E2 : Hid (z = a / 2 ^ j) := by
        have h := HD.out
        rw [dn_low a _ j (by omega)] at h
        exact h.symm
      exact bodyPost_ret (v := .agg #[.int .i64 (hi (a / 2 ^ j)), .int .i64 (lo (a / 2 ^ j))]) (by simp [results, Try.results89, go_sem]) rfl ⟨by rw [E2.out], Mr.mk' (by repeat (first | (with_reducible exact Mr.refl _) | (with_reducible apply Mr.drew) | (with_reducible apply Mr.alloc) | (with_reducible apply Mr.ext) | (with_reducible refine Mr.setCell ?_ (by first | (simp; done) | (simp; omega) | omega | (refine leOf0 ?_; (repeat (first | (with_reducible exact Mr.refl _) | (with_reducible apply Mr.drew) | (with_reducible apply Mr.alloc) | (with_reducible apply Mr.ext) | (with_reducible refine Mr.setCell ?_ (by first | (simp; done) | (simp; omega) | omega) _))); done) | (refine leOf ?_; (repeat (first | (with_reducible exact Mr.refl _) | (with_reducible apply Mr.drew) | (with_reducible apply Mr.alloc) | (with_reducible apply Mr.ext) | (with_reducible refine Mr.setCell ?_ (by first | (simp; done) | (simp; omega) | omega) _))); done)) _)))⟩
end Wd
end Go.Proofs.Ytpammdogkkipbaa
/- The contracts of package wide, third part: products. -/
namespace Go.Proofs.Ytpammdogkkipbaa
open Go.ChangeShapes Go.WideShapes Go.ChangeAt Go.RowKit
open Go.Proofs.Ytpammdogkkipbaa.Fx
set_option linter.unusedVariables false
attribute [local go_sem] Ext.cell Ext.froz Ext.lt Ext.lt1 Ext.lt2 Ext.lt3 Ext.all Ext.set_u drew_heap setCell_size Ext.set_size
namespace Wd
attribute [local go_sem ↓] eq_wide eqw_self
attribute [local go_sem] and62 and1 sgn64 not64 wrap_and
theorem and32u (n : Int) : bits .and .u64 n 4294967295 = n % 4294967296 := andu 32 (by decide) n
theorem and62u (n : Int) : bits .and .u64 n 4611686018427387903 = n % 4611686018427387904 := andu 62 (by decide) n
attribute [local go_sem] and32u and62u
theorem mul_parts (x1 x0 y1 y0 : Int) : (x1 * 4294967296 + x0) * (y1 * 4294967296 + y0) = x1 * y1 * 18446744073709551616 + (x1 * y0 + x0 * y1) * 4294967296 + x0 * y0 := by grind
theorem mul_le' {a b c d : Int} (h0 : 0 ≤ a) (h1 : a ≤ c) (h2 : 0 ≤ b) (h3 : b ≤ d) : 0 ≤ a * b ∧ a * b ≤ c * d :=
  ⟨Int.mul_nonneg h0 h2, Int.mul_le_mul h1 h3 h2 (by omega)⟩
theorem mul_hi (x y : Int) (hx : 0 ≤ x ∧ x ≤ 288230376151711744) (hy : 0 ≤ y ∧ y ≤ 288230376151711744) :
    x / 4294967296 * (y / 4294967296) + (x / 4294967296 * (y % 4294967296) + x % 4294967296 * (y % 4294967296) / 4294967296) / 4294967296 + ((x / 4294967296 * (y % 4294967296) + x % 4294967296 * (y % 4294967296) / 4294967296) % 4294967296 + x % 4294967296 * (y / 4294967296)) / 4294967296 = x * y / 18446744073709551616 ∧
    (0 ≤ x / 4294967296 * (y / 4294967296) ∧ x / 4294967296 * (y / 4294967296) ≤ 4503599627370496) ∧ (0 ≤ x / 4294967296 * (y % 4294967296) ∧ x / 4294967296 * (y % 4294967296) ≤ 288230376151711744) ∧ (0 ≤ x % 4294967296 * (y % 4294967296) ∧ x % 4294967296 * (y % 4294967296) ≤ 18446744065119617025) ∧ (0 ≤ x % 4294967296 * (y / 4294967296) ∧ x % 4294967296 * (y / 4294967296) ≤ 288230376151711744) ∧ (0 ≤ x * y ∧ x * y ≤ 83076749736557242056487941267521536) := by
  have e := mul_parts (x / 4294967296) (x % 4294967296) (y / 4294967296) (y % 4294967296)
  rw [show x / 4294967296 * 4294967296 + x % 4294967296 = x by omega, show y / 4294967296 * 4294967296 + y % 4294967296 = y by omega] at e
  have hA := mul_le' (a := x / 4294967296) (b := y / 4294967296) (c := 67108864) (d := 67108864) (by omega) (by omega) (by omega) (by omega)
  have hB := mul_le' (a := x / 4294967296) (b := y % 4294967296) (c := 67108864) (d := 4294967295) (by omega) (by omega) (by omega) (by omega)
  have hC := mul_le' (a := x % 4294967296) (b := y / 4294967296) (c := 4294967295) (d := 67108864) (by omega) (by omega) (by omega) (by omega)
  have hD := mul_le' (a := x % 4294967296) (b := y % 4294967296) (c := 4294967295) (d := 4294967295) (by omega) (by omega) (by omega) (by omega)
  have hE := mul_le' (a := x) (b := y) (c := 288230376151711744) (d := 288230376151711744) (by omega) (by omega) (by omega) (by omega)
  rw [e] at hE ⊢
  generalize x / 4294967296 * (y / 4294967296) = A at *
  generalize x / 4294967296 * (y % 4294967296) = B at *
  generalize x % 4294967296 * (y / 4294967296) = C at *
  generalize x % 4294967296 * (y % 4294967296) = D at *
  refine ⟨by omega, by omega, by omega, by omega, by omega, by omega⟩
theorem ret_uu {a b c d : Int} (h : a = c) (g : b = d) : Ending.returned (.tuple #[.int .u64 a, .int .u64 b]) = .returned (.tuple #[.int .u64 c, .int .u64 d]) := by rw [h, g]
set_option maxHeartbeats 2000000 in
theorem mul64_c (x y : Int) (w : World) (hx : 0 ≤ x ∧ x ≤ 288230376151711744) (hy : 0 ≤ y ∧ y ≤ 288230376151711744) :
    Calls Try.prog 102 #[.int .u64 x, .int .u64 y] w fun e w' => e = .returned (.tuple #[.int .u64 (x * y / 18446744073709551616), .int .u64 (x * y % 18446744073709551616)]) ∧ w' = w := by
  obtain ⟨e, hA, hB, hD, hC, hE⟩ := mul_hi x y hx hy
  have E := Hid.out e
  have HE : Hid (x / 4294967296 * (y / 4294967296) + (x / 4294967296 * (y % 4294967296) + x % 4294967296 * (y % 4294967296) / 4294967296) / 4294967296 + ((x / 4294967296 * (y % 4294967296) + x % 4294967296 * (y % 4294967296) / 4294967296) % 4294967296 + x % 4294967296 * (y / 4294967296)) / 4294967296 = x * y / 18446744073709551616) := e
  clear e E
  go_enter Try.func102, Try.ntmps102
  go_wp2
  go_ret2
  exact ⟨ret_uu (by rw [← HE.out]) (by rw [IntKind.wrap_u64]), rfl⟩
theorem sizes_math (z : Int) (h0 : 0 ≤ z) (h1 : z ≤ 83076749736557242056487941267521536) :
    bits .or .u64 (z / 18446744073709551616 * 4) (z % 18446744073709551616 / 4611686018427387904) = hi z ∧ z % 18446744073709551616 % 4611686018427387904 = lo z ∧ 0 ≤ hi z ∧ hi z ≤ 18014398509481984 ∧ 0 ≤ z / 18446744073709551616 ∧ z / 18446744073709551616 ≤ 4503599627370496 := by
  refine ⟨?_, by unfold lo; omega, by unfold hi; omega, by unfold hi; omega, by omega, by omega⟩
  rw [oru 2 _ _ (by omega) (by omega) (by omega) (by omega) (by omega) (by omega)]
  unfold hi; omega
set_option maxHeartbeats 2000000 in
theorem sizes_c (x y : Int) (w : World) (hx : 0 ≤ x ∧ x ≤ 288230376151711744) (hy : 0 ≤ y ∧ y ≤ 288230376151711744) :
    Calls Try.prog 93 #[.int .u64 x, .int .u64 y] w fun e w' => e = .returned (.agg #[.int .i64 (hi (x * y)), .int .i64 (lo (x * y))]) ∧ ∃ z : Ext w, w' = z.u := by
  have hE := mul_le' (a := x) (b := y) (c := 288230376151711744) (d := 288230376151711744) hx.1 hx.2 hy.1 hy.2
  generalize hz : x * y = z at *
  obtain ⟨o1, o2, o3, o4, o5, o6⟩ := sizes_math z hE.1 (by omega)
  have o7 := lo_bd z
  go_enter Try.func93, Try.ntmps93
  go_wp2_with (go_at_call 102; refine (mul64_c _ _ _ ?_ ?_).mono ?_; (first | omega | exact ⟨by omega, by omega⟩); (first | omega | exact ⟨by omega, by omega⟩); rintro e w' ⟨rfl, rfl⟩)
  exact bodyPost_ret (v := .agg #[.int .i64 (hi z), .int .i64 (lo z)]) (by simp [results, Try.results93, go_sem]) rfl ⟨rfl, Mr.mk' (by repeat (first | (with_reducible exact Mr.refl _) | (with_reducible apply Mr.drew) | (with_reducible apply Mr.alloc) | (with_reducible apply Mr.ext) | (with_reducible refine Mr.setCell ?_ (by first | (simp; done) | (simp; omega) | omega | (refine leOf0 ?_; (repeat (first | (with_reducible exact Mr.refl _) | (with_reducible apply Mr.drew) | (with_reducible apply Mr.alloc) | (with_reducible apply Mr.ext) | (with_reducible refine Mr.setCell ?_ (by first | (simp; done) | (simp; omega) | omega) _))); done) | (refine leOf ?_; (repeat (first | (with_reducible exact Mr.refl _) | (with_reducible apply Mr.drew) | (with_reducible apply Mr.alloc) | (with_reducible apply Mr.ext) | (with_reducible refine Mr.setCell ?_ (by first | (simp; done) | (simp; omega) | omega) _))); done)) _)))⟩
theorem ab_bd (a : Int) : 0 ≤ ab a ∧ ab a ≤ 288230376151711744 := by have := cl_bd a; unfold ab; omega
theorem ab_neg {a : Int} (h : a < 0) : cl a = -ab a := by unfold ab cl wv; repeat' split
                                                          all_goals omega
theorem ab_pos {a : Int} (h : ¬ a < 0) : cl a = ab a := by unfold ab cl wv; repeat' split
                                                           all_goals omega
theorem mul_inr {a b : Int} (ha : 0 ≤ a ∧ a ≤ 288230376151711744) (hb : 0 ≤ b ∧ b ≤ 288230376151711744) : inr (a * b) = true ∧ inr (-(a * b)) = true := by
  have h := mul_le' (a := a) (b := b) (c := 288230376151711744) (d := 288230376151711744) ha.1 ha.2 hb.1 hb.2
  rw [inr_iff, inr_iff]; omega
/-- The product of what two numbers count as. -/
def ml (a b : Int) : Int := cl a * cl b
theorem ml_inr (a b : Int) : inr (ml a b) = true := by
  have h := mul_inr (ab_bd a) (ab_bd b)
  unfold ml
  by_cases ha : a < 0 <;> by_cases hb : b < 0
  · rw [ab_neg ha, ab_neg hb, Int.neg_mul_neg]; exact h.1
  · rw [ab_neg ha, ab_pos hb, Int.neg_mul]; exact h.2
  · rw [ab_pos ha, ab_neg hb, Int.mul_neg]; exact h.2
  · rw [ab_pos ha, ab_pos hb]; exact h.1
set_option maxHeartbeats 2000000 in
theorem wmul_c (a b : Int) (w : World) :
    Calls Try.prog 79 #[.int .i64 a, .int .i64 b] w fun e w' => e = .returned (.agg #[.int .i64 (hi (ml a b)), .int .i64 (lo (ml a b))]) ∧ ∃ x : Ext w, w' = x.u := by
  have ha := ab_bd a
  have hb := ab_bd b
  have hm := mul_inr ha hb
  have hv := vw_hl hm.1
  have hc := cut_of hm.2
  by_cases h1 : a < 0 <;> by_cases h2 : b < 0
  · have M : Hid (ml a b = ab a * ab b) := by unfold ml; rw [ab_neg h1, ab_neg h2, Int.neg_mul_neg]; trivial
    clear hm hc
    have d1 : decide (a < 0) = true := by simpa using h1
    have d2 : decide (b < 0) = true := by simpa using h2
    clear h1 h2
    go_enter Try.func79, Try.ntmps79
    go_wp2_with (first | (go_at_call 34; refine (abs_c _ _).mono ?_; rintro e w' ⟨rfl, rfl⟩) | (go_at_call 93; refine (sizes_c _ _ _ ?_ ?_).mono ?_; (first | assumption | omega); (first | assumption | omega); rintro e w' ⟨rfl, x, rfl⟩) | (go_at_call 94; refine (wneg_c _ _ _).mono ?_; rintro e w' ⟨rfl, x, rfl⟩))
    exact bodyPost_ret (v := .agg #[.int .i64 (hi (ab a * ab b)), .int .i64 (lo (ab a * ab b))]) (by simp [results, Try.results79, go_sem]) rfl ⟨by rw [M.out], Mr.mk' (by repeat (first | (with_reducible exact Mr.refl _) | (with_reducible apply Mr.drew) | (with_reducible apply Mr.alloc) | (with_reducible apply Mr.ext) | (with_reducible refine Mr.setCell ?_ (by first | (simp; done) | (simp; omega) | omega | (refine leOf0 ?_; (repeat (first | (with_reducible exact Mr.refl _) | (with_reducible apply Mr.drew) | (with_reducible apply Mr.alloc) | (with_reducible apply Mr.ext) | (with_reducible refine Mr.setCell ?_ (by first | (simp; done) | (simp; omega) | omega) _))); done) | (refine leOf ?_; (repeat (first | (with_reducible exact Mr.refl _) | (with_reducible apply Mr.drew) | (with_reducible apply Mr.alloc) | (with_reducible apply Mr.ext) | (with_reducible refine Mr.setCell ?_ (by first | (simp; done) | (simp; omega) | omega) _))); done)) _)))⟩
  · have M : Hid (ml a b = -(ab a * ab b)) := by unfold ml; rw [ab_neg h1, ab_pos h2, Int.neg_mul]; trivial
    clear hm
    have d1 : decide (a < 0) = true := by simpa using h1
    have d2 : decide (b < 0) = false := by simpa using h2
    clear h1 h2
    go_enter Try.func79, Try.ntmps79
    go_wp2_with (first | (go_at_call 34; refine (abs_c _ _).mono ?_; rintro e w' ⟨rfl, rfl⟩) | (go_at_call 93; refine (sizes_c _ _ _ ?_ ?_).mono ?_; (first | assumption | omega); (first | assumption | omega); rintro e w' ⟨rfl, x, rfl⟩) | (go_at_call 94; refine (wneg_c _ _ _).mono ?_; rintro e w' ⟨rfl, x, rfl⟩))
    exact bodyPost_ret (v := .agg #[.int .i64 (hi (-(ab a * ab b))), .int .i64 (lo (-(ab a * ab b)))]) (by simp [results, Try.results79, go_sem]) rfl ⟨by rw [M.out], Mr.mk' (by repeat (first | (with_reducible exact Mr.refl _) | (with_reducible apply Mr.drew) | (with_reducible apply Mr.alloc) | (with_reducible apply Mr.ext) | (with_reducible refine Mr.setCell ?_ (by first | (simp; done) | (simp; omega) | omega | (refine leOf0 ?_; (repeat (first | (with_reducible exact Mr.refl _) | (with_reducible apply Mr.drew) | (with_reducible apply Mr.alloc) | (with_reducible apply Mr.ext) | (with_reducible refine Mr.setCell ?_ (by first | (simp; done) | (simp; omega) | omega) _))); done) | (refine leOf ?_; (repeat (first | (with_reducible exact Mr.refl _) | (with_reducible apply Mr.drew) | (with_reducible apply Mr.alloc) | (with_reducible apply Mr.ext) | (with_reducible refine Mr.setCell ?_ (by first | (simp; done) | (simp; omega) | omega) _))); done)) _)))⟩
  · have M : Hid (ml a b = -(ab a * ab b)) := by unfold ml; rw [ab_pos h1, ab_neg h2, Int.mul_neg]; trivial
    clear hm
    have d1 : decide (a < 0) = false := by simpa using h1
    have d2 : decide (b < 0) = true := by simpa using h2
    clear h1 h2
    go_enter Try.func79, Try.ntmps79
    go_wp2_with (first | (go_at_call 34; refine (abs_c _ _).mono ?_; rintro e w' ⟨rfl, rfl⟩) | (go_at_call 93; refine (sizes_c _ _ _ ?_ ?_).mono ?_; (first | assumption | omega); (first | assumption | omega); rintro e w' ⟨rfl, x, rfl⟩) | (go_at_call 94; refine (wneg_c _ _ _).mono ?_; rintro e w' ⟨rfl, x, rfl⟩))
    exact bodyPost_ret (v := .agg #[.int .i64 (hi (-(ab a * ab b))), .int .i64 (lo (-(ab a * ab b)))]) (by simp [results, Try.results79, go_sem]) rfl ⟨by rw [M.out], Mr.mk' (by repeat (first | (with_reducible exact Mr.refl _) | (with_reducible apply Mr.drew) | (with_reducible apply Mr.alloc) | (with_reducible apply Mr.ext) | (with_reducible refine Mr.setCell ?_ (by first | (simp; done) | (simp; omega) | omega | (refine leOf0 ?_; (repeat (first | (with_reducible exact Mr.refl _) | (with_reducible apply Mr.drew) | (with_reducible apply Mr.alloc) | (with_reducible apply Mr.ext) | (with_reducible refine Mr.setCell ?_ (by first | (simp; done) | (simp; omega) | omega) _))); done) | (refine leOf ?_; (repeat (first | (with_reducible exact Mr.refl _) | (with_reducible apply Mr.drew) | (with_reducible apply Mr.alloc) | (with_reducible apply Mr.ext) | (with_reducible refine Mr.setCell ?_ (by first | (simp; done) | (simp; omega) | omega) _))); done)) _)))⟩
  · have M : Hid (ml a b = ab a * ab b) := by unfold ml; rw [ab_pos h1, ab_pos h2]; trivial
    clear hm hc
    have d1 : decide (a < 0) = false := by simpa using h1
    have d2 : decide (b < 0) = false := by simpa using h2
    clear h1 h2
    go_enter Try.func79, Try.ntmps79
    go_wp2_with (first | (go_at_call 34; refine (abs_c _ _).mono ?_; rintro e w' ⟨rfl, rfl⟩) | (go_at_call 93; refine (sizes_c _ _ _ ?_ ?_).mono ?_; (first | assumption | omega); (first | assumption | omega); rintro e w' ⟨rfl, x, rfl⟩) | (go_at_call 94; refine (wneg_c _ _ _).mono ?_; rintro e w' ⟨rfl, x, rfl⟩))
    exact bodyPost_ret (v := .agg #[.int .i64 (hi (ab a * ab b)), .int .i64 (lo (ab a * ab b))]) (by simp [results, Try.results79, go_sem]) rfl ⟨by rw [M.out], Mr.mk' (by repeat (first | (with_reducible exact Mr.refl _) | (with_reducible apply Mr.drew) | (with_reducible apply Mr.alloc) | (with_reducible apply Mr.ext) | (with_reducible refine Mr.setCell ?_ (by first | (simp; done) | (simp; omega) | omega | (refine leOf0 ?_; (repeat (first | (with_reducible exact Mr.refl _) | (with_reducible apply Mr.drew) | (with_reducible apply Mr.alloc) | (with_reducible apply Mr.ext) | (with_reducible refine Mr.setCell ?_ (by first | (simp; done) | (simp; omega) | omega) _))); done) | (refine leOf ?_; (repeat (first | (with_reducible exact Mr.refl _) | (with_reducible apply Mr.drew) | (with_reducible apply Mr.alloc) | (with_reducible apply Mr.ext) | (with_reducible refine Mr.setCell ?_ (by first | (simp; done) | (simp; omega) | omega) _))); done)) _)))⟩
end Wd
end Go.Proofs.Ytpammdogkkipbaa
