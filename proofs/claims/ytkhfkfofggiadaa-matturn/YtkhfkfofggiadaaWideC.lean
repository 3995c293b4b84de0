/- The contracts of package wide. -/
import Derived.Test.YtkhfkfofggiadaaMemC
import Derived.Test.YtkhfkfofggiadaaFixC
import Derived.Test.YtkhfkfofggiadaaWideM
import Derived.Deep.RegionHeld3
import Derived.Deep.RegionWith
import Derived.Deep.DrawnRows
import Derived.Deep.DeepCutAuto
namespace Go.Proofs.Ytkhfkfofggiadaa
open Go.ChangeShapes Go.WideShapes Go.ChangeAt Go.RowKit
open Go.Proofs.Ytkhfkfofggiadaa.Fx
set_option linter.unusedVariables false
attribute [local go_sem] Ext.cell Ext.froz Ext.lt Ext.lt1 Ext.lt2 Ext.lt3 Ext.all Ext.set_u drew_heap setCell_size Ext.set_size
namespace Wd
theorem eq_wide (a b c d : Int) (w : World) : (Op.equalIn 10000 53 (.agg #[.int .i64 a, .int .i64 b]) (.agg #[.int .i64 c, .int .i64 d])).run Try.prog w = .ok (eqw a b c d) w := by
  by_cases h : a = c
  · by_cases k : b = d <;> simp [go_sem, eqw, h, k]
  · simp [go_sem, eqw, h]
attribute [local go_sem ↓] eq_wide eqw_self
theorem sgn64 : IntKind.i64.signed = true := rfl
attribute [local go_sem] and62 and1 sgn64 not64
def sh (h : Int) : Int := min (max h (-2305843009213693952)) 2305843009213693951
def sl (l : Int) : Int := min (max l 0) 4611686018427387903
theorem eqw_sn (p q : Int) : eqw p q (sh p) (sl q) = sn p q := by
  unfold eqw sh sl sn; simp only [decide_eq_decide]; omega
set_option maxHeartbeats 400000 in
theorem stopped_c (p q : Int) (w : World) :
    Calls Try.prog 93 #[.agg #[.int .i64 p, .int .i64 q]] w fun e w' => e = .returned (.agg #[.int .i64 (sh p), .int .i64 (sl q)]) ∧ ∃ x : Ext w, w' = x.u := by
  go_enter Try.func93, Try.ntmps93
  go_wp2
  all_goals
    exact bodyPost_ret (v := .agg #[.int .i64 (sh p), .int .i64 (sl q)]) (by simp [results, Try.results93, go_sem]; unfold sh sl; omega) rfl ⟨rfl, Mr.mk' (by repeat (first | (with_reducible exact Mr.refl _) | (with_reducible apply Mr.drew) | (with_reducible apply Mr.alloc) | (with_reducible apply Mr.ext) | (with_reducible refine Mr.setCell ?_ (by first | (simp; done) | (simp; omega) | omega | (refine leOf0 ?_; (repeat (first | (with_reducible exact Mr.refl _) | (with_reducible apply Mr.drew) | (with_reducible apply Mr.alloc) | (with_reducible apply Mr.ext) | (with_reducible refine Mr.setCell ?_ (by first | (simp; done) | (simp; omega) | omega) _))); done) | (refine leOf ?_; (repeat (first | (with_reducible exact Mr.refl _) | (with_reducible apply Mr.drew) | (with_reducible apply Mr.alloc) | (with_reducible apply Mr.ext) | (with_reducible refine Mr.setCell ?_ (by first | (simp; done) | (simp; omega) | omega) _))); done)) _)))⟩
set_option maxHeartbeats 400000 in
theorem sane_c (p q : Int) (w : World) :
    Calls Try.prog 84 #[.agg #[.int .i64 p, .int .i64 q]] w fun e w' => e = .returned (.bool (sn p q)) ∧ ∃ x : Ext w, w' = x.u := by
  go_enter Try.func84, Try.ntmps84
  go_wp2
  refine wp_region_ext (by kernel_rfl) (by kernel_rfl) ?_
  repeat (go_big_quiet_step ((go_at_call 93; exact extCall (stopped_c _ _ _))))
  refine wpQuiet_nil ?_
  rintro w1 ⟨x1, rfl⟩
  go_wp2
  go_ret
  exact ⟨by rw [← eqw_sn]; rfl, Mr.mk' (by repeat (first | (with_reducible exact Mr.refl _) | (with_reducible apply Mr.drew) | (with_reducible apply Mr.alloc) | (with_reducible apply Mr.ext) | (with_reducible refine Mr.setCell ?_ (by first | (simp; done) | (simp; omega) | omega | (refine leOf0 ?_; (repeat (first | (with_reducible exact Mr.refl _) | (with_reducible apply Mr.drew) | (with_reducible apply Mr.alloc) | (with_reducible apply Mr.ext) | (with_reducible refine Mr.setCell ?_ (by first | (simp; done) | (simp; omega) | omega) _))); done) | (refine leOf ?_; (repeat (first | (with_reducible exact Mr.refl _) | (with_reducible apply Mr.drew) | (with_reducible apply Mr.alloc) | (with_reducible apply Mr.ext) | (with_reducible refine Mr.setCell ?_ (by first | (simp; done) | (simp; omega) | omega) _))); done)) _)))⟩
set_option maxHeartbeats 400000 in
theorem counted_c (p q : Int) (w : World) :
    Calls Try.prog 67 #[.agg #[.int .i64 p, .int .i64 q]] w fun e w' => e = .returned (.agg #[.int .i64 (hi (vw p q)), .int .i64 (lo (vw p q))]) ∧ ∃ x : Ext w, w' = x.u := by
  cases hs : sn p q
  · have h1 : vw p q = 0 := vw_nsn hs
    go_enter Try.func67, Try.ntmps67
    go_wp2_with (go_at_call 84; refine (sane_c _ _ _).mono ?_; rintro e w' ⟨rfl, x, rfl⟩)
    exact bodyPost_ret (v := .agg #[.int .i64 (hi 0), .int .i64 (lo 0)]) (by simp [results, Try.results67, go_sem, hl_zero.1, hl_zero.2]) rfl ⟨by rw [h1], Mr.mk' (by repeat (first | (with_reducible exact Mr.refl _) | (with_reducible apply Mr.drew) | (with_reducible apply Mr.alloc) | (with_reducible apply Mr.ext) | (with_reducible refine Mr.setCell ?_ (by first | (simp; done) | (simp; omega) | omega | (refine leOf0 ?_; (repeat (first | (with_reducible exact Mr.refl _) | (with_reducible apply Mr.drew) | (with_reducible apply Mr.alloc) | (with_reducible apply Mr.ext) | (with_reducible refine Mr.setCell ?_ (by first | (simp; done) | (simp; omega) | omega) _))); done) | (refine leOf ?_; (repeat (first | (with_reducible exact Mr.refl _) | (with_reducible apply Mr.drew) | (with_reducible apply Mr.alloc) | (with_reducible apply Mr.ext) | (with_reducible refine Mr.setCell ?_ (by first | (simp; done) | (simp; omega) | omega) _))); done)) _)))⟩
  · have h1 := hl_vw hs
    have HD : Hid (p = hi (vw p q) ∧ q = lo (vw p q)) := h1
    clear h1
    go_enter Try.func67, Try.ntmps67
    go_wp2_with (go_at_call 84; refine (sane_c _ _ _).mono ?_; rintro e w' ⟨rfl, x, rfl⟩)
    exact bodyPost_ret (v := .agg #[.int .i64 (hi (vw p q)), .int .i64 (lo (vw p q))]) (by simp [results, Try.results67, go_sem]; exact HD.out) rfl ⟨rfl, Mr.mk' (by repeat (first | (with_reducible exact Mr.refl _) | (with_reducible apply Mr.drew) | (with_reducible apply Mr.alloc) | (with_reducible apply Mr.ext) | (with_reducible refine Mr.setCell ?_ (by first | (simp; done) | (simp; omega) | omega | (refine leOf0 ?_; (repeat (first | (with_reducible exact Mr.refl _) | (with_reducible apply Mr.drew) | (with_reducible apply Mr.alloc) | (with_reducible apply Mr.ext) | (with_reducible refine Mr.setCell ?_ (by first | (simp; done) | (simp; omega) | omega) _))); done) | (refine leOf ?_; (repeat (first | (with_reducible exact Mr.refl _) | (with_reducible apply Mr.drew) | (with_reducible apply Mr.alloc) | (with_reducible apply Mr.ext) | (with_reducible refine Mr.setCell ?_ (by first | (simp; done) | (simp; omega) | omega) _))); done)) _)))⟩
set_option maxHeartbeats 400000 in
theorem wof_c (n : Int) (w : World) (hn : -9223372036854775808 ≤ n ∧ n ≤ 9223372036854775807) :
    Calls Try.prog 66 #[.int .i64 n] w fun e w' => e = .returned (.agg #[.int .i64 (hi n), .int .i64 (lo n)]) ∧ ∃ x : Ext w, w' = x.u := by
  obtain ⟨hn0, hn1⟩ := hn
  go_enter Try.func66, Try.ntmps66
  go_wp2
  exact bodyPost_ret (v := .agg #[.int .i64 (hi n), .int .i64 (lo n)]) (by simp [results, Try.results66, go_sem]; exact ⟨rfl, rfl⟩) rfl ⟨rfl, Mr.mk' (by repeat (first | (with_reducible exact Mr.refl _) | (with_reducible apply Mr.drew) | (with_reducible apply Mr.alloc) | (with_reducible apply Mr.ext) | (with_reducible refine Mr.setCell ?_ (by first | (simp; done) | (simp; omega) | omega | (refine leOf0 ?_; (repeat (first | (with_reducible exact Mr.refl _) | (with_reducible apply Mr.drew) | (with_reducible apply Mr.alloc) | (with_reducible apply Mr.ext) | (with_reducible refine Mr.setCell ?_ (by first | (simp; done) | (simp; omega) | omega) _))); done) | (refine leOf ?_; (repeat (first | (with_reducible exact Mr.refl _) | (with_reducible apply Mr.drew) | (with_reducible apply Mr.alloc) | (with_reducible apply Mr.ext) | (with_reducible refine Mr.setCell ?_ (by first | (simp; done) | (simp; omega) | omega) _))); done)) _)))⟩
set_option maxHeartbeats 400000 in
theorem nan_c (a : Int) (w : World) :
    Calls Try.prog 90 #[.int .i64 a] w fun e w' => e = .returned (.bool false) ∧ w' = w := by
  go_enter Try.func90, Try.ntmps90
  go_wp2
  go_ret
  exact ⟨rfl, rfl⟩
theorem ret_i' {a b : Int} (h : a = b) : Ending.returned (.int .i64 a) = .returned (.int .i64 b) := by rw [h]
set_option maxHeartbeats 400000 in
theorem cmp_c (a b : Int) (w : World) :
    Calls Try.prog 76 #[.int .i64 a, .int .i64 b] w fun e w' => e = .returned (.int .i64 (cm a b)) ∧ w' = w := by
  go_enter Try.func76, Try.ntmps76
  go_wp2_with (go_at_call 90; refine (nan_c _ _).mono ?_; rintro e w' ⟨rfl, rfl⟩)
  all_goals
    go_ret
    exact ⟨ret_i' (by unfold cm; repeat' split
                      all_goals omega), rfl⟩
theorem add_math {a b : Int} (ha : inr a = true) (hb : inr b = true) : hi (a + b) = hi a + hi b + (lo a + lo b) / 4611686018427387904 ∧ lo (a + b) = (lo a + lo b) % 4611686018427387904 := by
  unfold hi lo; omega
set_option maxHeartbeats 2000000 in
theorem wadd_c (p q r s : Int) (w : World) :
    Calls Try.prog 63 #[.agg #[.int .i64 p, .int .i64 q], .agg #[.int .i64 r, .int .i64 s]] w fun e w' => e = .returned (.tuple #[.agg #[.int .i64 (hi (cut (vw p q + vw r s))), .int .i64 (lo (cut (vw p q + vw r s)))], .bool (inr (vw p q + vw r s))]) ∧ ∃ x : Ext w, w' = x.u := by
  have ha := vw_inr p q
  have hb := vw_inr r s
  generalize hg : vw p q = a at *
  generalize hg2 : vw r s = b at *
  obtain ⟨m1, m2⟩ := add_math ha hb
  have b1 := hi_bd ha
  have b2 := hi_bd hb
  have b3 := lo_bd a
  have b4 := lo_bd b
  have M1 : Hid (hi (a + b) = hi a + hi b + (lo a + lo b) / 4611686018427387904) := m1
  have M2 : Hid (lo (a + b) = (lo a + lo b) % 4611686018427387904) := m2
  clear m1 m2
  have m3 : sn (hi a + hi b + (lo a + lo b) / 4611686018427387904) ((lo a + lo b) % 4611686018427387904) = inr (a + b) := by
    rw [← M1.out, ← M2.out, sn_hl_eq]
  clear ha hb
  go_enter Try.func63, Try.ntmps63
  go_wp2
  go_cut [] (fun wx => ∃ y : Ext (((w.alloc (.cells #[.int .i64 (hi a), .int .i64 (lo a)] 53)).alloc (.cells #[.int .i64 (hi b), .int .i64 (lo b)] 53)).alloc (.cells #[.int .i64 0, .int .i64 0] 53)), wx = y.u)
  case first =>
    go_region_with ((go_at_call 67; refine (counted_c _ _ _).mono ?_; rintro e w' ⟨rfl, x, rfl⟩))
    all_goals
      go_wp2_with fail
      go_meet
      case rel => exact Mr.mk' (two_store _ _ _ _ _ _ _ _ _ _ (by simp [go_sem]))
  case rest =>
    obtain ⟨y, rfl⟩ := hcut
    cases hi0 : inr (a + b)
    all_goals
      rw [hi0] at m3
      go_wp2_with (go_at_call 84; refine (sane_c _ _ _).mono ?_; rintro e w' ⟨rfl, x, rfl⟩)
    · exact bodyPost_ret (v := .tuple #[.agg #[.int .i64 0, .int .i64 0], .bool false]) (by simp [results, Try.results63, go_sem]) rfl ⟨by rw [cut_no hi0, hl_zero.1, hl_zero.2, hi0], Mr.mk' (by repeat (first | (with_reducible exact Mr.refl _) | (with_reducible apply Mr.drew) | (with_reducible apply Mr.alloc) | (with_reducible apply Mr.ext) | (with_reducible refine Mr.setCell ?_ (by first | (simp; done) | (simp; omega) | omega | (refine leOf0 ?_; (repeat (first | (with_reducible exact Mr.refl _) | (with_reducible apply Mr.drew) | (with_reducible apply Mr.alloc) | (with_reducible apply Mr.ext) | (with_reducible refine Mr.setCell ?_ (by first | (simp; done) | (simp; omega) | omega) _))); done) | (refine leOf ?_; (repeat (first | (with_reducible exact Mr.refl _) | (with_reducible apply Mr.drew) | (with_reducible apply Mr.alloc) | (with_reducible apply Mr.ext) | (with_reducible refine Mr.setCell ?_ (by first | (simp; done) | (simp; omega) | omega) _))); done)) _)))⟩
    · exact bodyPost_ret (v := .tuple #[.agg #[.int .i64 (hi a + hi b + (lo a + lo b) / 4611686018427387904), .int .i64 ((lo a + lo b) % 4611686018427387904)], .bool true]) (by simp [results, Try.results63, go_sem]) rfl ⟨by rw [cut_of hi0, M1.out, M2.out, hi0], Mr.mk' (by repeat (first | (with_reducible exact Mr.refl _) | (with_reducible apply Mr.drew) | (with_reducible apply Mr.alloc) | (with_reducible apply Mr.ext) | (with_reducible refine Mr.setCell ?_ (by first | (simp; done) | (simp; omega) | omega | (refine leOf0 ?_; (repeat (first | (with_reducible exact Mr.refl _) | (with_reducible apply Mr.drew) | (with_reducible apply Mr.alloc) | (with_reducible apply Mr.ext) | (with_reducible refine Mr.setCell ?_ (by first | (simp; done) | (simp; omega) | omega) _))); done) | (refine leOf ?_; (repeat (first | (with_reducible exact Mr.refl _) | (with_reducible apply Mr.drew) | (with_reducible apply Mr.alloc) | (with_reducible apply Mr.ext) | (with_reducible refine Mr.setCell ?_ (by first | (simp; done) | (simp; omega) | omega) _))); done)) _)))⟩
theorem neg_math (a : Int) (h : inr a = true) : vw (-1 - hi a) (4611686018427387903 - lo a) = -1 - a := by
  have h1 := hi_bd h
  have h2 := lo_bd a
  have h3 := hi_lo a
  rw [vw_sn (by rw [sn_iff]; omega)]
  omega
theorem vw_one : vw (hi 1) (lo 1) = 1 := by decide
set_option maxHeartbeats 2000000 in
theorem wneg_c (p q : Int) (w : World) :
    Calls Try.prog 95 #[.agg #[.int .i64 p, .int .i64 q]] w fun e w' => e = .returned (.agg #[.int .i64 (hi (cut (-vw p q))), .int .i64 (lo (cut (-vw p q)))]) ∧ ∃ x : Ext w, w' = x.u := by
  have ha := vw_inr p q
  generalize hg : vw p q = a at *
  have b1 := hi_bd ha
  have b3 := lo_bd a
  have n1 : bits .xor .i64 (-1) (hi a) = -1 - hi a := not64 _ (by omega) (by omega)
  have n2 := neg_math a ha
  have n3 := vw_one
  clear ha
  go_enter Try.func95, Try.ntmps95
  go_wp2_with (go_at_call 67; refine (counted_c _ _ _).mono ?_; rintro e w' ⟨rfl, x, rfl⟩)
  go_region_held3 (fun w' => w'.cell? ⟨x.u.heap.size, 0, none⟩ = some (.int .i64 (-1 - hi a)) ∧ w'.cell? ⟨x.u.heap.size, 1, none⟩ = some (.int .i64 (4611686018427387903 - lo a))) ((simp [go_sem]; done)) (first | (go_at_call 66; refine (wof_c _ _ ?_).mono ?_; (first | omega | exact ⟨by omega, by omega⟩); rintro e w' ⟨rfl, x, rfl⟩) | (go_at_call 63; refine (wadd_c _ _ _ _ _).mono ?_; rintro e w' ⟨rfl, x, rfl⟩))
  all_goals
    go_wp2_with fail
    exact bodyPost_ret (v := .agg #[.int .i64 (hi (cut (-1 - a + 1))), .int .i64 (lo (cut (-1 - a + 1)))]) (by simp [results, Try.results95, go_sem]) rfl ⟨by rw [show -1 - a + 1 = -a by omega], Mr.mk' (by repeat (first | (with_reducible exact Mr.refl _) | (with_reducible apply Mr.drew) | (with_reducible apply Mr.alloc) | (with_reducible apply Mr.ext) | (with_reducible refine Mr.setCell ?_ (by first | (simp; done) | (simp; omega) | omega | (refine leOf0 ?_; (repeat (first | (with_reducible exact Mr.refl _) | (with_reducible apply Mr.drew) | (with_reducible apply Mr.alloc) | (with_reducible apply Mr.ext) | (with_reducible refine Mr.setCell ?_ (by first | (simp; done) | (simp; omega) | omega) _))); done) | (refine leOf ?_; (repeat (first | (with_reducible exact Mr.refl _) | (with_reducible apply Mr.drew) | (with_reducible apply Mr.alloc) | (with_reducible apply Mr.ext) | (with_reducible refine Mr.setCell ?_ (by first | (simp; done) | (simp; omega) | omega) _))); done)) _)))⟩
theorem cm_hl (a b : Int) : cm a b = if hi a = hi b then cm (lo a) (lo b) else cm (hi a) (hi b) := by
  unfold cm hi lo
  repeat' split
  all_goals omega
set_option maxHeartbeats 2000000 in
theorem wcmp_c (p q r s : Int) (w : World) :
    Calls Try.prog 68 #[.agg #[.int .i64 p, .int .i64 q], .agg #[.int .i64 r, .int .i64 s]] w fun e w' => e = .returned (.int .i64 (cm (vw p q) (vw r s))) ∧ ∃ x : Ext w, w' = x.u := by
  generalize hg : vw p q = a at *
  generalize hg2 : vw r s = b at *
  go_enter Try.func68, Try.ntmps68
  go_wp2
  go_cut [] (fun wx => ∃ y : Ext ((w.alloc (.cells #[.int .i64 (hi a), .int .i64 (lo a)] 53)).alloc (.cells #[.int .i64 (hi b), .int .i64 (lo b)] 53)), wx = y.u)
  case first =>
    go_region_with ((go_at_call 67; refine (counted_c _ _ _).mono ?_; rintro e w' ⟨rfl, x, rfl⟩))
    all_goals
      go_wp2_with fail
      go_meet
      case rel => exact Mr.mk' (two_store _ _ _ _ _ _ _ _ _ _ (by simp [go_sem]))
  case rest =>
    obtain ⟨y, rfl⟩ := hcut
    have hc := cm_hl a b
    have HC : Hid (cm a b = if hi a = hi b then cm (lo a) (lo b) else cm (hi a) (hi b)) := hc
    clear hc
    by_cases he : hi a = hi b
    · have hb : (hi a != hi b) = false := by simp [he]
      have HC2 : Hid (cm a b = cm (lo a) (lo b)) := by have := HC.out; rw [if_pos he] at this; exact this
      clear HC he
      go_wp2_with (go_at_call 76; refine (cmp_c _ _ _).mono ?_; rintro e w' ⟨rfl, rfl⟩)
      go_ret
      exact ⟨ret_i' HC2.out.symm, Mr.mk' (by repeat (first | (with_reducible exact Mr.refl _) | (with_reducible apply Mr.drew) | (with_reducible apply Mr.alloc) | (with_reducible apply Mr.ext) | (with_reducible refine Mr.setCell ?_ (by first | (simp; done) | (simp; omega) | omega | (refine leOf0 ?_; (repeat (first | (with_reducible exact Mr.refl _) | (with_reducible apply Mr.drew) | (with_reducible apply Mr.alloc) | (with_reducible apply Mr.ext) | (with_reducible refine Mr.setCell ?_ (by first | (simp; done) | (simp; omega) | omega) _))); done) | (refine leOf ?_; (repeat (first | (with_reducible exact Mr.refl _) | (with_reducible apply Mr.drew) | (with_reducible apply Mr.alloc) | (with_reducible apply Mr.ext) | (with_reducible refine Mr.setCell ?_ (by first | (simp; done) | (simp; omega) | omega) _))); done)) _)))⟩
    · have hb : (hi a != hi b) = true := by simp [he]
      have HC2 : Hid (cm a b = cm (hi a) (hi b)) := by have := HC.out; rw [if_neg he] at this; exact this
      clear HC he
      go_wp2_with (go_at_call 76; refine (cmp_c _ _ _).mono ?_; rintro e w' ⟨rfl, rfl⟩)
      go_ret
      exact ⟨ret_i' HC2.out.symm, Mr.mk' (by repeat (first | (with_reducible exact Mr.refl _) | (with_reducible apply Mr.drew) | (with_reducible apply Mr.alloc) | (with_reducible apply Mr.ext) | (with_reducible refine Mr.setCell ?_ (by first | (simp; done) | (simp; omega) | omega | (refine leOf0 ?_; (repeat (first | (with_reducible exact Mr.refl _) | (with_reducible apply Mr.drew) | (with_reducible apply Mr.alloc) | (with_reducible apply Mr.ext) | (with_reducible refine Mr.setCell ?_ (by first | (simp; done) | (simp; omega) | omega) _))); done) | (refine leOf ?_; (repeat (first | (with_reducible exact Mr.refl _) | (with_reducible apply Mr.drew) | (with_reducible apply Mr.alloc) | (with_reducible apply Mr.ext) | (with_reducible refine Mr.setCell ?_ (by first | (simp; done) | (simp; omega) | omega) _))); done)) _)))⟩
end Wd
end Go.Proofs.Ytkhfkfofggiadaa
