/- The statements' own examples of layer 7. -/
import Derived.Test.YthogobmflinnpaaVecC
namespace Go.Proofs.Ythogobmflinnpaa
open Go.ChangeShapes Go.WideShapes Go.ChangeAt Go.RowKit
open Go.Proofs.Ythogobmflinnpaa.Fx Go.Proofs.Ythogobmflinnpaa.Wd Go.Proofs.Ythogobmflinnpaa.Sc Go.Proofs.Ythogobmflinnpaa.Rt
set_option linter.unusedVariables false
set_option linter.unusedSimpArgs false
attribute [local go_sem] Ext.cell Ext.froz Ext.lt Ext.lt1 Ext.lt2 Ext.lt3 Ext.all Ext.set_u drew_heap setCell_size Ext.set_size
namespace Vc
/-- Three numbers compared. -/
def eq3 (a b c d e f : Int) : Bool := decide (a = d ∧ b = e ∧ c = f)
theorem eq3_self (a b c : Int) : eq3 a b c a b c = true := by simp [eq3]
theorem size3 (w : World) : (Go.sizeOf 3).run Try.prog w = .ok 1 w := by
  have h : (Try.prog.info? 3).map (·.size) = some 1 := by kernel_rfl
  cases hq : Try.prog.info? 3 with
  | none => simp [hq] at h
  | some i => have : i.size = 1 := by simpa [hq] using h
              simp [Go.sizeOf, typeInfo, hq, this]
theorem eq_v3 (a b c d e f : Int) (w : World) : (Op.equalIn 10000 22 (.agg #[.int .i64 a, .int .i64 b, .int .i64 c]) (.agg #[.int .i64 d, .int .i64 e, .int .i64 f])).run Try.prog w = .ok (eq3 a b c d e f) w := by
  have e0 : ∀ (x y : Int) (W : World), (Op.equalIn 9999 3 (.int .i64 x) (.int .i64 y)).run Try.prog W = .ok (x == y) W := fun x y W => run_equalIn_int W 9998 3 .i64 .i64 x y Try.underlying3
  have p0 : ∀ (x y z : Int) (W : World), (part 3 #[.int .i64 x, .int .i64 y, .int .i64 z] 0).run Try.prog W = .ok (.int .i64 x) W := fun x y z W => by simp [go_sem]
  have p1 : ∀ (x y z : Int) (W : World), (part 3 #[.int .i64 x, .int .i64 y, .int .i64 z] 1).run Try.prog W = .ok (.int .i64 y) W := fun x y z W => by simp [go_sem]
  have p2 : ∀ (x y z : Int) (W : World), (part 3 #[.int .i64 x, .int .i64 y, .int .i64 z] 2).run Try.prog W = .ok (.int .i64 z) W := fun x y z W => by simp [go_sem]
  unfold Op.equalIn
  by_cases h : a = d
  · by_cases k : b = e
    · by_cases m : c = f <;> simp [run_underlying Try.underlying22, Sem.run_bind, size3, List.range', e0, p0, p1, p2, eq3, h, k, m]
    · simp [run_underlying Try.underlying22, Sem.run_bind, size3, List.range', e0, p0, p1, p2, eq3, h, k]
  · simp [run_underlying Try.underlying22, Sem.run_bind, size3, List.range', e0, p0, p1, p2, eq3, h]
attribute [local go_sem ↓] eq_v3 eq3_self
theorem aw7_lv : lv [0, 3, 4] = 5 ∧ lv [0, 0, 0] = 0 ∧ lb [0, 3, 4] = false := by
  rw [(lv3 _ _ _).1, (lv3 _ _ _).1, (lv3 _ _ _).2]
  exact ⟨in_hit (by omega) (by omega) (by decide), in_hit (by omega) (by omega) (by decide), by decide +kernel⟩
theorem aw7_num : (pv 0 0 0 4294967296 = 0 ∧ pv 0 4294967296 0 0 = 0 ∧ pv 4294967296 0 4294967296 0 = 4294967296) ∧ (pb 0 0 0 4294967296 = false ∧ pb 0 4294967296 0 0 = false ∧ pb 4294967296 0 4294967296 0 = false) ∧ (qv 0 5 = 0 ∧ qv 3 5 = 2576980378 ∧ qv 4 5 = 3435973837) ∧ (qb 0 5 = false ∧ qb 3 5 = false ∧ qb 4 5 = false) ∧ dv [4294967296, 2, 3] [4294967296, 0, 0] = 4294967296 ∧ (tv 2 2147483648 = 1 ∧ tv 4 2147483648 = 2 ∧ tv 6 2147483648 = 3) := by decide +kernel
set_option maxRecDepth 100000 in
set_option maxHeartbeats 2000000 in
theorem awake7_c (w : World) : Calls Try.prog 9 #[] w fun e w' => e = .returned (.bool true) ∧ ∃ x : Ext w, w' = x.u := by
  obtain ⟨l1, l2, l3⟩ := aw7_lv
  obtain ⟨⟨c1, c2, c3⟩, ⟨c4, c5, c6⟩, ⟨q1, q2, q3⟩, ⟨q4, q5, q6⟩, d1, s1, s2, s3⟩ := aw7_num
  go_enter Try.func9, Try.ntmps9
  go_wp2_with (first | (go_at_call 18; refine (vcross_c _ _ _ _ _ _ _ (by decide) (by decide) (by decide) (by decide) (by decide) (by decide)).mono ?_; rintro e w' ⟨rfl, x, rfl⟩) | (go_at_call 22; refine (vunit_c _ _ _ _ (by decide) (by decide) (by decide)).mono ?_; (first | rw [l1, if_neg (by decide)] | rw [l2, if_pos rfl]); rintro e w' ⟨rfl, x, rfl⟩) | (go_at_call 16; refine (vdot_c _ _ _ _ _ _ _ (by decide) (by decide) (by decide) (by decide) (by decide) (by decide)).mono ?_; rintro e w' ⟨rfl, x, rfl⟩) | (go_at_call 14; refine (vscale_c _ _ _ _ _).mono ?_; rintro e w' ⟨rfl, x, rfl⟩))
  go_ret
  exact ⟨rfl, Mr.mk' (by repeat (first | (with_reducible exact Mr.refl _) | (with_reducible apply Mr.drew) | (with_reducible apply Mr.alloc) | (with_reducible apply Mr.ext) | (with_reducible refine Mr.setCell ?_ (by first | (simp; done) | (simp; omega) | omega | (refine leOf0 ?_; (repeat (first | (with_reducible exact Mr.refl _) | (with_reducible apply Mr.drew) | (with_reducible apply Mr.alloc) | (with_reducible apply Mr.ext) | (with_reducible refine Mr.setCell ?_ (by first | (simp; done) | (simp; omega) | omega) _))); done) | (refine leOf ?_; (repeat (first | (with_reducible exact Mr.refl _) | (with_reducible apply Mr.drew) | (with_reducible apply Mr.alloc) | (with_reducible apply Mr.ext) | (with_reducible refine Mr.setCell ?_ (by first | (simp; done) | (simp; omega) | omega) _))); done)) _)))⟩
end Vc
end Go.Proofs.Ythogobmflinnpaa
