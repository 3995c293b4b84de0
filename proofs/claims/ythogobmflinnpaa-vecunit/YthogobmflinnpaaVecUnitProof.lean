/- For every three ints the law VecUnit answers true: a direction has the length 1, within 2^-20, if the length is 2^-8 at least and 2^20 at most, and each number of it has the sign that it had, or is 0. No condition. -/
import Derived.Test.YthogobmflinnpaaRows
import Derived.WalkKit
import Derived.ProofKit
import Derived.OpenShut
import Derived.ShutString
import Derived.ChangeOld
import Derived.Below
import Derived.Test.YthogobmflinnpaaVecC2
import Derived.Test.YthogobmflinnpaaVecR
namespace Go.Proofs.Ythogobmflinnpaa.vecUnit
open Go.ChangeShapes Go.WideShapes Go.ChangeAt Go.RowKit
set_option linter.unusedVariables false
theorem own : ownKnob Try.prog.godebug = none := by kernel_rfl
theorem laidOut : laidOutB Try.prog = true := by kernel_rfl

open Go.Proofs.Ythogobmflinnpaa.Fx Go.Proofs.Ythogobmflinnpaa.Wd Go.Proofs.Ythogobmflinnpaa.Sc Go.Proofs.Ythogobmflinnpaa.Rt Go.Proofs.Ythogobmflinnpaa.Vc
attribute [local go_sem] Ext.cell Ext.froz Ext.lt Ext.lt1 Ext.lt2 Ext.lt3 Ext.all Ext.set_u drew_heap setCell_size Ext.set_size
attribute [local go_sem ↓] eq_v3 eq3_self
theorem sgn_cases (a : Int) : 0 < a ∨ a = 0 ∨ a < 0 := by omega
set_option maxHeartbeats 4000000 in
set_option maxRecDepth 100000 in
theorem walk (x0 y0 z0 : Int) (w : World) (wx0 : (Lit.int .i64 x0).wf = true) (wy0 : (Lit.int .i64 y0).wf = true) (wz0 : (Lit.int .i64 z0).wf = true) :
    Calls Try.prog 6 #[.agg #[.int .i64 x0, .int .i64 y0, .int .i64 z0]] w fun e w' => e = .returned (.bool true) ∧ Below w.heap.size w w' := by
  have hX0 : B64 x0 := bd wx0
  have hY0 : B64 y0 := bd wy0
  have hZ0 : B64 z0 := bd wz0
  clear wx0 wy0 wz0
  obtain ⟨n, hn⟩ : ∃ n, lv [x0, y0, z0] = n := ⟨_, rfl⟩
  cases hc : lb [x0, y0, z0] with
  | true =>
    go_enter Try.func6, Try.ntmps6; go_wp2_with (first | (go_at_call 9; refine (awake7_c _).mono ?_; rintro e w' ⟨rfl, x, rfl⟩) | (go_at_call 20; refine (vlen_c _ _ _ _ (by first | assumption | (have := av_bd; omega) | decide) (by first | assumption | (have := av_bd; omega) | decide) (by first | assumption | (have := av_bd; omega) | decide)).mono ?_; rintro e w' ⟨rfl, x, rfl⟩) | (go_at_call 22; refine (vunit_c _ _ _ _ hX0 hY0 hZ0).mono ?_; rw [UN]; rintro e w' ⟨rfl, x, rfl⟩))
    go_ret; exact ⟨rfl, Mr.grown (by repeat (first | (with_reducible exact Mr.refl _) | (with_reducible apply Mr.drew) | (with_reducible apply Mr.alloc) | (with_reducible apply Mr.ext) | (with_reducible refine Mr.setCell ?_ (by first | (simp; done) | (simp; omega) | omega | (refine leOf0 ?_; (repeat (first | (with_reducible exact Mr.refl _) | (with_reducible apply Mr.drew) | (with_reducible apply Mr.alloc) | (with_reducible apply Mr.ext) | (with_reducible refine Mr.setCell ?_ (by first | (simp; done) | (simp; omega) | omega) _))); done) | (refine leOf ?_; (repeat (first | (with_reducible exact Mr.refl _) | (with_reducible apply Mr.drew) | (with_reducible apply Mr.alloc) | (with_reducible apply Mr.ext) | (with_reducible refine Mr.setCell ?_ (by first | (simp; done) | (simp; omega) | omega) _))); done)) _)))⟩
  | false =>
    by_cases h0 : n < 16777216
    · go_enter Try.func6, Try.ntmps6; go_wp2_with (first | (go_at_call 9; refine (awake7_c _).mono ?_; rintro e w' ⟨rfl, x, rfl⟩) | (go_at_call 20; refine (vlen_c _ _ _ _ (by first | assumption | (have := av_bd; omega) | decide) (by first | assumption | (have := av_bd; omega) | decide) (by first | assumption | (have := av_bd; omega) | decide)).mono ?_; rintro e w' ⟨rfl, x, rfl⟩) | (go_at_call 22; refine (vunit_c _ _ _ _ hX0 hY0 hZ0).mono ?_; rw [UN]; rintro e w' ⟨rfl, x, rfl⟩))
      go_ret; exact ⟨rfl, Mr.grown (by repeat (first | (with_reducible exact Mr.refl _) | (with_reducible apply Mr.drew) | (with_reducible apply Mr.alloc) | (with_reducible apply Mr.ext) | (with_reducible refine Mr.setCell ?_ (by first | (simp; done) | (simp; omega) | omega | (refine leOf0 ?_; (repeat (first | (with_reducible exact Mr.refl _) | (with_reducible apply Mr.drew) | (with_reducible apply Mr.alloc) | (with_reducible apply Mr.ext) | (with_reducible refine Mr.setCell ?_ (by first | (simp; done) | (simp; omega) | omega) _))); done) | (refine leOf ?_; (repeat (first | (with_reducible exact Mr.refl _) | (with_reducible apply Mr.drew) | (with_reducible apply Mr.alloc) | (with_reducible apply Mr.ext) | (with_reducible refine Mr.setCell ?_ (by first | (simp; done) | (simp; omega) | omega) _))); done)) _)))⟩
    · by_cases h1 : 4503599627370496 < n
      · go_enter Try.func6, Try.ntmps6; go_wp2_with (first | (go_at_call 9; refine (awake7_c _).mono ?_; rintro e w' ⟨rfl, x, rfl⟩) | (go_at_call 20; refine (vlen_c _ _ _ _ (by first | assumption | (have := av_bd; omega) | decide) (by first | assumption | (have := av_bd; omega) | decide) (by first | assumption | (have := av_bd; omega) | decide)).mono ?_; rintro e w' ⟨rfl, x, rfl⟩) | (go_at_call 22; refine (vunit_c _ _ _ _ hX0 hY0 hZ0).mono ?_; rw [UN]; rintro e w' ⟨rfl, x, rfl⟩))
        go_ret; exact ⟨rfl, Mr.grown (by repeat (first | (with_reducible exact Mr.refl _) | (with_reducible apply Mr.drew) | (with_reducible apply Mr.alloc) | (with_reducible apply Mr.ext) | (with_reducible refine Mr.setCell ?_ (by first | (simp; done) | (simp; omega) | omega | (refine leOf0 ?_; (repeat (first | (with_reducible exact Mr.refl _) | (with_reducible apply Mr.drew) | (with_reducible apply Mr.alloc) | (with_reducible apply Mr.ext) | (with_reducible refine Mr.setCell ?_ (by first | (simp; done) | (simp; omega) | omega) _))); done) | (refine leOf ?_; (repeat (first | (with_reducible exact Mr.refl _) | (with_reducible apply Mr.drew) | (with_reducible apply Mr.alloc) | (with_reducible apply Mr.ext) | (with_reducible refine Mr.setCell ?_ (by first | (simp; done) | (simp; omega) | omega) _))); done)) _)))⟩
      · obtain ⟨⟨q1, q2, q3⟩, lu, ⟨m0, m1⟩, S0, S1, S2, ⟨b1, b2⟩, ⟨b3, b4⟩, ⟨b5, b6⟩⟩ := unit_all hc hn (by omega) (by omega)
        have UN : (if lv [x0, y0, z0] = 0 then Value.tuple #[.agg #[.int .i64 0, .int .i64 0, .int .i64 0], .bool true] else .tuple #[.agg #[.int .i64 (qv x0 (lv [x0, y0, z0])), .int .i64 (qv y0 (lv [x0, y0, z0])), .int .i64 (qv z0 (lv [x0, y0, z0]))], .bool (lb [x0, y0, z0] || qb x0 (lv [x0, y0, z0]) || qb y0 (lv [x0, y0, z0]) || qb z0 (lv [x0, y0, z0]))]) = .tuple #[.agg #[.int .i64 (qv x0 n), .int .i64 (qv y0 n), .int .i64 (qv z0 n)], .bool false] := by
          rw [hn, if_neg (by omega), hc, q1, q2, q3]; rfl
        have c1 : B64 (qv x0 n) := ⟨by omega, by omega⟩
        have c2 : B64 (qv y0 n) := ⟨by omega, by omega⟩
        have c3 : B64 (qv z0 n) := ⟨by omega, by omega⟩
        generalize hu : qv x0 n = u at *
        generalize hv : qv y0 n = v at *
        generalize hq : qv z0 n = q at *
        generalize hm : lv [u, v, q] = m at *
        clear q1 q2 q3 hu hv hq
        have h0' : 16777216 ≤ n := by omega
        have h1' : n ≤ 4503599627370496 := by omega
        go_enter Try.func6, Try.ntmps6; go_wp2_with (first | (go_at_call 9; refine (awake7_c _).mono ?_; rintro e w' ⟨rfl, x, rfl⟩) | (go_at_call 20; refine (vlen_c _ _ _ _ (by first | assumption | (have := av_bd; omega) | decide) (by first | assumption | (have := av_bd; omega) | decide) (by first | assumption | (have := av_bd; omega) | decide)).mono ?_; rintro e w' ⟨rfl, x, rfl⟩) | (go_at_call 22; refine (vunit_c _ _ _ _ hX0 hY0 hZ0).mono ?_; rw [UN]; rintro e w' ⟨rfl, x, rfl⟩))
        go_loopw [10] (fun i wr => ∃ j : Nat, j ≤ 3 ∧ i = .int .i64 j ∧ wr = x.u) (fun i _ => (3 - intOf i).toNat)
        case atStart => exact ⟨0, by omega, rfl, rfl⟩
        case round =>
          obtain ⟨j, hj, rfl, rfl⟩ := hrel
          match j, hj with
          | 0, _ =>
            obtain ⟨g1, g2⟩ := S0
            have gg : (0 < x0 ∧ 0 ≤ u) ∨ (x0 = 0 ∧ u = 0) ∨ (x0 < 0 ∧ u ≤ 0) := by
              rcases sgn_cases x0 with h | h | h
              · exact .inl ⟨h, g1 (by omega)⟩
              · have := g1 (by omega); have := g2 (by omega); exact .inr (.inl ⟨h, by omega⟩)
              · exact .inr (.inr ⟨h, g2 (by omega)⟩)
            clear g1 g2
            rcases gg with ⟨gg, gg2⟩ | ⟨gg, gg2⟩ | ⟨gg, gg2⟩
            · have g3 : ¬ u < 0 := by omega
              have g4 : ¬ x0 ≤ 0 := by omega
              have g5 : 0 ≤ x0 := by omega
              go_wp2
              go_roundw
              case rel => exact ⟨1, by omega, rfl, by first | rfl | trivial⟩
              case measure => simp [intOf]
            · have g3 : ¬ u < 0 := by omega
              have g4 : ¬ 0 < u := by omega
              have g5 : 0 ≤ x0 := by omega
              have g6 : x0 ≤ 0 := by omega
              clear gg gg2
              go_wp2
              go_roundw
              case rel => exact ⟨1, by omega, rfl, by first | rfl | trivial⟩
              case measure => simp [intOf]
            · have g3 : ¬ 0 ≤ x0 := by omega
              have g4 : ¬ 0 < u := by omega
              have g6 : x0 ≤ 0 := by omega
              go_wp2
              go_roundw
              case rel => exact ⟨1, by omega, rfl, by first | rfl | trivial⟩
              case measure => simp [intOf]
          | 1, _ =>
            obtain ⟨g1, g2⟩ := S1
            have gg : (0 < y0 ∧ 0 ≤ v) ∨ (y0 = 0 ∧ v = 0) ∨ (y0 < 0 ∧ v ≤ 0) := by
              rcases sgn_cases y0 with h | h | h
              · exact .inl ⟨h, g1 (by omega)⟩
              · have := g1 (by omega); have := g2 (by omega); exact .inr (.inl ⟨h, by omega⟩)
              · exact .inr (.inr ⟨h, g2 (by omega)⟩)
            clear g1 g2
            rcases gg with ⟨gg, gg2⟩ | ⟨gg, gg2⟩ | ⟨gg, gg2⟩
            · have g3 : ¬ v < 0 := by omega
              have g4 : ¬ y0 ≤ 0 := by omega
              have g5 : 0 ≤ y0 := by omega
              go_wp2
              go_roundw
              case rel => exact ⟨2, by omega, rfl, by first | rfl | trivial⟩
              case measure => simp [intOf]
            · have g3 : ¬ v < 0 := by omega
              have g4 : ¬ 0 < v := by omega
              have g5 : 0 ≤ y0 := by omega
              have g6 : y0 ≤ 0 := by omega
              clear gg gg2
              go_wp2
              go_roundw
              case rel => exact ⟨2, by omega, rfl, by first | rfl | trivial⟩
              case measure => simp [intOf]
            · have g3 : ¬ 0 ≤ y0 := by omega
              have g4 : ¬ 0 < v := by omega
              have g6 : y0 ≤ 0 := by omega
              go_wp2
              go_roundw
              case rel => exact ⟨2, by omega, rfl, by first | rfl | trivial⟩
              case measure => simp [intOf]
          | 2, _ =>
            obtain ⟨g1, g2⟩ := S2
            have gg : (0 < z0 ∧ 0 ≤ q) ∨ (z0 = 0 ∧ q = 0) ∨ (z0 < 0 ∧ q ≤ 0) := by
              rcases sgn_cases z0 with h | h | h
              · exact .inl ⟨h, g1 (by omega)⟩
              · have := g1 (by omega); have := g2 (by omega); exact .inr (.inl ⟨h, by omega⟩)
              · exact .inr (.inr ⟨h, g2 (by omega)⟩)
            clear g1 g2
            rcases gg with ⟨gg, gg2⟩ | ⟨gg, gg2⟩ | ⟨gg, gg2⟩
            · have g3 : ¬ q < 0 := by omega
              have g4 : ¬ z0 ≤ 0 := by omega
              have g5 : 0 ≤ z0 := by omega
              go_wp2
              go_roundw
              case rel => exact ⟨3, by omega, rfl, by first | rfl | trivial⟩
              case measure => simp [intOf]
            · have g3 : ¬ q < 0 := by omega
              have g4 : ¬ 0 < q := by omega
              have g5 : 0 ≤ z0 := by omega
              have g6 : z0 ≤ 0 := by omega
              clear gg gg2
              go_wp2
              go_roundw
              case rel => exact ⟨3, by omega, rfl, by first | rfl | trivial⟩
              case measure => simp [intOf]
            · have g3 : ¬ 0 ≤ z0 := by omega
              have g4 : ¬ 0 < q := by omega
              have g6 : z0 ≤ 0 := by omega
              go_wp2
              go_roundw
              case rel => exact ⟨3, by omega, rfl, by first | rfl | trivial⟩
              case measure => simp [intOf]
          | 3, _ =>
            go_wp2
            go_ret; exact ⟨rfl, Mr.grown (by repeat (first | (with_reducible exact Mr.refl _) | (with_reducible apply Mr.drew) | (with_reducible apply Mr.alloc) | (with_reducible apply Mr.ext) | (with_reducible refine Mr.setCell ?_ (by first | (simp; done) | (simp; omega) | omega | (refine leOf0 ?_; (repeat (first | (with_reducible exact Mr.refl _) | (with_reducible apply Mr.drew) | (with_reducible apply Mr.alloc) | (with_reducible apply Mr.ext) | (with_reducible refine Mr.setCell ?_ (by first | (simp; done) | (simp; omega) | omega) _))); done) | (refine leOf ?_; (repeat (first | (with_reducible exact Mr.refl _) | (with_reducible apply Mr.drew) | (with_reducible apply Mr.alloc) | (with_reducible apply Mr.ext) | (with_reducible refine Mr.setCell ?_ (by first | (simp; done) | (simp; omega) | omega) _))); done)) _)))⟩

set_option maxRecDepth 100000 in
theorem lifted (os : Os) (started : os.Started) (H : Type) (enc : TypeId × Value → H) :
    ReturnsInHanded {} Try.checked os 6 .any (Rows.vecUnitSpec.pre6 enc Try.prog Try.f6 Rows.vecUnitRow.domain false) (Rows.vecUnitSpec.post enc Try.prog Try.f6 false true false false) := by
  refine returnsInHanded_of_change (C := Try.checked) own started (by kernel_rfl) Try.func6
    (ChangeSpec.witness6 (enc := enc) (C := Try.checked) false ⟨#[], #[.agg #[.int .i64 0, .int .i64 0, .int .i64 0]], []⟩ 8 (by kernel_rfl) (by kernel_rfl) (by kernel_rfl) (by kernel_rfl)) ?_
  intro W base args ds gs before hval0 hW hcnd _
  have hval : ∀ (j : Nat) t v, Try.f6.params[j]? = some t → args[j]? = some v → Value.okWide Try.prog W .any base t v := hval0
  have hW' := hW
  obtain ⟨p, q, hA0, hV, rfl, hfz, hnd⟩ := hW
  have hA : DataW.TrodAll enc Try.prog W 0 (fun _ => true) true Try.f6.params.toList args.toList ds p := hA0
  rw [Try.params6] at hA hval
  obtain ⟨v0, vs0, d0, ds0, p_0, q_0, hargs, rfl, rfl, h0, r0⟩ := trodAll_cons hA
  obtain ⟨rfl, rfl, rfl⟩ := trodAll_nil r0
  obtain rfl : args = #[v0] := by cases args; simp_all
  obtain ⟨rfl, rfl⟩ := trodVars_none hV
  obtain ⟨x0, y0, z0, rfl, rfl, rfl, wx0, wy0, wz0⟩ := Vr.open_v3 (hval 0 22 v0 rfl rfl) h0
  clear hA0 hval0
  refine (walk x0 y0 z0 W wx0 wy0 wz0).mono fun e W' ⟨he, bel⟩ => ?_
  subst he
  exact ⟨_, rfl, _, _, _, [], _, [], hW', trodAll_mk1 (shut_bool Try.underlying4 _), (trodAll_cons_mk (Vr.shut_v3 wx0 wy0 wz0) trodAll_mk0), rfl, bel.frame _, fun h => by cases h⟩

theorem over : Rows.vecUnitRow.holds Try.pinned (OpenSpec.ofChange Rows.vecUnitSpec) :=
  OpenClaim.holds_of_wide 6 Try.f6 rfl rfl rfl rfl rfl rfl rfl ⟨rfl, rfl, rfl, rfl, rfl⟩ rfl rfl rfl rfl rfl (by kernel_rfl) Try.func6 (by kernel_rfl)
    (of_decide_eq_true (by kernel_rfl)) (by unfold Func.isWrapper; first | (rw [if_pos (by decide +kernel)]; kernel_rfl) | (rw [if_neg (by decide +kernel)]; exact ⟨rfl, rfl⟩))
    (fun os started H enc _ => lifted os started H enc)

theorem proved : Rows.VecUnitSaid :=
  over
#print axioms proved
end Go.Proofs.Ythogobmflinnpaa.vecUnit
