/- For every three wide numbers (any structs of two ints) the law WideSums answers true: sums are exact. No condition. -/
import Derived.Test.YtjkcffajiajfjaaRows
import Derived.WalkKit
import Derived.ProofKit
import Derived.OpenShut
import Derived.Test.YtjkcffajiajfjaaWideC4
import Derived.Test.YtjkcffajiajfjaaWideR
namespace Go.Proofs.Ytjkcffajiajfjaa.wideSums
open Go.ChangeShapes Go.WideShapes Go.ChangeAt Go.RowKit
set_option linter.unusedVariables false
theorem own : ownKnob Try.prog.godebug = none := by kernel_rfl

open Go.Proofs.Ytjkcffajiajfjaa.Fx Go.Proofs.Ytjkcffajiajfjaa.Wd
attribute [local go_sem] Ext.cell Ext.froz Ext.lt Ext.lt1 Ext.lt2 Ext.lt3 Ext.all Ext.set_u drew_heap setCell_size Ext.set_size
attribute [local go_sem ↓] eq_wide eqw_self
attribute [local go_sem] and62 and1 sgn64 not64 wrap_and
theorem eqw_t {a b c d : Int} (h1 : a = c) (h2 : b = d) : eqw a b c d = true := by simp [eqw, h1, h2]
set_option maxHeartbeats 4000000 in
set_option maxRecDepth 100000 in
theorem walk (p0 q0 : Int) (p1 q1 : Int) (p2 q2 : Int) (wp0 : (Lit.int .i64 p0).wf = true) (wq0 : (Lit.int .i64 q0).wf = true) (wp1 : (Lit.int .i64 p1).wf = true) (wq1 : (Lit.int .i64 q1).wf = true) (wp2 : (Lit.int .i64 p2).wf = true) (wq2 : (Lit.int .i64 q2).wf = true) (w : World) :
    Calls Try.prog 4 #[.agg #[.int .i64 p0, .int .i64 q0], .agg #[.int .i64 p1, .int .i64 q1], .agg #[.int .i64 p2, .int .i64 q2]] w fun e w' => e = .returned (.bool true) ∧ Grown w w' := by
  have e1 := vw_inr p0 q0
  have e2 := vw_inr p1 q1
  have e3 := vw_inr p2 q2
  have K9 : Hid (sn p0 q0 = true → p0 = hi (vw p0 q0) ∧ q0 = lo (vw p0 q0)) := fun h => hl_vw h
  have K8 : Hid (sn p1 q1 = true → vw p1 q1 = p1 * 4611686018427387904 + q1) := fun h => vw_sn h
  generalize hA : vw p0 q0 = A at *
  generalize hB : vw p1 q1 = B at *
  generalize hC : vw p2 q2 = C at *
  have k0 : B + A = A + B := Int.add_comm _ _
  have k1 := vw_cut (A + B)
  have k2 := sn_hl (cut_inr (A + B))
  have k3 := vw_cut (B + C)
  have k4 := vw_cut (-B)
  cases s0 : sn p0 q0
  · go_enter Try.func4, Try.ntmps4; go_wp2_with (first | (go_at_call 9; refine (awake2_c _).mono ?_; rintro e w' ⟨rfl, x, rfl⟩) | (go_at_call 10; refine (wadd_c _ _ _ _ _).mono ?_; rintro e w' ⟨rfl, x, rfl⟩) | (go_at_call 20; refine (wneg_c _ _ _).mono ?_; rintro e w' ⟨rfl, x, rfl⟩) | (go_at_call 18; refine (sane_c _ _ _).mono ?_; rintro e w' ⟨rfl, x, rfl⟩))
    go_ret; exact ⟨rfl, Mr.grown (by repeat (first | (with_reducible exact Mr.refl _) | (with_reducible apply Mr.drew) | (with_reducible apply Mr.alloc) | (with_reducible apply Mr.ext) | (with_reducible refine Mr.setCell ?_ (by first | (simp; done) | (simp; omega) | omega | (refine leOf0 ?_; (repeat (first | (with_reducible exact Mr.refl _) | (with_reducible apply Mr.drew) | (with_reducible apply Mr.alloc) | (with_reducible apply Mr.ext) | (with_reducible refine Mr.setCell ?_ (by first | (simp; done) | (simp; omega) | omega) _))); done) | (refine leOf ?_; (repeat (first | (with_reducible exact Mr.refl _) | (with_reducible apply Mr.drew) | (with_reducible apply Mr.alloc) | (with_reducible apply Mr.ext) | (with_reducible refine Mr.setCell ?_ (by first | (simp; done) | (simp; omega) | omega) _))); done)) _)))⟩
  · cases s1 : sn p1 q1
    · go_enter Try.func4, Try.ntmps4; go_wp2_with (first | (go_at_call 9; refine (awake2_c _).mono ?_; rintro e w' ⟨rfl, x, rfl⟩) | (go_at_call 10; refine (wadd_c _ _ _ _ _).mono ?_; rintro e w' ⟨rfl, x, rfl⟩) | (go_at_call 20; refine (wneg_c _ _ _).mono ?_; rintro e w' ⟨rfl, x, rfl⟩) | (go_at_call 18; refine (sane_c _ _ _).mono ?_; rintro e w' ⟨rfl, x, rfl⟩))
      go_ret; exact ⟨rfl, Mr.grown (by repeat (first | (with_reducible exact Mr.refl _) | (with_reducible apply Mr.drew) | (with_reducible apply Mr.alloc) | (with_reducible apply Mr.ext) | (with_reducible refine Mr.setCell ?_ (by first | (simp; done) | (simp; omega) | omega | (refine leOf0 ?_; (repeat (first | (with_reducible exact Mr.refl _) | (with_reducible apply Mr.drew) | (with_reducible apply Mr.alloc) | (with_reducible apply Mr.ext) | (with_reducible refine Mr.setCell ?_ (by first | (simp; done) | (simp; omega) | omega) _))); done) | (refine leOf ?_; (repeat (first | (with_reducible exact Mr.refl _) | (with_reducible apply Mr.drew) | (with_reducible apply Mr.alloc) | (with_reducible apply Mr.ext) | (with_reducible refine Mr.setCell ?_ (by first | (simp; done) | (simp; omega) | omega) _))); done)) _)))⟩
    · cases s2 : sn p2 q2
      · go_enter Try.func4, Try.ntmps4; go_wp2_with (first | (go_at_call 9; refine (awake2_c _).mono ?_; rintro e w' ⟨rfl, x, rfl⟩) | (go_at_call 10; refine (wadd_c _ _ _ _ _).mono ?_; rintro e w' ⟨rfl, x, rfl⟩) | (go_at_call 20; refine (wneg_c _ _ _).mono ?_; rintro e w' ⟨rfl, x, rfl⟩) | (go_at_call 18; refine (sane_c _ _ _).mono ?_; rintro e w' ⟨rfl, x, rfl⟩))
        go_ret; exact ⟨rfl, Mr.grown (by repeat (first | (with_reducible exact Mr.refl _) | (with_reducible apply Mr.drew) | (with_reducible apply Mr.alloc) | (with_reducible apply Mr.ext) | (with_reducible refine Mr.setCell ?_ (by first | (simp; done) | (simp; omega) | omega | (refine leOf0 ?_; (repeat (first | (with_reducible exact Mr.refl _) | (with_reducible apply Mr.drew) | (with_reducible apply Mr.alloc) | (with_reducible apply Mr.ext) | (with_reducible refine Mr.setCell ?_ (by first | (simp; done) | (simp; omega) | omega) _))); done) | (refine leOf ?_; (repeat (first | (with_reducible exact Mr.refl _) | (with_reducible apply Mr.drew) | (with_reducible apply Mr.alloc) | (with_reducible apply Mr.ext) | (with_reducible refine Mr.setCell ?_ (by first | (simp; done) | (simp; omega) | omega) _))); done)) _)))⟩
      · cases ca : inr (A + B)
        · go_enter Try.func4, Try.ntmps4; go_wp2_with (first | (go_at_call 9; refine (awake2_c _).mono ?_; rintro e w' ⟨rfl, x, rfl⟩) | (go_at_call 10; refine (wadd_c _ _ _ _ _).mono ?_; rintro e w' ⟨rfl, x, rfl⟩) | (go_at_call 20; refine (wneg_c _ _ _).mono ?_; rintro e w' ⟨rfl, x, rfl⟩) | (go_at_call 18; refine (sane_c _ _ _).mono ?_; rintro e w' ⟨rfl, x, rfl⟩))
          go_ret; exact ⟨rfl, Mr.grown (by repeat (first | (with_reducible exact Mr.refl _) | (with_reducible apply Mr.drew) | (with_reducible apply Mr.alloc) | (with_reducible apply Mr.ext) | (with_reducible refine Mr.setCell ?_ (by first | (simp; done) | (simp; omega) | omega | (refine leOf0 ?_; (repeat (first | (with_reducible exact Mr.refl _) | (with_reducible apply Mr.drew) | (with_reducible apply Mr.alloc) | (with_reducible apply Mr.ext) | (with_reducible refine Mr.setCell ?_ (by first | (simp; done) | (simp; omega) | omega) _))); done) | (refine leOf ?_; (repeat (first | (with_reducible exact Mr.refl _) | (with_reducible apply Mr.drew) | (with_reducible apply Mr.alloc) | (with_reducible apply Mr.ext) | (with_reducible refine Mr.setCell ?_ (by first | (simp; done) | (simp; omega) | omega) _))); done)) _)))⟩
        · rw [cut_of ca] at k1 k2
          have k5 := cut_of ca
          cases cc : inr (A + B + C)
          · go_enter Try.func4, Try.ntmps4; go_wp2_with (first | (go_at_call 9; refine (awake2_c _).mono ?_; rintro e w' ⟨rfl, x, rfl⟩) | (go_at_call 10; refine (wadd_c _ _ _ _ _).mono ?_; rintro e w' ⟨rfl, x, rfl⟩) | (go_at_call 20; refine (wneg_c _ _ _).mono ?_; rintro e w' ⟨rfl, x, rfl⟩) | (go_at_call 18; refine (sane_c _ _ _).mono ?_; rintro e w' ⟨rfl, x, rfl⟩))
            go_ret; exact ⟨rfl, Mr.grown (by repeat (first | (with_reducible exact Mr.refl _) | (with_reducible apply Mr.drew) | (with_reducible apply Mr.alloc) | (with_reducible apply Mr.ext) | (with_reducible refine Mr.setCell ?_ (by first | (simp; done) | (simp; omega) | omega | (refine leOf0 ?_; (repeat (first | (with_reducible exact Mr.refl _) | (with_reducible apply Mr.drew) | (with_reducible apply Mr.alloc) | (with_reducible apply Mr.ext) | (with_reducible refine Mr.setCell ?_ (by first | (simp; done) | (simp; omega) | omega) _))); done) | (refine leOf ?_; (repeat (first | (with_reducible exact Mr.refl _) | (with_reducible apply Mr.drew) | (with_reducible apply Mr.alloc) | (with_reducible apply Mr.ext) | (with_reducible refine Mr.setCell ?_ (by first | (simp; done) | (simp; omega) | omega) _))); done)) _)))⟩
          · have k6 := cut_of cc
            cases cd : inr (B + C)
            · go_enter Try.func4, Try.ntmps4; go_wp2_with (first | (go_at_call 9; refine (awake2_c _).mono ?_; rintro e w' ⟨rfl, x, rfl⟩) | (go_at_call 10; refine (wadd_c _ _ _ _ _).mono ?_; rintro e w' ⟨rfl, x, rfl⟩) | (go_at_call 20; refine (wneg_c _ _ _).mono ?_; rintro e w' ⟨rfl, x, rfl⟩) | (go_at_call 18; refine (sane_c _ _ _).mono ?_; rintro e w' ⟨rfl, x, rfl⟩))
              go_ret; exact ⟨rfl, Mr.grown (by repeat (first | (with_reducible exact Mr.refl _) | (with_reducible apply Mr.drew) | (with_reducible apply Mr.alloc) | (with_reducible apply Mr.ext) | (with_reducible refine Mr.setCell ?_ (by first | (simp; done) | (simp; omega) | omega | (refine leOf0 ?_; (repeat (first | (with_reducible exact Mr.refl _) | (with_reducible apply Mr.drew) | (with_reducible apply Mr.alloc) | (with_reducible apply Mr.ext) | (with_reducible refine Mr.setCell ?_ (by first | (simp; done) | (simp; omega) | omega) _))); done) | (refine leOf ?_; (repeat (first | (with_reducible exact Mr.refl _) | (with_reducible apply Mr.drew) | (with_reducible apply Mr.alloc) | (with_reducible apply Mr.ext) | (with_reducible refine Mr.setCell ?_ (by first | (simp; done) | (simp; omega) | omega) _))); done)) _)))⟩
            · rw [cut_of cd] at k3
              have k7 := cut_of cd
              have k10 : A + (B + C) = A + B + C := by omega
              have k11 : p0 = hi A ∧ q0 = lo A := K9.out s0
              have k12 : eqw (hi A) (lo A) p0 q0 = true := eqw_t k11.1.symm k11.2.symm
              have k13 := K8.out s1
              clear k11 K9 K8
              by_cases hl : B = -10633823966279326983230456482242756608
              · have l1 : (p1 == -2305843009213693952) = true := by rw [sn_iff] at s1; simp; omega
                have l2 : (q1 == 0) = true := by rw [sn_iff] at s1; simp; omega
                clear hl k13
                go_enter Try.func4, Try.ntmps4; go_wp2_with (first | (go_at_call 9; refine (awake2_c _).mono ?_; rintro e w' ⟨rfl, x, rfl⟩) | (go_at_call 10; refine (wadd_c _ _ _ _ _).mono ?_; rintro e w' ⟨rfl, x, rfl⟩) | (go_at_call 20; refine (wneg_c _ _ _).mono ?_; rintro e w' ⟨rfl, x, rfl⟩) | (go_at_call 18; refine (sane_c _ _ _).mono ?_; rintro e w' ⟨rfl, x, rfl⟩))
                rename_i X8 X7 X6 X5 X4 X3 X2 X1 X0 KK hKK; go_region_held3 (fun w' => w'.cell? ⟨X7.u.heap.size, 0, none⟩ = some (.int .i64 (hi (A + B))) ∧ w'.cell? ⟨X7.u.heap.size, 1, none⟩ = some (.int .i64 (lo (A + B))) ∧ w'.cell? ⟨w.heap.size + 1, 0, none⟩ = some (.int .i64 p1) ∧ w'.cell? ⟨w.heap.size + 1, 1, none⟩ = some (.int .i64 q1)) ((simp [go_sem]; done)) (first | (go_at_call 20; refine (wneg_c _ _ _).mono ?_; rintro e w' ⟨rfl, x, rfl⟩) | (go_at_call 10; refine (wadd_c _ _ _ _ _).mono ?_; rintro e w' ⟨rfl, x, rfl⟩))
                all_goals
                  go_wp2_with fail
                  go_ret; exact ⟨rfl, Mr.grown (by repeat (first | (with_reducible exact Mr.refl _) | (with_reducible apply Mr.drew) | (with_reducible apply Mr.alloc) | (with_reducible apply Mr.ext) | (with_reducible refine Mr.setCell ?_ (by first | (simp; done) | (simp; omega) | omega | (refine leOf0 ?_; (repeat (first | (with_reducible exact Mr.refl _) | (with_reducible apply Mr.drew) | (with_reducible apply Mr.alloc) | (with_reducible apply Mr.ext) | (with_reducible refine Mr.setCell ?_ (by first | (simp; done) | (simp; omega) | omega) _))); done) | (refine leOf ?_; (repeat (first | (with_reducible exact Mr.refl _) | (with_reducible apply Mr.drew) | (with_reducible apply Mr.alloc) | (with_reducible apply Mr.ext) | (with_reducible refine Mr.setCell ?_ (by first | (simp; done) | (simp; omega) | omega) _))); done)) _)))⟩
              · have l3 : inr (-B) = true := by rw [inr_iff] at e2 ⊢; omega
                have l4 := cut_of l3
                rw [l4] at k4
                have l5 : A + B + -B = A := by omega
                have l6 := cut_of e1
                have l7 : (p1 == -2305843009213693952) = false ∨ ((p1 == -2305843009213693952) = true ∧ (q1 == 0) = false) := by
                  by_cases u : p1 = -2305843009213693952
                  · refine .inr ⟨by simp [u], ?_⟩
                    simp; omega
                  · exact .inl (by simpa using u)
                clear hl k13
                rcases l7 with l7 | ⟨l7, l8⟩
                all_goals
                  go_enter Try.func4, Try.ntmps4; go_wp2_with (first | (go_at_call 9; refine (awake2_c _).mono ?_; rintro e w' ⟨rfl, x, rfl⟩) | (go_at_call 10; refine (wadd_c _ _ _ _ _).mono ?_; rintro e w' ⟨rfl, x, rfl⟩) | (go_at_call 20; refine (wneg_c _ _ _).mono ?_; rintro e w' ⟨rfl, x, rfl⟩) | (go_at_call 18; refine (sane_c _ _ _).mono ?_; rintro e w' ⟨rfl, x, rfl⟩))
                  rename_i X8 X7 X6 X5 X4 X3 X2 X1 X0 KK hKK; go_region_held3 (fun w' => w'.cell? ⟨X7.u.heap.size, 0, none⟩ = some (.int .i64 (hi (A + B))) ∧ w'.cell? ⟨X7.u.heap.size, 1, none⟩ = some (.int .i64 (lo (A + B))) ∧ w'.cell? ⟨w.heap.size + 1, 0, none⟩ = some (.int .i64 p1) ∧ w'.cell? ⟨w.heap.size + 1, 1, none⟩ = some (.int .i64 q1)) ((simp [go_sem]; done)) (first | (go_at_call 20; refine (wneg_c _ _ _).mono ?_; rintro e w' ⟨rfl, x, rfl⟩) | (go_at_call 10; refine (wadd_c _ _ _ _ _).mono ?_; rintro e w' ⟨rfl, x, rfl⟩))
                  all_goals
                    go_wp2_with fail
                    go_ret; exact ⟨rfl, Mr.grown (by repeat (first | (with_reducible exact Mr.refl _) | (with_reducible apply Mr.drew) | (with_reducible apply Mr.alloc) | (with_reducible apply Mr.ext) | (with_reducible refine Mr.setCell ?_ (by first | (simp; done) | (simp; omega) | omega | (refine leOf0 ?_; (repeat (first | (with_reducible exact Mr.refl _) | (with_reducible apply Mr.drew) | (with_reducible apply Mr.alloc) | (with_reducible apply Mr.ext) | (with_reducible refine Mr.setCell ?_ (by first | (simp; done) | (simp; omega) | omega) _))); done) | (refine leOf ?_; (repeat (first | (with_reducible exact Mr.refl _) | (with_reducible apply Mr.drew) | (with_reducible apply Mr.alloc) | (with_reducible apply Mr.ext) | (with_reducible refine Mr.setCell ?_ (by first | (simp; done) | (simp; omega) | omega) _))); done)) _)))⟩

set_option maxRecDepth 100000 in
theorem lifted (os : Os) (started : os.Started) (H : Type) (enc : TypeId × Value → H) :
    ReturnsInHanded {} Try.checked os 4 .any (Rows.wideSumsSpec.pre6 enc Try.prog Try.f4 Rows.wideSumsRow.domain false) (Rows.wideSumsSpec.post enc Try.prog Try.f4 false true false false) := by
  refine returnsInHanded_of_change (C := Try.checked) own started (by kernel_rfl) Try.func4
    (ChangeSpec.witness6 (enc := enc) (C := Try.checked) false ⟨#[], #[.agg #[.int .i64 0, .int .i64 0], .agg #[.int .i64 0, .int .i64 0], .agg #[.int .i64 0, .int .i64 0]], []⟩ 8 (by kernel_rfl) (by kernel_rfl) (by kernel_rfl) (by kernel_rfl)) ?_
  intro W base args ds gs before hval0 hW hcnd _
  have hval : ∀ (j : Nat) t v, Try.f4.params[j]? = some t → args[j]? = some v → Value.okWide Try.prog W .any base t v := hval0
  have hW' := hW
  obtain ⟨p, q, hA0, hV, rfl, hfz, hnd⟩ := hW
  have hA : DataW.TrodAll enc Try.prog W 0 (fun _ => true) true Try.f4.params.toList args.toList ds p := hA0
  rw [Try.params4] at hA hval
  obtain ⟨v0, vs0, d0, ds0, p_0, q_0, hargs, rfl, rfl, h0, r0⟩ := trodAll_cons hA
  obtain ⟨v1, vs1, d1, ds1, p_1, q_1, rfl, rfl, rfl, h1, r1⟩ := trodAll_cons r0
  obtain ⟨v2, vs2, d2, ds2, p_2, q_2, rfl, rfl, rfl, h2, r2⟩ := trodAll_cons r1
  obtain ⟨rfl, rfl, rfl⟩ := trodAll_nil r2
  obtain rfl : args = #[v0, v1, v2] := by cases args; simp_all
  obtain ⟨rfl, rfl⟩ := trodVars_none hV
  obtain ⟨p0, q0, rfl, rfl, rfl, wp0, wq0⟩ := Wr.open_wide (hval 0 23 v0 rfl rfl) h0
  obtain ⟨p1, q1, rfl, rfl, rfl, wp1, wq1⟩ := Wr.open_wide (hval 1 23 v1 rfl rfl) h1
  obtain ⟨p2, q2, rfl, rfl, rfl, wp2, wq2⟩ := Wr.open_wide (hval 2 23 v2 rfl rfl) h2
  clear hA0 hval0
  simp only [List.append_nil] at hW'
  refine (walk p0 q0 p1 q1 p2 q2 wp0 wq0 wp1 wq1 wp2 wq2 W).mono fun e W' ⟨he, hg⟩ => ?_
  subst he
  exact ⟨_, rfl, post_of_same (pa := []) (pv := []) hW' (fun _ _ _ => (trodAll_cons_mk (shut_bool Try.underlying4 _) trodAll_mk0)) (fun sp _ => (trodAll_cons_mk (Wr.shut_wide wp0 wq0) (trodAll_cons_mk (Wr.shut_wide wp1 wq1) (trodAll_cons_mk (Wr.shut_wide wp2 wq2) trodAll_mk0)))) (fun _ _ => rfl) rfl
    (hg.frame _) hg.2.1 (ok_one (by kernel_rfl) rfl (okWide_bool_mk Try.underlying4 _))⟩

theorem over : Rows.wideSumsRow.holds Try.pinned (OpenSpec.ofChange Rows.wideSumsSpec) :=
  OpenClaim.holds_of_wide 4 Try.f4 rfl rfl rfl rfl rfl rfl rfl ⟨rfl, rfl, rfl, rfl, rfl⟩ rfl rfl rfl rfl rfl (by kernel_rfl) Try.func4 (by kernel_rfl)
    (of_decide_eq_true (by kernel_rfl)) (by unfold Func.isWrapper; first | (rw [if_pos (by decide +kernel)]; kernel_rfl) | (rw [if_neg (by decide +kernel)]; exact ⟨rfl, rfl⟩))
    (fun os started H enc _ => lifted os started H enc)

theorem proved : Rows.WideSumsSaid :=
  over
#print axioms proved
end Go.Proofs.Ytjkcffajiajfjaa.wideSums
