/- For every two lists of ints the law SumNorm answers true: a norm is no less than each number without its sign and no greater than the sum of all without theirs, of one it is that, and the products of two lists are no greater than the product of their norms, and one more for each, if nothing is clamped. No condition. -/
import Derived.Test.YtehahoiliapnfaaRows
import Derived.WalkKit
import Derived.ProofKit
import Derived.OpenShut
import Derived.ShutString
import Derived.ChangeOld
import Derived.Below
import Derived.Test.YtehahoiliapnfaaSumC2
import Derived.Test.YtehahoiliapnfaaSumM2
import Derived.Test.YtehahoiliapnfaaSumS
namespace Go.Proofs.Ytehahoiliapnfaa.sumNorm
open Go.ChangeShapes Go.WideShapes Go.ChangeAt Go.RowKit
set_option linter.unusedVariables false
theorem own : ownKnob Try.prog.godebug = none := by kernel_rfl
theorem laidOut : laidOutB Try.prog = true := by kernel_rfl

open Go.Proofs.Ytehahoiliapnfaa.Fx Go.Proofs.Ytehahoiliapnfaa.Wd Go.Proofs.Ytehahoiliapnfaa.Sc Go.Proofs.Ytehahoiliapnfaa.Rt Go.Proofs.Ytehahoiliapnfaa.Sm Go.Proofs.Ytehahoiliapnfaa.Sl
attribute [local go_sem] Ext.cell Ext.froz Ext.lt Ext.lt1 Ext.lt2 Ext.lt3 Ext.all Ext.set_u drew_heap setCell_size Ext.set_size
attribute [-go_sem] run_min_int2
theorem gt_abs {X : List Int} (i : Nat) : -9223372036854775808 ≤ gt (X.map ab) i ∧ gt (X.map ab) i ≤ 9223372036854775807 := by
  unfold gt
  rw [List.getD_eq_getElem?_getD, List.getElem?_map]
  cases X[i]? with
  | none => simp
  | some x => have := ab_bd x; simp; omega
theorem gt_mem {X : List Int} {i : Nat} (h : i < X.length) : gt X i ∈ X := by
  unfold gt
  rw [List.getD_eq_getElem?_getD, List.getElem?_eq_getElem h]
  exact List.getElem_mem h
/-- All that is told of the answers. -/
theorem norm_math {X m : List Int} {K : Nat} (e : X.length = K) (h : K ≤ 64) : ∃ (N T M P V : Int) (C D E F G : Bool), sr (sq X) = N ∧ (ck X 64 || ro (sq X)) = C ∧ cl (tot (X.map ab)) = T ∧ (ck (X.map ab) 64 || co (tot (X.map ab))) = D ∧ sr (sq (m.take 64)) = M ∧ (ck (m.take 64) 64 || ro (sq (m.take 64))) = E ∧ tv (N + 1) (M + 1) = P ∧ tb (N + 1) (M + 1) = F ∧ cl (rn (dz X m)) = V ∧ (ck (X.take (kk X m)) 64 || ck (m.take (kk X m)) 64 || co (rn (dz X m))) = G ∧ N ≤ T ∧ (0 ≤ N ∧ N ≤ 288230376151711744) ∧ (0 ≤ M ∧ M ≤ 288230376151711744) ∧ (-288230376151711744 ≤ P ∧ P ≤ 288230376151711744) ∧
    Hid (C = true ∨ (C = false ∧ D = true) ∨ (C = false ∧ D = false ∧ E = true) ∨ (C = false ∧ D = false ∧ E = false ∧ F = true) ∨ (C = false ∧ D = false ∧ E = false ∧ F = false ∧ G = true) ∨ (C = false ∧ D = false ∧ E = false ∧ F = false ∧ G = false ∧ ab V ≤ P + 1)) := by
  refine ⟨_, _, _, _, _, _, _, _, _, _, rfl, rfl, rfl, rfl, rfl, rfl, rfl, rfl, rfl, rfl, norm_le (by omega), sr_bd _, sr_bd _, cl_bd _, ?_⟩
  cases hC : (ck X 64 || ro (sq X)) with
  | true => exact .inl rfl
  | false =>
    cases hD : (ck (X.map ab) 64 || co (tot (X.map ab))) with
    | true => exact .inr (.inl ⟨rfl, rfl⟩)
    | false =>
      cases hE : (ck (m.take 64) 64 || ro (sq (m.take 64))) with
      | true => exact .inr (.inr (.inl ⟨rfl, rfl, rfl⟩))
      | false =>
        cases hF : tb (sr (sq X) + 1) (sr (sq (m.take 64)) + 1) with
        | true => exact .inr (.inr (.inr (.inl ⟨rfl, rfl, rfl, rfl⟩)))
        | false =>
          cases hG : (ck (X.take (kk X m)) 64 || ck (m.take (kk X m)) 64 || co (rn (dz X m))) with
          | true => exact .inr (.inr (.inr (.inr (.inl ⟨rfl, rfl, rfl, rfl, rfl⟩))))
          | false =>
            rw [Bool.or_eq_false_iff] at hC hE hG
            exact .inr (.inr (.inr (.inr (.inr ⟨rfl, rfl, rfl, rfl, rfl, dot_norm (by omega) rfl rfl hC.2 hE.2 hF hG.2⟩))))
set_option maxHeartbeats 4000000 in
set_option maxRecDepth 100000 in
theorem walk (s0 : Option Addr) (n0 c0 : Nat) (z0 : List Int) (s1 : Option Addr) (n1 c1 : Nat) (z1 : List Int) (w : World) (w0 : IsRow .i64 w s0 n0 c0 z0) (w1 : IsRow .i64 w s1 n1 c1 z1) :
    Calls Try.prog 6 #[.slice s0 n0 c0, .slice s1 n1 c1] w fun e w' => e = .returned (.bool true) ∧ Below w.heap.size w w' := by
  obtain ⟨i0, hi, hz0, hz1, hz2⟩ := info_parts infoI
  obtain ⟨l, e0, H0⟩ := of_row w0
  obtain ⟨m, e1, H1⟩ := of_row w1
  clear w0 w1
  have m0 := H0.max
  have m1 := H1.max
  have k0 := H0.le
  have k1 := H1.le
  unfold maxLen at m0 m1
  obtain ⟨K, hK⟩ : ∃ K, K = min n0 64 := ⟨_, rfl⟩
  obtain ⟨K1, hK1⟩ : ∃ K, K = min n1 1 := ⟨_, rfl⟩
  obtain ⟨K2, hK2⟩ : ∃ K, K = min n1 64 := ⟨_, rfl⟩
  have HX := H0.take K
  have HY1 := H1.take K1
  have HY := H1.take 64
  have eX : (l.take K).length = K := by rw [List.length_take]; omega
  have eY1 : (m.take K1).length = K1 := by rw [List.length_take]; omega
  have eY : (m.take 64).length = K2 := by rw [List.length_take]; omega
  generalize hXX : l.take K = X at *
  rw [e0] at k0
  rw [e1] at k1
  clear H0 hXX e0
  have hmin0 : ∀ (ts : Array TypeId) (t : TypeId) (W : World), (Builtin.min_ ts t #[.int .i64 (n0 : Int), .int .i64 64]).run Try.prog W = .ok (.int .i64 (K : Int)) W := fun ts t W => by
    simp [Builtin.min_, Builtin.min2]
    omega
  have hmin1 : ∀ (ts : Array TypeId) (t : TypeId) (W : World), (Builtin.min_ ts t #[.int .i64 (n1 : Int), .int .i64 1]).run Try.prog W = .ok (.int .i64 (K1 : Int)) W := fun ts t W => by
    simp [Builtin.min_, Builtin.min2]
    omega
  have hmin2 : ∀ (ts : Array TypeId) (t : TypeId) (W : World), (Builtin.min_ ts t #[.int .i64 (n1 : Int), .int .i64 64]).run Try.prog W = .ok (.int .i64 (K2 : Int)) W := fun ts t W => by
    simp [Builtin.min_, Builtin.min2]
    omega
  have hKc : K ≤ c0 := by omega
  have hK64 : K ≤ 64 := by omega
  have hK1c : K1 ≤ c1 := by omega
  have hK2c : K2 ≤ c1 := by omega
  have hone : Hid (0 < n1 → sr (dp (vk (m.take K1) 64) (vk (m.take K1) 64)) = ab (gt m 0)) := fun h => by
    obtain rfl : K1 = 1 := by omega
    rw [take_more m 0 (by omega), List.take_zero, List.nil_append]
    exact norm_one _
  have HK1 : Hid (K1 = min n1 1) := hK1
  clear hK hK1 hK2
  have Q1 := dp_sq (l := X) (by omega)
  have Q2 := dp_sq (l := m.take 64) (by rw [List.length_take]; omega)
  obtain ⟨N, T, M, P, V, C, D, E, F, G0, p1, p2, p3, p4, p5, p6, p7, p8, p9, p10, hNT, ⟨N0, N1⟩, ⟨M0, M1⟩, ⟨P0, P1⟩, PM⟩ := norm_math (m := m) eX hK64
  have tX : Unit := ()
  have t1 : Unit := ()
  have hge : Hid (∀ i, i < K → ab (gt X i) ≤ N) := fun i hi => by rw [← p1]; exact norm_ge (gt_mem (by omega))
  go_enter Try.func6, Try.ntmps6; go_wp2_with (first | (go_at_call 8; refine (awake6_c _).mono ?_; rintro e w' ⟨rfl, x, rfl⟩) | (go_at_call 15; (have := tX; clear this tX); refine (norm_n _ (by first | exact HX | exact HX.mr (by repeat (first | (with_reducible exact Mr.refl _) | (with_reducible apply Mr.drew) | (with_reducible apply Mr.alloc) | (with_reducible apply Mr.ext) | (with_reducible refine Mr.setCell ?_ (by first | (simp; done) | (simp; omega) | omega | (refine leOf0 ?_; (repeat (first | (with_reducible exact Mr.refl _) | (with_reducible apply Mr.drew) | (with_reducible apply Mr.alloc) | (with_reducible apply Mr.ext) | (with_reducible refine Mr.setCell ?_ (by first | (simp; done) | (simp; omega) | omega) _))); done) | (refine leOf ?_; (repeat (first | (with_reducible exact Mr.refl _) | (with_reducible apply Mr.drew) | (with_reducible apply Mr.alloc) | (with_reducible apply Mr.ext) | (with_reducible refine Mr.setCell ?_ (by first | (simp; done) | (simp; omega) | omega) _))); done)) _)))) eX).mono ?_; rw [Q1]; rintro e w' ⟨rfl, x, rfl⟩))
  go_loopw [9, 10] (fun v i wr => ∃ j : Nat, j ≤ K ∧ i = .int .i64 j ∧ wr.ownsRow w.heap.size 3 1 v j (((X.take j).map ab).map (Value.int .i64)) ∧ ∃ y : Ext w, wr = y.u) (fun _ i _ => (64 - intOf i).toNat)
  case atStart => exact ⟨0, by omega, rfl, World.ownsRow_nil _ _ _ _, Mr.mk' (by repeat (first | (with_reducible exact Mr.refl _) | (with_reducible apply Mr.drew) | (with_reducible apply Mr.alloc) | (with_reducible apply Mr.ext) | (with_reducible refine Mr.setCell ?_ (by first | (simp; done) | (simp; omega) | omega | (refine leOf0 ?_; (repeat (first | (with_reducible exact Mr.refl _) | (with_reducible apply Mr.drew) | (with_reducible apply Mr.alloc) | (with_reducible apply Mr.ext) | (with_reducible refine Mr.setCell ?_ (by first | (simp; done) | (simp; omega) | omega) _))); done) | (refine leOf ?_; (repeat (first | (with_reducible exact Mr.refl _) | (with_reducible apply Mr.drew) | (with_reducible apply Mr.alloc) | (with_reducible apply Mr.ext) | (with_reducible refine Mr.setCell ?_ (by first | (simp; done) | (simp; omega) | omega) _))); done)) _)))⟩
  case round =>
    obtain ⟨j, hj, rfl, hp, y, rfl⟩ := hrel
    by_cases hlt : j < K
    · have hlt' : (j : Int) < K := by omega
      obtain ⟨b, o, rfl, hb, hc⟩ := HX.at' j (by omega)
      have hcj := hc j (by omega)
      have hyb := ab_bd (gt X j)
      have hgj := hge.out j hlt
      have HR : Hid ((X.take (j + 1)).map ab = (X.take j).map ab ++ [ab (gt X j)]) := by rw [Hid, take_more X j (by omega), List.map_append]; rfl
      generalize hZ : gt X j = Z at *
      generalize hG : ab Z = G at *
      have hmr : ∀ (w1 : World), (y.u.alloc (.cells #[.int .i64 G] 3)).grownBy w1 u9.ownBlock → ∃ z : Ext w, w1 = z.u := fun w1 hg => Mr.mk' ((y.h.alloc _).grownBy hg (fun j e => (hp.lt j e).1))
      clear HX HY1 HY H1 hc p1 p2 p3 p4 p5 p6 p7 p8 p9 p10 PM hmin0 hmin1 hmin2 hge Q1 Q2 hone HK1
      go_wp2_with (first | (at_builtin; refine wpList_append_own _ rfl _ _ 22 rfl w.heap.size 3 i0 (.int .i64 0) 1 8 Try.underlying22 hi hz0 hz1 hz2 rfl (by decide) _ _ _ rfl (hp.alloc _) ⟨y.u.heap.size, 0, none⟩ 1 1 [.int .i64 G] rfl rfl (cell_one _ _) (one_cell _) (by unfold maxLen; omega) (by omega) (by have := y.h.below.size; simp; omega) ?_; intro v' w1 hp1 hgr _; obtain ⟨z, rfl⟩ := hmr w1 hgr; clear hgr) | (go_at_call 19; refine (abs_c _ _).mono ?_; rintro e w' ⟨rfl, rfl⟩))
      go_roundw
      case rel => exact ⟨j + 1, by omega, by go_num, by rw [HR.out, List.map_append]; exact hp1, z, rfl⟩
      case measure => simp [intOf]; omega
    · obtain rfl : j = K := by omega
      rw [List.take_of_length_le (by omega)] at hp
      obtain ⟨a9, c9, hv9, -, HO⟩ := of_owns hp gt_abs
      rw [List.length_map, eX] at hv9
      subst hv9
      have eO : (X.map ab).length = j := by rw [List.length_map]; exact eX
      clear hp hge hmin0
      by_cases hn : 0 < n1
      · obtain ⟨b1, o1, rfl, hb1, hc1⟩ := H1.at' 0 (by omega)
        have hc0 := hc1 0 (by omega)
        rw [Nat.add_zero] at hc0
        have ho := hone.out hn
        have hn' : (0 : Int) < n1 := by omega
        clear hc1 hone
        generalize hB : gt m 0 = B at *
        generalize hA : ab B = A at *
        rcases PM.out with q1 | ⟨q1, q2⟩ | ⟨q1, q2, q3⟩ | ⟨q1, q2, q3, q4⟩ | ⟨q1, q2, q3, q4, q5⟩ | ⟨q1, q2, q3, q4, q5, q6⟩
        all_goals
          go_wp2_with (first | (go_at_call 9; refine (total_n _ (by first | exact HO | exact HO.mr (by repeat (first | (with_reducible exact Mr.refl _) | (with_reducible apply Mr.drew) | (with_reducible apply Mr.alloc) | (with_reducible apply Mr.ext) | (with_reducible refine Mr.setCell ?_ (by first | (simp; done) | (simp; omega) | omega | (refine leOf0 ?_; (repeat (first | (with_reducible exact Mr.refl _) | (with_reducible apply Mr.drew) | (with_reducible apply Mr.alloc) | (with_reducible apply Mr.ext) | (with_reducible refine Mr.setCell ?_ (by first | (simp; done) | (simp; omega) | omega) _))); done) | (refine leOf ?_; (repeat (first | (with_reducible exact Mr.refl _) | (with_reducible apply Mr.drew) | (with_reducible apply Mr.alloc) | (with_reducible apply Mr.ext) | (with_reducible refine Mr.setCell ?_ (by first | (simp; done) | (simp; omega) | omega) _))); done)) _)))) eO).mono ?_; rintro e w' ⟨rfl, x, rfl⟩) | (go_at_call 15; (have := t1; clear this t1); refine (norm_n _ (by first | exact HY1 | exact HY1.mr (by repeat (first | (with_reducible exact Mr.refl _) | (with_reducible apply Mr.drew) | (with_reducible apply Mr.alloc) | (with_reducible apply Mr.ext) | (with_reducible refine Mr.setCell ?_ (by first | (simp; done) | (simp; omega) | omega | (refine leOf0 ?_; (repeat (first | (with_reducible exact Mr.refl _) | (with_reducible apply Mr.drew) | (with_reducible apply Mr.alloc) | (with_reducible apply Mr.ext) | (with_reducible refine Mr.setCell ?_ (by first | (simp; done) | (simp; omega) | omega) _))); done) | (refine leOf ?_; (repeat (first | (with_reducible exact Mr.refl _) | (with_reducible apply Mr.drew) | (with_reducible apply Mr.alloc) | (with_reducible apply Mr.ext) | (with_reducible refine Mr.setCell ?_ (by first | (simp; done) | (simp; omega) | omega) _))); done)) _)))) eY1).mono ?_; rintro e w' ⟨rfl, x, rfl⟩) | (go_at_call 15; refine (norm_n _ (by first | exact HY | exact HY.mr (by repeat (first | (with_reducible exact Mr.refl _) | (with_reducible apply Mr.drew) | (with_reducible apply Mr.alloc) | (with_reducible apply Mr.ext) | (with_reducible refine Mr.setCell ?_ (by first | (simp; done) | (simp; omega) | omega | (refine leOf0 ?_; (repeat (first | (with_reducible exact Mr.refl _) | (with_reducible apply Mr.drew) | (with_reducible apply Mr.alloc) | (with_reducible apply Mr.ext) | (with_reducible refine Mr.setCell ?_ (by first | (simp; done) | (simp; omega) | omega) _))); done) | (refine leOf ?_; (repeat (first | (with_reducible exact Mr.refl _) | (with_reducible apply Mr.drew) | (with_reducible apply Mr.alloc) | (with_reducible apply Mr.ext) | (with_reducible refine Mr.setCell ?_ (by first | (simp; done) | (simp; omega) | omega) _))); done)) _)))) eY).mono ?_; rw [Q2]; rintro e w' ⟨rfl, x, rfl⟩) | (go_at_call 20; refine (times_c _ _ _).mono ?_; rintro e w' ⟨rfl, x, rfl⟩) | (go_at_call 13; refine (dot_n _ _ (by first | exact HX | exact HX.mr (by repeat (first | (with_reducible exact Mr.refl _) | (with_reducible apply Mr.drew) | (with_reducible apply Mr.alloc) | (with_reducible apply Mr.ext) | (with_reducible refine Mr.setCell ?_ (by first | (simp; done) | (simp; omega) | omega | (refine leOf0 ?_; (repeat (first | (with_reducible exact Mr.refl _) | (with_reducible apply Mr.drew) | (with_reducible apply Mr.alloc) | (with_reducible apply Mr.ext) | (with_reducible refine Mr.setCell ?_ (by first | (simp; done) | (simp; omega) | omega) _))); done) | (refine leOf ?_; (repeat (first | (with_reducible exact Mr.refl _) | (with_reducible apply Mr.drew) | (with_reducible apply Mr.alloc) | (with_reducible apply Mr.ext) | (with_reducible refine Mr.setCell ?_ (by first | (simp; done) | (simp; omega) | omega) _))); done)) _)))) (by first | exact H1 | exact H1.mr (by repeat (first | (with_reducible exact Mr.refl _) | (with_reducible apply Mr.drew) | (with_reducible apply Mr.alloc) | (with_reducible apply Mr.ext) | (with_reducible refine Mr.setCell ?_ (by first | (simp; done) | (simp; omega) | omega | (refine leOf0 ?_; (repeat (first | (with_reducible exact Mr.refl _) | (with_reducible apply Mr.drew) | (with_reducible apply Mr.alloc) | (with_reducible apply Mr.ext) | (with_reducible refine Mr.setCell ?_ (by first | (simp; done) | (simp; omega) | omega) _))); done) | (refine leOf ?_; (repeat (first | (with_reducible exact Mr.refl _) | (with_reducible apply Mr.drew) | (with_reducible apply Mr.alloc) | (with_reducible apply Mr.ext) | (with_reducible refine Mr.setCell ?_ (by first | (simp; done) | (simp; omega) | omega) _))); done)) _)))) eX e1).mono ?_; rintro e w' ⟨rfl, x, rfl⟩) | (go_at_call 19; refine (abs_c _ _).mono ?_; rintro e w' ⟨rfl, rfl⟩))
          go_ret; exact ⟨rfl, Mr.grown (by repeat (first | (with_reducible exact Mr.refl _) | (with_reducible apply Mr.drew) | (with_reducible apply Mr.alloc) | (with_reducible apply Mr.ext) | (with_reducible refine Mr.setCell ?_ (by first | (simp; done) | (simp; omega) | omega | (refine leOf0 ?_; (repeat (first | (with_reducible exact Mr.refl _) | (with_reducible apply Mr.drew) | (with_reducible apply Mr.alloc) | (with_reducible apply Mr.ext) | (with_reducible refine Mr.setCell ?_ (by first | (simp; done) | (simp; omega) | omega) _))); done) | (refine leOf ?_; (repeat (first | (with_reducible exact Mr.refl _) | (with_reducible apply Mr.drew) | (with_reducible apply Mr.alloc) | (with_reducible apply Mr.ext) | (with_reducible refine Mr.setCell ?_ (by first | (simp; done) | (simp; omega) | omega) _))); done)) _)))⟩
      · have hn' : ¬ (0 : Int) < n1 := by omega
        rcases PM.out with q1 | ⟨q1, q2⟩ | ⟨q1, q2, q3⟩ | ⟨q1, q2, q3, q4⟩ | ⟨q1, q2, q3, q4, q5⟩ | ⟨q1, q2, q3, q4, q5, q6⟩
        all_goals
          go_wp2_with (first | (go_at_call 9; refine (total_n _ (by first | exact HO | exact HO.mr (by repeat (first | (with_reducible exact Mr.refl _) | (with_reducible apply Mr.drew) | (with_reducible apply Mr.alloc) | (with_reducible apply Mr.ext) | (with_reducible refine Mr.setCell ?_ (by first | (simp; done) | (simp; omega) | omega | (refine leOf0 ?_; (repeat (first | (with_reducible exact Mr.refl _) | (with_reducible apply Mr.drew) | (with_reducible apply Mr.alloc) | (with_reducible apply Mr.ext) | (with_reducible refine Mr.setCell ?_ (by first | (simp; done) | (simp; omega) | omega) _))); done) | (refine leOf ?_; (repeat (first | (with_reducible exact Mr.refl _) | (with_reducible apply Mr.drew) | (with_reducible apply Mr.alloc) | (with_reducible apply Mr.ext) | (with_reducible refine Mr.setCell ?_ (by first | (simp; done) | (simp; omega) | omega) _))); done)) _)))) eO).mono ?_; rintro e w' ⟨rfl, x, rfl⟩) | (go_at_call 15; (have := t1; clear this t1); refine (norm_n _ (by first | exact HY1 | exact HY1.mr (by repeat (first | (with_reducible exact Mr.refl _) | (with_reducible apply Mr.drew) | (with_reducible apply Mr.alloc) | (with_reducible apply Mr.ext) | (with_reducible refine Mr.setCell ?_ (by first | (simp; done) | (simp; omega) | omega | (refine leOf0 ?_; (repeat (first | (with_reducible exact Mr.refl _) | (with_reducible apply Mr.drew) | (with_reducible apply Mr.alloc) | (with_reducible apply Mr.ext) | (with_reducible refine Mr.setCell ?_ (by first | (simp; done) | (simp; omega) | omega) _))); done) | (refine leOf ?_; (repeat (first | (with_reducible exact Mr.refl _) | (with_reducible apply Mr.drew) | (with_reducible apply Mr.alloc) | (with_reducible apply Mr.ext) | (with_reducible refine Mr.setCell ?_ (by first | (simp; done) | (simp; omega) | omega) _))); done)) _)))) eY1).mono ?_; rintro e w' ⟨rfl, x, rfl⟩) | (go_at_call 15; refine (norm_n _ (by first | exact HY | exact HY.mr (by repeat (first | (with_reducible exact Mr.refl _) | (with_reducible apply Mr.drew) | (with_reducible apply Mr.alloc) | (with_reducible apply Mr.ext) | (with_reducible refine Mr.setCell ?_ (by first | (simp; done) | (simp; omega) | omega | (refine leOf0 ?_; (repeat (first | (with_reducible exact Mr.refl _) | (with_reducible apply Mr.drew) | (with_reducible apply Mr.alloc) | (with_reducible apply Mr.ext) | (with_reducible refine Mr.setCell ?_ (by first | (simp; done) | (simp; omega) | omega) _))); done) | (refine leOf ?_; (repeat (first | (with_reducible exact Mr.refl _) | (with_reducible apply Mr.drew) | (with_reducible apply Mr.alloc) | (with_reducible apply Mr.ext) | (with_reducible refine Mr.setCell ?_ (by first | (simp; done) | (simp; omega) | omega) _))); done)) _)))) eY).mono ?_; rw [Q2]; rintro e w' ⟨rfl, x, rfl⟩) | (go_at_call 20; refine (times_c _ _ _).mono ?_; rintro e w' ⟨rfl, x, rfl⟩) | (go_at_call 13; refine (dot_n _ _ (by first | exact HX | exact HX.mr (by repeat (first | (with_reducible exact Mr.refl _) | (with_reducible apply Mr.drew) | (with_reducible apply Mr.alloc) | (with_reducible apply Mr.ext) | (with_reducible refine Mr.setCell ?_ (by first | (simp; done) | (simp; omega) | omega | (refine leOf0 ?_; (repeat (first | (with_reducible exact Mr.refl _) | (with_reducible apply Mr.drew) | (with_reducible apply Mr.alloc) | (with_reducible apply Mr.ext) | (with_reducible refine Mr.setCell ?_ (by first | (simp; done) | (simp; omega) | omega) _))); done) | (refine leOf ?_; (repeat (first | (with_reducible exact Mr.refl _) | (with_reducible apply Mr.drew) | (with_reducible apply Mr.alloc) | (with_reducible apply Mr.ext) | (with_reducible refine Mr.setCell ?_ (by first | (simp; done) | (simp; omega) | omega) _))); done)) _)))) (by first | exact H1 | exact H1.mr (by repeat (first | (with_reducible exact Mr.refl _) | (with_reducible apply Mr.drew) | (with_reducible apply Mr.alloc) | (with_reducible apply Mr.ext) | (with_reducible refine Mr.setCell ?_ (by first | (simp; done) | (simp; omega) | omega | (refine leOf0 ?_; (repeat (first | (with_reducible exact Mr.refl _) | (with_reducible apply Mr.drew) | (with_reducible apply Mr.alloc) | (with_reducible apply Mr.ext) | (with_reducible refine Mr.setCell ?_ (by first | (simp; done) | (simp; omega) | omega) _))); done) | (refine leOf ?_; (repeat (first | (with_reducible exact Mr.refl _) | (with_reducible apply Mr.drew) | (with_reducible apply Mr.alloc) | (with_reducible apply Mr.ext) | (with_reducible refine Mr.setCell ?_ (by first | (simp; done) | (simp; omega) | omega) _))); done)) _)))) eX e1).mono ?_; rintro e w' ⟨rfl, x, rfl⟩) | (go_at_call 19; refine (abs_c _ _).mono ?_; rintro e w' ⟨rfl, rfl⟩))
          go_ret; exact ⟨rfl, Mr.grown (by repeat (first | (with_reducible exact Mr.refl _) | (with_reducible apply Mr.drew) | (with_reducible apply Mr.alloc) | (with_reducible apply Mr.ext) | (with_reducible refine Mr.setCell ?_ (by first | (simp; done) | (simp; omega) | omega | (refine leOf0 ?_; (repeat (first | (with_reducible exact Mr.refl _) | (with_reducible apply Mr.drew) | (with_reducible apply Mr.alloc) | (with_reducible apply Mr.ext) | (with_reducible refine Mr.setCell ?_ (by first | (simp; done) | (simp; omega) | omega) _))); done) | (refine leOf ?_; (repeat (first | (with_reducible exact Mr.refl _) | (with_reducible apply Mr.drew) | (with_reducible apply Mr.alloc) | (with_reducible apply Mr.ext) | (with_reducible refine Mr.setCell ?_ (by first | (simp; done) | (simp; omega) | omega) _))); done)) _)))⟩

set_option maxRecDepth 100000 in
theorem lifted (os : Os) (started : os.Started) (H : Type) (enc : TypeId × Value → H) :
    ReturnsInHanded {} Try.checked os 6 .any (Rows.sumNormSpec.pre6 enc Try.prog Try.f6 Rows.sumNormRow.domain false) (Rows.sumNormSpec.post enc Try.prog Try.f6 false true false false) := by
  refine returnsInHanded_of_change (C := Try.checked) own started (by kernel_rfl) Try.func6
    (ChangeSpec.witness6 (enc := enc) (C := Try.checked) false ⟨#[], #[.slice none 0 0, .slice none 0 0], []⟩ 8 (by kernel_rfl) (by kernel_rfl) (by kernel_rfl) (by kernel_rfl)) ?_
  intro W base args ds gs before hval0 hW hcnd _
  have hval : ∀ (j : Nat) t v, Try.f6.params[j]? = some t → args[j]? = some v → Value.okWide Try.prog W .any base t v := hval0
  have hW' := hW
  obtain ⟨p, q, hA0, hV, rfl, hfz, hnd⟩ := hW
  have hA : DataW.TrodAll enc Try.prog W 0 (fun _ => true) true Try.f6.params.toList args.toList ds p := hA0
  rw [Try.params6] at hA hval
  obtain ⟨v0, vs0, d0, ds0, p_0, q_0, hargs, rfl, rfl, h0, r0⟩ := trodAll_cons hA
  obtain ⟨v1, vs1, d1, ds1, p_1, q_1, rfl, rfl, rfl, h1, r1⟩ := trodAll_cons r0
  obtain ⟨rfl, rfl, rfl⟩ := trodAll_nil r1
  obtain rfl : args = #[v0, v1] := by cases args; simp_all
  obtain ⟨rfl, rfl⟩ := trodVars_none hV
  obtain ⟨s0, n0, c0, rfl⟩ := okWide_slice Try.underlying22 (hval 0 22 v0 rfl rfl)
  have k0 := h0
  have lt0 : ∀ x ∈ p_0, x.block < W.heap.size := by obtain ⟨m, hm⟩ := k0; exact DataW.trod_lt m _ _ _ hm
  obtain ⟨z0, w0⟩ : ∃ zs, IsRow .i64 W s0 n0 c0 zs := by
    obtain ⟨fuel, hf⟩ := h0
    rcases open_ints Try.underlying22 Try.underlying3 (by kernel_rfl) hf with ⟨hcs, _⟩ | ⟨x, l, c, zs, hcs, _, hl, hm, hz, _, hcell, hwz⟩
    · simp [Value.cells] at hcs
      obtain ⟨rfl, rfl, rfl⟩ := hcs
      exact ⟨[], .inl ⟨rfl, rfl, rfl, rfl⟩⟩
    · simp [Value.cells] at hcs
      obtain ⟨rfl, rfl, rfl⟩ := hcs
      exact ⟨zs, .inr ⟨_, rfl, hl, hm, by simpa using hz, hcell, hwz⟩⟩
  obtain ⟨s1, n1, c1, rfl⟩ := okWide_slice Try.underlying22 (hval 1 22 v1 rfl rfl)
  have k1 := h1
  have lt1 : ∀ x ∈ p_1, x.block < W.heap.size := by obtain ⟨m, hm⟩ := k1; exact DataW.trod_lt m _ _ _ hm
  obtain ⟨z1, w1⟩ : ∃ zs, IsRow .i64 W s1 n1 c1 zs := by
    obtain ⟨fuel, hf⟩ := h1
    rcases open_ints Try.underlying22 Try.underlying3 (by kernel_rfl) hf with ⟨hcs, _⟩ | ⟨x, l, c, zs, hcs, _, hl, hm, hz, _, hcell, hwz⟩
    · simp [Value.cells] at hcs
      obtain ⟨rfl, rfl, rfl⟩ := hcs
      exact ⟨[], .inl ⟨rfl, rfl, rfl, rfl⟩⟩
    · simp [Value.cells] at hcs
      obtain ⟨rfl, rfl, rfl⟩ := hcs
      exact ⟨zs, .inr ⟨_, rfl, hl, hm, by simpa using hz, hcell, hwz⟩⟩
  clear hA0 hval0
  refine (walk s0 n0 c0 z0 s1 n1 c1 z1 W w0 w1).mono fun e W' ⟨he, bel⟩ => ?_
  subst he
  exact ⟨_, rfl, _, _, _, [], _, [], hW', trodAll_mk1 (shut_bool Try.underlying4 _), (trodAll_cons_mk (Below.trod laidOut (by kernel_rfl) (of_decide_eq_true (by kernel_rfl)) k0 bel lt0) (trodAll_cons_mk (Below.trod laidOut (by kernel_rfl) (of_decide_eq_true (by kernel_rfl)) k1 bel lt1) trodAll_mk0)), rfl, bel.frame _, fun h => by cases h⟩

theorem over : Rows.sumNormRow.holds Try.pinned (OpenSpec.ofChange Rows.sumNormSpec) :=
  OpenClaim.holds_of_wide 6 Try.f6 rfl rfl rfl rfl rfl rfl rfl ⟨rfl, rfl, rfl, rfl, rfl⟩ rfl rfl rfl rfl rfl (by kernel_rfl) Try.func6 (by kernel_rfl)
    (of_decide_eq_true (by kernel_rfl)) (by unfold Func.isWrapper; first | (rw [if_pos (by decide +kernel)]; kernel_rfl) | (rw [if_neg (by decide +kernel)]; exact ⟨rfl, rfl⟩))
    (fun os started H enc _ => lifted os started H enc)

theorem proved : Rows.SumNormSaid :=
  over
#print axioms proved
end Go.Proofs.Ytehahoiliapnfaa.sumNorm
