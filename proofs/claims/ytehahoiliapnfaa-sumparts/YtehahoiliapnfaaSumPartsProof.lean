/- For every list of ints and every int the law SumParts answers true: the sum is that of both parts if none is clamped, with a product of 1 with each it is the sum, the mean lies between the least and the greatest. No condition. -/
import Derived.Test.YtehahoiliapnfaaRows
import Derived.WalkKit
import Derived.ProofKit
import Derived.OpenShut
import Derived.ShutString
import Derived.ChangeOld
import Derived.Below
import Derived.Test.YtehahoiliapnfaaSumC2
import Derived.Test.YtehahoiliapnfaaSumS
namespace Go.Proofs.Ytehahoiliapnfaa.sumParts
open Go.ChangeShapes Go.WideShapes Go.ChangeAt Go.RowKit
set_option linter.unusedVariables false
theorem own : ownKnob Try.prog.godebug = none := by kernel_rfl
theorem laidOut : laidOutB Try.prog = true := by kernel_rfl

open Go.Proofs.Ytehahoiliapnfaa.Fx Go.Proofs.Ytehahoiliapnfaa.Wd Go.Proofs.Ytehahoiliapnfaa.Sc Go.Proofs.Ytehahoiliapnfaa.Rt Go.Proofs.Ytehahoiliapnfaa.Sm Go.Proofs.Ytehahoiliapnfaa.Sl
attribute [local go_sem] Ext.cell Ext.froz Ext.lt Ext.lt1 Ext.lt2 Ext.lt3 Ext.all Ext.set_u drew_heap setCell_size Ext.set_size
attribute [-go_sem] run_min_int2 run_max_int2
theorem and16 (n : Int) : bits .and .i64 n 65535 = n % 65536 := by
  have h : (BitVec.ofInt 64 65535).toNat = 2 ^ 16 - 1 := by decide
  have key : (BitVec.ofInt 64 n &&& BitVec.ofInt 64 65535).toNat = (n % ((2 ^ 64 : Nat) : Int)).toNat % 2 ^ 16 := by
    rw [BitVec.toNat_and, BitVec.toNat_ofInt, h, Nat.and_two_pow_sub_one_eq_mod]
  show IntKind.i64.wrap ((BitVec.ofInt 64 n &&& BitVec.ofInt 64 65535).toNat : Nat) = _
  rw [key, IntKind.wrap_i64]
  omega
attribute [local go_sem] and16
theorem kk_same {X Y : List Int} {K : Nat} (h : X.length = K) (g : Y.length = K) : X.take (kk X Y) = X ∧ Y.take (kk X Y) = Y := by
  unfold kk
  rw [h, g, Nat.min_self]
  exact ⟨List.take_of_length_le (by omega), List.take_of_length_le (by omega)⟩
theorem gt_ones {n : Nat} (i : Nat) : -9223372036854775808 ≤ gt (List.replicate n 4294967296) i ∧ gt (List.replicate n 4294967296) i ≤ 9223372036854775807 := by
  unfold gt
  rw [List.getD_eq_getElem?_getD]
  cases h : (List.replicate n (4294967296 : Int))[i]? with
  | none => simp
  | some x =>
    have := List.eq_of_mem_replicate (List.mem_of_getElem? h)
    rw [this]; simp
theorem mean_btw {X : List Int} {K : Nat} {L H : Int} (e : X.length = K) (h0 : 0 < K) (h1 : K ≤ 64) (h : ∀ i, i < K → L ≤ cl (gt X i) ∧ cl (gt X i) ≤ H) : ∃ M, mn X = M ∧ L ≤ M ∧ M ≤ H := by
  have hv : (vk X 64).length = K := by unfold vk; rw [List.length_map, List.length_take]; omega
  have ht : tot X = (X.map cl).sum := by rw [tot_eq, List.take_of_length_le (by omega)]
  have hb := sum_between (L := L) (H := H) (X.map cl) (fun x hx => by
    rw [List.mem_map] at hx
    obtain ⟨y, hy, rfl⟩ := hx
    obtain ⟨i, hi, rfl⟩ := List.getElem_of_mem hy
    have := h i (by omega)
    unfold gt at this
    rwa [List.getD_eq_getElem?_getD, List.getElem?_eq_getElem hi] at this)
  rw [List.length_map, e, ← ht] at hb
  refine ⟨_, rfl, ?_⟩
  unfold mn
  rw [hv, if_neg (by omega)]
  constructor
  · rw [Int.le_ediv_iff_mul_le (by omega)]
    have : L * (2 * (K : Int)) = 2 * (L * K) := by rw [Int.mul_left_comm]
    omega
  · apply Int.le_of_lt_add_one
    apply Int.ediv_lt_of_lt_mul (by omega)
    have : (H + 1) * (2 * (K : Int)) = 2 * (H * K) + 2 * K := by rw [Int.add_mul, Int.mul_left_comm, Int.one_mul]
    omega
theorem parts_math {X : List Int} (h : X.length ≤ 64) (A : Nat) : ∃ (T U V S : Int) (C D E F : Bool), cl (tot X) = T ∧ (ck X 64 || co (tot X)) = C ∧ cl (tot (X.take A)) = U ∧ (ck (X.take A) 64 || co (tot (X.take A))) = D ∧ cl (tot (X.drop A)) = V ∧ (ck (X.drop A) 64 || co (tot (X.drop A))) = E ∧ av U V = S ∧ ao U V = F ∧
    Hid (D = true ∨ (D = false ∧ E = true) ∨ (D = false ∧ E = false ∧ F = true) ∨ (D = false ∧ E = false ∧ F = false ∧ (S == T) = true ∧ C = false)) := by
  refine ⟨_, _, _, _, _, _, _, _, rfl, rfl, rfl, rfl, rfl, rfl, rfl, rfl, ?_⟩
  cases hD : (ck (X.take A) 64 || co (tot (X.take A))) with
  | true => exact .inl rfl
  | false =>
    cases hE : (ck (X.drop A) 64 || co (tot (X.drop A))) with
    | true => exact .inr (.inl ⟨rfl, rfl⟩)
    | false =>
      rw [Bool.or_eq_false_iff] at hD hE
      have h1 := co_false hD.2
      have h2 := co_false hE.2
      have h3 := tot_parts h A
      have h4 := ck_parts h A
      rw [hD.1, hE.1] at h4
      cases hF : ao (cl (tot (X.take A))) (cl (tot (X.drop A))) with
      | true => exact .inr (.inr (.inl ⟨rfl, rfl, rfl⟩))
      | false =>
        simp only [ao, h1.2.2, h2.2.2, h3, Bool.or_eq_false_iff] at hF
        refine .inr (.inr (.inr ⟨rfl, rfl, rfl, ?_, ?_⟩))
        · simp only [av, h1.2.2, h2.2.2, h3, beq_self_eq_true]
        · rw [← h4, hF.2]; rfl
set_option maxHeartbeats 4000000 in
set_option maxRecDepth 100000 in
theorem walk (s0 : Option Addr) (n0 c0 : Nat) (z0 : List Int) (a1 : Int) (w : World) (w0 : IsRow .i64 w s0 n0 c0 z0) (w1 : (Lit.int .i64 a1).wf = true) :
    Calls Try.prog 5 #[.slice s0 n0 c0, .int .i64 a1] w fun e w' => e = .returned (.bool true) ∧ Below w.heap.size w w' := by
  obtain ⟨i0, hi, hz0, hz1, hz2⟩ := info_parts infoI
  obtain ⟨l, e0, H0⟩ := of_row w0
  have b1 := bd w1
  clear w0 w1
  have m0 := H0.max
  have k0 := H0.le
  unfold maxLen at m0
  have nl0 := H0.nil
  obtain ⟨K, hK⟩ : ∃ K, K = min n0 64 := ⟨_, rfl⟩
  have HX := H0.take K
  have eX : (l.take K).length = K := by rw [List.length_take]; omega
  generalize hXX : l.take K = X at *
  rw [e0] at k0
  clear H0 hXX e0
  have hmin : ∀ (ts : Array TypeId) (t : TypeId) (W : World), (Builtin.min_ ts t #[.int .i64 (n0 : Int), .int .i64 64]).run Try.prog W = .ok (.int .i64 (K : Int)) W := fun ts t W => by
    simp [Builtin.min_, Builtin.min2]
    omega
  have hK0 : K ≤ c0 := by omega
  have hK2 : K ≤ 64 := by omega
  obtain ⟨A, hA, hAK⟩ : ∃ A : Nat, a1 % 65536 % ((K : Int) + 1) = (A : Int) ∧ A ≤ K := by
    refine ⟨((a1 % 65536) % ((K : Int) + 1)).toNat, ?_, ?_⟩
    · rw [Int.toNat_of_nonneg (Int.emod_nonneg _ (by omega))]
    · have := Int.emod_lt_of_pos (a1 % 65536) (b := (K : Int) + 1) (by omega)
      omega
  clear hK
  have HA := HX.take A
  have eA : (X.take A).length = A := by rw [List.length_take]; omega
  have eB : (X.drop A).length = K - A := by rw [List.length_drop]; omega
  obtain ⟨T, U, V, S, C, D, E, F, p1, p2, p3, p4, p5, p6, p7, p8, PM⟩ := parts_math (X := X) (by omega) A
  have tT : Unit := ()
  have tA : Unit := ()
  by_cases hKpos : 0 < K
  · obtain ⟨b, o, rfl, hb, hc⟩ := HX.at' 0 (by omega)
    have hq : ∃ (sB : Option Addr) (cB : Nat), Sl.Is w sB cB (X.drop A) ∧ ((A = c0 ∧ sB = some ⟨b, o, none⟩ ∧ cB = 0) ∨ (¬ c0 = A ∧ sB = some ⟨b, o + A, none⟩ ∧ cB = c0 - A)) := by
      by_cases h : A = c0
      · refine ⟨_, _, ?_, .inl ⟨h, rfl, rfl⟩⟩
        rw [List.drop_eq_nil_of_le (by omega)]
        exact is_nil _ (by simp [maxLen]) (fun e => (by cases e))
      · exact ⟨_, _, HX.drop A, .inr ⟨fun e => h e.symm, rfl, rfl⟩⟩
    obtain ⟨sB, cB, HB, hq⟩ := hq
    rcases hq with ⟨rfl, rfl, rfl⟩ | ⟨hAc, rfl, rfl⟩
    · rw [show K - A = 0 by omega] at eB
      go_enter Try.func5, Try.ntmps5; go_wp2_with (first | (go_at_call 8; refine (awake6_c _).mono ?_; rintro e w' ⟨rfl, x, rfl⟩) | (go_at_call 9; (have := tT; clear this tT); refine (total_n _ (by first | exact HX | exact HX.mr (by repeat (first | (with_reducible exact Mr.refl _) | (with_reducible apply Mr.drew) | (with_reducible apply Mr.alloc) | (with_reducible apply Mr.ext) | (with_reducible refine Mr.setCell ?_ (by first | (simp; done) | (simp; omega) | omega | (refine leOf0 ?_; (repeat (first | (with_reducible exact Mr.refl _) | (with_reducible apply Mr.drew) | (with_reducible apply Mr.alloc) | (with_reducible apply Mr.ext) | (with_reducible refine Mr.setCell ?_ (by first | (simp; done) | (simp; omega) | omega) _))); done) | (refine leOf ?_; (repeat (first | (with_reducible exact Mr.refl _) | (with_reducible apply Mr.drew) | (with_reducible apply Mr.alloc) | (with_reducible apply Mr.ext) | (with_reducible refine Mr.setCell ?_ (by first | (simp; done) | (simp; omega) | omega) _))); done)) _)))) eX).mono ?_; rintro e w' ⟨rfl, x, rfl⟩) | (go_at_call 9; (have := tA; clear this tA); refine (total_n _ (by first | exact HA | exact HA.mr (by repeat (first | (with_reducible exact Mr.refl _) | (with_reducible apply Mr.drew) | (with_reducible apply Mr.alloc) | (with_reducible apply Mr.ext) | (with_reducible refine Mr.setCell ?_ (by first | (simp; done) | (simp; omega) | omega | (refine leOf0 ?_; (repeat (first | (with_reducible exact Mr.refl _) | (with_reducible apply Mr.drew) | (with_reducible apply Mr.alloc) | (with_reducible apply Mr.ext) | (with_reducible refine Mr.setCell ?_ (by first | (simp; done) | (simp; omega) | omega) _))); done) | (refine leOf ?_; (repeat (first | (with_reducible exact Mr.refl _) | (with_reducible apply Mr.drew) | (with_reducible apply Mr.alloc) | (with_reducible apply Mr.ext) | (with_reducible refine Mr.setCell ?_ (by first | (simp; done) | (simp; omega) | omega) _))); done)) _)))) eA).mono ?_; rintro e w' ⟨rfl, x, rfl⟩) | (go_at_call 9; refine (total_n _ (by first | exact HB | exact HB.mr (by repeat (first | (with_reducible exact Mr.refl _) | (with_reducible apply Mr.drew) | (with_reducible apply Mr.alloc) | (with_reducible apply Mr.ext) | (with_reducible refine Mr.setCell ?_ (by first | (simp; done) | (simp; omega) | omega | (refine leOf0 ?_; (repeat (first | (with_reducible exact Mr.refl _) | (with_reducible apply Mr.drew) | (with_reducible apply Mr.alloc) | (with_reducible apply Mr.ext) | (with_reducible refine Mr.setCell ?_ (by first | (simp; done) | (simp; omega) | omega) _))); done) | (refine leOf ?_; (repeat (first | (with_reducible exact Mr.refl _) | (with_reducible apply Mr.drew) | (with_reducible apply Mr.alloc) | (with_reducible apply Mr.ext) | (with_reducible refine Mr.setCell ?_ (by first | (simp; done) | (simp; omega) | omega) _))); done)) _)))) eB).mono ?_; rintro e w' ⟨rfl, x, rfl⟩) | (go_at_call 17; refine (add_c _ _ _).mono ?_; rintro e w' ⟨rfl, rfl⟩))
      go_loopw [16, 17, 18, 19] (fun v lo hi i wr => ∃ (j : Nat) (L H : Int), j ≤ K ∧ i = .int .i64 j ∧ lo = .int .i64 L ∧ hi = .int .i64 H ∧ (-288230376151711744 ≤ L ∧ L ≤ 288230376151711744) ∧ (-288230376151711744 ≤ H ∧ H ≤ 288230376151711744) ∧ Hid (∀ i, i < j → L ≤ cl (gt X i) ∧ cl (gt X i) ≤ H) ∧ wr.ownsRow w.heap.size 3 1 v j ((List.replicate j 4294967296).map (Value.int .i64)) ∧ ∃ y : Ext w, wr = y.u) (fun _ _ _ i _ => (64 - intOf i).toNat)
      case atStart => exact ⟨0, _, _, by omega, rfl, rfl, rfl, ⟨by omega, by omega⟩, ⟨by omega, by omega⟩, fun i hi => (by omega), World.ownsRow_nil _ _ _ _, Mr.mk' (by repeat (first | (with_reducible exact Mr.refl _) | (with_reducible apply Mr.drew) | (with_reducible apply Mr.alloc) | (with_reducible apply Mr.ext) | (with_reducible refine Mr.setCell ?_ (by first | (simp; done) | (simp; omega) | omega | (refine leOf0 ?_; (repeat (first | (with_reducible exact Mr.refl _) | (with_reducible apply Mr.drew) | (with_reducible apply Mr.alloc) | (with_reducible apply Mr.ext) | (with_reducible refine Mr.setCell ?_ (by first | (simp; done) | (simp; omega) | omega) _))); done) | (refine leOf ?_; (repeat (first | (with_reducible exact Mr.refl _) | (with_reducible apply Mr.drew) | (with_reducible apply Mr.alloc) | (with_reducible apply Mr.ext) | (with_reducible refine Mr.setCell ?_ (by first | (simp; done) | (simp; omega) | omega) _))); done)) _)))⟩
      case round =>
        obtain ⟨j, L, H, hj, rfl, rfl, rfl, ⟨l0, l1⟩, ⟨h0, h1⟩, HL, hp, y, rfl⟩ := hrel
        by_cases hlt : j < K
        · have hlt' : (j : Int) < K := by omega
          have hcj := hc j (by omega)
          have hyb := cl_bd (gt X j)
          have HR : Hid (List.replicate (j + 1) (4294967296 : Int) = List.replicate j 4294967296 ++ [4294967296]) := List.replicate_succ'
          generalize hG : gt X j = G at *
          have hmn : ∀ (ts : Array TypeId) (t : TypeId) (W : World), (Builtin.min_ ts t #[.int .i64 L, .int .i64 (cl G)]).run Try.prog W = .ok (.int .i64 (min L (cl G))) W := fun ts t W => by
            simp [Builtin.min_, Builtin.min2]
            omega
          have hmx : ∀ (ts : Array TypeId) (t : TypeId) (W : World), (Builtin.max_ ts t #[.int .i64 H, .int .i64 (cl G)]).run Try.prog W = .ok (.int .i64 (max H (cl G))) W := fun ts t W => by
            simp [Builtin.max_, Builtin.max2]
            omega
          have HL2 : Hid (∀ i, i < j + 1 → min L (cl G) ≤ cl (gt X i) ∧ cl (gt X i) ≤ max H (cl G)) := fun i hi => by
            by_cases e : i = j
            · subst e; rw [hG]; omega
            · have := HL.out i (by omega); omega
          have hmr : ∀ (w1 : World), (y.u.alloc (.cells #[.int .i64 4294967296] 3)).grownBy w1 u16.ownBlock → ∃ z : Ext w, w1 = z.u := fun w1 hg => Mr.mk' ((y.h.alloc _).grownBy hg (fun j e => (hp.lt j e).1))
          clear HX HA HB hc HL p1 p2 p3 p4 p5 p6 p7 p8 PM hmin hA eA eB
          generalize hY : cl G = Y at *
          go_wp2_with (first | (at_builtin; refine wpList_append_own _ rfl _ _ 22 rfl w.heap.size 3 i0 (.int .i64 0) 1 8 Try.underlying22 hi hz0 hz1 hz2 rfl (by decide) _ _ _ rfl (hp.alloc _) ⟨y.u.heap.size, 0, none⟩ 1 1 [.int .i64 4294967296] rfl rfl (cell_one _ _) (one_cell _) (by unfold maxLen; omega) (by omega) (by have := y.h.below.size; simp; omega) ?_; intro v' w1 hp1 hgr _; obtain ⟨z, rfl⟩ := hmr w1 hgr; clear hgr) | (go_at_call 18; refine (clamp_c _ _).mono ?_; rintro e w' ⟨rfl, rfl⟩))
          go_roundw
          case rel => exact ⟨j + 1, _, _, by omega, by go_num, rfl, rfl, ⟨by omega, by omega⟩, ⟨by omega, by omega⟩, HL2, by rw [HR.out, List.map_append]; exact hp1, z, rfl⟩
          case measure => simp [intOf]; omega
        · obtain rfl : j = K := by omega
          obtain ⟨a9, c9, hv9, -, HO⟩ := of_owns hp gt_ones
          rw [List.length_replicate] at hv9
          subst hv9
          have eO : (List.replicate j (4294967296 : Int)).length = j := List.length_replicate
          have eK := kk_same eX eO
          have K1 : (ck (X.take (kk X (List.replicate j 4294967296))) 64 || ck ((List.replicate j 4294967296).take (kk X (List.replicate j 4294967296))) 64) = ck X 64 := by rw [eK.1, eK.2, ck_ones, Bool.or_false]
          have D1 : rn (dz X (List.replicate j 4294967296)) = tot X := by
            have := dz_ones (l := X) (by omega)
            rw [eX] at this
            rw [this.1, this.2]
          obtain ⟨M, hM, hM1, hM2⟩ : ∃ M, mn X = M ∧ L ≤ M ∧ M ≤ H := mean_btw eX hKpos hK2 HL.out
          have hj0 : (0 : Int) < j := by omega
          clear eK hp HL HA HB eA eB hc hmin hA
          rcases PM.out with q1 | ⟨q1, q2⟩ | ⟨q1, q2, q3⟩ | ⟨q1, q2, q3, q4, q5⟩
          all_goals
            go_wp2_with (first | (go_at_call 13; refine (dot_n _ _ (by first | exact HX | exact HX.mr (by repeat (first | (with_reducible exact Mr.refl _) | (with_reducible apply Mr.drew) | (with_reducible apply Mr.alloc) | (with_reducible apply Mr.ext) | (with_reducible refine Mr.setCell ?_ (by first | (simp; done) | (simp; omega) | omega | (refine leOf0 ?_; (repeat (first | (with_reducible exact Mr.refl _) | (with_reducible apply Mr.drew) | (with_reducible apply Mr.alloc) | (with_reducible apply Mr.ext) | (with_reducible refine Mr.setCell ?_ (by first | (simp; done) | (simp; omega) | omega) _))); done) | (refine leOf ?_; (repeat (first | (with_reducible exact Mr.refl _) | (with_reducible apply Mr.drew) | (with_reducible apply Mr.alloc) | (with_reducible apply Mr.ext) | (with_reducible refine Mr.setCell ?_ (by first | (simp; done) | (simp; omega) | omega) _))); done)) _)))) (by first | exact HO | exact HO.mr (by repeat (first | (with_reducible exact Mr.refl _) | (with_reducible apply Mr.drew) | (with_reducible apply Mr.alloc) | (with_reducible apply Mr.ext) | (with_reducible refine Mr.setCell ?_ (by first | (simp; done) | (simp; omega) | omega | (refine leOf0 ?_; (repeat (first | (with_reducible exact Mr.refl _) | (with_reducible apply Mr.drew) | (with_reducible apply Mr.alloc) | (with_reducible apply Mr.ext) | (with_reducible refine Mr.setCell ?_ (by first | (simp; done) | (simp; omega) | omega) _))); done) | (refine leOf ?_; (repeat (first | (with_reducible exact Mr.refl _) | (with_reducible apply Mr.drew) | (with_reducible apply Mr.alloc) | (with_reducible apply Mr.ext) | (with_reducible refine Mr.setCell ?_ (by first | (simp; done) | (simp; omega) | omega) _))); done)) _)))) eX eO).mono ?_; rw [K1, D1]; rintro e w' ⟨rfl, x, rfl⟩) | (go_at_call 11; refine (mean_n _ (by first | exact HX | exact HX.mr (by repeat (first | (with_reducible exact Mr.refl _) | (with_reducible apply Mr.drew) | (with_reducible apply Mr.alloc) | (with_reducible apply Mr.ext) | (with_reducible refine Mr.setCell ?_ (by first | (simp; done) | (simp; omega) | omega | (refine leOf0 ?_; (repeat (first | (with_reducible exact Mr.refl _) | (with_reducible apply Mr.drew) | (with_reducible apply Mr.alloc) | (with_reducible apply Mr.ext) | (with_reducible refine Mr.setCell ?_ (by first | (simp; done) | (simp; omega) | omega) _))); done) | (refine leOf ?_; (repeat (first | (with_reducible exact Mr.refl _) | (with_reducible apply Mr.drew) | (with_reducible apply Mr.alloc) | (with_reducible apply Mr.ext) | (with_reducible refine Mr.setCell ?_ (by first | (simp; done) | (simp; omega) | omega) _))); done)) _)))) eX).mono ?_; rintro e w' ⟨rfl, x, rfl⟩))
            go_ret; exact ⟨rfl, Mr.grown (by repeat (first | (with_reducible exact Mr.refl _) | (with_reducible apply Mr.drew) | (with_reducible apply Mr.alloc) | (with_reducible apply Mr.ext) | (with_reducible refine Mr.setCell ?_ (by first | (simp; done) | (simp; omega) | omega | (refine leOf0 ?_; (repeat (first | (with_reducible exact Mr.refl _) | (with_reducible apply Mr.drew) | (with_reducible apply Mr.alloc) | (with_reducible apply Mr.ext) | (with_reducible refine Mr.setCell ?_ (by first | (simp; done) | (simp; omega) | omega) _))); done) | (refine leOf ?_; (repeat (first | (with_reducible exact Mr.refl _) | (with_reducible apply Mr.drew) | (with_reducible apply Mr.alloc) | (with_reducible apply Mr.ext) | (with_reducible refine Mr.setCell ?_ (by first | (simp; done) | (simp; omega) | omega) _))); done)) _)))⟩
    · skip
      go_enter Try.func5, Try.ntmps5; go_wp2_with (first | (go_at_call 8; refine (awake6_c _).mono ?_; rintro e w' ⟨rfl, x, rfl⟩) | (go_at_call 9; (have := tT; clear this tT); refine (total_n _ (by first | exact HX | exact HX.mr (by repeat (first | (with_reducible exact Mr.refl _) | (with_reducible apply Mr.drew) | (with_reducible apply Mr.alloc) | (with_reducible apply Mr.ext) | (with_reducible refine Mr.setCell ?_ (by first | (simp; done) | (simp; omega) | omega | (refine leOf0 ?_; (repeat (first | (with_reducible exact Mr.refl _) | (with_reducible apply Mr.drew) | (with_reducible apply Mr.alloc) | (with_reducible apply Mr.ext) | (with_reducible refine Mr.setCell ?_ (by first | (simp; done) | (simp; omega) | omega) _))); done) | (refine leOf ?_; (repeat (first | (with_reducible exact Mr.refl _) | (with_reducible apply Mr.drew) | (with_reducible apply Mr.alloc) | (with_reducible apply Mr.ext) | (with_reducible refine Mr.setCell ?_ (by first | (simp; done) | (simp; omega) | omega) _))); done)) _)))) eX).mono ?_; rintro e w' ⟨rfl, x, rfl⟩) | (go_at_call 9; (have := tA; clear this tA); refine (total_n _ (by first | exact HA | exact HA.mr (by repeat (first | (with_reducible exact Mr.refl _) | (with_reducible apply Mr.drew) | (with_reducible apply Mr.alloc) | (with_reducible apply Mr.ext) | (with_reducible refine Mr.setCell ?_ (by first | (simp; done) | (simp; omega) | omega | (refine leOf0 ?_; (repeat (first | (with_reducible exact Mr.refl _) | (with_reducible apply Mr.drew) | (with_reducible apply Mr.alloc) | (with_reducible apply Mr.ext) | (with_reducible refine Mr.setCell ?_ (by first | (simp; done) | (simp; omega) | omega) _))); done) | (refine leOf ?_; (repeat (first | (with_reducible exact Mr.refl _) | (with_reducible apply Mr.drew) | (with_reducible apply Mr.alloc) | (with_reducible apply Mr.ext) | (with_reducible refine Mr.setCell ?_ (by first | (simp; done) | (simp; omega) | omega) _))); done)) _)))) eA).mono ?_; rintro e w' ⟨rfl, x, rfl⟩) | (go_at_call 9; refine (total_n _ (by first | exact HB | exact HB.mr (by repeat (first | (with_reducible exact Mr.refl _) | (with_reducible apply Mr.drew) | (with_reducible apply Mr.alloc) | (with_reducible apply Mr.ext) | (with_reducible refine Mr.setCell ?_ (by first | (simp; done) | (simp; omega) | omega | (refine leOf0 ?_; (repeat (first | (with_reducible exact Mr.refl _) | (with_reducible apply Mr.drew) | (with_reducible apply Mr.alloc) | (with_reducible apply Mr.ext) | (with_reducible refine Mr.setCell ?_ (by first | (simp; done) | (simp; omega) | omega) _))); done) | (refine leOf ?_; (repeat (first | (with_reducible exact Mr.refl _) | (with_reducible apply Mr.drew) | (with_reducible apply Mr.alloc) | (with_reducible apply Mr.ext) | (with_reducible refine Mr.setCell ?_ (by first | (simp; done) | (simp; omega) | omega) _))); done)) _)))) eB).mono ?_; rintro e w' ⟨rfl, x, rfl⟩) | (go_at_call 17; refine (add_c _ _ _).mono ?_; rintro e w' ⟨rfl, rfl⟩))
      go_loopw [16, 17, 18, 19] (fun v lo hi i wr => ∃ (j : Nat) (L H : Int), j ≤ K ∧ i = .int .i64 j ∧ lo = .int .i64 L ∧ hi = .int .i64 H ∧ (-288230376151711744 ≤ L ∧ L ≤ 288230376151711744) ∧ (-288230376151711744 ≤ H ∧ H ≤ 288230376151711744) ∧ Hid (∀ i, i < j → L ≤ cl (gt X i) ∧ cl (gt X i) ≤ H) ∧ wr.ownsRow w.heap.size 3 1 v j ((List.replicate j 4294967296).map (Value.int .i64)) ∧ ∃ y : Ext w, wr = y.u) (fun _ _ _ i _ => (64 - intOf i).toNat)
      case atStart => exact ⟨0, _, _, by omega, rfl, rfl, rfl, ⟨by omega, by omega⟩, ⟨by omega, by omega⟩, fun i hi => (by omega), World.ownsRow_nil _ _ _ _, Mr.mk' (by repeat (first | (with_reducible exact Mr.refl _) | (with_reducible apply Mr.drew) | (with_reducible apply Mr.alloc) | (with_reducible apply Mr.ext) | (with_reducible refine Mr.setCell ?_ (by first | (simp; done) | (simp; omega) | omega | (refine leOf0 ?_; (repeat (first | (with_reducible exact Mr.refl _) | (with_reducible apply Mr.drew) | (with_reducible apply Mr.alloc) | (with_reducible apply Mr.ext) | (with_reducible refine Mr.setCell ?_ (by first | (simp; done) | (simp; omega) | omega) _))); done) | (refine leOf ?_; (repeat (first | (with_reducible exact Mr.refl _) | (with_reducible apply Mr.drew) | (with_reducible apply Mr.alloc) | (with_reducible apply Mr.ext) | (with_reducible refine Mr.setCell ?_ (by first | (simp; done) | (simp; omega) | omega) _))); done)) _)))⟩
      case round =>
        obtain ⟨j, L, H, hj, rfl, rfl, rfl, ⟨l0, l1⟩, ⟨h0, h1⟩, HL, hp, y, rfl⟩ := hrel
        by_cases hlt : j < K
        · have hlt' : (j : Int) < K := by omega
          have hcj := hc j (by omega)
          have hyb := cl_bd (gt X j)
          have HR : Hid (List.replicate (j + 1) (4294967296 : Int) = List.replicate j 4294967296 ++ [4294967296]) := List.replicate_succ'
          generalize hG : gt X j = G at *
          have hmn : ∀ (ts : Array TypeId) (t : TypeId) (W : World), (Builtin.min_ ts t #[.int .i64 L, .int .i64 (cl G)]).run Try.prog W = .ok (.int .i64 (min L (cl G))) W := fun ts t W => by
            simp [Builtin.min_, Builtin.min2]
            omega
          have hmx : ∀ (ts : Array TypeId) (t : TypeId) (W : World), (Builtin.max_ ts t #[.int .i64 H, .int .i64 (cl G)]).run Try.prog W = .ok (.int .i64 (max H (cl G))) W := fun ts t W => by
            simp [Builtin.max_, Builtin.max2]
            omega
          have HL2 : Hid (∀ i, i < j + 1 → min L (cl G) ≤ cl (gt X i) ∧ cl (gt X i) ≤ max H (cl G)) := fun i hi => by
            by_cases e : i = j
            · subst e; rw [hG]; omega
            · have := HL.out i (by omega); omega
          have hmr : ∀ (w1 : World), (y.u.alloc (.cells #[.int .i64 4294967296] 3)).grownBy w1 u16.ownBlock → ∃ z : Ext w, w1 = z.u := fun w1 hg => Mr.mk' ((y.h.alloc _).grownBy hg (fun j e => (hp.lt j e).1))
          clear HX HA HB hc HL p1 p2 p3 p4 p5 p6 p7 p8 PM hmin hA eA eB
          generalize hY : cl G = Y at *
          go_wp2_with (first | (at_builtin; refine wpList_append_own _ rfl _ _ 22 rfl w.heap.size 3 i0 (.int .i64 0) 1 8 Try.underlying22 hi hz0 hz1 hz2 rfl (by decide) _ _ _ rfl (hp.alloc _) ⟨y.u.heap.size, 0, none⟩ 1 1 [.int .i64 4294967296] rfl rfl (cell_one _ _) (one_cell _) (by unfold maxLen; omega) (by omega) (by have := y.h.below.size; simp; omega) ?_; intro v' w1 hp1 hgr _; obtain ⟨z, rfl⟩ := hmr w1 hgr; clear hgr) | (go_at_call 18; refine (clamp_c _ _).mono ?_; rintro e w' ⟨rfl, rfl⟩))
          go_roundw
          case rel => exact ⟨j + 1, _, _, by omega, by go_num, rfl, rfl, ⟨by omega, by omega⟩, ⟨by omega, by omega⟩, HL2, by rw [HR.out, List.map_append]; exact hp1, z, rfl⟩
          case measure => simp [intOf]; omega
        · obtain rfl : j = K := by omega
          obtain ⟨a9, c9, hv9, -, HO⟩ := of_owns hp gt_ones
          rw [List.length_replicate] at hv9
          subst hv9
          have eO : (List.replicate j (4294967296 : Int)).length = j := List.length_replicate
          have eK := kk_same eX eO
          have K1 : (ck (X.take (kk X (List.replicate j 4294967296))) 64 || ck ((List.replicate j 4294967296).take (kk X (List.replicate j 4294967296))) 64) = ck X 64 := by rw [eK.1, eK.2, ck_ones, Bool.or_false]
          have D1 : rn (dz X (List.replicate j 4294967296)) = tot X := by
            have := dz_ones (l := X) (by omega)
            rw [eX] at this
            rw [this.1, this.2]
          obtain ⟨M, hM, hM1, hM2⟩ : ∃ M, mn X = M ∧ L ≤ M ∧ M ≤ H := mean_btw eX hKpos hK2 HL.out
          have hj0 : (0 : Int) < j := by omega
          clear eK hp HL HA HB eA eB hc hmin hA
          rcases PM.out with q1 | ⟨q1, q2⟩ | ⟨q1, q2, q3⟩ | ⟨q1, q2, q3, q4, q5⟩
          all_goals
            go_wp2_with (first | (go_at_call 13; refine (dot_n _ _ (by first | exact HX | exact HX.mr (by repeat (first | (with_reducible exact Mr.refl _) | (with_reducible apply Mr.drew) | (with_reducible apply Mr.alloc) | (with_reducible apply Mr.ext) | (with_reducible refine Mr.setCell ?_ (by first | (simp; done) | (simp; omega) | omega | (refine leOf0 ?_; (repeat (first | (with_reducible exact Mr.refl _) | (with_reducible apply Mr.drew) | (with_reducible apply Mr.alloc) | (with_reducible apply Mr.ext) | (with_reducible refine Mr.setCell ?_ (by first | (simp; done) | (simp; omega) | omega) _))); done) | (refine leOf ?_; (repeat (first | (with_reducible exact Mr.refl _) | (with_reducible apply Mr.drew) | (with_reducible apply Mr.alloc) | (with_reducible apply Mr.ext) | (with_reducible refine Mr.setCell ?_ (by first | (simp; done) | (simp; omega) | omega) _))); done)) _)))) (by first | exact HO | exact HO.mr (by repeat (first | (with_reducible exact Mr.refl _) | (with_reducible apply Mr.drew) | (with_reducible apply Mr.alloc) | (with_reducible apply Mr.ext) | (with_reducible refine Mr.setCell ?_ (by first | (simp; done) | (simp; omega) | omega | (refine leOf0 ?_; (repeat (first | (with_reducible exact Mr.refl _) | (with_reducible apply Mr.drew) | (with_reducible apply Mr.alloc) | (with_reducible apply Mr.ext) | (with_reducible refine Mr.setCell ?_ (by first | (simp; done) | (simp; omega) | omega) _))); done) | (refine leOf ?_; (repeat (first | (with_reducible exact Mr.refl _) | (with_reducible apply Mr.drew) | (with_reducible apply Mr.alloc) | (with_reducible apply Mr.ext) | (with_reducible refine Mr.setCell ?_ (by first | (simp; done) | (simp; omega) | omega) _))); done)) _)))) eX eO).mono ?_; rw [K1, D1]; rintro e w' ⟨rfl, x, rfl⟩) | (go_at_call 11; refine (mean_n _ (by first | exact HX | exact HX.mr (by repeat (first | (with_reducible exact Mr.refl _) | (with_reducible apply Mr.drew) | (with_reducible apply Mr.alloc) | (with_reducible apply Mr.ext) | (with_reducible refine Mr.setCell ?_ (by first | (simp; done) | (simp; omega) | omega | (refine leOf0 ?_; (repeat (first | (with_reducible exact Mr.refl _) | (with_reducible apply Mr.drew) | (with_reducible apply Mr.alloc) | (with_reducible apply Mr.ext) | (with_reducible refine Mr.setCell ?_ (by first | (simp; done) | (simp; omega) | omega) _))); done) | (refine leOf ?_; (repeat (first | (with_reducible exact Mr.refl _) | (with_reducible apply Mr.drew) | (with_reducible apply Mr.alloc) | (with_reducible apply Mr.ext) | (with_reducible refine Mr.setCell ?_ (by first | (simp; done) | (simp; omega) | omega) _))); done)) _)))) eX).mono ?_; rintro e w' ⟨rfl, x, rfl⟩))
            go_ret; exact ⟨rfl, Mr.grown (by repeat (first | (with_reducible exact Mr.refl _) | (with_reducible apply Mr.drew) | (with_reducible apply Mr.alloc) | (with_reducible apply Mr.ext) | (with_reducible refine Mr.setCell ?_ (by first | (simp; done) | (simp; omega) | omega | (refine leOf0 ?_; (repeat (first | (with_reducible exact Mr.refl _) | (with_reducible apply Mr.drew) | (with_reducible apply Mr.alloc) | (with_reducible apply Mr.ext) | (with_reducible refine Mr.setCell ?_ (by first | (simp; done) | (simp; omega) | omega) _))); done) | (refine leOf ?_; (repeat (first | (with_reducible exact Mr.refl _) | (with_reducible apply Mr.drew) | (with_reducible apply Mr.alloc) | (with_reducible apply Mr.ext) | (with_reducible refine Mr.setCell ?_ (by first | (simp; done) | (simp; omega) | omega) _))); done)) _)))⟩
  · obtain rfl : K = 0 := by omega
    obtain rfl : A = 0 := by omega
    obtain rfl : X = [] := List.eq_nil_of_length_eq_zero eX
    clear PM p1 p2 p3 p4 p5 p6 p7 p8 HA eA eB
    have z1 : cl (tot []) = 0 := by decide
    have z2 : (ck [] 64 || co (tot [])) = false := by decide
    have z3 : mn [] = 0 := by decide
    have z4 : cl (rn (dz [] [])) = 0 := by decide
    have z5 : (ck (List.take (kk [] []) []) 64 || ck (List.take (kk [] []) []) 64 || co (rn (dz [] []))) = false := by decide
    have z6 : av 0 0 = 0 := by decide
    have z7 : ao 0 0 = false := by decide
    have hs : (s0 = none ∧ c0 = 0) ∨ ∃ x, s0 = some x ∧ (c0 = 0 ∨ 0 < c0) := by
      cases s0 with
      | none => exact .inl ⟨rfl, nl0 rfl⟩
      | some x => exact .inr ⟨x, rfl, by omega⟩
    rcases hs with ⟨rfl, rfl⟩ | ⟨x0, rfl, rfl | hc0⟩
    all_goals
      go_enter Try.func5, Try.ntmps5
      go_wp2_with (first | (go_at_call 8; refine (awake6_c _).mono ?_; rintro e w' ⟨rfl, x, rfl⟩) | (go_at_call 9; refine (total_n (l := []) _ (is_nil _ (by first | (unfold maxLen; omega) | simp [maxLen]) (by first | exact nl0 | simp)) (by simp)).mono ?_; rw [z1, z2]; rintro e w' ⟨rfl, x, rfl⟩) | (go_at_call 17; refine (add_c _ _ _).mono ?_; rintro e w' ⟨rfl, rfl⟩))
      go_loopw [16, 17, 18, 19] (fun v lo hi i wr => v = .slice none 0 0 ∧ lo = .int .i64 288230376151711744 ∧ hi = .int .i64 (-288230376151711744) ∧ i = .int .i64 0 ∧ ∃ y : Ext w, wr = y.u) (fun _ _ _ i _ => (64 - intOf i).toNat)
      case atStart => exact ⟨rfl, rfl, rfl, rfl, Mr.mk' (by repeat (first | (with_reducible exact Mr.refl _) | (with_reducible apply Mr.drew) | (with_reducible apply Mr.alloc) | (with_reducible apply Mr.ext) | (with_reducible refine Mr.setCell ?_ (by first | (simp; done) | (simp; omega) | omega | (refine leOf0 ?_; (repeat (first | (with_reducible exact Mr.refl _) | (with_reducible apply Mr.drew) | (with_reducible apply Mr.alloc) | (with_reducible apply Mr.ext) | (with_reducible refine Mr.setCell ?_ (by first | (simp; done) | (simp; omega) | omega) _))); done) | (refine leOf ?_; (repeat (first | (with_reducible exact Mr.refl _) | (with_reducible apply Mr.drew) | (with_reducible apply Mr.alloc) | (with_reducible apply Mr.ext) | (with_reducible refine Mr.setCell ?_ (by first | (simp; done) | (simp; omega) | omega) _))); done)) _)))⟩
      case round =>
        obtain ⟨rfl, rfl, rfl, rfl, y, rfl⟩ := hrel
        go_wp2_with (first | (go_at_call 13; refine (dot_n (l := []) (m := []) _ _ (is_nil _ (by first | (unfold maxLen; omega) | simp [maxLen]) (by first | exact nl0 | simp)) (is_nil _ (by first | (unfold maxLen; omega) | simp [maxLen]) (by first | exact nl0 | simp)) (by simp) (by simp)).mono ?_; rw [z4, z5]; rintro e w' ⟨rfl, x, rfl⟩) | (go_at_call 11; refine (mean_n (l := []) _ (is_nil _ (by first | (unfold maxLen; omega) | simp [maxLen]) (by first | exact nl0 | simp)) (by simp)).mono ?_; rw [z3]; rintro e w' ⟨rfl, x, rfl⟩))
        go_ret; exact ⟨rfl, Mr.grown (by repeat (first | (with_reducible exact Mr.refl _) | (with_reducible apply Mr.drew) | (with_reducible apply Mr.alloc) | (with_reducible apply Mr.ext) | (with_reducible refine Mr.setCell ?_ (by first | (simp; done) | (simp; omega) | omega | (refine leOf0 ?_; (repeat (first | (with_reducible exact Mr.refl _) | (with_reducible apply Mr.drew) | (with_reducible apply Mr.alloc) | (with_reducible apply Mr.ext) | (with_reducible refine Mr.setCell ?_ (by first | (simp; done) | (simp; omega) | omega) _))); done) | (refine leOf ?_; (repeat (first | (with_reducible exact Mr.refl _) | (with_reducible apply Mr.drew) | (with_reducible apply Mr.alloc) | (with_reducible apply Mr.ext) | (with_reducible refine Mr.setCell ?_ (by first | (simp; done) | (simp; omega) | omega) _))); done)) _)))⟩

set_option maxRecDepth 100000 in
theorem lifted (os : Os) (started : os.Started) (H : Type) (enc : TypeId × Value → H) :
    ReturnsInHanded {} Try.checked os 5 .any (Rows.sumPartsSpec.pre6 enc Try.prog Try.f5 Rows.sumPartsRow.domain false) (Rows.sumPartsSpec.post enc Try.prog Try.f5 false true false false) := by
  refine returnsInHanded_of_change (C := Try.checked) own started (by kernel_rfl) Try.func5
    (ChangeSpec.witness6 (enc := enc) (C := Try.checked) false ⟨#[], #[.slice none 0 0, .int .i64 0], []⟩ 8 (by kernel_rfl) (by kernel_rfl) (by kernel_rfl) (by kernel_rfl)) ?_
  intro W base args ds gs before hval0 hW hcnd _
  have hval : ∀ (j : Nat) t v, Try.f5.params[j]? = some t → args[j]? = some v → Value.okWide Try.prog W .any base t v := hval0
  have hW' := hW
  obtain ⟨p, q, hA0, hV, rfl, hfz, hnd⟩ := hW
  have hA : DataW.TrodAll enc Try.prog W 0 (fun _ => true) true Try.f5.params.toList args.toList ds p := hA0
  rw [Try.params5] at hA hval
  obtain ⟨v0, vs0, d0, ds0, p_0, q_0, hargs, rfl, rfl, h0, r0⟩ := trodAll_cons hA
  obtain ⟨v1, vs1, d1, ds1, p_1, q_1, rfl, rfl, rfl, h1, r1⟩ := trodAll_cons r0
  obtain ⟨rfl, rfl, rfl⟩ := trodAll_nil r1
  obtain rfl : args = #[v0, v1] := by cases args; simp_all
  obtain ⟨rfl, rfl⟩ := trodVars_none hV
  obtain ⟨s0, n0, c0, rfl⟩ := okWide_slice Try.underlying22 (hval 0 22 v0 rfl rfl)
  have k0 := h0
  have lt0 : ∀ x ∈ p_0, x.block < W.heap.size := by obtain ⟨m, hm⟩ := k0; exact DataW.trod_lt m _ _ _ hm
  obtain ⟨z0, w0⟩ : ∃ zs, IsRow .i64 W s0 n0 c0 zs := by
    obtain ⟨fuel, hf⟩ := h0
    rcases open_ints Try.underlying22 Try.underlying3 (by kernel_rfl) hf with ⟨hcs, _⟩ | ⟨x, l, c, zs, hcs, _, hl, hm, hz, _, hcell, hwz⟩
    · simp [Value.cells] at hcs
      obtain ⟨rfl, rfl, rfl⟩ := hcs
      exact ⟨[], .inl ⟨rfl, rfl, rfl, rfl⟩⟩
    · simp [Value.cells] at hcs
      obtain ⟨rfl, rfl, rfl⟩ := hcs
      exact ⟨zs, .inr ⟨_, rfl, hl, hm, by simpa using hz, hcell, hwz⟩⟩
  obtain ⟨a1, rfl, rfl, rfl, w1⟩ := open_int Try.underlying3 (hval 1 3 v1 rfl rfl) h1
  clear hA0 hval0
  refine (walk s0 n0 c0 z0 a1 W w0 w1).mono fun e W' ⟨he, bel⟩ => ?_
  subst he
  exact ⟨_, rfl, _, _, _, [], _, [], hW', trodAll_mk1 (shut_bool Try.underlying4 _), (trodAll_cons_mk (Below.trod laidOut (by kernel_rfl) (of_decide_eq_true (by kernel_rfl)) k0 bel lt0) (trodAll_cons_mk (shut_int Try.underlying3 w1) trodAll_mk0)), rfl, bel.frame _, fun h => by cases h⟩

theorem over : Rows.sumPartsRow.holds Try.pinned (OpenSpec.ofChange Rows.sumPartsSpec) :=
  OpenClaim.holds_of_wide 5 Try.f5 rfl rfl rfl rfl rfl rfl rfl ⟨rfl, rfl, rfl, rfl, rfl⟩ rfl rfl rfl rfl rfl (by kernel_rfl) Try.func5 (by kernel_rfl)
    (of_decide_eq_true (by kernel_rfl)) (by unfold Func.isWrapper; first | (rw [if_pos (by decide +kernel)]; kernel_rfl) | (rw [if_neg (by decide +kernel)]; exact ⟨rfl, rfl⟩))
    (fun os started H enc _ => lifted os started H enc)

theorem proved : Rows.SumPartsSaid :=
  over
#print axioms proved
end Go.Proofs.Ytehahoiliapnfaa.sumParts
