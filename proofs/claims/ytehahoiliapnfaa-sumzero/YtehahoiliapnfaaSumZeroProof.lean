/- For every two lists of ints and every int the law SumZero answers true: with a 0 behind it a list has the same sum and norm, and the products of two lists one behind the other are those of each, within 1, if nothing is clamped. No condition. -/
import Derived.Test.YtehahoiliapnfaaRows
import Derived.WalkKit
import Derived.ProofKit
import Derived.OpenShut
import Derived.ShutString
import Derived.ChangeOld
import Derived.Below
import Derived.Test.YtehahoiliapnfaaSumC2
import Derived.Test.YtehahoiliapnfaaSumM2
import Derived.Test.YtehahoiliapnfaaSumS
namespace Go.Proofs.Ytehahoiliapnfaa.sumZero
open Go.ChangeShapes Go.WideShapes Go.ChangeAt Go.RowKit
set_option linter.unusedVariables false
theorem own : ownKnob Try.prog.godebug = none := by kernel_rfl
theorem laidOut : laidOutB Try.prog = true := by kernel_rfl

open Go.Proofs.Ytehahoiliapnfaa.Fx Go.Proofs.Ytehahoiliapnfaa.Wd Go.Proofs.Ytehahoiliapnfaa.Sc Go.Proofs.Ytehahoiliapnfaa.Rt Go.Proofs.Ytehahoiliapnfaa.Sm Go.Proofs.Ytehahoiliapnfaa.Sl
attribute [local go_sem] Ext.cell Ext.froz Ext.lt Ext.lt1 Ext.lt2 Ext.lt3 Ext.all Ext.set_u drew_heap setCell_size Ext.set_size
attribute [-go_sem] run_min_int2 run_slice_lh
theorem and16 (n : Int) : bits .and .i64 n 65535 = n % 65536 := by
  have h : (BitVec.ofInt 64 65535).toNat = 2 ^ 16 - 1 := by decide
  have key : (BitVec.ofInt 64 n &&& BitVec.ofInt 64 65535).toNat = (n % ((2 ^ 64 : Nat) : Int)).toNat % 2 ^ 16 := by
    rw [BitVec.toNat_and, BitVec.toNat_ofInt, h, Nat.and_two_pow_sub_one_eq_mod]
  show IntKind.i64.wrap ((BitVec.ofInt 64 n &&& BitVec.ofInt 64 65535).toNat : Nat) = _
  rw [key, IntKind.wrap_i64]
  omega
attribute [local go_sem] and16
theorem cell_one2 {w : World} {v : Value} (B : Nat) (hB : w.heap.size = B) : ∀ j u, [v][j]? = some u → (w.alloc (.cells #[v] 3)).cell? ((⟨B, 0, none⟩ : Addr).add j) = some u := by
  subst hB; exact cell_one w v
theorem one_cells {X : List Int} : ∀ u ∈ X.map (Value.int .i64), u.oneCell' = true := by
  intro u hu
  rw [List.mem_map] at hu
  obtain ⟨x, _, rfl⟩ := hu
  rfl
theorem gt_app {X : List Int} (h : ∀ i, -9223372036854775808 ≤ gt X i ∧ gt X i ≤ 9223372036854775807) (i : Nat) : -9223372036854775808 ≤ gt (X ++ [0]) i ∧ gt (X ++ [0]) i ≤ 9223372036854775807 := by
  have := h i
  unfold gt at *
  rw [List.getD_eq_getElem?_getD] at *
  by_cases g : i < X.length
  · rw [List.getElem?_append_left g]; exact this
  · rw [List.getElem?_append_right (by omega)]
    cases e : i - X.length with
    | zero => simp
    | succ k => simp
theorem zero_more {X : List Int} (h : X.length ≤ 63) : tot (X ++ [0]) = tot X ∧ ck (X ++ [0]) 64 = ck X 64 ∧ dp (vk (X ++ [0]) 64) (vk (X ++ [0]) 64) = dp (vk X 64) (vk X 64) := by
  have hl : (X ++ [0]).length ≤ 64 := by rw [List.length_append]; simp; omega
  refine ⟨?_, ?_, ?_⟩
  · rw [tot_eq, tot_eq, List.take_of_length_le hl, List.take_of_length_le (by omega), List.map_append, List.sum_append]
    simp only [List.map_cons, List.map_nil, List.sum_cons, List.sum_nil]
    rw [show cl 0 = 0 by decide]; omega
  · unfold ck
    rw [List.take_of_length_le hl, List.take_of_length_le (by omega), List.any_append]
    simp only [List.any_cons, List.any_nil]
    rw [show co 0 = false by decide]; simp
  · rw [dp_sq hl, dp_sq (by omega)]
    unfold sq
    rw [List.map_append, List.sum_append]
    simp only [List.map_cons, List.map_nil, List.sum_cons, List.sum_nil]
    rw [show ml 0 0 = 0 by decide]; omega
theorem zip_parts {X m : List Int} {A Z : Nat} (hK : X.length ≤ 64) (hZ : Z = min X.length m.length) (hA : A ≤ Z) : dz X (m.take Z) = dz (X.take A) (m.take A) + dz ((X.take Z).drop A) ((m.take Z).drop A) := by
  have e1 : List.zipWith ml X (m.take Z) = List.zipWith ml X m := by
    apply List.ext_getElem?
    intro i
    rw [List.getElem?_zipWith, List.getElem?_zipWith]
    by_cases g : i < Z
    · rw [List.getElem?_take_of_lt g]
    · rw [List.getElem?_eq_none (l := m.take Z) (by rw [List.length_take]; omega)]
      by_cases k : i < X.length
      · rw [List.getElem?_eq_none (l := m) (by omega)]
      · rw [List.getElem?_eq_none (l := X) (by omega)]
  have e2 : List.zipWith ml (X.take A) (m.take A) = (List.zipWith ml X m).take A := List.take_zipWith.symm
  have e3 : List.zipWith ml ((X.take Z).drop A) ((m.take Z).drop A) = (List.zipWith ml X m).drop A := by
    rw [← List.drop_zipWith, zip_take X m Z hZ]
  have hl : (List.zipWith ml X m).length = Z := by rw [List.length_zipWith, hZ]
  rw [dz_eq, dz_eq, dz_eq, e1, e2, e3, List.take_of_length_le (l := List.zipWith ml X m) (i := 64) (by omega), List.take_of_length_le (l := (List.zipWith ml X m).take A) (i := 64) (by rw [List.length_take]; omega), List.take_of_length_le (l := (List.zipWith ml X m).drop A) (i := 64) (by rw [List.length_drop]; omega), ← List.sum_append, List.take_append_drop]
theorem sl_lh (a : Option Addr) {n c A Z : Nat} (h1 : A ≤ Z) (h2 : Z ≤ c) (W : World) : (Instr.slice 22 (.slice a n c) (some (.int .i64 (A : Int))) (some (.int .i64 (Z : Int))) none).run Try.prog W = .ok (.slice (if c = A then a else a.map (·.add (A * 1))) (Z - A) (c - A)) W := by
  rw [run_slice_lh W 22 a n c (by kernel_rfl) .i64 .i64 (A : Int) (Z : Int) (by omega) (by omega) (by omega)]
  have hs : (sizeOf (Try.prog.elem 22)).run Try.prog W = .ok 1 W := by
    obtain ⟨i0, hi, hz0, hz1, hz2⟩ := info_parts infoI
    have he : Try.prog.elem 22 = 3 := by kernel_rfl
    simp [sizeOf, typeInfo, he, hi, hz1]
  rw [hs]
  simp [sliced]
theorem rn_two (a b : Int) : rn (a + b) - (rn a + rn b) ≤ 1 ∧ (rn a + rn b) - rn (a + b) ≤ 1 := by unfold rn; omega
theorem zero_math {X m : List Int} {A Z : Nat} (hK : X.length ≤ 64) (hZ : Z = min X.length m.length) (hA : A ≤ Z) : ∃ (P Q R S : Int) (G H I J : Bool),
    cl (rn (dz X (m.take Z))) = P ∧ (ck (X.take (kk X (m.take Z))) 64 || ck ((m.take Z).take (kk X (m.take Z))) 64 || co (rn (dz X (m.take Z)))) = G ∧
    cl (rn (dz (X.take A) (m.take A))) = Q ∧ (ck ((X.take A).take (kk (X.take A) (m.take A))) 64 || ck ((m.take A).take (kk (X.take A) (m.take A))) 64 || co (rn (dz (X.take A) (m.take A)))) = H ∧
    cl (rn (dz ((X.take Z).drop A) ((m.take Z).drop A))) = R ∧ (ck (((X.take Z).drop A).take (kk ((X.take Z).drop A) ((m.take Z).drop A))) 64 || ck (((m.take Z).drop A).take (kk ((X.take Z).drop A) ((m.take Z).drop A))) 64 || co (rn (dz ((X.take Z).drop A) ((m.take Z).drop A)))) = I ∧
    av Q R = S ∧ ao Q R = J ∧ (-288230376151711744 ≤ P ∧ P ≤ 288230376151711744) ∧ (-288230376151711744 ≤ S ∧ S ≤ 288230376151711744) ∧
    Hid (G = true ∨ (G = false ∧ H = true) ∨ (G = false ∧ H = false ∧ I = true) ∨ (G = false ∧ H = false ∧ I = false ∧ J = true) ∨ (G = false ∧ H = false ∧ I = false ∧ J = false ∧ P - S ≤ 1 ∧ S - P ≤ 1)) := by
  have hp := zip_parts hK hZ hA
  refine ⟨_, _, _, _, _, _, _, _, rfl, rfl, rfl, rfl, rfl, rfl, rfl, rfl, cl_bd _, cl_bd _, ?_⟩
  rw [hp]
  generalize dz (X.take A) (m.take A) = a
  generalize dz ((X.take Z).drop A) ((m.take Z).drop A) = b
  generalize (ck (X.take (kk X (m.take Z))) 64 || ck ((m.take Z).take (kk X (m.take Z))) 64) = g1
  generalize (ck ((X.take A).take (kk (X.take A) (m.take A))) 64 || ck ((m.take A).take (kk (X.take A) (m.take A))) 64) = g2
  generalize (ck (((X.take Z).drop A).take (kk ((X.take Z).drop A) ((m.take Z).drop A))) 64 || ck (((m.take Z).drop A).take (kk ((X.take Z).drop A) ((m.take Z).drop A))) 64) = g3
  cases hG : (g1 || co (rn (a + b))) with
  | true => exact .inl rfl
  | false =>
    cases hH : (g2 || co (rn a)) with
    | true => exact .inr (.inl ⟨rfl, rfl⟩)
    | false =>
      cases hI : (g3 || co (rn b)) with
      | true => exact .inr (.inr (.inl ⟨rfl, rfl, rfl⟩))
      | false =>
        cases hJ : ao (cl (rn a)) (cl (rn b)) with
        | true => exact .inr (.inr (.inr (.inl ⟨rfl, rfl, rfl, rfl⟩)))
        | false =>
          rw [Bool.or_eq_false_iff] at hG hH hI
          have h1 := co_false hG.2
          have h2 := co_false hH.2
          have h3 := co_false hI.2
          simp only [ao, h2.2.2, h3.2.2, Bool.or_eq_false_iff] at hJ
          have h4 := co_false hJ.2
          have h5 := rn_two a b
          refine .inr (.inr (.inr (.inr ⟨rfl, rfl, rfl, rfl, ?_⟩)))
          simp only [av, h1.2.2, h2.2.2, h3.2.2, h4.2.2]
          omega
set_option maxHeartbeats 4000000 in
set_option maxRecDepth 100000 in
theorem walk (s0 : Option Addr) (n0 c0 : Nat) (z0 : List Int) (s1 : Option Addr) (n1 c1 : Nat) (z1 : List Int) (a2 : Int) (w : World) (w0 : IsRow .i64 w s0 n0 c0 z0) (w1 : IsRow .i64 w s1 n1 c1 z1) (w2 : (Lit.int .i64 a2).wf = true) :
    Calls Try.prog 7 #[.slice s0 n0 c0, .slice s1 n1 c1, .int .i64 a2] w fun e w' => e = .returned (.bool true) ∧ Below w.heap.size w w' := by
  obtain ⟨i0, hi, hz0, hz1, hz2⟩ := info_parts infoI
  obtain ⟨l, e0, H0⟩ := of_row w0
  obtain ⟨m, e1, H1⟩ := of_row w1
  have b2 := bd w2
  clear w0 w1 w2
  have m0 := H0.max
  have m1 := H1.max
  have k0 := H0.le
  have k1 := H1.le
  have nl0 := H0.nil
  unfold maxLen at m0 m1
  obtain ⟨K, hK⟩ : ∃ K, K = min n0 63 := ⟨_, rfl⟩
  obtain ⟨Z, hZ⟩ : ∃ Z, Z = min K n1 := ⟨_, rfl⟩
  obtain ⟨A, hA, hAZ⟩ : ∃ A : Nat, a2 % 65536 % ((Z : Int) + 1) = (A : Int) ∧ A ≤ Z := by
    refine ⟨((a2 % 65536) % ((Z : Int) + 1)).toNat, ?_, ?_⟩
    · rw [Int.toNat_of_nonneg (Int.emod_nonneg _ (by omega))]
    · have := Int.emod_lt_of_pos (a2 % 65536) (b := (Z : Int) + 1) (by omega)
      omega
  have HX := H0.take K
  have eX : (l.take K).length = K := by rw [List.length_take]; omega
  generalize hXX : l.take K = X at *
  have HY := H1.take Z
  have HX1 := HX.take A
  have HY1 := H1.take A
  have HX2 := HX.piece hAZ (by omega)
  have HY2 := H1.piece hAZ (by omega)
  have eY : (m.take Z).length = Z := by rw [List.length_take]; omega
  have eX1 : (X.take A).length = A := by rw [List.length_take]; omega
  have eY1 : (m.take A).length = A := by rw [List.length_take]; omega
  have eX2 : ((X.take Z).drop A).length = Z - A := by rw [List.length_drop, List.length_take]; omega
  have eY2 : ((m.take Z).drop A).length = Z - A := by rw [List.length_drop, List.length_take]; omega
  obtain ⟨P, Q, R, S, G, H, I, J, p1, p2, p3, p4, p5, p6, p7, p8, ⟨P0, P1⟩, ⟨S0, S1⟩, PM⟩ := zero_math (X := X) (m := m) (A := A) (Z := Z) (by omega) (by omega) hAZ
  obtain ⟨T1, F1, N1⟩ := zero_more (X := X) (by omega)
  have eM : (X ++ [0]).length = K + 1 := by rw [List.length_append, eX]; rfl
  rw [e0] at k0
  rw [e1] at k1
  have hmin0 : ∀ (ts : Array TypeId) (t : TypeId) (W : World), (Builtin.min_ ts t #[.int .i64 (n0 : Int), .int .i64 63]).run Try.prog W = .ok (.int .i64 (K : Int)) W := fun ts t W => by
    simp [Builtin.min_, Builtin.min2]
    omega
  have hmin1 : ∀ (ts : Array TypeId) (t : TypeId) (W : World), (Builtin.min_ ts t #[.int .i64 (K : Int), .int .i64 (n1 : Int)]).run Try.prog W = .ok (.int .i64 (Z : Int)) W := fun ts t W => by
    simp [Builtin.min_, Builtin.min2]
    omega
  have hKc : K ≤ c0 := by omega
  have hK63 : K ≤ 63 := by omega
  have hZ0 : Z ≤ c0 := by omega
  have hZ63 : Z ≤ 63 := by omega
  have hA0 : A ≤ c0 := by omega
  have hA1 : A ≤ c1 := by omega
  have hZ1 : Z ≤ c1 := by omega
  have hs2 : ∀ W : World, (Instr.slice 22 (.slice s0 K c0) (some (.int .i64 (A : Int))) (some (.int .i64 (Z : Int))) none).run Try.prog W = .ok (.slice (if c0 = A then s0 else s0.map (·.add (A * 1))) (Z - A) (c0 - A)) W := fun W => sl_lh s0 (by omega) (by omega) W
  have hs3 : ∀ W : World, (Instr.slice 22 (.slice s1 n1 c1) (some (.int .i64 (A : Int))) (some (.int .i64 (Z : Int))) none).run Try.prog W = .ok (.slice (if c1 = A then s1 else s1.map (·.add (A * 1))) (Z - A) (c1 - A)) W := fun W => sl_lh s1 (by omega) (by omega) W
  generalize hB2 : (if c0 = A then s0 else s0.map (·.add (A * 1))) = sB at *
  generalize hB3 : (if c1 = A then s1 else s1.map (·.add (A * 1))) = sC at *
  have tT : Unit := ()
  have tN : Unit := ()
  have tP : Unit := ()
  clear hK hZ hXX e0 H0 H1 hB2 hB3 e1
  cases s0 with
  | none =>
    obtain rfl : c0 = 0 := nl0 rfl
    obtain rfl : K = 0 := by omega
    obtain rfl : Z = 0 := by omega
    obtain rfl : A = 0 := by omega
    obtain rfl : X = [] := List.eq_nil_of_length_eq_zero eX
    have hmn0 : ∀ (ts : Array TypeId) (t : TypeId) (W : World), (Builtin.min_ ts t #[.int .i64 (n0 : Int), .int .i64 63]).run Try.prog W = .ok (.int .i64 0) W := hmin0
    have hmn1 : ∀ (ts : Array TypeId) (t : TypeId) (W : World), (Builtin.min_ ts t #[.int .i64 0, .int .i64 (n1 : Int)]).run Try.prog W = .ok (.int .i64 0) W := hmin1
    have hs4 : ∀ W : World, (Instr.slice 22 (.slice none 0 0) (some (.int .i64 0)) (some (.int .i64 0)) none).run Try.prog W = .ok (.slice sB 0 0) W := hs2
    have hs5 : ∀ W : World, (Instr.slice 22 (.slice s1 n1 c1) (some (.int .i64 0)) (some (.int .i64 0)) none).run Try.prog W = .ok (.slice sC 0 c1) W := hs3
    clear hmin0 hmin1 hs2 hs3
    go_enter Try.func7, Try.ntmps7
    go_wp2_with (first | (go_at_call 8; refine (awake6_c _).mono ?_; rintro e w' ⟨rfl, x, rfl⟩) | (at_builtin; (have := tP; clear this tP); refine wpList_append_own_none rfl _ _ 22 rfl w.heap.size 3 i0 1 Try.underlying22 hi _ 0 [] rfl (World.ownsRow_lit _ #[] 0 (leOf0 (by repeat (first | (with_reducible exact Mr.refl _) | (with_reducible apply Mr.drew) | (with_reducible apply Mr.alloc) | (with_reducible apply Mr.ext) | (with_reducible refine Mr.setCell ?_ (by first | (simp; done) | (simp; omega) | omega | (refine leOf0 ?_; (repeat (first | (with_reducible exact Mr.refl _) | (with_reducible apply Mr.drew) | (with_reducible apply Mr.alloc) | (with_reducible apply Mr.ext) | (with_reducible refine Mr.setCell ?_ (by first | (simp; done) | (simp; omega) | omega) _))); done) | (refine leOf ?_; (repeat (first | (with_reducible exact Mr.refl _) | (with_reducible apply Mr.drew) | (with_reducible apply Mr.alloc) | (with_reducible apply Mr.ext) | (with_reducible refine Mr.setCell ?_ (by first | (simp; done) | (simp; omega) | omega) _))); done)) _)))) (by simp [maxLen]) rfl) rfl ?_) | (at_builtin; refine wpList_append_own _ rfl _ _ 22 rfl w.heap.size 3 i0 (.int .i64 0) 1 8 Try.underlying22 hi hz0 hz1 hz2 rfl (by decide) _ 0 [] rfl ((World.ownsRow_lit _ #[] 0 (leOf0 (by repeat (first | (with_reducible exact Mr.refl _) | (with_reducible apply Mr.drew) | (with_reducible apply Mr.alloc) | (with_reducible apply Mr.ext) | (with_reducible refine Mr.setCell ?_ (by first | (simp; done) | (simp; omega) | omega | (refine leOf0 ?_; (repeat (first | (with_reducible exact Mr.refl _) | (with_reducible apply Mr.drew) | (with_reducible apply Mr.alloc) | (with_reducible apply Mr.ext) | (with_reducible refine Mr.setCell ?_ (by first | (simp; done) | (simp; omega) | omega) _))); done) | (refine leOf ?_; (repeat (first | (with_reducible exact Mr.refl _) | (with_reducible apply Mr.drew) | (with_reducible apply Mr.alloc) | (with_reducible apply Mr.ext) | (with_reducible refine Mr.setCell ?_ (by first | (simp; done) | (simp; omega) | omega) _))); done)) _)))) (by simp [maxLen]) rfl).alloc _) ⟨_, 0, none⟩ 1 1 [.int .i64 0] rfl rfl (cell_one2 _ (by simp)) (one_cell _) (by simp [maxLen]) (by omega) (leOf0 (by repeat (first | (with_reducible exact Mr.refl _) | (with_reducible apply Mr.drew) | (with_reducible apply Mr.alloc) | (with_reducible apply Mr.ext) | (with_reducible refine Mr.setCell ?_ (by first | (simp; done) | (simp; omega) | omega | (refine leOf0 ?_; (repeat (first | (with_reducible exact Mr.refl _) | (with_reducible apply Mr.drew) | (with_reducible apply Mr.alloc) | (with_reducible apply Mr.ext) | (with_reducible refine Mr.setCell ?_ (by first | (simp; done) | (simp; omega) | omega) _))); done) | (refine leOf ?_; (repeat (first | (with_reducible exact Mr.refl _) | (with_reducible apply Mr.drew) | (with_reducible apply Mr.alloc) | (with_reducible apply Mr.ext) | (with_reducible refine Mr.setCell ?_ (by first | (simp; done) | (simp; omega) | omega) _))); done)) _)))) ?_; intro v2 w2 hp2 hgr2 _; have hm2 : ∃ z2 : Ext w, w2 = z2.u := Mr.mk' (Mr.grownBy (by repeat (first | (with_reducible exact Mr.refl _) | (with_reducible apply Mr.drew) | (with_reducible apply Mr.alloc) | (with_reducible apply Mr.ext) | (with_reducible refine Mr.setCell ?_ (by first | (simp; done) | (simp; omega) | omega | (refine leOf0 ?_; (repeat (first | (with_reducible exact Mr.refl _) | (with_reducible apply Mr.drew) | (with_reducible apply Mr.alloc) | (with_reducible apply Mr.ext) | (with_reducible refine Mr.setCell ?_ (by first | (simp; done) | (simp; omega) | omega) _))); done) | (refine leOf ?_; (repeat (first | (with_reducible exact Mr.refl _) | (with_reducible apply Mr.drew) | (with_reducible apply Mr.alloc) | (with_reducible apply Mr.ext) | (with_reducible refine Mr.setCell ?_ (by first | (simp; done) | (simp; omega) | omega) _))); done)) _))) hgr2 (fun k e => by cases e; exact leOf0 (by repeat (first | (with_reducible exact Mr.refl _) | (with_reducible apply Mr.drew) | (with_reducible apply Mr.alloc) | (with_reducible apply Mr.ext) | (with_reducible refine Mr.setCell ?_ (by first | (simp; done) | (simp; omega) | omega | (refine leOf0 ?_; (repeat (first | (with_reducible exact Mr.refl _) | (with_reducible apply Mr.drew) | (with_reducible apply Mr.alloc) | (with_reducible apply Mr.ext) | (with_reducible refine Mr.setCell ?_ (by first | (simp; done) | (simp; omega) | omega) _))); done) | (refine leOf ?_; (repeat (first | (with_reducible exact Mr.refl _) | (with_reducible apply Mr.drew) | (with_reducible apply Mr.alloc) | (with_reducible apply Mr.ext) | (with_reducible refine Mr.setCell ?_ (by first | (simp; done) | (simp; omega) | omega) _))); done)) _))))); obtain ⟨z2, rfl⟩ := hm2; obtain ⟨a9, c9, rfl, -, HM⟩ := of_owns (l := [0]) hp2 (gt_app (X := []) HX.bd); clear hgr2 hp2) | (go_at_call 9; (have := tT; clear this tT); refine (total_n _ (by first | exact HX | exact HX.mr (by repeat (first | (with_reducible exact Mr.refl _) | (with_reducible apply Mr.drew) | (with_reducible apply Mr.alloc) | (with_reducible apply Mr.ext) | (with_reducible refine Mr.setCell ?_ (by first | (simp; done) | (simp; omega) | omega | (refine leOf0 ?_; (repeat (first | (with_reducible exact Mr.refl _) | (with_reducible apply Mr.drew) | (with_reducible apply Mr.alloc) | (with_reducible apply Mr.ext) | (with_reducible refine Mr.setCell ?_ (by first | (simp; done) | (simp; omega) | omega) _))); done) | (refine leOf ?_; (repeat (first | (with_reducible exact Mr.refl _) | (with_reducible apply Mr.drew) | (with_reducible apply Mr.alloc) | (with_reducible apply Mr.ext) | (with_reducible refine Mr.setCell ?_ (by first | (simp; done) | (simp; omega) | omega) _))); done)) _)))) eX).mono ?_; rintro e w' ⟨rfl, x, rfl⟩) | (go_at_call 9; refine (total_n _ (by first | exact HM | exact HM.mr (by repeat (first | (with_reducible exact Mr.refl _) | (with_reducible apply Mr.drew) | (with_reducible apply Mr.alloc) | (with_reducible apply Mr.ext) | (with_reducible refine Mr.setCell ?_ (by first | (simp; done) | (simp; omega) | omega | (refine leOf0 ?_; (repeat (first | (with_reducible exact Mr.refl _) | (with_reducible apply Mr.drew) | (with_reducible apply Mr.alloc) | (with_reducible apply Mr.ext) | (with_reducible refine Mr.setCell ?_ (by first | (simp; done) | (simp; omega) | omega) _))); done) | (refine leOf ?_; (repeat (first | (with_reducible exact Mr.refl _) | (with_reducible apply Mr.drew) | (with_reducible apply Mr.alloc) | (with_reducible apply Mr.ext) | (with_reducible refine Mr.setCell ?_ (by first | (simp; done) | (simp; omega) | omega) _))); done)) _)))) eM).mono ?_; rw [T1, F1]; rintro e w' ⟨rfl, x, rfl⟩) | (go_at_call 15; (have := tN; clear this tN); refine (norm_n _ (by first | exact HX | exact HX.mr (by repeat (first | (with_reducible exact Mr.refl _) | (with_reducible apply Mr.drew) | (with_reducible apply Mr.alloc) | (with_reducible apply Mr.ext) | (with_reducible refine Mr.setCell ?_ (by first | (simp; done) | (simp; omega) | omega | (refine leOf0 ?_; (repeat (first | (with_reducible exact Mr.refl _) | (with_reducible apply Mr.drew) | (with_reducible apply Mr.alloc) | (with_reducible apply Mr.ext) | (with_reducible refine Mr.setCell ?_ (by first | (simp; done) | (simp; omega) | omega) _))); done) | (refine leOf ?_; (repeat (first | (with_reducible exact Mr.refl _) | (with_reducible apply Mr.drew) | (with_reducible apply Mr.alloc) | (with_reducible apply Mr.ext) | (with_reducible refine Mr.setCell ?_ (by first | (simp; done) | (simp; omega) | omega) _))); done)) _)))) eX).mono ?_; rintro e w' ⟨rfl, x, rfl⟩) | (go_at_call 15; refine (norm_n _ (by first | exact HM | exact HM.mr (by repeat (first | (with_reducible exact Mr.refl _) | (with_reducible apply Mr.drew) | (with_reducible apply Mr.alloc) | (with_reducible apply Mr.ext) | (with_reducible refine Mr.setCell ?_ (by first | (simp; done) | (simp; omega) | omega | (refine leOf0 ?_; (repeat (first | (with_reducible exact Mr.refl _) | (with_reducible apply Mr.drew) | (with_reducible apply Mr.alloc) | (with_reducible apply Mr.ext) | (with_reducible refine Mr.setCell ?_ (by first | (simp; done) | (simp; omega) | omega) _))); done) | (refine leOf ?_; (repeat (first | (with_reducible exact Mr.refl _) | (with_reducible apply Mr.drew) | (with_reducible apply Mr.alloc) | (with_reducible apply Mr.ext) | (with_reducible refine Mr.setCell ?_ (by first | (simp; done) | (simp; omega) | omega) _))); done)) _)))) eM).mono ?_; rw [N1, F1]; rintro e w' ⟨rfl, x, rfl⟩) | (go_at_call 13; refine (dot_n _ _ (by first | exact HX | exact HX.mr (by repeat (first | (with_reducible exact Mr.refl _) | (with_reducible apply Mr.drew) | (with_reducible apply Mr.alloc) | (with_reducible apply Mr.ext) | (with_reducible refine Mr.setCell ?_ (by first | (simp; done) | (simp; omega) | omega | (refine leOf0 ?_; (repeat (first | (with_reducible exact Mr.refl _) | (with_reducible apply Mr.drew) | (with_reducible apply Mr.alloc) | (with_reducible apply Mr.ext) | (with_reducible refine Mr.setCell ?_ (by first | (simp; done) | (simp; omega) | omega) _))); done) | (refine leOf ?_; (repeat (first | (with_reducible exact Mr.refl _) | (with_reducible apply Mr.drew) | (with_reducible apply Mr.alloc) | (with_reducible apply Mr.ext) | (with_reducible refine Mr.setCell ?_ (by first | (simp; done) | (simp; omega) | omega) _))); done)) _)))) (by first | exact HY | exact HY.mr (by repeat (first | (with_reducible exact Mr.refl _) | (with_reducible apply Mr.drew) | (with_reducible apply Mr.alloc) | (with_reducible apply Mr.ext) | (with_reducible refine Mr.setCell ?_ (by first | (simp; done) | (simp; omega) | omega | (refine leOf0 ?_; (repeat (first | (with_reducible exact Mr.refl _) | (with_reducible apply Mr.drew) | (with_reducible apply Mr.alloc) | (with_reducible apply Mr.ext) | (with_reducible refine Mr.setCell ?_ (by first | (simp; done) | (simp; omega) | omega) _))); done) | (refine leOf ?_; (repeat (first | (with_reducible exact Mr.refl _) | (with_reducible apply Mr.drew) | (with_reducible apply Mr.alloc) | (with_reducible apply Mr.ext) | (with_reducible refine Mr.setCell ?_ (by first | (simp; done) | (simp; omega) | omega) _))); done)) _)))) eX eY).mono ?_; rintro e w' ⟨rfl, x, rfl⟩))
    refine wp_region_ext (by kernel_rfl) (by kernel_rfl) ?_
    repeat (go_big_quiet_step ((go_at_call 13; exact extCall (dot_n _ _ (by first | exact HX1 | exact HX1.mr (by repeat (first | (with_reducible exact Mr.refl _) | (with_reducible apply Mr.drew) | (with_reducible apply Mr.alloc) | (with_reducible apply Mr.ext)))) (by first | exact HY1 | exact HY1.mr (by repeat (first | (with_reducible exact Mr.refl _) | (with_reducible apply Mr.drew) | (with_reducible apply Mr.alloc) | (with_reducible apply Mr.ext)))) eX1 eY1))))
    refine wpQuiet_nil ?_
    rintro w3 ⟨x3, rfl⟩
    go_wp2_with fail
    refine wp_region_ext (by kernel_rfl) (by kernel_rfl) ?_
    repeat (go_big_quiet_step ((go_at_call 13; exact extCall (dot_n _ _ (by first | exact HX2 | exact HX2.mr (by repeat (first | (with_reducible exact Mr.refl _) | (with_reducible apply Mr.drew) | (with_reducible apply Mr.alloc) | (with_reducible apply Mr.ext)))) (by first | exact HY2 | exact HY2.mr (by repeat (first | (with_reducible exact Mr.refl _) | (with_reducible apply Mr.drew) | (with_reducible apply Mr.alloc) | (with_reducible apply Mr.ext)))) eX2 eY2))))
    refine wpQuiet_nil ?_
    rintro w4 ⟨x4, rfl⟩
    clear HX HY HX1 HY1 HX2 HY2 HM hs4 hs5 hmn0 hmn1 PM p1 p2 p3 p4 p5 p6 p7 p8 T1 F1 N1
    have z1 : dz [] [] = 0 := by decide
    have z2 : rn 0 = 0 := by decide
    have z3 : cl 0 = 0 := by decide
    have z4 : co 0 = false := by decide
    have z5 : ck [] 64 = false := by decide
    have z6 : av 0 0 = 0 := by decide
    have z7 : ao 0 0 = false := by decide
    go_wp2_with (first | (go_at_call 17; refine (add_c _ _ _).mono ?_; rintro e w' ⟨rfl, rfl⟩))
    go_ret; exact ⟨rfl, Mr.grown (by repeat (first | (with_reducible exact Mr.refl _) | (with_reducible apply Mr.drew) | (with_reducible apply Mr.alloc) | (with_reducible apply Mr.ext) | (with_reducible refine Mr.setCell ?_ (by first | (simp; done) | (simp; omega) | omega | (refine leOf0 ?_; (repeat (first | (with_reducible exact Mr.refl _) | (with_reducible apply Mr.drew) | (with_reducible apply Mr.alloc) | (with_reducible apply Mr.ext) | (with_reducible refine Mr.setCell ?_ (by first | (simp; done) | (simp; omega) | omega) _))); done) | (refine leOf ?_; (repeat (first | (with_reducible exact Mr.refl _) | (with_reducible apply Mr.drew) | (with_reducible apply Mr.alloc) | (with_reducible apply Mr.ext) | (with_reducible refine Mr.setCell ?_ (by first | (simp; done) | (simp; omega) | omega) _))); done)) _)))⟩
  | some ad =>
    go_enter Try.func7, Try.ntmps7
    go_wp2_with (first | (go_at_call 8; refine (awake6_c _).mono ?_; rintro e w' ⟨rfl, x, rfl⟩) | (at_builtin; (have := tP; clear this tP); refine wpList_append_own _ rfl _ _ 22 rfl w.heap.size 3 i0 (.int .i64 0) 1 8 Try.underlying22 hi hz0 hz1 hz2 rfl (by decide) _ 0 [] rfl (World.ownsRow_lit _ #[] 0 (leOf0 (by repeat (first | (with_reducible exact Mr.refl _) | (with_reducible apply Mr.drew) | (with_reducible apply Mr.alloc) | (with_reducible apply Mr.ext) | (with_reducible refine Mr.setCell ?_ (by first | (simp; done) | (simp; omega) | omega | (refine leOf0 ?_; (repeat (first | (with_reducible exact Mr.refl _) | (with_reducible apply Mr.drew) | (with_reducible apply Mr.alloc) | (with_reducible apply Mr.ext) | (with_reducible refine Mr.setCell ?_ (by first | (simp; done) | (simp; omega) | omega) _))); done) | (refine leOf ?_; (repeat (first | (with_reducible exact Mr.refl _) | (with_reducible apply Mr.drew) | (with_reducible apply Mr.alloc) | (with_reducible apply Mr.ext) | (with_reducible refine Mr.setCell ?_ (by first | (simp; done) | (simp; omega) | omega) _))); done)) _)))) (by simp [maxLen]) rfl) ad K c0 (X.map (Value.int .i64)) rfl (by rw [List.length_map]; omega) (HX.cells (by repeat (first | (with_reducible exact Mr.refl _) | (with_reducible apply Mr.drew) | (with_reducible apply Mr.alloc) | (with_reducible apply Mr.ext) | (with_reducible refine Mr.setCell ?_ (by first | (simp; done) | (simp; omega) | omega | (refine leOf0 ?_; (repeat (first | (with_reducible exact Mr.refl _) | (with_reducible apply Mr.drew) | (with_reducible apply Mr.alloc) | (with_reducible apply Mr.ext) | (with_reducible refine Mr.setCell ?_ (by first | (simp; done) | (simp; omega) | omega) _))); done) | (refine leOf ?_; (repeat (first | (with_reducible exact Mr.refl _) | (with_reducible apply Mr.drew) | (with_reducible apply Mr.alloc) | (with_reducible apply Mr.ext) | (with_reducible refine Mr.setCell ?_ (by first | (simp; done) | (simp; omega) | omega) _))); done)) _)))) one_cells (by unfold maxLen; omega) (by omega) (leOf0 (by repeat (first | (with_reducible exact Mr.refl _) | (with_reducible apply Mr.drew) | (with_reducible apply Mr.alloc) | (with_reducible apply Mr.ext) | (with_reducible refine Mr.setCell ?_ (by first | (simp; done) | (simp; omega) | omega | (refine leOf0 ?_; (repeat (first | (with_reducible exact Mr.refl _) | (with_reducible apply Mr.drew) | (with_reducible apply Mr.alloc) | (with_reducible apply Mr.ext) | (with_reducible refine Mr.setCell ?_ (by first | (simp; done) | (simp; omega) | omega) _))); done) | (refine leOf ?_; (repeat (first | (with_reducible exact Mr.refl _) | (with_reducible apply Mr.drew) | (with_reducible apply Mr.alloc) | (with_reducible apply Mr.ext) | (with_reducible refine Mr.setCell ?_ (by first | (simp; done) | (simp; omega) | omega) _))); done)) _)))) ?_; intro v1 w1 hp1 hgr _; rw [Nat.zero_add, List.nil_append] at hp1; have hm1 : ∃ z : Ext w, w1 = z.u := Mr.mk' (Mr.grownBy (by repeat (first | (with_reducible exact Mr.refl _) | (with_reducible apply Mr.drew) | (with_reducible apply Mr.alloc) | (with_reducible apply Mr.ext) | (with_reducible refine Mr.setCell ?_ (by first | (simp; done) | (simp; omega) | omega | (refine leOf0 ?_; (repeat (first | (with_reducible exact Mr.refl _) | (with_reducible apply Mr.drew) | (with_reducible apply Mr.alloc) | (with_reducible apply Mr.ext) | (with_reducible refine Mr.setCell ?_ (by first | (simp; done) | (simp; omega) | omega) _))); done) | (refine leOf ?_; (repeat (first | (with_reducible exact Mr.refl _) | (with_reducible apply Mr.drew) | (with_reducible apply Mr.alloc) | (with_reducible apply Mr.ext) | (with_reducible refine Mr.setCell ?_ (by first | (simp; done) | (simp; omega) | omega) _))); done)) _))) hgr (fun k e => by cases e; exact leOf0 (by repeat (first | (with_reducible exact Mr.refl _) | (with_reducible apply Mr.drew) | (with_reducible apply Mr.alloc) | (with_reducible apply Mr.ext) | (with_reducible refine Mr.setCell ?_ (by first | (simp; done) | (simp; omega) | omega | (refine leOf0 ?_; (repeat (first | (with_reducible exact Mr.refl _) | (with_reducible apply Mr.drew) | (with_reducible apply Mr.alloc) | (with_reducible apply Mr.ext) | (with_reducible refine Mr.setCell ?_ (by first | (simp; done) | (simp; omega) | omega) _))); done) | (refine leOf ?_; (repeat (first | (with_reducible exact Mr.refl _) | (with_reducible apply Mr.drew) | (with_reducible apply Mr.alloc) | (with_reducible apply Mr.ext) | (with_reducible refine Mr.setCell ?_ (by first | (simp; done) | (simp; omega) | omega) _))); done)) _))))); obtain ⟨z, rfl⟩ := hm1; clear hgr) | (at_builtin; refine wpList_append_own _ rfl _ _ 22 rfl w.heap.size 3 i0 (.int .i64 0) 1 8 Try.underlying22 hi hz0 hz1 hz2 rfl (by decide) _ K (X.map (Value.int .i64)) rfl (hp1.alloc _) ⟨z.u.heap.size, 0, none⟩ 1 1 [.int .i64 0] rfl rfl (cell_one _ _) (one_cell _) (by unfold maxLen; omega) (by omega) (by have := z.h.below.size; simp; omega) ?_; intro v2 w2 hp2 hgr2 _; have hm2 : ∃ z2 : Ext w, w2 = z2.u := Mr.mk' ((z.h.alloc _).grownBy hgr2 (fun k e => (hp1.lt k e).1)); obtain ⟨z2, rfl⟩ := hm2; obtain ⟨a9, c9, rfl, -, HM⟩ := of_owns (l := X ++ [0]) (by rw [List.map_append]; exact hp2) (gt_app HX.bd); clear hgr2 hp1 hp2; rw [eM]) | (go_at_call 9; (have := tT; clear this tT); refine (total_n _ (by first | exact HX | exact HX.mr (by repeat (first | (with_reducible exact Mr.refl _) | (with_reducible apply Mr.drew) | (with_reducible apply Mr.alloc) | (with_reducible apply Mr.ext) | (with_reducible refine Mr.setCell ?_ (by first | (simp; done) | (simp; omega) | omega | (refine leOf0 ?_; (repeat (first | (with_reducible exact Mr.refl _) | (with_reducible apply Mr.drew) | (with_reducible apply Mr.alloc) | (with_reducible apply Mr.ext) | (with_reducible refine Mr.setCell ?_ (by first | (simp; done) | (simp; omega) | omega) _))); done) | (refine leOf ?_; (repeat (first | (with_reducible exact Mr.refl _) | (with_reducible apply Mr.drew) | (with_reducible apply Mr.alloc) | (with_reducible apply Mr.ext) | (with_reducible refine Mr.setCell ?_ (by first | (simp; done) | (simp; omega) | omega) _))); done)) _)))) eX).mono ?_; rintro e w' ⟨rfl, x, rfl⟩) | (go_at_call 9; refine (total_n _ (by first | exact HM | exact HM.mr (by repeat (first | (with_reducible exact Mr.refl _) | (with_reducible apply Mr.drew) | (with_reducible apply Mr.alloc) | (with_reducible apply Mr.ext) | (with_reducible refine Mr.setCell ?_ (by first | (simp; done) | (simp; omega) | omega | (refine leOf0 ?_; (repeat (first | (with_reducible exact Mr.refl _) | (with_reducible apply Mr.drew) | (with_reducible apply Mr.alloc) | (with_reducible apply Mr.ext) | (with_reducible refine Mr.setCell ?_ (by first | (simp; done) | (simp; omega) | omega) _))); done) | (refine leOf ?_; (repeat (first | (with_reducible exact Mr.refl _) | (with_reducible apply Mr.drew) | (with_reducible apply Mr.alloc) | (with_reducible apply Mr.ext) | (with_reducible refine Mr.setCell ?_ (by first | (simp; done) | (simp; omega) | omega) _))); done)) _)))) eM).mono ?_; rw [T1, F1]; rintro e w' ⟨rfl, x, rfl⟩) | (go_at_call 15; (have := tN; clear this tN); refine (norm_n _ (by first | exact HX | exact HX.mr (by repeat (first | (with_reducible exact Mr.refl _) | (with_reducible apply Mr.drew) | (with_reducible apply Mr.alloc) | (with_reducible apply Mr.ext) | (with_reducible refine Mr.setCell ?_ (by first | (simp; done) | (simp; omega) | omega | (refine leOf0 ?_; (repeat (first | (with_reducible exact Mr.refl _) | (with_reducible apply Mr.drew) | (with_reducible apply Mr.alloc) | (with_reducible apply Mr.ext) | (with_reducible refine Mr.setCell ?_ (by first | (simp; done) | (simp; omega) | omega) _))); done) | (refine leOf ?_; (repeat (first | (with_reducible exact Mr.refl _) | (with_reducible apply Mr.drew) | (with_reducible apply Mr.alloc) | (with_reducible apply Mr.ext) | (with_reducible refine Mr.setCell ?_ (by first | (simp; done) | (simp; omega) | omega) _))); done)) _)))) eX).mono ?_; rintro e w' ⟨rfl, x, rfl⟩) | (go_at_call 15; refine (norm_n _ (by first | exact HM | exact HM.mr (by repeat (first | (with_reducible exact Mr.refl _) | (with_reducible apply Mr.drew) | (with_reducible apply Mr.alloc) | (with_reducible apply Mr.ext) | (with_reducible refine Mr.setCell ?_ (by first | (simp; done) | (simp; omega) | omega | (refine leOf0 ?_; (repeat (first | (with_reducible exact Mr.refl _) | (with_reducible apply Mr.drew) | (with_reducible apply Mr.alloc) | (with_reducible apply Mr.ext) | (with_reducible refine Mr.setCell ?_ (by first | (simp; done) | (simp; omega) | omega) _))); done) | (refine leOf ?_; (repeat (first | (with_reducible exact Mr.refl _) | (with_reducible apply Mr.drew) | (with_reducible apply Mr.alloc) | (with_reducible apply Mr.ext) | (with_reducible refine Mr.setCell ?_ (by first | (simp; done) | (simp; omega) | omega) _))); done)) _)))) eM).mono ?_; rw [N1, F1]; rintro e w' ⟨rfl, x, rfl⟩) | (go_at_call 13; refine (dot_n _ _ (by first | exact HX | exact HX.mr (by repeat (first | (with_reducible exact Mr.refl _) | (with_reducible apply Mr.drew) | (with_reducible apply Mr.alloc) | (with_reducible apply Mr.ext) | (with_reducible refine Mr.setCell ?_ (by first | (simp; done) | (simp; omega) | omega | (refine leOf0 ?_; (repeat (first | (with_reducible exact Mr.refl _) | (with_reducible apply Mr.drew) | (with_reducible apply Mr.alloc) | (with_reducible apply Mr.ext) | (with_reducible refine Mr.setCell ?_ (by first | (simp; done) | (simp; omega) | omega) _))); done) | (refine leOf ?_; (repeat (first | (with_reducible exact Mr.refl _) | (with_reducible apply Mr.drew) | (with_reducible apply Mr.alloc) | (with_reducible apply Mr.ext) | (with_reducible refine Mr.setCell ?_ (by first | (simp; done) | (simp; omega) | omega) _))); done)) _)))) (by first | exact HY | exact HY.mr (by repeat (first | (with_reducible exact Mr.refl _) | (with_reducible apply Mr.drew) | (with_reducible apply Mr.alloc) | (with_reducible apply Mr.ext) | (with_reducible refine Mr.setCell ?_ (by first | (simp; done) | (simp; omega) | omega | (refine leOf0 ?_; (repeat (first | (with_reducible exact Mr.refl _) | (with_reducible apply Mr.drew) | (with_reducible apply Mr.alloc) | (with_reducible apply Mr.ext) | (with_reducible refine Mr.setCell ?_ (by first | (simp; done) | (simp; omega) | omega) _))); done) | (refine leOf ?_; (repeat (first | (with_reducible exact Mr.refl _) | (with_reducible apply Mr.drew) | (with_reducible apply Mr.alloc) | (with_reducible apply Mr.ext) | (with_reducible refine Mr.setCell ?_ (by first | (simp; done) | (simp; omega) | omega) _))); done)) _)))) eX eY).mono ?_; rintro e w' ⟨rfl, x, rfl⟩))
    refine wp_region_ext (by kernel_rfl) (by kernel_rfl) ?_
    repeat (go_big_quiet_step ((go_at_call 13; exact extCall (dot_n _ _ (by first | exact HX1 | exact HX1.mr (by repeat (first | (with_reducible exact Mr.refl _) | (with_reducible apply Mr.drew) | (with_reducible apply Mr.alloc) | (with_reducible apply Mr.ext)))) (by first | exact HY1 | exact HY1.mr (by repeat (first | (with_reducible exact Mr.refl _) | (with_reducible apply Mr.drew) | (with_reducible apply Mr.alloc) | (with_reducible apply Mr.ext)))) eX1 eY1))))
    refine wpQuiet_nil ?_
    rintro w3 ⟨x3, rfl⟩
    go_wp2_with fail
    refine wp_region_ext (by kernel_rfl) (by kernel_rfl) ?_
    repeat (go_big_quiet_step ((go_at_call 13; exact extCall (dot_n _ _ (by first | exact HX2 | exact HX2.mr (by repeat (first | (with_reducible exact Mr.refl _) | (with_reducible apply Mr.drew) | (with_reducible apply Mr.alloc) | (with_reducible apply Mr.ext)))) (by first | exact HY2 | exact HY2.mr (by repeat (first | (with_reducible exact Mr.refl _) | (with_reducible apply Mr.drew) | (with_reducible apply Mr.alloc) | (with_reducible apply Mr.ext)))) eX2 eY2))))
    refine wpQuiet_nil ?_
    rintro w4 ⟨x4, rfl⟩
    clear HX HY HX1 HY1 HX2 HY2 HM hs2 hs3 hmin0 hmin1
    rcases PM.out with q1 | ⟨q1, q2⟩ | ⟨q1, q2, q3⟩ | ⟨q1, q2, q3, q4⟩ | ⟨q1, q2, q3, q4, q5, q6⟩
    all_goals
      go_wp2_with (first | (go_at_call 17; refine (add_c _ _ _).mono ?_; rintro e w' ⟨rfl, rfl⟩))
      go_ret; exact ⟨rfl, Mr.grown (by repeat (first | (with_reducible exact Mr.refl _) | (with_reducible apply Mr.drew) | (with_reducible apply Mr.alloc) | (with_reducible apply Mr.ext) | (with_reducible refine Mr.setCell ?_ (by first | (simp; done) | (simp; omega) | omega | (refine leOf0 ?_; (repeat (first | (with_reducible exact Mr.refl _) | (with_reducible apply Mr.drew) | (with_reducible apply Mr.alloc) | (with_reducible apply Mr.ext) | (with_reducible refine Mr.setCell ?_ (by first | (simp; done) | (simp; omega) | omega) _))); done) | (refine leOf ?_; (repeat (first | (with_reducible exact Mr.refl _) | (with_reducible apply Mr.drew) | (with_reducible apply Mr.alloc) | (with_reducible apply Mr.ext) | (with_reducible refine Mr.setCell ?_ (by first | (simp; done) | (simp; omega) | omega) _))); done)) _)))⟩

set_option maxRecDepth 100000 in
theorem lifted (os : Os) (started : os.Started) (H : Type) (enc : TypeId × Value → H) :
    ReturnsInHanded {} Try.checked os 7 .any (Rows.sumZeroSpec.pre6 enc Try.prog Try.f7 Rows.sumZeroRow.domain false) (Rows.sumZeroSpec.post enc Try.prog Try.f7 false true false false) := by
  refine returnsInHanded_of_change (C := Try.checked) own started (by kernel_rfl) Try.func7
    (ChangeSpec.witness6 (enc := enc) (C := Try.checked) false ⟨#[], #[.slice none 0 0, .slice none 0 0, .int .i64 0], []⟩ 8 (by kernel_rfl) (by kernel_rfl) (by kernel_rfl) (by kernel_rfl)) ?_
  intro W base args ds gs before hval0 hW hcnd _
  have hval : ∀ (j : Nat) t v, Try.f7.params[j]? = some t → args[j]? = some v → Value.okWide Try.prog W .any base t v := hval0
  have hW' := hW
  obtain ⟨p, q, hA0, hV, rfl, hfz, hnd⟩ := hW
  have hA : DataW.TrodAll enc Try.prog W 0 (fun _ => true) true Try.f7.params.toList args.toList ds p := hA0
  rw [Try.params7] at hA hval
  obtain ⟨v0, vs0, d0, ds0, p_0, q_0, hargs, rfl, rfl, h0, r0⟩ := trodAll_cons hA
  obtain ⟨v1, vs1, d1, ds1, p_1, q_1, rfl, rfl, rfl, h1, r1⟩ := trodAll_cons r0
  obtain ⟨v2, vs2, d2, ds2, p_2, q_2, rfl, rfl, rfl, h2, r2⟩ := trodAll_cons r1
  obtain ⟨rfl, rfl, rfl⟩ := trodAll_nil r2
  obtain rfl : args = #[v0, v1, v2] := by cases args; simp_all
  obtain ⟨rfl, rfl⟩ := trodVars_none hV
  obtain ⟨s0, n0, c0, rfl⟩ := okWide_slice Try.underlying22 (hval 0 22 v0 rfl rfl)
  have k0 := h0
  have lt0 : ∀ x ∈ p_0, x.block < W.heap.size := by obtain ⟨m, hm⟩ := k0; exact DataW.trod_lt m _ _ _ hm
  obtain ⟨z0, w0⟩ : ∃ zs, IsRow .i64 W s0 n0 c0 zs := by
    obtain ⟨fuel, hf⟩ := h0
    rcases open_ints Try.underlying22 Try.underlying3 (by kernel_rfl) hf with ⟨hcs, _⟩ | ⟨x, l, c, zs, hcs, _, hl, hm, hz, _, hcell, hwz⟩
    · simp [Value.cells] at hcs
      obtain ⟨rfl, rfl, rfl⟩ := hcs
      exact ⟨[], .inl ⟨rfl, rfl, rfl, rfl⟩⟩
    · simp [Value.cells] at hcs
      obtain ⟨rfl, rfl, rfl⟩ := hcs
      exact ⟨zs, .inr ⟨_, rfl, hl, hm, by simpa using hz, hcell, hwz⟩⟩
  obtain ⟨s1, n1, c1, rfl⟩ := okWide_slice Try.underlying22 (hval 1 22 v1 rfl rfl)
  have k1 := h1
  have lt1 : ∀ x ∈ p_1, x.block < W.heap.size := by obtain ⟨m, hm⟩ := k1; exact DataW.trod_lt m _ _ _ hm
  obtain ⟨z1, w1⟩ : ∃ zs, IsRow .i64 W s1 n1 c1 zs := by
    obtain ⟨fuel, hf⟩ := h1
    rcases open_ints Try.underlying22 Try.underlying3 (by kernel_rfl) hf with ⟨hcs, _⟩ | ⟨x, l, c, zs, hcs, _, hl, hm, hz, _, hcell, hwz⟩
    · simp [Value.cells] at hcs
      obtain ⟨rfl, rfl, rfl⟩ := hcs
      exact ⟨[], .inl ⟨rfl, rfl, rfl, rfl⟩⟩
    · simp [Value.cells] at hcs
      obtain ⟨rfl, rfl, rfl⟩ := hcs
      exact ⟨zs, .inr ⟨_, rfl, hl, hm, by simpa using hz, hcell, hwz⟩⟩
  obtain ⟨a2, rfl, rfl, rfl, w2⟩ := open_int Try.underlying3 (hval 2 3 v2 rfl rfl) h2
  clear hA0 hval0
  refine (walk s0 n0 c0 z0 s1 n1 c1 z1 a2 W w0 w1 w2).mono fun e W' ⟨he, bel⟩ => ?_
  subst he
  exact ⟨_, rfl, _, _, _, [], _, [], hW', trodAll_mk1 (shut_bool Try.underlying4 _), (trodAll_cons_mk (Below.trod laidOut (by kernel_rfl) (of_decide_eq_true (by kernel_rfl)) k0 bel lt0) (trodAll_cons_mk (Below.trod laidOut (by kernel_rfl) (of_decide_eq_true (by kernel_rfl)) k1 bel lt1) (trodAll_cons_mk (shut_int Try.underlying3 w2) trodAll_mk0))), rfl, bel.frame _, fun h => by cases h⟩

theorem over : Rows.sumZeroRow.holds Try.pinned (OpenSpec.ofChange Rows.sumZeroSpec) :=
  OpenClaim.holds_of_wide 7 Try.f7 rfl rfl rfl rfl rfl rfl rfl ⟨rfl, rfl, rfl, rfl, rfl⟩ rfl rfl rfl rfl rfl (by kernel_rfl) Try.func7 (by kernel_rfl)
    (of_decide_eq_true (by kernel_rfl)) (by unfold Func.isWrapper; first | (rw [if_pos (by decide +kernel)]; kernel_rfl) | (rw [if_neg (by decide +kernel)]; exact ⟨rfl, rfl⟩))
    (fun os started H enc _ => lifted os started H enc)

theorem proved : Rows.SumZeroSaid :=
  over
#print axioms proved
end Go.Proofs.Ytehahoiliapnfaa.sumZero
