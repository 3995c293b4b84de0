/- For every two lists of ints the law SumTurn answers true: turned round they have the same sum, mean, products and norm, and the products do not hang on which list is first. No condition. -/
import Derived.Test.YtehahoiliapnfaaRows
import Derived.WalkKit
import Derived.ProofKit
import Derived.OpenShut
import Derived.ShutString
import Derived.ChangeOld
import Derived.Below
import Derived.Test.YtehahoiliapnfaaSumC2
import Derived.Test.YtehahoiliapnfaaSumS
namespace Go.Proofs.Ytehahoiliapnfaa.sumTurn
open Go.ChangeShapes Go.WideShapes Go.ChangeAt Go.RowKit
set_option linter.unusedVariables false
theorem own : ownKnob Try.prog.godebug = none := by kernel_rfl
theorem laidOut : laidOutB Try.prog = true := by kernel_rfl

open Go.Proofs.Ytehahoiliapnfaa.Fx Go.Proofs.Ytehahoiliapnfaa.Wd Go.Proofs.Ytehahoiliapnfaa.Sc Go.Proofs.Ytehahoiliapnfaa.Rt Go.Proofs.Ytehahoiliapnfaa.Sm Go.Proofs.Ytehahoiliapnfaa.Sl
attribute [local go_sem] Ext.cell Ext.froz Ext.lt Ext.lt1 Ext.lt2 Ext.lt3 Ext.all Ext.set_u drew_heap setCell_size Ext.set_size
theorem ap_step {W w1 : World} {o : Obj} {base j g H : Nat} {v q : Value} {ys : List Value} (hq : W.ownsRow base 3 1 q j ys) (hd : v.ownBlock = none ∨ v.ownBlock ≠ q.ownBlock) (hgr : (W.alloc o).grownBy w1 v.ownBlock) (hat : v.ownBlock = some g ∨ g = H) (hH : W.heap.size ≤ H) : w1.ownsRow base 3 1 q j ys ∧ q.ownBlock ≠ some g := by
  refine ⟨(hq.alloc o).kept hgr ?_, ?_⟩
  · rcases hd with h | h
    · cases hb : q.ownBlock with
      | none => exact .inl rfl
      | some k => right; rw [h]; simp
    · exact .inr (fun e => h e.symm)
  · intro e
    rcases hat with h | h
    · rcases hd with k | k
      · rw [k] at h; cases h
      · exact k (h.trans e.symm)
    · have := (hq.lt g e).2
      omega
theorem dis_symm {q : Value} {g j cap : Nat} (h : q.ownBlock ≠ some g) : q.ownBlock = none ∨ q.ownBlock ≠ (Value.slice (some ⟨g, 0, none⟩) j cap).ownBlock := .inr h
theorem rev_more (X : List Int) {K j i : Nat} (e : X.length = K) (hj : j < K) (hi : i = K - 1 - j) : X.reverse.take (j + 1) = X.reverse.take j ++ [gt X i] := by
  rw [take_more _ _ (by rw [List.length_reverse]; omega)]
  congr 2
  unfold gt
  rw [List.getD_eq_getElem?_getD, List.getD_eq_getElem?_getD, List.getElem?_reverse (by omega), e, hi]
theorem gt_rev {X : List Int} (h : ∀ i, -9223372036854775808 ≤ gt X i ∧ gt X i ≤ 9223372036854775807) (i : Nat) : -9223372036854775808 ≤ gt X.reverse i ∧ gt X.reverse i ≤ 9223372036854775807 := by
  by_cases g : i < X.length
  · have := h (X.length - 1 - i)
    unfold gt at *
    rw [List.getD_eq_getElem?_getD, List.getElem?_reverse g]
    rw [List.getD_eq_getElem?_getD] at this
    exact this
  · unfold gt
    rw [List.getD_eq_getElem?_getD, List.getElem?_eq_none (by rw [List.length_reverse]; omega)]
    simp
theorem kk_same {X Y : List Int} {K : Nat} (h : X.length = K) (g : Y.length = K) : X.take (kk X Y) = X ∧ Y.take (kk X Y) = Y := by
  unfold kk
  rw [h, g, Nat.min_self]
  exact ⟨List.take_of_length_le (by omega), List.take_of_length_le (by omega)⟩
set_option maxHeartbeats 4000000 in
set_option maxRecDepth 100000 in
theorem walk (s0 : Option Addr) (n0 c0 : Nat) (z0 : List Int) (s1 : Option Addr) (n1 c1 : Nat) (z1 : List Int) (w : World) (w0 : IsRow .i64 w s0 n0 c0 z0) (w1 : IsRow .i64 w s1 n1 c1 z1) :
    Calls Try.prog 4 #[.slice s0 n0 c0, .slice s1 n1 c1] w fun e w' => e = .returned (.bool true) ∧ Below w.heap.size w w' := by
  obtain ⟨i0, hi, hz0, hz1, hz2⟩ := info_parts infoI
  obtain ⟨l, e0, H0⟩ := of_row w0
  obtain ⟨m, e1, H1⟩ := of_row w1
  clear w0 w1
  have m0 := H0.max
  have m1 := H1.max
  have k0 := H0.le
  have k1 := H1.le
  unfold maxLen at m0 m1
  have nl0 := H0.nil
  have nl1 := H1.nil
  obtain ⟨K, hK⟩ : ∃ K, K = min (min n0 n1) 64 := ⟨_, rfl⟩
  have HX := H0.take K
  have HY := H1.take K
  have eX : (l.take K).length = K := by rw [List.length_take]; omega
  have eY : (m.take K).length = K := by rw [List.length_take]; omega
  generalize hXX : l.take K = X at *
  generalize hYY : m.take K = Y at *
  rw [e0] at k0
  rw [e1] at k1
  clear H0 H1 hXX hYY e0 e1
  have hmin : ∀ (ts : Array TypeId) (t : TypeId) (W : World), (Builtin.min_ ts t #[.int .i64 (n0 : Int), .int .i64 (n1 : Int), .int .i64 64]).run Try.prog W = .ok (.int .i64 (K : Int)) W := fun ts t W => by
    simp [Builtin.min_, Builtin.min2]
    omega
  have hK0 : K ≤ c0 := by omega
  have hK1 : K ≤ c1 := by omega
  have hK2 : K ≤ 64 := by omega
  clear hK
  go_enter Try.func4, Try.ntmps4; go_wp2_with (first | (go_at_call 8; refine (awake6_c _).mono ?_; rintro e w' ⟨rfl, x, rfl⟩))
  go_loopw [9, 10, 11] (fun v q i wr => ∃ (j : Nat) (I : Int), j ≤ K ∧ i = .int .i64 I ∧ I = (K : Int) - 1 - j ∧ wr.ownsRow w.heap.size 3 1 v j ((X.reverse.take j).map (Value.int .i64)) ∧ wr.ownsRow w.heap.size 3 1 q j ((Y.reverse.take j).map (Value.int .i64)) ∧ (v.ownBlock = none ∨ v.ownBlock ≠ q.ownBlock) ∧ ∃ y : Ext w, wr = y.u) (fun _ _ i _ => (intOf i + 1).toNat)
  case atStart => exact ⟨0, _, by omega, rfl, by omega, World.ownsRow_nil _ _ _ _, World.ownsRow_nil _ _ _ _, .inl rfl, Mr.mk' (by repeat (first | (with_reducible exact Mr.refl _) | (with_reducible apply Mr.drew) | (with_reducible apply Mr.alloc) | (with_reducible apply Mr.ext) | (with_reducible refine Mr.setCell ?_ (by first | (simp; done) | (simp; omega) | omega | (refine leOf0 ?_; (repeat (first | (with_reducible exact Mr.refl _) | (with_reducible apply Mr.drew) | (with_reducible apply Mr.alloc) | (with_reducible apply Mr.ext) | (with_reducible refine Mr.setCell ?_ (by first | (simp; done) | (simp; omega) | omega) _))); done) | (refine leOf ?_; (repeat (first | (with_reducible exact Mr.refl _) | (with_reducible apply Mr.drew) | (with_reducible apply Mr.alloc) | (with_reducible apply Mr.ext) | (with_reducible refine Mr.setCell ?_ (by first | (simp; done) | (simp; omega) | omega) _))); done)) _)))⟩
  case round =>
    obtain ⟨j, I, hj, rfl, hI, hp, hq, hd, y, rfl⟩ := hrel
    by_cases hlt : j < K
    · obtain ⟨i, hii⟩ : ∃ i : Nat, i = K - 1 - j := ⟨_, rfl⟩
      obtain rfl : I = (i : Int) := by omega
      have hiK : (i : Int) < K := by omega
      obtain ⟨b1, o1, rfl, hb1, hc1⟩ := HX.at' i (by omega)
      obtain ⟨b2, o2, rfl, hb2, hc2⟩ := HY.at' i (by omega)
      have ck1 := hc1 i (by omega)
      have ck2 := hc2 i (by omega)
      have V1 : Hid (X.reverse.take (j + 1) = X.reverse.take j ++ [gt X i]) := rev_more X eX hlt hii
      have V2 : Hid (Y.reverse.take (j + 1) = Y.reverse.take j ++ [gt Y i]) := rev_more Y eY hlt hii
      have HI : Hid ((i : Int) = K - 1 - j) := by rw [Hid]; omega
      clear HX HY hc1 hc2 nl0 nl1 hii hI
      generalize hA : gt X i = A at *
      generalize hB : gt Y i = B at *
      have hmr : ∀ (w1 : World), (y.u.alloc (.cells #[.int .i64 A] 3)).grownBy w1 u9.ownBlock → ∃ z : Ext w, w1 = z.u := fun w1 hg => Mr.mk' ((y.h.alloc _).grownBy hg (fun j e => (hp.lt j e).1))
      have hmr2 : ∀ (z : Ext w) (w2 : World), (z.u.alloc (.cells #[.int .i64 B] 3)).grownBy w2 u10.ownBlock → z.u.ownsRow w.heap.size 3 1 u10 j ((Y.reverse.take j).map (Value.int .i64)) → ∃ z2 : Ext w, w2 = z2.u := fun z w2 hg hq1 => Mr.mk' ((z.h.alloc _).grownBy hg (fun j e => (hq1.lt j e).1))
      go_wp2_with (first | (at_builtin; refine wpList_append_lies _ rfl _ _ 22 rfl w.heap.size 3 i0 (.int .i64 0) 1 8 Try.underlying22 hi hz0 hz1 hz2 rfl (by decide) _ _ _ rfl (hp.alloc _) ⟨y.u.heap.size, 0, none⟩ 1 1 [.int .i64 A] rfl rfl (cell_one _ _) (one_cell _) (by decide) (by unfold maxLen; omega) (by omega) (by have := y.h.below.size; simp; omega) _ rfl ?_; intro g cap w1 hp1 hgr hat hlt; obtain ⟨z, rfl⟩ := hmr w1 hgr; obtain ⟨hq1, hd1⟩ := ap_step hq hd hgr hat (by simp); clear hp hq hd hgr hat hmr) | (at_builtin; refine wpList_append_lies _ rfl _ _ 22 rfl w.heap.size 3 i0 (.int .i64 0) 1 8 Try.underlying22 hi hz0 hz1 hz2 rfl (by decide) _ _ _ rfl (hq1.alloc _) ⟨z.u.heap.size, 0, none⟩ 1 1 [.int .i64 B] rfl rfl (cell_one _ _) (one_cell _) (by decide) (by unfold maxLen; omega) (by omega) (by have := z.h.below.size; simp; omega) _ rfl ?_; intro g2 cap2 w2 hq2 hgr2 hat2 hlt2; obtain ⟨z2, rfl⟩ := hmr2 z w2 hgr2 hq1; obtain ⟨hp2, hd2⟩ := ap_step hp1 (dis_symm hd1) hgr2 hat2 (by simp); clear hq1 hgr2 hat2 hmr2))
      go_roundw
      case rel =>
        have := HI.out
        exact ⟨j + 1, _, by omega, rfl, by omega, by rw [V1.out, List.map_append]; exact hp2, by rw [V2.out, List.map_append]; exact hq2, .inr (fun e => hd2 e), z2, rfl⟩
      case measure => first | (simp [intOf]; done) | (simp [intOf]; omega)
    · obtain rfl : j = K := by omega
      have hI0 : I < 0 := by omega
      clear hI
      have tk1 : X.reverse.take j = X.reverse := List.take_of_length_le (by rw [List.length_reverse]; omega)
      have tk2 : Y.reverse.take j = Y.reverse := List.take_of_length_le (by rw [List.length_reverse]; omega)
      rw [tk1] at hp
      rw [tk2] at hq
      have xb : ∀ i, -9223372036854775808 ≤ gt X.reverse i ∧ gt X.reverse i ≤ 9223372036854775807 := gt_rev HX.bd
      have yb : ∀ i, -9223372036854775808 ≤ gt Y.reverse i ∧ gt Y.reverse i ≤ 9223372036854775807 := gt_rev HY.bd
      obtain ⟨a9, c9, rfl, -, HP⟩ := of_owns hp xb
      obtain ⟨a10, c10, rfl, -, HQ⟩ := of_owns hq yb
      have eP : X.reverse.length = j := by rw [List.length_reverse]; exact eX
      have eQ : Y.reverse.length = j := by rw [List.length_reverse]; exact eY
      have T1 := tot_rev (l := X) (by omega)
      have F1 := ck_rev (l := X) (by omega)
      have M1 := mn_rev (l := X) (by omega)
      have N1 := dp_rev (l := X) (by omega)
      have D1 := dz_rev (l := X) (m := Y) (by omega) (by omega)
      have K1 : (ck (X.take (kk X Y)) 64 || ck (Y.take (kk X Y)) 64) = (ck X 64 || ck Y 64) := by rw [(kk_same eX eY).1, (kk_same eX eY).2]
      have K2 : (ck (Y.reverse.take (kk Y.reverse X.reverse)) 64 || ck (X.reverse.take (kk Y.reverse X.reverse)) 64) = (ck X 64 || ck Y 64) := by rw [(kk_same eQ eP).1, (kk_same eQ eP).2, F1, ck_rev (l := Y) (by omega), Bool.or_comm]
      have tT : Unit := ()
      have tM : Unit := ()
      have tD : Unit := ()
      have tN : Unit := ()
      rw [eP, eQ]
      have hx := x.h
      clear hp hq hd tk1 tk2 xb yb
      go_wp2_with (first | (go_at_call 9; (have := tT; clear this tT); refine (total_n _ (by first | exact HX | exact HX.mr (by repeat (first | (with_reducible exact Mr.refl _) | (with_reducible apply Mr.drew) | (with_reducible apply Mr.alloc) | (with_reducible apply Mr.ext) | (with_reducible refine Mr.setCell ?_ (by first | (simp; done) | (simp; omega) | omega | (refine leOf0 ?_; (repeat (first | (with_reducible exact Mr.refl _) | (with_reducible apply Mr.drew) | (with_reducible apply Mr.alloc) | (with_reducible apply Mr.ext) | (with_reducible refine Mr.setCell ?_ (by first | (simp; done) | (simp; omega) | omega) _))); done) | (refine leOf ?_; (repeat (first | (with_reducible exact Mr.refl _) | (with_reducible apply Mr.drew) | (with_reducible apply Mr.alloc) | (with_reducible apply Mr.ext) | (with_reducible refine Mr.setCell ?_ (by first | (simp; done) | (simp; omega) | omega) _))); done)) _)))) eX).mono ?_; rintro e w' ⟨rfl, x, rfl⟩) | (go_at_call 9; refine (total_n _ (by first | exact HP | exact HP.mr (by repeat (first | (with_reducible exact Mr.refl _) | (with_reducible apply Mr.drew) | (with_reducible apply Mr.alloc) | (with_reducible apply Mr.ext) | (with_reducible refine Mr.setCell ?_ (by first | (simp; done) | (simp; omega) | omega | (refine leOf0 ?_; (repeat (first | (with_reducible exact Mr.refl _) | (with_reducible apply Mr.drew) | (with_reducible apply Mr.alloc) | (with_reducible apply Mr.ext) | (with_reducible refine Mr.setCell ?_ (by first | (simp; done) | (simp; omega) | omega) _))); done) | (refine leOf ?_; (repeat (first | (with_reducible exact Mr.refl _) | (with_reducible apply Mr.drew) | (with_reducible apply Mr.alloc) | (with_reducible apply Mr.ext) | (with_reducible refine Mr.setCell ?_ (by first | (simp; done) | (simp; omega) | omega) _))); done)) _)))) eP).mono ?_; rw [T1, F1]; rintro e w' ⟨rfl, x, rfl⟩) | (go_at_call 11; (have := tM; clear this tM); refine (mean_n _ (by first | exact HX | exact HX.mr (by repeat (first | (with_reducible exact Mr.refl _) | (with_reducible apply Mr.drew) | (with_reducible apply Mr.alloc) | (with_reducible apply Mr.ext) | (with_reducible refine Mr.setCell ?_ (by first | (simp; done) | (simp; omega) | omega | (refine leOf0 ?_; (repeat (first | (with_reducible exact Mr.refl _) | (with_reducible apply Mr.drew) | (with_reducible apply Mr.alloc) | (with_reducible apply Mr.ext) | (with_reducible refine Mr.setCell ?_ (by first | (simp; done) | (simp; omega) | omega) _))); done) | (refine leOf ?_; (repeat (first | (with_reducible exact Mr.refl _) | (with_reducible apply Mr.drew) | (with_reducible apply Mr.alloc) | (with_reducible apply Mr.ext) | (with_reducible refine Mr.setCell ?_ (by first | (simp; done) | (simp; omega) | omega) _))); done)) _)))) eX).mono ?_; rintro e w' ⟨rfl, x, rfl⟩) | (go_at_call 11; refine (mean_n _ (by first | exact HP | exact HP.mr (by repeat (first | (with_reducible exact Mr.refl _) | (with_reducible apply Mr.drew) | (with_reducible apply Mr.alloc) | (with_reducible apply Mr.ext) | (with_reducible refine Mr.setCell ?_ (by first | (simp; done) | (simp; omega) | omega | (refine leOf0 ?_; (repeat (first | (with_reducible exact Mr.refl _) | (with_reducible apply Mr.drew) | (with_reducible apply Mr.alloc) | (with_reducible apply Mr.ext) | (with_reducible refine Mr.setCell ?_ (by first | (simp; done) | (simp; omega) | omega) _))); done) | (refine leOf ?_; (repeat (first | (with_reducible exact Mr.refl _) | (with_reducible apply Mr.drew) | (with_reducible apply Mr.alloc) | (with_reducible apply Mr.ext) | (with_reducible refine Mr.setCell ?_ (by first | (simp; done) | (simp; omega) | omega) _))); done)) _)))) eP).mono ?_; rw [M1, F1]; rintro e w' ⟨rfl, x, rfl⟩) | (go_at_call 13; (have := tD; clear this tD); refine (dot_n _ _ (by first | exact HX | exact HX.mr (by repeat (first | (with_reducible exact Mr.refl _) | (with_reducible apply Mr.drew) | (with_reducible apply Mr.alloc) | (with_reducible apply Mr.ext) | (with_reducible refine Mr.setCell ?_ (by first | (simp; done) | (simp; omega) | omega | (refine leOf0 ?_; (repeat (first | (with_reducible exact Mr.refl _) | (with_reducible apply Mr.drew) | (with_reducible apply Mr.alloc) | (with_reducible apply Mr.ext) | (with_reducible refine Mr.setCell ?_ (by first | (simp; done) | (simp; omega) | omega) _))); done) | (refine leOf ?_; (repeat (first | (with_reducible exact Mr.refl _) | (with_reducible apply Mr.drew) | (with_reducible apply Mr.alloc) | (with_reducible apply Mr.ext) | (with_reducible refine Mr.setCell ?_ (by first | (simp; done) | (simp; omega) | omega) _))); done)) _)))) (by first | exact HY | exact HY.mr (by repeat (first | (with_reducible exact Mr.refl _) | (with_reducible apply Mr.drew) | (with_reducible apply Mr.alloc) | (with_reducible apply Mr.ext) | (with_reducible refine Mr.setCell ?_ (by first | (simp; done) | (simp; omega) | omega | (refine leOf0 ?_; (repeat (first | (with_reducible exact Mr.refl _) | (with_reducible apply Mr.drew) | (with_reducible apply Mr.alloc) | (with_reducible apply Mr.ext) | (with_reducible refine Mr.setCell ?_ (by first | (simp; done) | (simp; omega) | omega) _))); done) | (refine leOf ?_; (repeat (first | (with_reducible exact Mr.refl _) | (with_reducible apply Mr.drew) | (with_reducible apply Mr.alloc) | (with_reducible apply Mr.ext) | (with_reducible refine Mr.setCell ?_ (by first | (simp; done) | (simp; omega) | omega) _))); done)) _)))) eX eY).mono ?_; rw [K1]; rintro e w' ⟨rfl, x, rfl⟩) | (go_at_call 13; refine (dot_n _ _ (by first | exact HQ | exact HQ.mr (by repeat (first | (with_reducible exact Mr.refl _) | (with_reducible apply Mr.drew) | (with_reducible apply Mr.alloc) | (with_reducible apply Mr.ext) | (with_reducible refine Mr.setCell ?_ (by first | (simp; done) | (simp; omega) | omega | (refine leOf0 ?_; (repeat (first | (with_reducible exact Mr.refl _) | (with_reducible apply Mr.drew) | (with_reducible apply Mr.alloc) | (with_reducible apply Mr.ext) | (with_reducible refine Mr.setCell ?_ (by first | (simp; done) | (simp; omega) | omega) _))); done) | (refine leOf ?_; (repeat (first | (with_reducible exact Mr.refl _) | (with_reducible apply Mr.drew) | (with_reducible apply Mr.alloc) | (with_reducible apply Mr.ext) | (with_reducible refine Mr.setCell ?_ (by first | (simp; done) | (simp; omega) | omega) _))); done)) _)))) (by first | exact HP | exact HP.mr (by repeat (first | (with_reducible exact Mr.refl _) | (with_reducible apply Mr.drew) | (with_reducible apply Mr.alloc) | (with_reducible apply Mr.ext) | (with_reducible refine Mr.setCell ?_ (by first | (simp; done) | (simp; omega) | omega | (refine leOf0 ?_; (repeat (first | (with_reducible exact Mr.refl _) | (with_reducible apply Mr.drew) | (with_reducible apply Mr.alloc) | (with_reducible apply Mr.ext) | (with_reducible refine Mr.setCell ?_ (by first | (simp; done) | (simp; omega) | omega) _))); done) | (refine leOf ?_; (repeat (first | (with_reducible exact Mr.refl _) | (with_reducible apply Mr.drew) | (with_reducible apply Mr.alloc) | (with_reducible apply Mr.ext) | (with_reducible refine Mr.setCell ?_ (by first | (simp; done) | (simp; omega) | omega) _))); done)) _)))) eQ eP).mono ?_; rw [K2, D1]; rintro e w' ⟨rfl, x, rfl⟩) | (go_at_call 15; (have := tN; clear this tN); refine (norm_n _ (by first | exact HX | exact HX.mr (by repeat (first | (with_reducible exact Mr.refl _) | (with_reducible apply Mr.drew) | (with_reducible apply Mr.alloc) | (with_reducible apply Mr.ext) | (with_reducible refine Mr.setCell ?_ (by first | (simp; done) | (simp; omega) | omega | (refine leOf0 ?_; (repeat (first | (with_reducible exact Mr.refl _) | (with_reducible apply Mr.drew) | (with_reducible apply Mr.alloc) | (with_reducible apply Mr.ext) | (with_reducible refine Mr.setCell ?_ (by first | (simp; done) | (simp; omega) | omega) _))); done) | (refine leOf ?_; (repeat (first | (with_reducible exact Mr.refl _) | (with_reducible apply Mr.drew) | (with_reducible apply Mr.alloc) | (with_reducible apply Mr.ext) | (with_reducible refine Mr.setCell ?_ (by first | (simp; done) | (simp; omega) | omega) _))); done)) _)))) eX).mono ?_; rintro e w' ⟨rfl, x, rfl⟩) | (go_at_call 15; refine (norm_n _ (by first | exact HP | exact HP.mr (by repeat (first | (with_reducible exact Mr.refl _) | (with_reducible apply Mr.drew) | (with_reducible apply Mr.alloc) | (with_reducible apply Mr.ext) | (with_reducible refine Mr.setCell ?_ (by first | (simp; done) | (simp; omega) | omega | (refine leOf0 ?_; (repeat (first | (with_reducible exact Mr.refl _) | (with_reducible apply Mr.drew) | (with_reducible apply Mr.alloc) | (with_reducible apply Mr.ext) | (with_reducible refine Mr.setCell ?_ (by first | (simp; done) | (simp; omega) | omega) _))); done) | (refine leOf ?_; (repeat (first | (with_reducible exact Mr.refl _) | (with_reducible apply Mr.drew) | (with_reducible apply Mr.alloc) | (with_reducible apply Mr.ext) | (with_reducible refine Mr.setCell ?_ (by first | (simp; done) | (simp; omega) | omega) _))); done)) _)))) eP).mono ?_; rw [N1, F1]; rintro e w' ⟨rfl, x, rfl⟩))
      go_ret; exact ⟨rfl, Mr.grown (by repeat (first | (with_reducible exact Mr.refl _) | (with_reducible apply Mr.drew) | (with_reducible apply Mr.alloc) | (with_reducible apply Mr.ext) | (with_reducible refine Mr.setCell ?_ (by first | (simp; done) | (simp; omega) | omega | (refine leOf0 ?_; (repeat (first | (with_reducible exact Mr.refl _) | (with_reducible apply Mr.drew) | (with_reducible apply Mr.alloc) | (with_reducible apply Mr.ext) | (with_reducible refine Mr.setCell ?_ (by first | (simp; done) | (simp; omega) | omega) _))); done) | (refine leOf ?_; (repeat (first | (with_reducible exact Mr.refl _) | (with_reducible apply Mr.drew) | (with_reducible apply Mr.alloc) | (with_reducible apply Mr.ext) | (with_reducible refine Mr.setCell ?_ (by first | (simp; done) | (simp; omega) | omega) _))); done)) _)))⟩

set_option maxRecDepth 100000 in
theorem lifted (os : Os) (started : os.Started) (H : Type) (enc : TypeId × Value → H) :
    ReturnsInHanded {} Try.checked os 4 .any (Rows.sumTurnSpec.pre6 enc Try.prog Try.f4 Rows.sumTurnRow.domain false) (Rows.sumTurnSpec.post enc Try.prog Try.f4 false true false false) := by
  refine returnsInHanded_of_change (C := Try.checked) own started (by kernel_rfl) Try.func4
    (ChangeSpec.witness6 (enc := enc) (C := Try.checked) false ⟨#[], #[.slice none 0 0, .slice none 0 0], []⟩ 8 (by kernel_rfl) (by kernel_rfl) (by kernel_rfl) (by kernel_rfl)) ?_
  intro W base args ds gs before hval0 hW hcnd _
  have hval : ∀ (j : Nat) t v, Try.f4.params[j]? = some t → args[j]? = some v → Value.okWide Try.prog W .any base t v := hval0
  have hW' := hW
  obtain ⟨p, q, hA0, hV, rfl, hfz, hnd⟩ := hW
  have hA : DataW.TrodAll enc Try.prog W 0 (fun _ => true) true Try.f4.params.toList args.toList ds p := hA0
  rw [Try.params4] at hA hval
  obtain ⟨v0, vs0, d0, ds0, p_0, q_0, hargs, rfl, rfl, h0, r0⟩ := trodAll_cons hA
  obtain ⟨v1, vs1, d1, ds1, p_1, q_1, rfl, rfl, rfl, h1, r1⟩ := trodAll_cons r0
  obtain ⟨rfl, rfl, rfl⟩ := trodAll_nil r1
  obtain rfl : args = #[v0, v1] := by cases args; simp_all
  obtain ⟨rfl, rfl⟩ := trodVars_none hV
  obtain ⟨s0, n0, c0, rfl⟩ := okWide_slice Try.underlying22 (hval 0 22 v0 rfl rfl)
  have k0 := h0
  have lt0 : ∀ x ∈ p_0, x.block < W.heap.size := by obtain ⟨m, hm⟩ := k0; exact DataW.trod_lt m _ _ _ hm
  obtain ⟨z0, w0⟩ : ∃ zs, IsRow .i64 W s0 n0 c0 zs := by
    obtain ⟨fuel, hf⟩ := h0
    rcases open_ints Try.underlying22 Try.underlying3 (by kernel_rfl) hf with ⟨hcs, _⟩ | ⟨x, l, c, zs, hcs, _, hl, hm, hz, _, hcell, hwz⟩
    · simp [Value.cells] at hcs
      obtain ⟨rfl, rfl, rfl⟩ := hcs
      exact ⟨[], .inl ⟨rfl, rfl, rfl, rfl⟩⟩
    · simp [Value.cells] at hcs
      obtain ⟨rfl, rfl, rfl⟩ := hcs
      exact ⟨zs, .inr ⟨_, rfl, hl, hm, by simpa using hz, hcell, hwz⟩⟩
  obtain ⟨s1, n1, c1, rfl⟩ := okWide_slice Try.underlying22 (hval 1 22 v1 rfl rfl)
  have k1 := h1
  have lt1 : ∀ x ∈ p_1, x.block < W.heap.size := by obtain ⟨m, hm⟩ := k1; exact DataW.trod_lt m _ _ _ hm
  obtain ⟨z1, w1⟩ : ∃ zs, IsRow .i64 W s1 n1 c1 zs := by
    obtain ⟨fuel, hf⟩ := h1
    rcases open_ints Try.underlying22 Try.underlying3 (by kernel_rfl) hf with ⟨hcs, _⟩ | ⟨x, l, c, zs, hcs, _, hl, hm, hz, _, hcell, hwz⟩
    · simp [Value.cells] at hcs
      obtain ⟨rfl, rfl, rfl⟩ := hcs
      exact ⟨[], .inl ⟨rfl, rfl, rfl, rfl⟩⟩
    · simp [Value.cells] at hcs
      obtain ⟨rfl, rfl, rfl⟩ := hcs
      exact ⟨zs, .inr ⟨_, rfl, hl, hm, by simpa using hz, hcell, hwz⟩⟩
  clear hA0 hval0
  refine (walk s0 n0 c0 z0 s1 n1 c1 z1 W w0 w1).mono fun e W' ⟨he, bel⟩ => ?_
  subst he
  exact ⟨_, rfl, _, _, _, [], _, [], hW', trodAll_mk1 (shut_bool Try.underlying4 _), (trodAll_cons_mk (Below.trod laidOut (by kernel_rfl) (of_decide_eq_true (by kernel_rfl)) k0 bel lt0) (trodAll_cons_mk (Below.trod laidOut (by kernel_rfl) (of_decide_eq_true (by kernel_rfl)) k1 bel lt1) trodAll_mk0)), rfl, bel.frame _, fun h => by cases h⟩

theorem over : Rows.sumTurnRow.holds Try.pinned (OpenSpec.ofChange Rows.sumTurnSpec) :=
  OpenClaim.holds_of_wide 4 Try.f4 rfl rfl rfl rfl rfl rfl rfl ⟨rfl, rfl, rfl, rfl, rfl⟩ rfl rfl rfl rfl rfl (by kernel_rfl) Try.func4 (by kernel_rfl)
    (of_decide_eq_true (by kernel_rfl)) (by unfold Func.isWrapper; first | (rw [if_pos (by decide +kernel)]; kernel_rfl) | (rw [if_neg (by decide +kernel)]; exact ⟨rfl, rfl⟩))
    (fun os started H enc _ => lifted os started H enc)

theorem proved : Rows.SumTurnSaid :=
  over
#print axioms proved
end Go.Proofs.Ytehahoiliapnfaa.sumTurn
