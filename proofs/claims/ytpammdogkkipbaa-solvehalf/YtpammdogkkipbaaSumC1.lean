/- The contracts of package sum. -/
import Derived.Test.YtpammdogkkipbaaSumM
import Derived.Test.YtpammdogkkipbaaSumI
import Derived.Test.YtpammdogkkipbaaWideC
namespace Go.Proofs.Ytpammdogkkipbaa
open Go.ChangeShapes Go.WideShapes Go.ChangeAt Go.RowKit Go.Shelf
open Go.Proofs.Ytpammdogkkipbaa.Fx Go.Proofs.Ytpammdogkkipbaa.Wd Go.Proofs.Ytpammdogkkipbaa.Sc Go.Proofs.Ytpammdogkkipbaa.Rt
set_option linter.unusedVariables false
attribute [local go_sem] Ext.cell Ext.froz Ext.lt Ext.lt1 Ext.lt2 Ext.lt3 Ext.all Ext.set_u drew_heap setCell_size Ext.set_size
attribute [-go_sem] run_min_int2
namespace Sm
open Sl
/-- What makes a range of terms. -/
theorem termsW_c (m : Int) (g : Nat) (lbg : Array Value) (w : World) :
    Calls Try.prog 87 #[.int .i64 m, .func (.func g) #[] lbg] w fun e w' => e = .returned (.func (.func 98) #[] #[.pointer (some ⟨w.heap.size, 0, none⟩), .pointer (some ⟨w.heap.size + 1, 0, none⟩)]) ∧ w' = (w.alloc (.cells #[.int .i64 m] 3)).alloc (.cells #[.func (.func g) #[] lbg] 93) := by
  go_enter Try.func87, Try.ntmps87
  go_wp2
  go_ret
  exact ⟨rfl, rfl⟩
theorem products_c {a b : Option Addr} {n m c d : Nat} (K : Nat) (hK : K = min n m) (w : World) (hn : n ≤ 9223372036854775807) (hm : m ≤ 9223372036854775807) :
    Calls Try.prog 77 #[.slice a n c, .slice b m d] w fun e w' => e = .returned (.func (.func 98) #[] #[.pointer (some ⟨w.heap.size + 1 + 1, 0, none⟩), .pointer (some ⟨w.heap.size + 1 + 1 + 1, 0, none⟩)]) ∧ w' = (((w.alloc (.cells #[.slice a n c] 23)).alloc (.cells #[.slice b m d] 23)).alloc (.cells #[.int .i64 K] 3)).alloc (.cells #[.func (.func 88) #[] #[.pointer (some ⟨w.heap.size, 0, none⟩), .pointer (some ⟨w.heap.size + 1, 0, none⟩)]] 93) := by
  have hmin : ∀ (ts : Array TypeId) (t : TypeId) (W : World), (Builtin.min_ ts t #[.int .i64 (n : Int), .int .i64 (m : Int)]).run Try.prog W = .ok (.int .i64 (K : Int)) W := fun ts t W => by
    simp [Builtin.min_, Builtin.min2]
    omega
  clear hK
  go_enter Try.func77, Try.ntmps77
  go_wp2_with (go_at_call 87; refine (termsW_c _ _ _ _).mono ?_; rintro e w' ⟨rfl, rfl⟩)
  go_ret
  exact ⟨rfl, rfl⟩
set_option maxHeartbeats 1000000 in
theorem pr1_c {a a' : Option Addr} {c c' : Nat} {X Y : List Int} (B B' i n n' : Nat) (w : World) (hB : B < w.heap.size) (hc : w.cell? ⟨B, 0, none⟩ = some (.slice a n c)) (hB' : B' < w.heap.size) (hc' : w.cell? ⟨B', 0, none⟩ = some (.slice a' n' c')) (h : Is w a c X) (e : X.length = n) (hin : i < n) (h' : Is w a' c' Y) (e' : Y.length = n') (hin' : i < n') :
    Calls Try.prog 88 #[.int .i64 i, .pointer (some ⟨B, 0, none⟩), .pointer (some ⟨B', 0, none⟩)] w fun e w' => e = .returned (.tuple #[.agg #[.int .i64 (hi (ml (gt X i) (gt Y i))), .int .i64 (lo (ml (gt X i) (gt Y i)))], .bool (co (gt X i) || co (gt Y i))]) ∧ ∃ x : Ext w, w' = x.u := by
  obtain ⟨b, o, rfl, hb, hcs⟩ := h.at' i (by omega)
  have hci := hcs i (by omega)
  obtain ⟨b', o', rfl, hb', hcs'⟩ := h'.at' i (by omega)
  have hci' := hcs' i (by omega)
  have hi' : (i : Int) < n := by omega
  have hi2 : (i : Int) < n' := by omega
  have hB1 : B < w.heap.size + 1 := by omega
  have hb1 : b < w.heap.size + 1 := by omega
  have hB2 : B' < w.heap.size + 1 := by omega
  have hb2 : b' < w.heap.size + 1 := by omega
  generalize hx : gt X i = q at *
  generalize hy : gt Y i = r at *
  have hml : Hid (ml (cl q) (cl r) = ml q r) := ml_cl2 q r
  clear h hcs h' hcs'
  cases hq : co q
  all_goals
    go_enter Try.func88, Try.ntmps88
    go_wp2_with (first | (go_at_call 43; refine (clamp_c _ _).mono ?_; rintro e w' ⟨rfl, rfl⟩) | (go_at_call 79; refine (wmul_c _ _ _).mono ?_; rintro e w' ⟨rfl, x, rfl⟩))
    rw [← hml.out]
    exact bodyPost_ret (v := .tuple #[.agg #[.int .i64 (hi (ml (cl q) (cl r))), .int .i64 (lo (ml (cl q) (cl r)))], .bool _]) (by simp [results, Try.results88, go_sem]) rfl ⟨rfl, Mr.mk' (by repeat (first | (with_reducible exact Mr.refl _) | (with_reducible apply Mr.drew) | (with_reducible apply Mr.alloc) | (with_reducible apply Mr.ext) | (with_reducible refine Mr.setCell ?_ (by first | (simp; done) | (simp; omega) | omega | (refine leOf0 ?_; (repeat (first | (with_reducible exact Mr.refl _) | (with_reducible apply Mr.drew) | (with_reducible apply Mr.alloc) | (with_reducible apply Mr.ext) | (with_reducible refine Mr.setCell ?_ (by first | (simp; done) | (simp; omega) | omega) _))); done) | (refine leOf ?_; (repeat (first | (with_reducible exact Mr.refl _) | (with_reducible apply Mr.drew) | (with_reducible apply Mr.alloc) | (with_reducible apply Mr.ext) | (with_reducible refine Mr.setCell ?_ (by first | (simp; done) | (simp; omega) | omega) _))); done)) _)))⟩
end Sm
end Go.Proofs.Ytpammdogkkipbaa
/- The contracts of package sum, second part. -/
namespace Go.Proofs.Ytpammdogkkipbaa
open Go.ChangeShapes Go.WideShapes Go.ChangeAt Go.RowKit Go.Shelf
open Go.Proofs.Ytpammdogkkipbaa.Fx Go.Proofs.Ytpammdogkkipbaa.Wd Go.Proofs.Ytpammdogkkipbaa.Sc Go.Proofs.Ytpammdogkkipbaa.Rt
set_option linter.unusedVariables false
attribute [local go_sem] Ext.cell Ext.froz Ext.lt Ext.lt1 Ext.lt2 Ext.lt3 Ext.all Ext.set_u drew_heap setCell_size Ext.set_size
attribute [-go_sem] run_min_int2
namespace Sm
open Sl
/-- The terms of a list, and of two. -/
def tmV (X : List Int) (j : Nat) : Tm := ⟨cl (gt X j), co (gt X j), by have := cl_bd (gt X j); omega, by have := cl_bd (gt X j); omega⟩
def tmD (X Y : List Int) (j : Nat) : Tm := ⟨ml (gt X j) (gt Y j), co (gt X j) || co (gt Y j), (ml_bd _ _).1, (ml_bd _ _).2⟩
theorem gt_vk (X : List Int) (k i : Nat) (hk : i < k) (hi : i < X.length) : gt (vk X k) i = cl (gt X i) := by
  unfold gt vk
  rw [List.getD_eq_getElem?_getD, List.getElem?_map, List.getElem?_take, if_pos hk, List.getD_eq_getElem?_getD, List.getElem?_eq_getElem hi]
  rfl
theorem ws_congr {f g : Nat → Int} (n : Nat) (h : ∀ i, i < n → f i = g i) : ws f n = ws g n := by
  induction n with
  | zero => rfl
  | succ n ih => simp only [ws]; rw [ih (fun i hi => h i (by omega)), h n (by omega)]
theorem vk_length (X : List Int) (k : Nat) : (vk X k).length = min k X.length := by unfold vk; rw [List.length_map, List.length_take]
theorem tot_ws (X : List Int) (K : Nat) (hK : K = min X.length 64) : ws (fun j => (tmV X j).z) K = tot X := by
  unfold tot
  rw [vk_length, show min 64 X.length = K by omega]
  exact ws_congr _ (fun i hi => (gt_vk X 64 i (by omega) (by omega)).symm)
theorem an_V (X : List Int) (k : Nat) (hk : k ≤ X.length) : an (upto (tmV X) k) = ck X k := by
  induction k with
  | zero => rfl
  | succ k ih => rw [upto_succ, an_snoc, ih (by omega), ck_more (by omega)]; rfl
theorem an_D (X Y : List Int) (k : Nat) (hk : k ≤ X.length) (hk' : k ≤ Y.length) : an (upto (tmD X Y) k) = (ck X k || ck Y k) := by
  induction k with
  | zero => rfl
  | succ k ih =>
    rw [upto_succ, an_snoc, ih (by omega) (by omega), ck_more (by omega), ck_more (by omega)]
    show (ck X k || ck Y k || (co (gt X k) || co (gt Y k))) = _
    cases ck X k <;> cases ck Y k <;> cases co (gt X k) <;> rfl
theorem ck_cut (X : List Int) (n : Nat) (hn : n ≤ X.length) : ck (X.take n) 64 = ck X (min n 64) := by
  unfold ck; rw [List.take_take, Nat.min_comm]
theorem ck_full (X : List Int) : ck X 64 = ck X (min X.length 64) := by
  unfold ck
  rcases Nat.le_total X.length 64 with h | h
  · rw [Nat.min_eq_left h, List.take_of_length_le h, List.take_of_length_le (Nat.le_refl _)]
  · rw [Nat.min_eq_right h]
theorem dz_ws (X Y : List Int) (L K : Nat) (hL : L = min X.length Y.length) (hK : K = min L 64) : ws (fun j => (tmD X Y j).z) K = dz X Y := by
  unfold dz dp kk
  rw [← hL, vk_length, vk_length, List.length_take, List.length_take, show min (min 64 (min L X.length)) (min 64 (min L Y.length)) = K by omega]
  refine ws_congr _ (fun i hi => ?_)
  rw [gt_vk _ 64 i (by omega) (by rw [List.length_take]; omega), gt_vk _ 64 i (by omega) (by rw [List.length_take]; omega), gt_take, gt_take, if_pos (by omega), if_pos (by omega), ml_cl2]
  rfl
theorem dp_ws (X : List Int) (K : Nat) (hK : K = min X.length 64) : ws (fun j => (tmD X X j).z) K = dp (vk X 64) (vk X 64) := by
  unfold dp
  rw [vk_length, show min (min 64 X.length) (min 64 X.length) = K by omega]
  refine ws_congr _ (fun i hi => ?_)
  rw [gt_vk _ 64 i (by omega) (by omega), ml_cl2]
  rfl
/-- The exact sum of the terms that a function makes of the places. -/
theorem exactT_c (g : Nat) (eg : ∀ args w, (callFunc g args).run Try.prog w = .ok (.enter g args) w) (lbg : Array Value) (f : Nat → Tm) (L m : Nat) (hL : L ≤ 9223372036854775807) (hm : m = min L 64) (Bn Bt : Nat) (w : World) (hBn : Bn < w.heap.size) (hBt : Bt < w.heap.size)
    (hcn : w.cell? ⟨Bn, 0, none⟩ = some (.int .i64 L)) (hct : w.cell? ⟨Bt, 0, none⟩ = some (.func (.func g) #[] lbg))
    (hg : ∀ (i : Nat) (W : World), i < m → Mr w W → Calls Try.prog g (#[.int .i64 i] ++ lbg) W fun e w' => e = .returned (.tuple #[.agg #[.int .i64 (hi (f i).z), .int .i64 (lo (f i).z)], .bool (f i).b]) ∧ ∃ x : Ext W, w' = x.u) :
    Calls Try.prog 76 #[.func (.func 98) #[] #[.pointer (some ⟨Bn, 0, none⟩), .pointer (some ⟨Bt, 0, none⟩)]] w fun e w' => e = .returned (.tuple #[.agg #[.int .i64 (hi (ws (fun j => (f j).z) m)), .int .i64 (lo (ws (fun j => (f j).z) m))], .bool (an (upto f m))]) ∧ ∃ x : Ext w, w' = x.u :=
  exact_c _ _ (enters_of Try.func98 (by kernel_rfl) rfl) f m (by omega) w
    (termsW_stops 4 (by omega) (fun x : Tm => hi x.z) (fun x => lo x.z) (fun x => x.b) f L m hL hm g eg lbg Bn Bt w (fun W => Mr w W) (Below w.heap.size) (Mr.refl w) (fun h k => h.trans k) (fun h k => ⟨h.below.trans k⟩)
      (fun h => (h.below.cell (p := ⟨Bn, 0, none⟩) hBn).trans hcn) (fun h => (h.below.cell (p := ⟨Bt, 0, none⟩) hBt).trans hct) (fun i W hi hW => hg i W hi hW))
set_option maxRecDepth 100000 in
set_option maxHeartbeats 2000000 in
theorem dot_c (a b : Option Addr) (c d : Nat) (l m : List Int) (w : World) (h : Sl.Is w a c l) (g : Sl.Is w b d m) :
    Calls Try.prog 63 #[.slice a l.length c, .slice b m.length d] w fun e w' => e = .returned (.tuple #[.int .i64 (cl (rn (dz l m))), .bool (ck (l.take (kk l m)) 64 || ck (m.take (kk l m)) 64 || co (rn (dz l m)))]) ∧ ∃ x : Ext w, w' = x.u := by
  have m0 := h.max
  have k0 := h.le
  have m1 := g.max
  have k1 := g.le
  unfold maxLen at m0 m1
  obtain ⟨L, hL⟩ : ∃ L, L = min l.length m.length := ⟨_, rfl⟩
  obtain ⟨K, hK⟩ : ∃ K, K = min L 64 := ⟨_, rfl⟩
  have TW : Hid (ws (fun j => (tmD l m j).z) K = dz l m) := dz_ws l m L K hL hK
  have AW : Hid (an (upto (tmD l m) K) = (ck (l.take (kk l m)) 64 || ck (m.take (kk l m)) 64)) := by
    rw [Hid, an_D l m K (by omega) (by omega), kk, ← hL, ck_cut l L (by omega), ck_cut m L (by omega), hK]
  have e1 := dp_inr (vk (l.take (kk l m)) 64) (vk (m.take (kk l m)) 64) (vk_64 _)
  have e2 : vw (hi (dz l m)) (lo (dz l m)) = dz l m := vw_hl e1
  have e3 : sn (hi (dz l m)) (lo (dz l m)) = true := sn_hl e1
  have RV : Hid (rv (hi (dz l m)) (lo (dz l m)) = cl (rn (dz l m))) := (by unfold rv; rw [e2]; trivial)
  have RB : Hid (rb (hi (dz l m)) (lo (dz l m)) = co (rn (dz l m))) := (by unfold rb; rw [e2, e3]; simp [Hid])
  obtain ⟨n, en⟩ : ∃ n, l.length = n := ⟨_, rfl⟩
  obtain ⟨k, em⟩ : ∃ k, m.length = k := ⟨_, rfl⟩
  have HK : Hid (K = min L 64) := hK
  have HL : Hid (L = min n k) := en ▸ em ▸ hL
  rw [en, em]
  have hn9 : n ≤ 9223372036854775807 := by omega
  have hk9 : k ≤ 9223372036854775807 := by omega
  have hL9 : L ≤ 9223372036854775807 := by omega
  clear hK hL m0 k0 m1 k1 e1 e2 e3
  generalize hT : dz l m = T at *
  generalize hF : (ck (l.take (kk l m)) 64 || ck (m.take (kk l m)) 64) = F at *
  cases F
  all_goals
    go_enter Try.func63, Try.ntmps63
    go_wp2_with (first | (go_at_call 77; refine (products_c L HL.out _ hn9 hk9).mono ?_; rintro e w' ⟨rfl, rfl⟩) | (go_at_call 76; refine (exactT_c 88 (enters_of Try.func88 (by kernel_rfl) rfl) #[.pointer (some ⟨w.heap.size, 0, none⟩), .pointer (some ⟨w.heap.size + 1, 0, none⟩)] (tmD l m) L K hL9 HK.out _ _ _ (by first | (simp; done) | (simp; omega)) (by first | (simp; done) | (simp; omega)) (by simp [go_sem]) (by simp [go_sem]) ?_).mono ?_; (intro i W hi hW; have := HK.out; have := HL.out; exact pr1_c w.heap.size (w.heap.size + 1) i n k W (Nat.lt_of_lt_of_le (by first | (simp; done) | (simp; omega)) hW.below.size) ((hW.below.cell (p := ⟨w.heap.size, 0, none⟩) (by first | (simp; done) | (simp; omega))).trans (by simp [go_sem])) (Nat.lt_of_lt_of_le (by first | (simp; done) | (simp; omega)) hW.below.size) ((hW.below.cell (p := ⟨w.heap.size + 1, 0, none⟩) (by first | (simp; done) | (simp; omega))).trans (by simp [go_sem])) (h.mr (Mr.trans (by repeat (first | (with_reducible exact Mr.refl _) | (with_reducible apply Mr.drew) | (with_reducible apply Mr.alloc) | (with_reducible apply Mr.ext) | (with_reducible refine Mr.setCell ?_ (by first | (simp; done) | (simp; omega) | omega | (refine leOf0 ?_; (repeat (first | (with_reducible exact Mr.refl _) | (with_reducible apply Mr.drew) | (with_reducible apply Mr.alloc) | (with_reducible apply Mr.ext) | (with_reducible refine Mr.setCell ?_ (by first | (simp; done) | (simp; omega) | omega) _))); done) | (refine leOf ?_; (repeat (first | (with_reducible exact Mr.refl _) | (with_reducible apply Mr.drew) | (with_reducible apply Mr.alloc) | (with_reducible apply Mr.ext) | (with_reducible refine Mr.setCell ?_ (by first | (simp; done) | (simp; omega) | omega) _))); done)) _))) hW)) en (by omega) (g.mr (Mr.trans (by repeat (first | (with_reducible exact Mr.refl _) | (with_reducible apply Mr.drew) | (with_reducible apply Mr.alloc) | (with_reducible apply Mr.ext) | (with_reducible refine Mr.setCell ?_ (by first | (simp; done) | (simp; omega) | omega | (refine leOf0 ?_; (repeat (first | (with_reducible exact Mr.refl _) | (with_reducible apply Mr.drew) | (with_reducible apply Mr.alloc) | (with_reducible apply Mr.ext) | (with_reducible refine Mr.setCell ?_ (by first | (simp; done) | (simp; omega) | omega) _))); done) | (refine leOf ?_; (repeat (first | (with_reducible exact Mr.refl _) | (with_reducible apply Mr.drew) | (with_reducible apply Mr.alloc) | (with_reducible apply Mr.ext) | (with_reducible refine Mr.setCell ?_ (by first | (simp; done) | (simp; omega) | omega) _))); done)) _))) hW)) em (by omega)); rw [TW.out, AW.out]; rintro e w' ⟨rfl, x, rfl⟩) | (go_at_call 78; refine (round_c _ _ _).mono ?_; rintro e w' ⟨rfl, x, rfl⟩))
    go_ret2
    exact ⟨ret_ib RV.out (by first | (rw [RB.out]; rfl) | rfl), Mr.mk' (by repeat (first | (with_reducible exact Mr.refl _) | (with_reducible apply Mr.drew) | (with_reducible apply Mr.alloc) | (with_reducible apply Mr.ext) | (with_reducible refine Mr.setCell ?_ (by first | (simp; done) | (simp; omega) | omega | (refine leOf0 ?_; (repeat (first | (with_reducible exact Mr.refl _) | (with_reducible apply Mr.drew) | (with_reducible apply Mr.alloc) | (with_reducible apply Mr.ext) | (with_reducible refine Mr.setCell ?_ (by first | (simp; done) | (simp; omega) | omega) _))); done) | (refine leOf ?_; (repeat (first | (with_reducible exact Mr.refl _) | (with_reducible apply Mr.drew) | (with_reducible apply Mr.alloc) | (with_reducible apply Mr.ext) | (with_reducible refine Mr.setCell ?_ (by first | (simp; done) | (simp; omega) | omega) _))); done)) _)))⟩
end Sm
end Go.Proofs.Ytpammdogkkipbaa
