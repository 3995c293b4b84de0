/- The contracts of the document's own answers of layer 6. -/
import Derived.Test.YtmhdpjdkcjdipaaSumS
import Derived.Test.YtmhdpjdkcjdipaaRefC6
import Derived.Test.YtmhdpjdkcjdipaaRefC9
namespace Go.Proofs.Ytmhdpjdkcjdipaa
open Go.ChangeShapes Go.WideShapes Go.ChangeAt Go.RowKit
open Go.Proofs.Ytmhdpjdkcjdipaa.Fx Go.Proofs.Ytmhdpjdkcjdipaa.Wd
set_option linter.unusedVariables false
attribute [local go_sem] Ext.cell Ext.froz Ext.lt Ext.lt1 Ext.lt2 Ext.lt3 Ext.all Ext.set_u drew_heap setCell_size Ext.set_size
namespace Sm
open Sl
theorem infoI : (Try.prog.info? 3).map (fun i => (i.zero, i.size, i.bytes)) = some (some (.int .i64 0), 1, 8) := by kernel_rfl
theorem cell_one (w : World) (v : Value) : ∀ j u, [v][j]? = some u → (w.alloc (.cells #[v] 3)).cell? ((⟨w.heap.size, 0, none⟩ : Addr).add j) = some u := by
  intro j u hj
  match j, hj with
  | 0, hj => simp at hj; subst hj; simp [Addr.add]
theorem one_cell (z : Int) : ∀ u ∈ [Value.int .i64 z], u.oneCell' = true := by
  intro u hu; simp at hu; subst hu; rfl
set_option maxRecDepth 100000 in
set_option maxHeartbeats 2000000 in
theorem rcut_c (a : Option Addr) (c : Nat) (l : List Int) (w : World) (h : Sl.Is w a c l) :
    Calls Try.prog 51 #[.slice a l.length c] w fun e w' => ∃ a' c', e = .returned (.tuple #[.slice a' (vk l 64).length c', .bool (ck l 64)]) ∧ ∃ x : Ext w, w' = x.u ∧ Sl.Is x.u a' c' (vk l 64) := by
  obtain ⟨i0, hi, hz0, hz1, hz2⟩ := info_parts infoI
  have hlen := h.le
  have hmax : l.length ≤ maxLen := Nat.le_trans h.le h.max
  unfold maxLen at hmax
  go_enter Try.func51, Try.ntmps51
  go_wp2
  go_loopw [4, 5, 6] (fun v f i wr => ∃ k : Nat, k ≤ l.length ∧ k ≤ 64 ∧ i = .int .i64 k ∧ f = .bool (ck l k) ∧ wr.ownsRow w.heap.size 3 1 v k ((vk l k).map (Value.int .i64)) ∧ ∃ y : Ext w, wr = y.u) (fun _ _ i _ => (64 - intOf i).toNat)
  case atStart => exact ⟨0, by omega, by omega, rfl, rfl, World.ownsRow_nil _ _ _ _, Mr.mk' (by repeat (first | (with_reducible exact Mr.refl _) | (with_reducible apply Mr.drew) | (with_reducible apply Mr.alloc) | (with_reducible apply Mr.ext) | (with_reducible refine Mr.setCell ?_ (by first | (simp; done) | (simp; omega) | omega | (refine leOf0 ?_; (repeat (first | (with_reducible exact Mr.refl _) | (with_reducible apply Mr.drew) | (with_reducible apply Mr.alloc) | (with_reducible apply Mr.ext) | (with_reducible refine Mr.setCell ?_ (by first | (simp; done) | (simp; omega) | omega) _))); done) | (refine leOf ?_; (repeat (first | (with_reducible exact Mr.refl _) | (with_reducible apply Mr.drew) | (with_reducible apply Mr.alloc) | (with_reducible apply Mr.ext) | (with_reducible refine Mr.setCell ?_ (by first | (simp; done) | (simp; omega) | omega) _))); done)) _)))⟩
  case round =>
    obtain ⟨k, hk, hk2, rfl, rfl, hown, y, rfl⟩ := hrel
    by_cases hlt : k < l.length ∧ k < 64
    · obtain ⟨hl1, hl2⟩ := hlt
      have hl1' : (k : Int) < l.length := by omega
      have hl2' : (k : Int) < 64 := by omega
      obtain ⟨b, o, rfl, hb, hc⟩ := (h.ext y).at' k hl1
      have hck := hc k hl1
      have hbd := h.bd k
      generalize hX : gt l k = X at *
      have hmr : ∀ (w1 : World), (y.u.alloc (.cells #[.int .i64 (cl X)] 3)).grownBy w1 u4.ownBlock → ∃ z : Ext w, w1 = z.u := fun w1 hg => Mr.mk' ((y.h.alloc _).grownBy hg (fun j e => (hown.lt j e).1))
      have hV : Hid (vk l (k + 1) = vk l k ++ [cl X]) := by rw [Hid, vk_more hl1, hX]
      have hF : Hid (ck l (k + 1) = (ck l k || co X)) := by rw [Hid, ck_more hl1, hX]
      clear h hc
      generalize hf : ck l k = F at *
      clear hf
      cases F
      all_goals
        go_wp2_with (first | (go_at_call 50; refine (rclamp_c _ _).mono ?_; rintro e w' ⟨rfl, rfl⟩) | (at_builtin; refine wpList_append_own _ rfl _ _ 47 rfl w.heap.size 3 i0 (.int .i64 0) 1 8 Try.underlying47 hi hz0 hz1 hz2 rfl (by decide) _ _ _ rfl (hown.alloc _) ⟨y.u.heap.size, 0, none⟩ 1 1 [.int .i64 (cl X)] rfl rfl (cell_one _ _) (one_cell _) (by unfold maxLen; omega) (by omega) (by have := y.h.below.size; simp; omega) ?_; intro v' w1 hown' hgrow _; obtain ⟨z, rfl⟩ := hmr w1 hgrow; clear hgrow))
        go_roundw
        case rel => exact ⟨k + 1, by omega, by omega, by go_num, by rw [hF.out]; simp, by rw [hV.out, List.map_append]; exact hown', z, rfl⟩
        case measure => simp [intOf]; omega
    · have hv : vk l 64 = vk l k ∧ ck l 64 = ck l k := by
        unfold vk ck
        by_cases g : k = 64
        · subst g; exact ⟨rfl, rfl⟩
        · rw [List.take_of_length_le (i := 64) (by omega), List.take_of_length_le (i := k) (by omega)]; exact ⟨rfl, rfl⟩
      obtain ⟨a', c', hs, hn, his⟩ := of_owns hown (fun j => by have := vk_bd l k j; omega)
      subst hs
      have R : Hid (∃ a'' c'', Ending.returned (.tuple #[.slice a' (vk l k).length c', .bool (ck l k)]) = .returned (.tuple #[.slice a'' (vk l 64).length c'', .bool (ck l 64)]) ∧ ∃ x : Ext w, y.u = x.u ∧ Sl.Is x.u a'' c'' (vk l 64)) := ⟨a', c', by rw [hv.1, hv.2], y, rfl, by rw [hv.1]; exact his⟩
      clear h hv his hown hn
      by_cases hlt2 : k < l.length
      · have h64 : ¬ (k : Int) < 64 := by omega
        have hl1' : (k : Int) < l.length := by omega
        go_wp2
        go_ret2
        exact R.out
      · have h64 : ¬ (k : Int) < l.length := by omega
        go_wp2
        go_ret2
        exact R.out
theorem ml_bd (a b : Int) : -83076749736557242056487941267521536 ≤ ml a b ∧ ml a b ≤ 83076749736557242056487941267521536 := by
  have h := mul_le' (ab_bd a).1 (ab_bd a).2 (ab_bd b).1 (ab_bd b).2
  unfold ml
  by_cases ha : a < 0 <;> by_cases hb : b < 0
  · rw [ab_neg ha, ab_neg hb, Int.neg_mul_neg]; omega
  · rw [ab_neg ha, ab_pos hb, Int.neg_mul]; omega
  · rw [ab_pos ha, ab_neg hb, Int.mul_neg]; omega
  · rw [ab_pos ha, ab_pos hb]; omega
theorem mr_set2 {V V' W : World} (X : Ext W) {a b : Addr} {p q : Value} (h : Mr V X.u) (e : (V.setCell a p).setCell b q = V') : Mr V' ((X.set a p).set b q).u := by
  rw [← e]; exact (h.both a p).both b q
/-- The sum of the products of two lists, as many as the shorter one has. -/
def dp (l m : List Int) : Int := ws (fun j => ml (gt l j) (gt m j)) (min l.length m.length)
theorem ws_inr (l m : List Int) {k : Nat} (hk : k ≤ 64) : inr (ws (fun j => ml (gt l j) (gt m j)) k) = true := by
  have := ws_bd (fun j => ml (gt l j) (gt m j)) (fun j => ml_bd _ _) k
  rw [inr_iff]; omega
set_option maxRecDepth 100000 in
set_option maxHeartbeats 2000000 in
theorem rws_c (a b : Option Addr) (c d : Nat) (l m : List Int) (w : World) (h : Sl.Is w a c l) (g : Sl.Is w b d m) (hl : l.length ≤ 64) :
    Calls Try.prog 53 #[.slice a l.length c, .slice b m.length d] w fun e w' => e = .returned (.agg #[.int .i64 (hi (dp l m)), .int .i64 (lo (dp l m))]) ∧ ∃ x : Ext w, w' = x.u := by
  have hmax : m.length ≤ maxLen := Nat.le_trans g.le g.max
  unfold maxLen at hmax
  go_enter Try.func53, Try.ntmps53
  go_wp2
  go_loopw [6] (fun i wr => ∃ (k : Nat) (z : Int), k ≤ l.length ∧ k ≤ m.length ∧ i = .int .i64 k ∧ Hid (ws (fun j => ml (gt l j) (gt m j)) k = z) ∧ ∃ y : Ext ((w.alloc (.cells #[.int .i64 0, .int .i64 0] 54)).alloc (.cells #[.int .i64 (hi z), .int .i64 (lo z)] 54)), wr = y.u) (fun i _ => (64 - intOf i).toNat)
  case atStart => exact ⟨0, 0, by omega, by omega, rfl, rfl, by rw [hl_zero.1, hl_zero.2]; exact Mr.mk' (by repeat (first | (with_reducible exact Mr.refl _) | (with_reducible apply Mr.drew) | (with_reducible apply Mr.alloc) | (with_reducible apply Mr.ext) | (with_reducible refine Mr.setCell ?_ (by first | (simp; done) | (simp; omega) | omega | (refine leOf0 ?_; (repeat (first | (with_reducible exact Mr.refl _) | (with_reducible apply Mr.drew) | (with_reducible apply Mr.alloc) | (with_reducible apply Mr.ext) | (with_reducible refine Mr.setCell ?_ (by first | (simp; done) | (simp; omega) | omega) _))); done) | (refine leOf ?_; (repeat (first | (with_reducible exact Mr.refl _) | (with_reducible apply Mr.drew) | (with_reducible apply Mr.alloc) | (with_reducible apply Mr.ext) | (with_reducible refine Mr.setCell ?_ (by first | (simp; done) | (simp; omega) | omega) _))); done)) _)))⟩
  case round =>
    obtain ⟨k, z, hk, hk2, rfl, hz, y, rfl⟩ := hrel
    by_cases hlt : k < l.length ∧ k < m.length
    · obtain ⟨hl1, hl2⟩ := hlt
      have hl1' : (k : Int) < l.length := by omega
      have hl2' : (k : Int) < m.length := by omega
      obtain ⟨b1, o1, rfl, hb1, hc1⟩ := h.at' k hl1
      obtain ⟨b2, o2, rfl, hb2, hc2⟩ := g.at' k hl2
      have hck1 := hc1 k hl1
      have hck2 := hc2 k hl2
      have hb1a : b1 < w.heap.size + 1 := by omega
      have hb1b : b1 < w.heap.size + 2 := by omega
      have hb2a : b2 < w.heap.size + 1 := by omega
      have hb2b : b2 < w.heap.size + 2 := by omega
      have hi1 : inr z = true := by rw [← hz.out]; exact ws_inr l m (by omega)
      have hi2 : inr (z + ml (gt l k) (gt m k)) = true := by
        have := ws_inr l m (k := k + 1) (by omega)
        simp only [ws, hz.out] at this
        exact this
      have hN : Hid (ws (fun j => ml (gt l j) (gt m j)) (k + 1) = z + ml (gt l k) (gt m k)) := by simp only [Hid, ws, hz.out]
      generalize hX : gt l k = X at *
      generalize hY : gt m k = Y at *
      have v1 := vw_hl hi1
      have v2 := vw_hl (ml_inr X Y)
      have v3 := cut_of hi2
      clear h g hc1 hc2
      generalize hZ : z + ml X Y = Z at *
      go_wp2
      go_region_held3 (fun w' => w'.cell? ⟨w.heap.size + 1, 0, none⟩ = some (.int .i64 (hi z)) ∧ w'.cell? ⟨w.heap.size + 1, 1, none⟩ = some (.int .i64 (lo z)) ∧ w'.cell? ⟨b1, o1 + k, none⟩ = some (.int .i64 X) ∧ w'.cell? ⟨b2, o2 + k, none⟩ = some (.int .i64 Y)) ((simp [go_sem, *]; done)) (first | (go_at_call 64; refine (rmul2_c _ _ _).mono ?_; rintro e w' ⟨rfl, x, rfl⟩) | (go_at_call 73; refine (radd2_c _ _ _ _ _).mono ?_; rintro e w' ⟨rfl, x, rfl⟩))
      all_goals
        go_wp2_with fail
        go_roundw
        case rel =>
          refine ⟨k + 1, Z, by omega, by omega, by go_num, hN, Mr.mk' ?_⟩
          repeat (with_reducible apply Mr.alloc)
          exact mr_set2 (V := (w.alloc (.cells #[.int .i64 0, .int .i64 0] 54)).alloc (.cells #[.int .i64 (hi z), .int .i64 (lo z)] 54)) _ (by repeat (first | (with_reducible exact Mr.refl _) | (with_reducible apply Mr.drew) | (with_reducible apply Mr.alloc) | (with_reducible apply Mr.ext) | (with_reducible refine Mr.setCell ?_ (by first | (simp; done) | (simp; omega) | omega | (refine leOf0 ?_; (repeat (first | (with_reducible exact Mr.refl _) | (with_reducible apply Mr.drew) | (with_reducible apply Mr.alloc) | (with_reducible apply Mr.ext) | (with_reducible refine Mr.setCell ?_ (by first | (simp; done) | (simp; omega) | omega | (refine leOf0 ?_; (repeat (first | (with_reducible exact Mr.refl _) | (with_reducible apply Mr.drew) | (with_reducible apply Mr.alloc) | (with_reducible apply Mr.ext) | (with_reducible refine Mr.setCell ?_ (by first | (simp; done) | (simp; omega) | omega) _))); done) | (refine leOf ?_; (repeat (first | (with_reducible exact Mr.refl _) | (with_reducible apply Mr.drew) | (with_reducible apply Mr.alloc) | (with_reducible apply Mr.ext) | (with_reducible refine Mr.setCell ?_ (by first | (simp; done) | (simp; omega) | omega) _))); done)) _))); done) | (refine leOf ?_; (repeat (first | (with_reducible exact Mr.refl _) | (with_reducible apply Mr.drew) | (with_reducible apply Mr.alloc) | (with_reducible apply Mr.ext) | (with_reducible refine Mr.setCell ?_ (by first | (simp; done) | (simp; omega) | omega | (refine leOf0 ?_; (repeat (first | (with_reducible exact Mr.refl _) | (with_reducible apply Mr.drew) | (with_reducible apply Mr.alloc) | (with_reducible apply Mr.ext) | (with_reducible refine Mr.setCell ?_ (by first | (simp; done) | (simp; omega) | omega) _))); done) | (refine leOf ?_; (repeat (first | (with_reducible exact Mr.refl _) | (with_reducible apply Mr.drew) | (with_reducible apply Mr.alloc) | (with_reducible apply Mr.ext) | (with_reducible refine Mr.setCell ?_ (by first | (simp; done) | (simp; omega) | omega) _))); done)) _))); done)) _))) (by simp [go_sem])
        case measure => simp [intOf]; omega
    · have hm : Hid (dp l m = z) := by
        rw [Hid, ← hz.out]; unfold dp
        rw [show min l.length m.length = k by omega]
      by_cases hlt2 : k < l.length
      · have h64 : ¬ (k : Int) < m.length := by omega
        have hl1' : (k : Int) < l.length := by omega
        go_wp2
        exact bodyPost_ret (v := .agg #[.int .i64 (hi z), .int .i64 (lo z)]) (by simp [results, Try.results53, go_sem]) rfl ⟨by rw [hm.out], Mr.mk' (by repeat (first | (with_reducible exact Mr.refl _) | (with_reducible apply Mr.drew) | (with_reducible apply Mr.alloc) | (with_reducible apply Mr.ext) | (with_reducible refine Mr.setCell ?_ (by first | (simp; done) | (simp; omega) | omega | (refine leOf0 ?_; (repeat (first | (with_reducible exact Mr.refl _) | (with_reducible apply Mr.drew) | (with_reducible apply Mr.alloc) | (with_reducible apply Mr.ext) | (with_reducible refine Mr.setCell ?_ (by first | (simp; done) | (simp; omega) | omega) _))); done) | (refine leOf ?_; (repeat (first | (with_reducible exact Mr.refl _) | (with_reducible apply Mr.drew) | (with_reducible apply Mr.alloc) | (with_reducible apply Mr.ext) | (with_reducible refine Mr.setCell ?_ (by first | (simp; done) | (simp; omega) | omega) _))); done)) _)))⟩
      · have h64 : ¬ (k : Int) < l.length := by omega
        go_wp2
        exact bodyPost_ret (v := .agg #[.int .i64 (hi z), .int .i64 (lo z)]) (by simp [results, Try.results53, go_sem]) rfl ⟨by rw [hm.out], Mr.mk' (by repeat (first | (with_reducible exact Mr.refl _) | (with_reducible apply Mr.drew) | (with_reducible apply Mr.alloc) | (with_reducible apply Mr.ext) | (with_reducible refine Mr.setCell ?_ (by first | (simp; done) | (simp; omega) | omega | (refine leOf0 ?_; (repeat (first | (with_reducible exact Mr.refl _) | (with_reducible apply Mr.drew) | (with_reducible apply Mr.alloc) | (with_reducible apply Mr.ext) | (with_reducible refine Mr.setCell ?_ (by first | (simp; done) | (simp; omega) | omega) _))); done) | (refine leOf ?_; (repeat (first | (with_reducible exact Mr.refl _) | (with_reducible apply Mr.drew) | (with_reducible apply Mr.alloc) | (with_reducible apply Mr.ext) | (with_reducible refine Mr.setCell ?_ (by first | (simp; done) | (simp; omega) | omega) _))); done)) _)))⟩
/-- The sum of a list. -/
def tot (l : List Int) : Int := ws (gt (vk l 64)) (vk l 64).length
theorem vk_64 (l : List Int) : (vk l 64).length ≤ 64 := by unfold vk; rw [List.length_map, List.length_take]; omega
theorem ws_bd1 (f : Nat → Int) (h : ∀ j, -288230376151711744 ≤ f j ∧ f j ≤ 288230376151711744) (k : Nat) : -(k * 288230376151711744) ≤ ws f k ∧ ws f k ≤ k * 288230376151711744 := by
  induction k with
  | zero => simp [ws]
  | succ k ih => have := h k; simp only [ws]; omega
theorem tot_inr (l : List Int) {k : Nat} (hk : k ≤ 64) : inr (ws (gt (vk l 64)) k) = true := by
  have := ws_bd1 (gt (vk l 64)) (fun j => vk_bd l 64 j) k
  rw [inr_iff]; omega
end Sm
end Go.Proofs.Ytmhdpjdkcjdipaa
/- The contracts of the document's own answers of layer 6, second part. -/
namespace Go.Proofs.Ytmhdpjdkcjdipaa
open Go.ChangeShapes Go.WideShapes Go.ChangeAt Go.RowKit
open Go.Proofs.Ytmhdpjdkcjdipaa.Fx Go.Proofs.Ytmhdpjdkcjdipaa.Wd Go.Proofs.Ytmhdpjdkcjdipaa.Sc Go.Proofs.Ytmhdpjdkcjdipaa.Rt
set_option linter.unusedVariables false
attribute [local go_sem] Ext.cell Ext.froz Ext.lt Ext.lt1 Ext.lt2 Ext.lt3 Ext.all Ext.set_u drew_heap setCell_size Ext.set_size
namespace Sm
open Sl
theorem rcut_n {a : Option Addr} {c : Nat} {l : List Int} {w : World} (n : Nat) (h : Sl.Is w a c l) (hn : l.length = n) :
    Calls Try.prog 51 #[.slice a n c] w fun e w' => ∃ a' c', e = .returned (.tuple #[.slice a' (vk l 64).length c', .bool (ck l 64)]) ∧ ∃ x : Ext w, w' = x.u ∧ Sl.Is x.u a' c' (vk l 64) := by
  subst hn; exact rcut_c a c l w h
theorem rws_n {a b : Option Addr} {c d : Nat} {l m : List Int} {w : World} (n k : Nat) (h : Sl.Is w a c l) (g : Sl.Is w b d m) (hl : l.length ≤ 64) (hn : l.length = n) (hk : m.length = k) :
    Calls Try.prog 53 #[.slice a n c, .slice b k d] w fun e w' => e = .returned (.agg #[.int .i64 (hi (dp l m)), .int .i64 (lo (dp l m))]) ∧ ∃ x : Ext w, w' = x.u := by
  subst hn hk; exact rws_c a b c d l m w h g hl
theorem dp_inr (l m : List Int) (h : l.length ≤ 64) : inr (dp l m) = true := ws_inr l m (by omega)
set_option maxRecDepth 100000 in
set_option maxHeartbeats 2000000 in
theorem rnorm_c (a : Option Addr) (c : Nat) (l : List Int) (w : World) (h : Sl.Is w a c l) :
    Calls Try.prog 37 #[.slice a l.length c] w fun e w' => e = .returned (.tuple #[.int .i64 (sr (dp (vk l 64) (vk l 64))), .bool (ck l 64 || ro (dp (vk l 64) (vk l 64)))]) ∧ ∃ x : Ext w, w' = x.u := by
  have e1 := dp_inr (vk l 64) (vk l 64) (vk_64 l)
  have e2 := vw_hl e1
  have e3 := sn_hl e1
  generalize hz : dp (vk l 64) (vk l 64) = z at *
  cases hf : ck l 64
  all_goals
    go_enter Try.func37, Try.ntmps37
    go_wp2_with (first | (go_at_call 51; refine (rcut_n _ h rfl).mono ?_; clear h; rintro e w1 ⟨a1, c1, rfl, x, rfl, hI1⟩; have hm1 := x.h; generalize x.u = W1 at *; clear x) | (go_at_call 53; refine (rws_n _ _ hI1 hI1 (vk_64 _) rfl rfl).mono ?_; rintro e w' ⟨rfl, x, rfl⟩) | (go_at_call 55; refine (rwide_c _ _ _).mono ?_; rintro e w' ⟨rfl, x, rfl⟩))
    go_ret2
    exact ⟨ret_ib rfl (by simp), Mr.mk' (hm1.trans (by repeat (first | (with_reducible exact Mr.refl _) | (with_reducible apply Mr.drew) | (with_reducible apply Mr.alloc) | (with_reducible apply Mr.ext) | (with_reducible refine Mr.setCell ?_ (by first | (simp; done) | (simp; omega) | omega | (refine leOf0 ?_; (repeat (first | (with_reducible exact Mr.refl _) | (with_reducible apply Mr.drew) | (with_reducible apply Mr.alloc) | (with_reducible apply Mr.ext) | (with_reducible refine Mr.setCell ?_ (by first | (simp; done) | (simp; omega) | omega) _))); done) | (refine leOf ?_; (repeat (first | (with_reducible exact Mr.refl _) | (with_reducible apply Mr.drew) | (with_reducible apply Mr.alloc) | (with_reducible apply Mr.ext) | (with_reducible refine Mr.setCell ?_ (by first | (simp; done) | (simp; omega) | omega) _))); done)) _))))⟩
/-- As many of both as the shorter one has. -/
def kk (l m : List Int) : Nat := min l.length m.length
def dz (l m : List Int) : Int := dp (vk (l.take (kk l m)) 64) (vk (m.take (kk l m)) 64)
set_option maxRecDepth 100000 in
set_option maxHeartbeats 2000000 in
theorem rdot_c (a b : Option Addr) (c d : Nat) (l m : List Int) (w : World) (h : Sl.Is w a c l) (g : Sl.Is w b d m) :
    Calls Try.prog 35 #[.slice a l.length c, .slice b m.length d] w fun e w' => e = .returned (.tuple #[.int .i64 (cl (rn (dz l m))), .bool (ck (l.take (kk l m)) 64 || ck (m.take (kk l m)) 64 || co (rn (dz l m)))]) ∧ ∃ x : Ext w, w' = x.u := by
  have e1 := dp_inr (vk (l.take (kk l m)) 64) (vk (m.take (kk l m)) 64) (vk_64 _)
  have e2 := vw_hl e1
  have e3 := sn_hl e1
  have h1 : (l.take (kk l m)).length = kk l m := by rw [List.length_take]; unfold kk; omega
  have g1 : (m.take (kk l m)).length = kk l m := by rw [List.length_take]; unfold kk; omega
  have hle := h.le
  have gle := g.le
  have hmx := h.max
  have gmx := g.max
  have hnil := h.nil
  have gnil := g.nil
  have hA := h.take (kk l m)
  have gB := g.take (kk l m)
  clear h g
  have hk : (m.length < l.length ∧ kk l m = m.length) ∨ (¬ m.length < l.length ∧ kk l m = l.length) := by unfold kk; omega
  have EZ : Hid (dz l m = dp (vk (l.take (kk l m)) 64) (vk (m.take (kk l m)) 64)) := rfl
  generalize hK : kk l m = K at *
  clear hK
  rcases hk with ⟨o, rfl⟩ | ⟨o, rfl⟩
  · have o' : (m.length : Int) < l.length := by omega
    simp only [List.take_length] at *
    (generalize hz : dp (vk (l.take _) 64) (vk m 64) = z at *; have RV : Hid (rv (hi z) (lo z) = cl (rn z)) := (by unfold rv; rw [e2]; trivial); have RB : Hid (rb (hi z) (lo z) = co (rn z)) := (by unfold rb; rw [e2, e3]; simp [Hid]); generalize hF : ck (l.take _) 64 = F at *; generalize hG : ck m 64 = G at *)
    cases F <;> cases G
    all_goals
      go_enter Try.func35, Try.ntmps35
      go_wp2_with (first | (go_at_call 51; refine (rcut_n _ hA (by first | exact h1 | rfl)).mono ?_; clear hA; rintro e w1 ⟨a1, c1, rfl, x, rfl, hI1⟩; have hm1 := x.h; have g' := gB.mr x.h; clear gB; generalize x.u = W1 at *; clear x) | (go_at_call 51; refine (rcut_n _ g' (by first | exact g1 | rfl)).mono ?_; rintro e w2 ⟨a2, c2, rfl, x, rfl, hI2⟩; have hm2 := hm1.trans x.h; have hI3 := hI1.mr x.h; clear g' hI1; generalize x.u = W2 at *; clear x) | (go_at_call 53; refine (rws_n _ _ hI3 hI2 (vk_64 _) rfl rfl).mono ?_; rintro e w' ⟨rfl, x, rfl⟩) | (go_at_call 52; refine (rround_c _ _ _).mono ?_; rintro e w' ⟨rfl, x, rfl⟩))
      go_ret2
      exact ⟨ret_ib (by rw [EZ.out]; exact RV.out) (by rw [EZ.out]; simp [RB.out]), Mr.mk' (hm2.trans (by repeat (first | (with_reducible exact Mr.refl _) | (with_reducible apply Mr.drew) | (with_reducible apply Mr.alloc) | (with_reducible apply Mr.ext) | (with_reducible refine Mr.setCell ?_ (by first | (simp; done) | (simp; omega) | omega | (refine leOf0 ?_; (repeat (first | (with_reducible exact Mr.refl _) | (with_reducible apply Mr.drew) | (with_reducible apply Mr.alloc) | (with_reducible apply Mr.ext) | (with_reducible refine Mr.setCell ?_ (by first | (simp; done) | (simp; omega) | omega) _))); done) | (refine leOf ?_; (repeat (first | (with_reducible exact Mr.refl _) | (with_reducible apply Mr.drew) | (with_reducible apply Mr.alloc) | (with_reducible apply Mr.ext) | (with_reducible refine Mr.setCell ?_ (by first | (simp; done) | (simp; omega) | omega) _))); done)) _))))⟩
  · have o' : ¬ (m.length : Int) < l.length := by omega
    simp only [List.take_length] at *
    (generalize hz : dp (vk l 64) (vk (m.take _) 64) = z at *; have RV : Hid (rv (hi z) (lo z) = cl (rn z)) := (by unfold rv; rw [e2]; trivial); have RB : Hid (rb (hi z) (lo z) = co (rn z)) := (by unfold rb; rw [e2, e3]; simp [Hid]); generalize hF : ck l 64 = F at *; generalize hG : ck (m.take _) 64 = G at *)
    cases F <;> cases G
    all_goals
      go_enter Try.func35, Try.ntmps35
      go_wp2_with (first | (go_at_call 51; refine (rcut_n _ hA (by first | exact h1 | rfl)).mono ?_; clear hA; rintro e w1 ⟨a1, c1, rfl, x, rfl, hI1⟩; have hm1 := x.h; have g' := gB.mr x.h; clear gB; generalize x.u = W1 at *; clear x) | (go_at_call 51; refine (rcut_n _ g' (by first | exact g1 | rfl)).mono ?_; rintro e w2 ⟨a2, c2, rfl, x, rfl, hI2⟩; have hm2 := hm1.trans x.h; have hI3 := hI1.mr x.h; clear g' hI1; generalize x.u = W2 at *; clear x) | (go_at_call 53; refine (rws_n _ _ hI3 hI2 (vk_64 _) rfl rfl).mono ?_; rintro e w' ⟨rfl, x, rfl⟩) | (go_at_call 52; refine (rround_c _ _ _).mono ?_; rintro e w' ⟨rfl, x, rfl⟩))
      go_ret2
      exact ⟨ret_ib (by rw [EZ.out]; exact RV.out) (by rw [EZ.out]; simp [RB.out]), Mr.mk' (hm2.trans (by repeat (first | (with_reducible exact Mr.refl _) | (with_reducible apply Mr.drew) | (with_reducible apply Mr.alloc) | (with_reducible apply Mr.ext) | (with_reducible refine Mr.setCell ?_ (by first | (simp; done) | (simp; omega) | omega | (refine leOf0 ?_; (repeat (first | (with_reducible exact Mr.refl _) | (with_reducible apply Mr.drew) | (with_reducible apply Mr.alloc) | (with_reducible apply Mr.ext) | (with_reducible refine Mr.setCell ?_ (by first | (simp; done) | (simp; omega) | omega) _))); done) | (refine leOf ?_; (repeat (first | (with_reducible exact Mr.refl _) | (with_reducible apply Mr.drew) | (with_reducible apply Mr.alloc) | (with_reducible apply Mr.ext) | (with_reducible refine Mr.setCell ?_ (by first | (simp; done) | (simp; omega) | omega) _))); done)) _))))⟩
end Sm
end Go.Proofs.Ytmhdpjdkcjdipaa
/- The contracts of the document's own answers of layer 6, third part: the mean. -/
namespace Go.Proofs.Ytmhdpjdkcjdipaa
open Go.ChangeShapes Go.WideShapes Go.ChangeAt Go.RowKit
open Go.Proofs.Ytmhdpjdkcjdipaa.Fx Go.Proofs.Ytmhdpjdkcjdipaa.Wd
set_option linter.unusedVariables false
attribute [local go_sem] Ext.cell Ext.froz Ext.lt Ext.lt1 Ext.lt2 Ext.lt3 Ext.all Ext.set_u drew_heap setCell_size Ext.set_size
namespace Sm
open Sl
/-- The mean: the sum by how many there are, rounded. -/
def mn (l : List Int) : Int := if (vk l 64).length = 0 then 0 else (2 * tot l + (vk l 64).length) / (2 * (vk l 64).length)
theorem ck_nil {l : List Int} (h : (vk l 64).length = 0) : ck l 64 = false := by
  unfold vk at h
  rw [List.length_map, List.length_eq_zero_iff] at h
  unfold ck; rw [h]; rfl
theorem tot_bd (l : List Int) : -((vk l 64).length * 288230376151711744) ≤ tot l ∧ tot l ≤ (vk l 64).length * 288230376151711744 := ws_bd1 _ (fun j => vk_bd l 64 j) _
theorem mid_math {T M N L0 H0 : Int} (hN : 1 ≤ N) (hN2 : N ≤ 64) (hM : M = T / (2 * N)) (h0 : -288230376151711744 ≤ L0) (h1 : L0 ≤ M) (h2 : M ≤ H0) (h3 : H0 ≤ 288230376151711744) (h4 : L0 < H0) :
    ∃ D m : Int, (H0 - L0).tdiv 2 = D ∧ H0 - D = m ∧ (0 ≤ D ∧ D ≤ 288230376151711744) ∧ (L0 < m ∧ m ≤ H0) ∧ ((m ≤ M ∧ cm (2 * N * m) T ≤ 0) ∨ (M ≤ m - 1 ∧ ¬ cm (2 * N * m) T ≤ 0)) := by
  refine ⟨(H0 - L0) / 2, _, by rw [Int.tdiv_eq_ediv_of_nonneg (by omega)], rfl, by omega, by omega, ?_⟩
  generalize H0 - (H0 - L0) / 2 = m
  have key : m ≤ M ↔ 2 * N * m ≤ T := by
    rw [hM, Int.le_ediv_iff_mul_le (by omega), Int.mul_comm m]
  have := Rt.cm_cases (2 * N * m) T
  by_cases g : m ≤ M
  · left; have := key.1 g; exact ⟨g, by omega⟩
  · right
    have : ¬ 2 * N * m ≤ T := fun h => g (key.2 h)
    exact ⟨by omega, by omega⟩
theorem mean_in {z T1 T : Int} {L : Nat} (h0 : 1 ≤ L) (e1 : z + z = T1) (e2 : T1 + L = T) (b0 : -(L * 288230376151711744) ≤ z) (b1 : z ≤ L * 288230376151711744) : -288230376151711744 ≤ (-288230376151711744 : Int) ∧ -288230376151711744 ≤ T / (2 * L) ∧ T / (2 * L) ≤ 288230376151711744 ∧ (288230376151711744 : Int) ≤ 288230376151711744 := by
  refine ⟨by omega, ?_, ?_, by omega⟩
  · rw [Int.le_ediv_iff_mul_le (by omega)]; omega
  · have : T / (2 * L) < 288230376151711744 + 1 := by
      apply Int.ediv_lt_of_lt_mul (by omega); omega
    omega
end Sm
end Go.Proofs.Ytmhdpjdkcjdipaa
