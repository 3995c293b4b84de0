/- The statements' own examples of layer 6. -/
import Derived.Test.YtehahoiliapnfaaSumC3
namespace Go.Proofs.Ytehahoiliapnfaa
open Go.ChangeShapes Go.WideShapes Go.ChangeAt Go.RowKit
open Go.Proofs.Ytehahoiliapnfaa.Fx Go.Proofs.Ytehahoiliapnfaa.Wd Go.Proofs.Ytehahoiliapnfaa.Sc Go.Proofs.Ytehahoiliapnfaa.Rt
set_option linter.unusedVariables false
attribute [local go_sem] Ext.cell Ext.froz Ext.lt Ext.lt1 Ext.lt2 Ext.lt3 Ext.all Ext.set_u drew_heap setCell_size Ext.set_size
namespace Sm
open Sl
theorem total_n {a : Option Addr} {c : Nat} {l : List Int} {w : World} (n : Nat) (h : Sl.Is w a c l) (hn : l.length = n) :
    Calls Try.prog 9 #[.slice a n c] w fun e w' => e = .returned (.tuple #[.int .i64 (cl (tot l)), .bool (ck l 64 || co (tot l))]) ∧ ∃ x : Ext w, w' = x.u := by
  subst hn; exact total_c a c l w h
theorem mean_n {a : Option Addr} {c : Nat} {l : List Int} {w : World} (n : Nat) (h : Sl.Is w a c l) (hn : l.length = n) :
    Calls Try.prog 11 #[.slice a n c] w fun e w' => e = .returned (.tuple #[.int .i64 (mn l), .bool (ck l 64)]) ∧ ∃ x : Ext w, w' = x.u := by
  subst hn; exact mean_c a c l w h
theorem dot_n {a b : Option Addr} {c d : Nat} {l m : List Int} {w : World} (n k : Nat) (h : Sl.Is w a c l) (g : Sl.Is w b d m) (hn : l.length = n) (hk : m.length = k) :
    Calls Try.prog 13 #[.slice a n c, .slice b k d] w fun e w' => e = .returned (.tuple #[.int .i64 (cl (rn (dz l m))), .bool (ck (l.take (kk l m)) 64 || ck (m.take (kk l m)) 64 || co (rn (dz l m)))]) ∧ ∃ x : Ext w, w' = x.u := by
  subst hn; subst hk; exact dot_c a b c d l m w h g
theorem norm_n {a : Option Addr} {c : Nat} {l : List Int} {w : World} (n : Nat) (h : Sl.Is w a c l) (hn : l.length = n) :
    Calls Try.prog 15 #[.slice a n c] w fun e w' => e = .returned (.tuple #[.int .i64 (sr (dp (vk l 64) (vk l 64))), .bool (ck l 64 || ro (dp (vk l 64) (vk l 64)))]) ∧ ∃ x : Ext w, w' = x.u := by
  subst hn; exact norm_c a c l w h
theorem gt2 {x y : Int} (hx : -9223372036854775808 ≤ x ∧ x ≤ 9223372036854775807) (hy : -9223372036854775808 ≤ y ∧ y ≤ 9223372036854775807) (j : Nat) : -9223372036854775808 ≤ gt [x, y] j ∧ gt [x, y] j ≤ 9223372036854775807 := by
  match j with
  | 0 => exact hx
  | 1 => exact hy
  | j + 2 => simp [gt]
theorem gt3 {x y z : Int} (hx : -9223372036854775808 ≤ x ∧ x ≤ 9223372036854775807) (hy : -9223372036854775808 ≤ y ∧ y ≤ 9223372036854775807) (hz : -9223372036854775808 ≤ z ∧ z ≤ 9223372036854775807) (j : Nat) : -9223372036854775808 ≤ gt [x, y, z] j ∧ gt [x, y, z] j ≤ 9223372036854775807 := by
  match j with
  | 0 => exact hx
  | 1 => exact hy
  | 2 => exact hz
  | j + 3 => simp [gt]
theorem lit2 (w : World) (B : Nat) (hB : w.heap.size = B) (x y : Int) (hx : -9223372036854775808 ≤ x ∧ x ≤ 9223372036854775807) (hy : -9223372036854775808 ≤ y ∧ y ≤ 9223372036854775807) : Is (w.alloc (.cells #[.int .i64 x, .int .i64 y] 3)) (some ⟨B, 0, none⟩) 2 [x, y] := by
  subst hB; exact of_cells [x, y] (gt2 hx hy) (by simp [maxLen]) _ rfl
theorem lit3 (w : World) (B : Nat) (hB : w.heap.size = B) (x y z : Int) (hx : -9223372036854775808 ≤ x ∧ x ≤ 9223372036854775807) (hy : -9223372036854775808 ≤ y ∧ y ≤ 9223372036854775807) (hz : -9223372036854775808 ≤ z ∧ z ≤ 9223372036854775807) : Is (w.alloc (.cells #[.int .i64 x, .int .i64 y, .int .i64 z] 3)) (some ⟨B, 0, none⟩) 3 [x, y, z] := by
  subst hB; exact of_cells [x, y, z] (gt3 hx hy hz) (by simp [maxLen]) _ rfl
theorem aw6_num : cl (rn (dz [4294967296, 8589934592] [12884901888, 17179869184])) = 47244640256 ∧ (ck ([4294967296, 8589934592].take (kk [4294967296, 8589934592] [12884901888, 17179869184])) 64 || ck ([12884901888, 17179869184].take (kk [4294967296, 8589934592] [12884901888, 17179869184])) 64 || co (rn (dz [4294967296, 8589934592] [12884901888, 17179869184]))) = false ∧ mn [1, 2] = 2 ∧ cl (tot [1, 2, 3]) = 6 := by decide +kernel
theorem aw6_root : sr (dp (vk [2, 3, 6] 64) (vk [2, 3, 6] 64)) = 7 := by
  rw [show dp (vk [2, 3, 6] 64) (vk [2, 3, 6] 64) = 49 by decide +kernel]
  exact in_hit (by omega) (by omega) (by decide)
set_option maxRecDepth 100000 in
set_option maxHeartbeats 2000000 in
theorem awake6_c (w : World) : Calls Try.prog 8 #[] w fun e w' => e = .returned (.bool true) ∧ ∃ x : Ext w, w' = x.u := by
  obtain ⟨n1, n2, n3, n4⟩ := aw6_num
  have n5 := aw6_root
  go_enter Try.func8, Try.ntmps8
  go_wp2_with (first | (go_at_call 13; refine (dot_n 2 2 ((lit2 w _ rfl 4294967296 8589934592 (by omega) (by omega)).mr ?_) (lit2 _ _ (by simp) 12884901888 17179869184 (by omega) (by omega)) rfl rfl).mono ?_; exact (by repeat (first | (with_reducible exact Mr.refl _) | (with_reducible apply Mr.drew) | (with_reducible apply Mr.alloc) | (with_reducible apply Mr.ext) | (with_reducible refine Mr.setCell ?_ (by first | (simp; done) | (simp; omega) | omega | (refine leOf0 ?_; (repeat (first | (with_reducible exact Mr.refl _) | (with_reducible apply Mr.drew) | (with_reducible apply Mr.alloc) | (with_reducible apply Mr.ext) | (with_reducible refine Mr.setCell ?_ (by first | (simp; done) | (simp; omega) | omega) _))); done) | (refine leOf ?_; (repeat (first | (with_reducible exact Mr.refl _) | (with_reducible apply Mr.drew) | (with_reducible apply Mr.alloc) | (with_reducible apply Mr.ext) | (with_reducible refine Mr.setCell ?_ (by first | (simp; done) | (simp; omega) | omega) _))); done)) _))); rw [n1, n2]; rintro e w' ⟨rfl, x, rfl⟩) | (go_at_call 11; refine (mean_n 2 (lit2 _ _ (by simp) 1 2 (by omega) (by omega)) rfl).mono ?_; rw [n3]; rintro e w' ⟨rfl, x, rfl⟩) | (go_at_call 9; refine (total_n 3 (lit3 _ _ (by simp) 1 2 3 (by omega) (by omega) (by omega)) rfl).mono ?_; rw [n4]; rintro e w' ⟨rfl, x, rfl⟩) | (go_at_call 15; refine (norm_n 3 (lit3 _ _ (by simp) 2 3 6 (by omega) (by omega) (by omega)) rfl).mono ?_; rw [n5]; rintro e w' ⟨rfl, x, rfl⟩))
  go_ret
  exact ⟨rfl, Mr.mk' (by repeat (first | (with_reducible exact Mr.refl _) | (with_reducible apply Mr.drew) | (with_reducible apply Mr.alloc) | (with_reducible apply Mr.ext) | (with_reducible refine Mr.setCell ?_ (by first | (simp; done) | (simp; omega) | omega | (refine leOf0 ?_; (repeat (first | (with_reducible exact Mr.refl _) | (with_reducible apply Mr.drew) | (with_reducible apply Mr.alloc) | (with_reducible apply Mr.ext) | (with_reducible refine Mr.setCell ?_ (by first | (simp; done) | (simp; omega) | omega) _))); done) | (refine leOf ?_; (repeat (first | (with_reducible exact Mr.refl _) | (with_reducible apply Mr.drew) | (with_reducible apply Mr.alloc) | (with_reducible apply Mr.ext) | (with_reducible refine Mr.setCell ?_ (by first | (simp; done) | (simp; omega) | omega) _))); done)) _)))⟩
end Sm
end Go.Proofs.Ytehahoiliapnfaa
