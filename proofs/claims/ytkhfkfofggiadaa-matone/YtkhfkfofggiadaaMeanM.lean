/- The mathematics of a mean that is divided value by value. -/
import Derived.Test.YtkhfkfofggiadaaSumC1
import Derived.Sort.CutIn
namespace Go.Proofs.Ytkhfkfofggiadaa
open Go.ChangeShapes Go.WideShapes Go.ChangeAt Go.RowKit
open Go.Proofs.Ytkhfkfofggiadaa.Fx Go.Proofs.Ytkhfkfofggiadaa.Wd Go.Proofs.Ytkhfkfofggiadaa.Sc Go.Proofs.Ytkhfkfofggiadaa.Rt
namespace Sm
open Sl
/-- Values, and whether one was clamped. -/
structure Vm where
  z : Int
  b : Bool
  lo : -288230376151711744 ≤ z
  up : z ≤ 288230376151711744
/-- The sum of quotients, of rests, of values, and whether one was clamped. -/
def wq (K : Nat) : List Vm → Int := List.foldl (fun s x => s + x.z.tdiv K) 0
def wr (K : Nat) : List Vm → Int := List.foldl (fun s x => s + x.z.tmod K) 0
def wz : List Vm → Int := List.foldl (fun s x => s + x.z) 0
def wan : List Vm → Bool := List.foldl (fun s x => s || x.b) false
theorem wq_snoc (K : Nat) (l : List Vm) (x : Vm) : wq K (l ++ [x]) = wq K l + x.z.tdiv K := by simp [wq]
theorem wr_snoc (K : Nat) (l : List Vm) (x : Vm) : wr K (l ++ [x]) = wr K l + x.z.tmod K := by simp [wr]
theorem wz_snoc (l : List Vm) (x : Vm) : wz (l ++ [x]) = wz l + x.z := by simp [wz]
theorem wan_snoc (l : List Vm) (x : Vm) : wan (l ++ [x]) = (wan l || x.b) := by simp [wan]
theorem snocs {p : List Vm → Prop} (h0 : p []) (h1 : ∀ l x, p l → p (l ++ [x])) (l : List Vm) : p l := by
  have : ∀ l : List Vm, p l.reverse := fun l => by
    induction l with
    | nil => exact h0
    | cons x l ih => rw [List.reverse_cons]; exact h1 _ _ ih
  have h := this l.reverse
  rwa [List.reverse_reverse] at h
theorem w_all (K : Nat) (l : List Vm) : wq K l * K + wr K l = wz l := by
  refine snocs (p := fun l => wq K l * K + wr K l = wz l) (by simp [wq, wr, wz]) (fun l x ih => ?_) l
  rw [wq_snoc, wr_snoc, wz_snoc, ← ih, Int.add_mul]
  have := Int.tmod_add_tdiv_mul x.z K
  omega
theorem tmod_bd (z : Int) {K : Nat} (h : 1 ≤ K) : -(K : Int) ≤ z.tmod K ∧ z.tmod K ≤ K := by
  have h1 := Int.tmod_lt_of_pos z (show (0 : Int) < K by omega)
  have h2 : -(K : Int) < z.tmod K := by
    have := Int.tmod_lt_of_pos (-z) (show (0 : Int) < K by omega)
    rw [Int.neg_tmod] at this
    omega
  omega
theorem tdiv_bd (z : Int) {K : Nat} (h : 1 ≤ K) (h0 : -288230376151711744 ≤ z) (h1 : z ≤ 288230376151711744) : -288230376151711744 ≤ z.tdiv K * K ∧ z.tdiv K * K ≤ 288230376151711744 := by
  have e := Int.tmod_add_tdiv_mul z K
  rcases Int.le_total 0 z with g | g
  · have := Int.tmod_nonneg K g
    have : 0 ≤ z.tdiv K := Int.tdiv_nonneg g (by omega)
    have : 0 ≤ z.tdiv K * K := Int.mul_nonneg this (by omega)
    omega
  · have a1 := Int.tmod_nonneg (K : Int) (show 0 ≤ -z by omega)
    rw [Int.neg_tmod] at a1
    have a2 : 0 ≤ (-z).tdiv K := Int.tdiv_nonneg (by omega) (by omega)
    rw [Int.neg_tdiv] at a2
    have : 0 ≤ -z.tdiv K * K := Int.mul_nonneg a2 (by omega)
    rw [Int.neg_mul] at this
    omega
theorem wq_bd0 {K : Nat} (h : 1 ≤ K) (l : List Vm) : -(l.length * 288230376151711744) ≤ wq K l * K ∧ wq K l * K ≤ l.length * 288230376151711744 := by
  refine snocs (p := fun l => -(l.length * 288230376151711744) ≤ wq K l * K ∧ wq K l * K ≤ l.length * 288230376151711744) (by simp [wq]) (fun l x ih => ?_) l
  rw [wq_snoc, Int.add_mul, List.length_append, List.length_singleton]
  have := tdiv_bd x.z h x.lo x.up
  omega
theorem wq_bd {K : Nat} (h : 1 ≤ K) (l : List Vm) (hl : l.length ≤ K) : -288230376151711744 ≤ wq K l ∧ wq K l ≤ 288230376151711744 := by
  have := wq_bd0 h l
  constructor
  · refine Int.le_of_mul_le_mul_right (a := (K : Int)) ?_ (by omega)
    omega
  · refine Int.le_of_mul_le_mul_right (a := (K : Int)) ?_ (by omega)
    omega
theorem wr_bd {K : Nat} (h : 1 ≤ K) (h64 : K ≤ 64) (l : List Vm) (hl : l.length ≤ 64) : -4096 ≤ wr K l ∧ wr K l ≤ 4096 := by
  have : -(l.length * 64 : Int) ≤ wr K l ∧ wr K l ≤ l.length * 64 := by
    refine snocs (p := fun l => -(l.length * 64 : Int) ≤ wr K l ∧ wr K l ≤ l.length * 64) (by simp [wr]) (fun l x ih => ?_) l
    rw [wr_snoc, List.length_append, List.length_singleton]
    have := tmod_bd x.z h
    omega
  omega
theorem quo_bd {K : Nat} (h : 1 ≤ K) (x : Vm) : -288230376151711744 ≤ x.z.tdiv K ∧ x.z.tdiv K ≤ 288230376151711744 := by
  have := tdiv_bd x.z h x.lo x.up
  constructor
  · refine Int.le_of_mul_le_mul_right (a := (K : Int)) ?_ (by omega)
    omega
  · refine Int.le_of_mul_le_mul_right (a := (K : Int)) ?_ (by omega)
    omega
theorem ov_small {K : Nat} (h : K ≤ 64) : ov K = K * 4294967296 := by unfold ov wv; rw [if_neg (by omega), if_neg (by omega)]
theorem cl_small {z : Int} (h : -288230376151711744 ≤ z) (g : z ≤ 288230376151711744) : cl z = z := by unfold cl wv; rw [if_neg (by omega), if_neg (by omega)]
/-- The rest's part. -/
theorem part_math {R : Int} {K : Nat} (h : 1 ≤ K) (h64 : K ≤ 64) (h0 : -4096 ≤ R) (h1 : R ≤ 4096) : qv R (ov K) = (2 * R + K) / (2 * K) := by
  have hK : (0 : Int) < 2 * K := by omega
  have hb : ab (K * 4294967296) = K * 4294967296 := by unfold ab; rw [cl_small (by omega) (by omega)]; omega
  rw [ov_small h64]
  unfold qv
  rw [if_neg (by omega), hb]
  rcases Int.lt_or_le R 0 with g | g
  · have ha : ab R = -R := by unfold ab; rw [cl_small (by omega) (by omega)]; omega
    have hbl : bl R (K * 4294967296) = true := by unfold bl; rw [decide_eq_true g, decide_eq_false (by omega)]; rfl
    rw [hbl, if_pos rfl, ha]
    unfold mg
    rw [if_pos rfl]
    have e0 := Int.mul_ediv_add_emod (2 * (-R * 4294967296) + K * 4294967296 - 1) (2 * (K * 4294967296))
    have e1 := Int.emod_nonneg (2 * (-R * 4294967296) + K * 4294967296 - 1) (show 2 * ((K : Int) * 4294967296) ≠ 0 by omega)
    have e2 := Int.emod_lt_of_pos (2 * (-R * 4294967296) + K * 4294967296 - 1) (show 0 < 2 * ((K : Int) * 4294967296) by omega)
    have e3 : 0 ≤ (2 * (-R * 4294967296) + K * 4294967296 - 1) / (2 * (K * 4294967296)) := Int.ediv_nonneg (by omega) (by omega)
    have e4 : (2 * (-R * 4294967296) + K * 4294967296 - 1) / (2 * (K * 4294967296)) < 8193 := Int.ediv_lt_of_lt_mul (by omega) (by omega)
    generalize (2 * (-R * 4294967296) + K * 4294967296 - 1) % (2 * (K * 4294967296)) = r at *
    generalize (2 * (-R * 4294967296) + K * 4294967296 - 1) / (2 * (K * 4294967296)) = q at *
    rw [cl_small (by omega) (by omega)]
    have e5 : 2 * ((K : Int) * 4294967296) * q = K * q * 8589934592 := by
      rw [Int.mul_assoc, Int.mul_assoc, Int.mul_comm 4294967296 q, ← Int.mul_assoc (K : Int)]
      omega
    rw [e5] at e0
    have e6 : (2 * R + K) = (2 * R + K + 2 * (K * q)) + -q * (2 * K) := by
      rw [Int.neg_mul, Int.mul_left_comm q, Int.mul_comm q]; omega
    rw [e6, Int.add_mul_ediv_right _ _ (by omega)]
    have e7 : (2 * R + K + 2 * (K * q)) / (2 * K) = 0 := Int.ediv_eq_zero_of_lt (by omega) (by omega)
    omega
  · have ha : ab R = R := by unfold ab; rw [cl_small (by omega) (by omega)]; omega
    have hbl : bl R (K * 4294967296) = false := by unfold bl; rw [decide_eq_false (by omega), decide_eq_false (by omega)]; rfl
    rw [hbl, if_neg (by simp), ha]
    unfold mg
    rw [if_neg (by simp)]
    have e0 : 2 * (R * 4294967296) + K * 4294967296 = (2 * R + K) * 4294967296 := by omega
    have e1 : 2 * ((K : Int) * 4294967296) = (2 * K) * 4294967296 := by omega
    rw [e0, e1, Int.mul_ediv_mul_of_pos_left _ _ (by omega)]
    have e3 : 0 ≤ (2 * R + K) / (2 * K) := Int.ediv_nonneg (by omega) (by omega)
    have e4 : (2 * R + K) / (2 * K) < 8200 := Int.ediv_lt_of_lt_mul (by omega) (by omega)
    exact cl_small (by omega) (by omega)
theorem mean_math {Q R T : Int} {K : Nat} (h : 1 ≤ K) (h64 : K ≤ 64) (h0 : -4096 ≤ R) (h1 : R ≤ 4096) (e : Q * K + R = T) : Q + qv R (ov K) = (2 * T + K) / (2 * K) := by
  rw [part_math h h64 h0 h1, ← e, show 2 * (Q * K + R) + K = (2 * R + K) + Q * (2 * K) by rw [Int.mul_left_comm]; omega, Int.add_mul_ediv_right _ _ (by omega)]
  omega
theorem mn_bd' (X : List Int) : -288230376151711744 ≤ mn X ∧ mn X ≤ 288230376151711744 := by
  unfold mn
  split
  · omega
  · rename_i h
    have b := tot_bd X
    have := mean_in (z := tot X) (L := (vk X 64).length) (by omega) rfl rfl b.1 b.2
    rw [show tot X + tot X = 2 * tot X by omega] at this
    omega
def vmV (X : List Int) (j : Nat) : Vm := ⟨cl (gt X j), co (gt X j), (cl_bd (gt X j)).1, (cl_bd (gt X j)).2⟩
theorem wz_V (X : List Int) (k : Nat) : wz (upto (vmV X) k) = ws (fun j => (tmV X j).z) k := by
  induction k with
  | zero => rfl
  | succ k ih => rw [upto_succ, wz_snoc, ih]; rfl
theorem wan_V (X : List Int) (k : Nat) (hk : k ≤ X.length) : wan (upto (vmV X) k) = ck X k := by
  induction k with
  | zero => rfl
  | succ k ih => rw [upto_succ, wan_snoc, ih (by omega), ck_more (by omega)]; rfl
/-- What the mean comes to. -/
theorem mean_all (X : List Int) (K : Nat) (hK : K = min X.length 64) : wq K (upto (vmV X) K) + qv (wr K (upto (vmV X) K)) (ov K) = mn X := by
  have e := w_all K (upto (vmV X) K)
  rw [wz_V, tot_ws X K hK] at e
  unfold mn
  rw [vk_length, show min 64 X.length = K by omega]
  by_cases h : K = 0
  · subst h; rw [if_pos rfl]; rfl
  · rw [if_neg h]
    have hl : (upto (vmV X) K).length = K := upto_length _ _
    have b := wr_bd (show 1 ≤ K by omega) (by omega) (upto (vmV X) K) (by omega)
    exact mean_math (by omega) (by omega) b.1 b.2 e
end Sm
end Go.Proofs.Ytkhfkfofggiadaa
/- The contracts of package sum, third part: the mean. -/
namespace Go.Proofs.Ytkhfkfofggiadaa
open Go.ChangeShapes Go.WideShapes Go.ChangeAt Go.RowKit Go.Shelf
open Go.Proofs.Ytkhfkfofggiadaa.Fx Go.Proofs.Ytkhfkfofggiadaa.Wd Go.Proofs.Ytkhfkfofggiadaa.Sc Go.Proofs.Ytkhfkfofggiadaa.Rt
set_option linter.unusedVariables false
attribute [local go_sem] Ext.cell Ext.froz Ext.lt Ext.lt1 Ext.lt2 Ext.lt3 Ext.all Ext.set_u drew_heap setCell_size Ext.set_size
attribute [-go_sem] run_min_int2
theorem B1.drew {W : World} {B : Nat} {t : TypeId} {p : Value} (h : B1 W B t p) : B1 W.drew B t p := by unfold B1; rw [drew_heap]; exact h
theorem Ke.drew {ex : Nat → Prop} {n : Nat} {w w' : World} (h : Ke ex n w w') : Ke ex n w w'.drew :=
  ⟨h.os, h.tape, h.output, by rw [drew_heap]; exact h.size, fun k hk he => by rw [drew_heap]; exact h.block k hk he⟩
namespace Sm
open Sl
attribute [local go_sem] Oper.semAt_some in
set_option maxRecDepth 100000 in
set_option maxHeartbeats 2000000 in
theorem mean1_c (a : Option Addr) (c n K : Nat) (l : List Int) (w : World) (h : Sl.Is w a c l) (en : l.length = n) (HK : Hid (K = min n 64)) (hn9 : n ≤ 9223372036854775807) :
    Calls Try.prog 43 #[.slice a n c] w fun e w' => e = .returned (.tuple #[.int .i64 (mn l), .bool (ck l 64)]) ∧ ∃ x : Ext w, w' = x.u := by
  refine (callsIn_wide (n := 5)).1 ?_
  refine callsIn_of_wp_marks Try.func43 rfl trivial ?_ rfl
  simp only [Try.ntmps43, List.size_toArray, List.length_cons, List.length_nil, Nat.reduceAdd, Nat.reduceSub, Array.replicate_succ, Array.replicate_zero, List.push_toArray, List.append_toArray, List.nil_append, List.cons_append]
  gi_wp2_with (refine ⟨trivial, ?_⟩; (first | (gi_at_call 55; refine (callsIn_wide.2 (counted_c n K HK.out _)).mono ?_; rintro e w' ⟨rfl, hw⟩; replace hw := hw.symm; subst hw) | (gi_at_call 56; refine (callsIn_wide.2 (values_c _ hn9)).mono ?_; rintro e w' ⟨rfl, hw⟩; replace hw := hw.symm; subst hw)))
  have hB0 : Below w.heap.size w (((((((w.alloc (.cells #[.int .i64 K] 3)).alloc (.cells #[.int .i64 0] 3)).alloc (.cells #[.int .i64 0] 3)).alloc (.cells #[.bool false] 4)).alloc (.cells #[.slice a n c] 23)).alloc (.cells #[.int .i64 n] 3)).alloc (.cells #[.func (.func 75) #[] #[.pointer (some ⟨w.heap.size + 1 + 1 + 1 + 1, 0, none⟩)]] 50)) := Mr.grown (by repeat (first | (with_reducible exact Mr.refl _) | (with_reducible apply Mr.drew) | (with_reducible apply Mr.alloc) | (with_reducible apply Mr.ext) | (with_reducible refine Mr.setCell ?_ (by first | (simp; done) | (simp; omega) | omega | (refine leOf0 ?_; (repeat (first | (with_reducible exact Mr.refl _) | (with_reducible apply Mr.drew) | (with_reducible apply Mr.alloc) | (with_reducible apply Mr.ext) | (with_reducible refine Mr.setCell ?_ (by first | (simp; done) | (simp; omega) | omega) _))); done) | (refine leOf ?_; (repeat (first | (with_reducible exact Mr.refl _) | (with_reducible apply Mr.drew) | (with_reducible apply Mr.alloc) | (with_reducible apply Mr.ext) | (with_reducible refine Mr.setCell ?_ (by first | (simp; done) | (simp; omega) | omega) _))); done)) _)))
  have b0 : B1 (((((((w.alloc (.cells #[.int .i64 K] 3)).alloc (.cells #[.int .i64 0] 3)).alloc (.cells #[.int .i64 0] 3)).alloc (.cells #[.bool false] 4)).alloc (.cells #[.slice a n c] 23)).alloc (.cells #[.int .i64 n] 3)).alloc (.cells #[.func (.func 75) #[] #[.pointer (some ⟨w.heap.size + 1 + 1 + 1 + 1, 0, none⟩)]] 50)) w.heap.size 3 (.int .i64 K) := ((((((B1.new w 3 (.int .i64 K)).alloc _).alloc _).alloc _).alloc _).alloc _).alloc _
  have b1 : B1 (((((((w.alloc (.cells #[.int .i64 K] 3)).alloc (.cells #[.int .i64 0] 3)).alloc (.cells #[.int .i64 0] 3)).alloc (.cells #[.bool false] 4)).alloc (.cells #[.slice a n c] 23)).alloc (.cells #[.int .i64 n] 3)).alloc (.cells #[.func (.func 75) #[] #[.pointer (some ⟨w.heap.size + 1 + 1 + 1 + 1, 0, none⟩)]] 50)) (w.heap.size + 1) 3 (.int .i64 0) := by have := (((((B1.new (w.alloc (.cells #[.int .i64 K] 3)) 3 (.int .i64 0)).alloc (.cells #[.int .i64 0] 3)).alloc (.cells #[.bool false] 4)).alloc (.cells #[.slice a n c] 23)).alloc (.cells #[.int .i64 n] 3)).alloc (.cells #[.func (.func 75) #[] #[.pointer (some ⟨w.heap.size + 1 + 1 + 1 + 1, 0, none⟩)]] 50); rwa [World.size_alloc] at this
  have b2 : B1 (((((((w.alloc (.cells #[.int .i64 K] 3)).alloc (.cells #[.int .i64 0] 3)).alloc (.cells #[.int .i64 0] 3)).alloc (.cells #[.bool false] 4)).alloc (.cells #[.slice a n c] 23)).alloc (.cells #[.int .i64 n] 3)).alloc (.cells #[.func (.func 75) #[] #[.pointer (some ⟨w.heap.size + 1 + 1 + 1 + 1, 0, none⟩)]] 50)) (w.heap.size + 1 + 1) 3 (.int .i64 0) := by have := ((((B1.new ((w.alloc (.cells #[.int .i64 K] 3)).alloc (.cells #[.int .i64 0] 3)) 3 (.int .i64 0)).alloc (.cells #[.bool false] 4)).alloc (.cells #[.slice a n c] 23)).alloc (.cells #[.int .i64 n] 3)).alloc (.cells #[.func (.func 75) #[] #[.pointer (some ⟨w.heap.size + 1 + 1 + 1 + 1, 0, none⟩)]] 50); rwa [World.size_alloc, World.size_alloc] at this
  have b3 : B1 (((((((w.alloc (.cells #[.int .i64 K] 3)).alloc (.cells #[.int .i64 0] 3)).alloc (.cells #[.int .i64 0] 3)).alloc (.cells #[.bool false] 4)).alloc (.cells #[.slice a n c] 23)).alloc (.cells #[.int .i64 n] 3)).alloc (.cells #[.func (.func 75) #[] #[.pointer (some ⟨w.heap.size + 1 + 1 + 1 + 1, 0, none⟩)]] 50)) (w.heap.size + 1 + 1 + 1) 4 (.bool false) := by have := (((B1.new (((w.alloc (.cells #[.int .i64 K] 3)).alloc (.cells #[.int .i64 0] 3)).alloc (.cells #[.int .i64 0] 3)) 4 (.bool false)).alloc (.cells #[.slice a n c] 23)).alloc (.cells #[.int .i64 n] 3)).alloc (.cells #[.func (.func 75) #[] #[.pointer (some ⟨w.heap.size + 1 + 1 + 1 + 1, 0, none⟩)]] 50); rwa [World.size_alloc, World.size_alloc, World.size_alloc] at this
  have c4 : (((((((w.alloc (.cells #[.int .i64 K] 3)).alloc (.cells #[.int .i64 0] 3)).alloc (.cells #[.int .i64 0] 3)).alloc (.cells #[.bool false] 4)).alloc (.cells #[.slice a n c] 23)).alloc (.cells #[.int .i64 n] 3)).alloc (.cells #[.func (.func 75) #[] #[.pointer (some ⟨w.heap.size + 1 + 1 + 1 + 1, 0, none⟩)]] 50)).cell? ⟨w.heap.size + 1 + 1 + 1 + 1, 0, none⟩ = some (.slice a n c) := by simp [go_sem]
  have c5 : (((((((w.alloc (.cells #[.int .i64 K] 3)).alloc (.cells #[.int .i64 0] 3)).alloc (.cells #[.int .i64 0] 3)).alloc (.cells #[.bool false] 4)).alloc (.cells #[.slice a n c] 23)).alloc (.cells #[.int .i64 n] 3)).alloc (.cells #[.func (.func 75) #[] #[.pointer (some ⟨w.heap.size + 1 + 1 + 1 + 1, 0, none⟩)]] 50)).cell? ⟨w.heap.size + 1 + 1 + 1 + 1 + 1, 0, none⟩ = some (.int .i64 n) := by simp [go_sem]
  have c6 : (((((((w.alloc (.cells #[.int .i64 K] 3)).alloc (.cells #[.int .i64 0] 3)).alloc (.cells #[.int .i64 0] 3)).alloc (.cells #[.bool false] 4)).alloc (.cells #[.slice a n c] 23)).alloc (.cells #[.int .i64 n] 3)).alloc (.cells #[.func (.func 75) #[] #[.pointer (some ⟨w.heap.size + 1 + 1 + 1 + 1, 0, none⟩)]] 50)).cell? ⟨w.heap.size + 1 + 1 + 1 + 1 + 1 + 1, 0, none⟩ = some (.func (.func 75) #[] #[.pointer (some ⟨w.heap.size + 1 + 1 + 1 + 1, 0, none⟩)]) := by simp [go_sem]
  have hsz : (((((((w.alloc (.cells #[.int .i64 K] 3)).alloc (.cells #[.int .i64 0] 3)).alloc (.cells #[.int .i64 0] 3)).alloc (.cells #[.bool false] 4)).alloc (.cells #[.slice a n c] 23)).alloc (.cells #[.int .i64 n] 3)).alloc (.cells #[.func (.func 75) #[] #[.pointer (some ⟨w.heap.size + 1 + 1 + 1 + 1, 0, none⟩)]] 50)).heap.size = w.heap.size + 7 := by simp
  obtain ⟨W0, hW0⟩ : ∃ W0, (((((((w.alloc (.cells #[.int .i64 K] 3)).alloc (.cells #[.int .i64 0] 3)).alloc (.cells #[.int .i64 0] 3)).alloc (.cells #[.bool false] 4)).alloc (.cells #[.slice a n c] 23)).alloc (.cells #[.int .i64 n] 3)).alloc (.cells #[.func (.func 75) #[] #[.pointer (some ⟨w.heap.size + 1 + 1 + 1 + 1, 0, none⟩)]] 50)) = W0 := ⟨_, rfl⟩
  rw [hW0] at hB0 b0 b1 b2 b3 c4 c5 c6 hsz ⊢
  clear hW0
  have hIs : Is W0 a c l := h.mr ⟨hB0⟩
  have hIk : ∀ {W : World}, Ke (fun k => k = w.heap.size + 1 ∨ k = w.heap.size + 1 + 1 ∨ k = w.heap.size + 1 + 1 + 1) W0.heap.size W0 W → Is W a c l := fun {W} k =>
    ⟨h.le, h.max, h.nil, fun j hj => by
      obtain ⟨b, o, ea, hb, hc⟩ := h.at' j hj
      obtain ⟨b', o', ea', hb', hc'⟩ := hIs.at' j hj
      rw [ea] at ea'
      simp only [Option.some.injEq, Addr.mk.injEq] at ea'
      obtain ⟨rfl, rfl, -⟩ := ea'
      exact ⟨b, o, ea, Nat.lt_of_lt_of_le hb' k.size, fun i hi => (k.cell hb' (by show ¬ (b = w.heap.size + 1 ∨ b = w.heap.size + 1 + 1 ∨ b = w.heap.size + 1 + 1 + 1); omega)).trans (hc' i hi)⟩, h.bd⟩
  have hK64 : K ≤ 64 := by have := HK.out; omega
  refine wpIn_rangeFunc_ownG rfl (by omega) (gf := 89) (lb := #[.pointer (some ⟨w.heap.size + 1 + 1 + 1 + 1 + 1, 0, none⟩), .pointer (some ⟨w.heap.size + 1 + 1 + 1 + 1 + 1 + 1, 0, none⟩)]) rfl trivial (enters_of Try.func89 (by kernel_rfl) rfl)
    (termsI_stops 4 (by omega) (fun x : Vm => x.z) (fun x => x.b) (vmV l) n K hn9 HK 75 (enters_of Try.func75 (by kernel_rfl) rfl) #[.pointer (some ⟨w.heap.size + 1 + 1 + 1 + 1, 0, none⟩)] (w.heap.size + 1 + 1 + 1 + 1 + 1) (w.heap.size + 1 + 1 + 1 + 1 + 1 + 1) W0
      (fun W => Ke (fun k => k = w.heap.size + 1 ∨ k = w.heap.size + 1 + 1 ∨ k = w.heap.size + 1 + 1 + 1) W0.heap.size W0 W) (Ke (fun k => k = w.heap.size + 1 ∨ k = w.heap.size + 1 + 1 ∨ k = w.heap.size + 1 + 1 + 1) W0.heap.size) (Ke.refl _ _ _) (fun h k => h.trans (Ke.of_mr k (h.size))) (fun h k => h.trans k)
      (fun h => (h.cell (by omega) (by omega)).trans c5) (fun h => (h.cell (by omega) (by omega)).trans c6)
      (fun i W hi hW => v1_c (w.heap.size + 1 + 1 + 1 + 1) i n W (Nat.lt_of_lt_of_le (by omega) hW.size) ((hW.cell (by omega) (by omega)).trans c4) (hIk hW) en (by have := HK.out; omega)))
    (fun h k => h.trans k) (fun W l o o' hl _ _ _ => Ke.putObj (o := o) W hl o') (Below.refl _ _) (fun _ => rfl)
    (fun pre W => (B1 W w.heap.size 3 (.int .i64 K) ∧ B1 W (w.heap.size + 1) 3 (.int .i64 (wq K pre)) ∧ B1 W (w.heap.size + 1 + 1) 3 (.int .i64 (wr K pre)) ∧ B1 W (w.heap.size + 1 + 1 + 1) 4 (.bool (wan pre))) ∧ Below w.heap.size w W)
    (fun _ _ _ => False)
    (OwnFrom.and (Own.from (fun s A B row hs hg hr => ⟨hs.1.kept hg hr, hs.2.1.kept hg hr, hs.2.2.1.kept hg hr, hs.2.2.2.kept hg hr⟩) _) (ownFrom_below (Nat.le_refl _) (by omega)))
    (fun _ _ _ _ _ hs _ _ => hs)
    ⟨⟨b0, b1, b2, b3⟩, hB0⟩
    (fun x => { tmps := #[.slice a n c, undef, .int .i64 0, .bool false, .pointer (some ⟨w.heap.size, 0, none⟩), .pointer (some ⟨w.heap.size + 1, 0, none⟩), .pointer (some ⟨w.heap.size + 1 + 1, 0, none⟩), .pointer (some ⟨w.heap.size + 1 + 1 + 1, 0, none⟩), .int .i64 x.z, .bool x.b, undef, undef, undef, undef, .slice a n c, .int .i64 n, .int .i64 K, .slice a n c, .func (.func 89) #[] #[.pointer (some ⟨w.heap.size + 1 + 1 + 1 + 1 + 1, 0, none⟩), .pointer (some ⟨w.heap.size + 1 + 1 + 1 + 1 + 1 + 1, 0, none⟩)], .int .i64 x.z, .bool x.b, undef, undef, undef, undef, undef, undef, undef, undef, undef, undef, undef, undef, undef, undef, undef, undef, undef, undef, undef, undef, undef, undef, undef, undef, undef, undef, undef, undef, undef], defers := [] }) ?assign ?body ?done ?stop
  case assign =>
    intro l x W K hK
    gi_wp2
    exact hK
  case body =>
    rintro l' pre x W ⟨⟨d0, d1, d2, d3⟩, hB⟩ hlt
    have k0 := d0.c0
    have k1 := d1.c0
    have k2 := d2.c0
    have k3 := d3.c0
    have f1 := d1.f0
    have f2 := d2.f0
    have f3 := d3.f0
    have s3 := d3.lt
    have hq0 := wq_bd (K := K) (by omega) pre (by omega)
    have hq1 := wq_bd (K := K) (by omega) (pre ++ [x]) (by rw [List.length_append, List.length_singleton]; omega)
    have hr0 := wr_bd (K := K) (by omega) hK64 pre (by omega)
    have hr1 := wr_bd (K := K) (by omega) hK64 (pre ++ [x]) (by rw [List.length_append, List.length_singleton]; omega)
    have hqx := quo_bd (K := K) (by omega) x
    have hrx := tmod_bd x.z (K := K) (by omega)
    have hK0 : (K : Int) ≠ 0 := by omega
    have hxl := x.lo
    have hxu := x.up
    rw [wq_snoc] at hq1
    rw [wr_snoc] at hr1
    have SQ : Hid (wq K (pre ++ [x]) = wq K pre + x.z.tdiv K) := wq_snoc K pre x
    have SR : Hid (wr K (pre ++ [x]) = wr K pre + x.z.tmod K) := wr_snoc K pre x
    have SA : Hid (wan (pre ++ [x]) = (wan pre || x.b)) := wan_snoc pre x
    generalize hZ1 : wq K pre + x.z.tdiv K = Z1 at *
    generalize hZ2 : wr K pre + x.z.tmod K = Z2 at *
    have hw1 : IntKind.i64.wrap Z1 = Z1 := by rw [IntWalk.i64_left, IntWalk.wrap64_in _ (by omega)]
    have hw2 : IntKind.i64.wrap Z2 = Z2 := by rw [IntWalk.i64_left, IntWalk.wrap64_in _ (by omega)]
    have hfin : ∀ (v : Bool) (act : Act), v = (wan pre || x.b) → ownPostG W0.heap.size (Ke (fun k => k = w.heap.size + 1 ∨ k = w.heap.size + 1 + 1 ∨ k = w.heap.size + 1 + 1 + 1) W0.heap.size) (fun pre W => (B1 W w.heap.size 3 (.int .i64 K) ∧ B1 W (w.heap.size + 1) 3 (.int .i64 (wq K pre)) ∧ B1 W (w.heap.size + 1 + 1) 3 (.int .i64 (wr K pre)) ∧ B1 W (w.heap.size + 1 + 1 + 1) 4 (.bool (wan pre))) ∧ Below w.heap.size w W) (fun _ _ _ => False) (pre ++ [x]) W .normal act ((((W.setCell ⟨w.heap.size + 1, 0, none⟩ (.int .i64 Z1)).drew.setCell ⟨w.heap.size + 1 + 1, 0, none⟩ (.int .i64 Z2)).drew).setCell ⟨w.heap.size + 1 + 1 + 1, 0, none⟩ (.bool v)) := fun v act hv => by
      have m1 : Ke (fun k => k = w.heap.size + 1 ∨ k = w.heap.size + 1 + 1 ∨ k = w.heap.size + 1 + 1 + 1) W0.heap.size W ((((W.setCell ⟨w.heap.size + 1, 0, none⟩ (.int .i64 Z1)).drew.setCell ⟨w.heap.size + 1 + 1, 0, none⟩ (.int .i64 Z2)).drew).setCell ⟨w.heap.size + 1 + 1 + 1, 0, none⟩ (.bool v)) :=
        ((((Ke.refl _ _ _).setCell (a := ⟨w.heap.size + 1, 0, none⟩) (ex := (fun k => k = w.heap.size + 1 ∨ k = w.heap.size + 1 + 1 ∨ k = w.heap.size + 1 + 1 + 1)) (Or.inl rfl) _).drew.setCell (a := ⟨w.heap.size + 1 + 1, 0, none⟩) (ex := (fun k => k = w.heap.size + 1 ∨ k = w.heap.size + 1 + 1 ∨ k = w.heap.size + 1 + 1 + 1)) (Or.inr (Or.inl rfl)) _).drew).setCell (a := ⟨w.heap.size + 1 + 1 + 1, 0, none⟩) (ex := (fun k => k = w.heap.size + 1 ∨ k = w.heap.size + 1 + 1 ∨ k = w.heap.size + 1 + 1 + 1)) (Or.inr (Or.inr rfl)) _
      have m2 : Below w.heap.size w ((((W.setCell ⟨w.heap.size + 1, 0, none⟩ (.int .i64 Z1)).drew.setCell ⟨w.heap.size + 1 + 1, 0, none⟩ (.int .i64 Z2)).drew).setCell ⟨w.heap.size + 1 + 1 + 1, 0, none⟩ (.bool v)) :=
        (((hB.setCell (p := ⟨w.heap.size + 1, 0, none⟩) (by simp) _).drew.setCell (p := ⟨w.heap.size + 1 + 1, 0, none⟩) (by simp; omega) _).drew).setCell (p := ⟨w.heap.size + 1 + 1 + 1, 0, none⟩) (by simp; omega) _
      have m3 : KeepsOthers W ((((W.setCell ⟨w.heap.size + 1, 0, none⟩ (.int .i64 Z1)).drew.setCell ⟨w.heap.size + 1 + 1, 0, none⟩ (.int .i64 Z2)).drew).setCell ⟨w.heap.size + 1 + 1 + 1, 0, none⟩ (.bool v)) :=
        ((((KeepsOthers.setCell W _ _).trans (KeepsOthers.drew _)).trans (KeepsOthers.setCell _ _ _)).trans (KeepsOthers.drew _)).trans (KeepsOthers.setCell _ _ _)
      refine ⟨m3.from _, m1, ⟨?_, ?_, ?_, ?_⟩, m2⟩
      · exact ((((d0.other (by omega) _).drew.other (by omega) _).drew).other (by omega) _)
      · rw [SQ.out]; exact (((d1.set _).drew.other (by omega) _).drew).other (by omega) _
      · rw [SR.out]; exact (((d2.other (by omega) _).drew.set _).drew).other (by omega) _
      · rw [SA.out, ← hv]; exact ((((d3.other (by omega) _).drew.other (by omega) _).drew).set _)
    clear hIk hIs c4 c5 c6 b0 b1 b2 b3 hB0 d0 d1 d2 hq0 hr0 SQ SR SA h
    have hx1 : wrap64 (x.z.tdiv K) = x.z.tdiv K := by rw [IntWalk.wrap64_in _ (by omega)]
    have hx2 : wrap64 (x.z.tmod K) = x.z.tmod K := by rw [IntWalk.wrap64_in _ (by omega)]
    have hK0' : ((K : Int) == 0) = false := by simp; omega
    gi_wp2
    gi_cut [] from 50 (fun wx => wx = (W.setCell ⟨w.heap.size + 1, 0, none⟩ (.int .i64 Z1)).drew)
    case first =>
      gi_region
      all_goals
        gi_wp2
        gi_meet
        case rel => rfl
    case rest =>
      subst hcut
      gi_wp2
      gi_cut [] from 50 (fun wx => wx = ((W.setCell ⟨w.heap.size + 1, 0, none⟩ (.int .i64 Z1)).drew.setCell ⟨w.heap.size + 1 + 1, 0, none⟩ (.int .i64 Z2)).drew)
      case first =>
        gi_region
        all_goals
          gi_wp2
          gi_meet
          case rel => rfl
      case rest =>
        subst hcut
        generalize hA : wan pre = A at *
        cases A
        all_goals
          gi_wp2
          exact hfin _ _ (by simp)
  case done =>
    rintro D ys W hD rfl ⟨⟨d0, d1, d2, d3⟩, hB⟩ hK
    have hl : (upto (vmV l) K).length = K := upto_length _ _
    have k0 := d0.c0
    have k1 := d1.c0
    have k2 := d2.c0
    have k3 := d3.c0
    have l1 := d1.lt
    have l3 := d3.lt
    have hE : Hid (wq K (upto (vmV l) K) + qv (wr K (upto (vmV l) K)) (ov K) = mn l) := mean_all l K (by rw [en]; exact HK.out)
    have hF : Hid (wan (upto (vmV l) K) = ck l 64) := by rw [Hid, wan_V l K (by have := HK.out; omega), ck_full, en, ← HK.out]
    have hw : IntKind.i64.wrap (wq K (upto (vmV l) K) + qv (wr K (upto (vmV l) K)) (ov K)) = mn l := by
      have := mn_bd' l
      rw [hE.out, IntWalk.i64_left, IntWalk.wrap64_in _ (by omega)]
    clear hIk hIs c4 c5 c6 b0 b1 b2 b3 hB0 h
    gi_wp2_with (refine ⟨trivial, ?_⟩; (first | (gi_at_call 57; refine (callsIn_wide.2 (of_c _ _)).mono ?_; rintro e w' ⟨rfl, hw0⟩; replace hw0 := hw0.symm; subst hw0) | (gi_at_call 58; refine (callsIn_wide.2 (over_c _ _ _)).mono ?_; rintro e w' ⟨rfl, y, rfl⟩)))
    gi_region
    gi_wp2
    have hK' : y.u.drew.heap[D]? = some (Obj.deferred (some [])) := by
      rw [drew_heap]
      exact (y.h.below.block D (Array.getElem?_eq_some_iff.1 hK).1).trans hK
    refine ⟨by simp, .inl ⟨_, _, rfl, run_takeDeferred hK', ?_⟩⟩
    refine ⟨_, results_tmp2 rfl _ _ _, by rw [← hF.out]; rfl, Mr.mk' ⟨?_⟩⟩
    exact (Mr.drew (Mr.trans ⟨hB⟩ y.h)).below.trans (belowK_b (w := w) (Nat.le_refl _) _ D _ _ (by omega) hK' rfl rfl)
  case stop =>
    rintro D c pre W _ _ h _
    exact h.elim
theorem mean_c (a : Option Addr) (c : Nat) (l : List Int) (w : World) (h : Sl.Is w a c l) :
    Calls Try.prog 43 #[.slice a l.length c] w fun e w' => e = .returned (.tuple #[.int .i64 (mn l), .bool (ck l 64)]) ∧ ∃ x : Ext w, w' = x.u :=
  mean1_c a c l.length (min l.length 64) l w h rfl rfl (by have := h.max; have := h.le; unfold maxLen at *; omega)
end Sm
end Go.Proofs.Ytkhfkfofggiadaa
