/- The mathematics of a mean that is divided value by value. -/
import Derived.Test.YtpammdogkkipbaaSumC1
import Derived.Sort.CutIn
namespace Go.Proofs.Ytpammdogkkipbaa
open Go.ChangeShapes Go.WideShapes Go.ChangeAt Go.RowKit
open Go.Proofs.Ytpammdogkkipbaa.Fx Go.Proofs.Ytpammdogkkipbaa.Wd Go.Proofs.Ytpammdogkkipbaa.Sc Go.Proofs.Ytpammdogkkipbaa.Rt
namespace Sm
open Sl
/-- Values, and whether one was clamped. -/
structure Vm where
  z : Int
  b : Bool
  lo : -288230376151711744 ≤ z
  up : z ≤ 288230376151711744
/-- The sum of quotients, of rests, of values, and whether one was clamped. -/
def wq (K : Nat) : List Vm → Int := List.foldl (fun s x => s + x.z.tdiv K) 0
def wr (K : Nat) : List Vm → Int := List.foldl (fun s x => s + x.z.tmod K) 0
def wz : List Vm → Int := List.foldl (fun s x => s + x.z) 0
def wan : List Vm → Bool := List.foldl (fun s x => s || x.b) false
theorem wq_snoc (K : Nat) (l : List Vm) (x : Vm) : wq K (l ++ [x]) = wq K l + x.z.tdiv K := by simp [wq]
theorem wr_snoc (K : Nat) (l : List Vm) (x : Vm) : wr K (l ++ [x]) = wr K l + x.z.tmod K := by simp [wr]
theorem wz_snoc (l : List Vm) (x : Vm) : wz (l ++ [x]) = wz l + x.z := by simp [wz]
theorem wan_snoc (l : List Vm) (x : Vm) : wan (l ++ [x]) = (wan l || x.b) := by simp [wan]
theorem snocs {p : List Vm → Prop} (h0 : p []) (h1 : ∀ l x, p l → p (l ++ [x])) (l : List Vm) : p l := by
  have : ∀ l : List Vm, p l.reverse := fun l => by
    induction l with
    | nil => exact h0
    | cons x l ih => rw [List.reverse_cons]; exact h1 _ _ ih
  have h := this l.reverse
  rwa [List.reverse_reverse] at h
theorem w_all (K : Nat) (l : List Vm) : wq K l * K + wr K l = wz l := by
  refine snocs (p := fun l => wq K l * K + wr K l = wz l) (by simp [wq, wr, wz]) (fun l x ih => ?_) l
  rw [wq_snoc, wr_snoc, wz_snoc, ← ih, Int.add_mul]
  have := Int.tmod_add_tdiv_mul x.z K
  omega
theorem tmod_bd (z : Int) {K : Nat} (h : 1 ≤ K) : -(K : Int) ≤ z.tmod K ∧ z.tmod K ≤ K := by
  have h1 := Int.tmod_lt_of_pos z (show (0 : Int) < K by omega)
  have h2 : -(K : Int) < z.tmod K := by
    have := Int.tmod_lt_of_pos (-z) (show (0 : Int) < K by omega)
    rw [Int.neg_tmod] at this
    omega
  omega
theorem tdiv_bd (z : Int) {K : Nat} (h : 1 ≤ K) (h0 : -288230376151711744 ≤ z) (h1 : z ≤ 288230376151711744) : -288230376151711744 ≤ z.tdiv K * K ∧ z.tdiv K * K ≤ 288230376151711744 := by
  have e := Int.tmod_add_tdiv_mul z K
  rcases Int.le_total 0 z with g | g
  · have := Int.tmod_nonneg K g
    have : 0 ≤ z.tdiv K := Int.tdiv_nonneg g (by omega)
    have : 0 ≤ z.tdiv K * K := Int.mul_nonneg this (by omega)
    omega
  · have a1 := Int.tmod_nonneg (K : Int) (show 0 ≤ -z by omega)
    rw [Int.neg_tmod] at a1
    have a2 : 0 ≤ (-z).tdiv K := Int.tdiv_nonneg (by omega) (by omega)
    rw [Int.neg_tdiv] at a2
    have : 0 ≤ -z.tdiv K * K := Int.mul_nonneg a2 (by omega)
    rw [Int.neg_mul] at this
    omega
theorem wq_bd0 {K : Nat} (h : 1 ≤ K) (l : List Vm) : -(l.length * 288230376151711744) ≤ wq K l * K ∧ wq K l * K ≤ l.length * 288230376151711744 := by
  refine snocs (p := fun l => -(l.length * 288230376151711744) ≤ wq K l * K ∧ wq K l * K ≤ l.length * 288230376151711744) (by simp [wq]) (fun l x ih => ?_) l
  rw [wq_snoc, Int.add_mul, List.length_append, List.length_singleton]
  have := tdiv_bd x.z h x.lo x.up
  omega
theorem wq_bd {K : Nat} (h : 1 ≤ K) (l : List Vm) (hl : l.length ≤ K) : -288230376151711744 ≤ wq K l ∧ wq K l ≤ 288230376151711744 := by
  have := wq_bd0 h l
  constructor
  · refine Int.le_of_mul_le_mul_right (a := (K : Int)) ?_ (by omega)
    omega
  · refine Int.le_of_mul_le_mul_right (a := (K : Int)) ?_ (by omega)
    omega
theorem wr_bd {K : Nat} (h : 1 ≤ K) (h64 : K ≤ 64) (l : List Vm) (hl : l.length ≤ 64) : -4096 ≤ wr K l ∧ wr K l ≤ 4096 := by
  have : -(l.length * 64 : Int) ≤ wr K l ∧ wr K l ≤ l.length * 64 := by
    refine snocs (p := fun l => -(l.length * 64 : Int) ≤ wr K l ∧ wr K l ≤ l.length * 64) (by simp [wr]) (fun l x ih => ?_) l
    rw [wr_snoc, List.length_append, List.length_singleton]
    have := tmod_bd x.z h
    omega
  omega
theorem quo_bd {K : Nat} (h : 1 ≤ K) (x : Vm) : -288230376151711744 ≤ x.z.tdiv K ∧ x.z.tdiv K ≤ 288230376151711744 := by
  have := tdiv_bd x.z h x.lo x.up
  constructor
  · refine Int.le_of_mul_le_mul_right (a := (K : Int)) ?_ (by omega)
    omega
  · refine Int.le_of_mul_le_mul_right (a := (K : Int)) ?_ (by omega)
    omega
theorem ov_small {K : Nat} (h : K ≤ 64) : ov K = K * 4294967296 := by unfold ov wv; rw [if_neg (by omega), if_neg (by omega)]
theorem cl_small {z : Int} (h : -288230376151711744 ≤ z) (g : z ≤ 288230376151711744) : cl z = z := by unfold cl wv; rw [if_neg (by omega), if_neg (by omega)]
/-- The rest's part. -/
theorem part_math {R : Int} {K : Nat} (h : 1 ≤ K) (h64 : K ≤ 64) (h0 : -4096 ≤ R) (h1 : R ≤ 4096) : qv R (ov K) = (2 * R + K) / (2 * K) := by
  have hK : (0 : Int) < 2 * K := by omega
  have hb : ab (K * 4294967296) = K * 4294967296 := by unfold ab; rw [cl_small (by omega) (by omega)]; omega
  rw [ov_small h64]
  unfold qv
  rw [if_neg (by omega), hb]
  rcases Int.lt_or_le R 0 with g | g
  · have ha : ab R = -R := by unfold ab; rw [cl_small (by omega) (by omega)]; omega
    have hbl : bl R (K * 4294967296) = true := by unfold bl; rw [decide_eq_true g, decide_eq_false (by omega)]; rfl
    rw [hbl, if_pos rfl, ha]
    unfold mg
    rw [if_pos rfl]
    have e0 := Int.mul_ediv_add_emod (2 * (-R * 4294967296) + K * 4294967296 - 1) (2 * (K * 4294967296))
    have e1 := Int.emod_nonneg (2 * (-R * 4294967296) + K * 4294967296 - 1) (show 2 * ((K : Int) * 4294967296) ≠ 0 by omega)
    have e2 := Int.emod_lt_of_pos (2 * (-R * 4294967296) + K * 4294967296 - 1) (show 0 < 2 * ((K : Int) * 4294967296) by omega)
    have e3 : 0 ≤ (2 * (-R * 4294967296) + K * 4294967296 - 1) / (2 * (K * 4294967296)) := Int.ediv_nonneg (by omega) (by omega)
    have e4 : (2 * (-R * 4294967296) + K * 4294967296 - 1) / (2 * (K * 4294967296)) < 8193 := Int.ediv_lt_of_lt_mul (by omega) (by omega)
    generalize (2 * (-R * 4294967296) + K * 4294967296 - 1) % (2 * (K * 4294967296)) = r at *
    generalize (2 * (-R * 4294967296) + K * 4294967296 - 1) / (2 * (K * 4294967296)) = q at *
    rw [cl_small (by omega) (by omega)]
    have e5 : 2 * ((K : Int) * 4294967296) * q = K * q * 8589934592 := by
      rw [Int.mul_assoc, Int.mul_assoc, Int.mul_comm 4294967296 q, ← Int.mul_assoc (K : Int)]
      omega
    rw [e5] at e0
    have e6 : (2 * R + K) = (2 * R + K + 2 * (K * q)) + -q * (2 * K) := by
      rw [Int.neg_mul, Int.mul_left_comm q, Int.mul_comm q]; omega
    rw [e6, Int.add_mul_ediv_right _ _ (by omega)]
    have e7 : (2 * R + K + 2 * (K * q)) / (2 * K) = 0 := Int.ediv_eq_zero_of_lt (by omega) (by omega)
    omega
  · have ha : ab R = R := by unfold ab; rw [cl_small (by omega) (by omega)]; omega
    have hbl : bl R (K * 4294967296) = false := by unfold bl; rw [decide_eq_false (by omega), decide_eq_false (by omega)]; rfl
    rw [hbl, if_neg (by simp), ha]
    unfold mg
    rw [if_neg (by simp)]
    have e0 : 2 * (R * 4294967296) + K * 4294967296 = (2 * R + K) * 4294967296 := by omega
    have e1 : 2 * ((K : Int) * 4294967296) = (2 * K) * 4294967296 := by omega
    rw [e0, e1, Int.mul_ediv_mul_of_pos_left _ _ (by omega)]
    have e3 : 0 ≤ (2 * R + K) / (2 * K) := Int.ediv_nonneg (by omega) (by omega)
    have e4 : (2 * R + K) / (2 * K) < 8200 := Int.ediv_lt_of_lt_mul (by omega) (by omega)
    exact cl_small (by omega) (by omega)
theorem mean_math {Q R T : Int} {K : Nat} (h : 1 ≤ K) (h64 : K ≤ 64) (h0 : -4096 ≤ R) (h1 : R ≤ 4096) (e : Q * K + R = T) : Q + qv R (ov K) = (2 * T + K) / (2 * K) := by
  rw [part_math h h64 h0 h1, ← e, show 2 * (Q * K + R) + K = (2 * R + K) + Q * (2 * K) by rw [Int.mul_left_comm]; omega, Int.add_mul_ediv_right _ _ (by omega)]
  omega
theorem mn_bd' (X : List Int) : -288230376151711744 ≤ mn X ∧ mn X ≤ 288230376151711744 := by
  unfold mn
  split
  · omega
  · rename_i h
    have b := tot_bd X
    have := mean_in (z := tot X) (L := (vk X 64).length) (by omega) rfl rfl b.1 b.2
    rw [show tot X + tot X = 2 * tot X by omega] at this
    omega
def vmV (X : List Int) (j : Nat) : Vm := ⟨cl (gt X j), co (gt X j), (cl_bd (gt X j)).1, (cl_bd (gt X j)).2⟩
theorem wz_V (X : List Int) (k : Nat) : wz (upto (vmV X) k) = ws (fun j => (tmV X j).z) k := by
  induction k with
  | zero => rfl
  | succ k ih => rw [upto_succ, wz_snoc, ih]; rfl
theorem wan_V (X : List Int) (k : Nat) (hk : k ≤ X.length) : wan (upto (vmV X) k) = ck X k := by
  induction k with
  | zero => rfl
  | succ k ih => rw [upto_succ, wan_snoc, ih (by omega), ck_more (by omega)]; rfl
/-- What the mean comes to. -/
theorem mean_all (X : List Int) (K : Nat) (hK : K = min X.length 64) : wq K (upto (vmV X) K) + qv (wr K (upto (vmV X) K)) (ov K) = mn X := by
  have e := w_all K (upto (vmV X) K)
  rw [wz_V, tot_ws X K hK] at e
  unfold mn
  rw [vk_length, show min 64 X.length = K by omega]
  by_cases h : K = 0
  · subst h; rw [if_pos rfl]; rfl
  · rw [if_neg h]
    have hl : (upto (vmV X) K).length = K := upto_length _ _
    have b := wr_bd (show 1 ≤ K by omega) (by omega) (upto (vmV X) K) (by omega)
    exact mean_math (by omega) (by omega) b.1 b.2 e
end Sm
end Go.Proofs.Ytpammdogkkipbaa
/- The contracts of package sum, third part: the mean. -/
namespace Go.Proofs.Ytpammdogkkipbaa
open Go.ChangeShapes Go.WideShapes Go.ChangeAt Go.RowKit Go.Shelf
open Go.Proofs.Ytpammdogkkipbaa.Fx Go.Proofs.Ytpammdogkkipbaa.Wd Go.Proofs.Ytpammdogkkipbaa.Sc Go.Proofs.Ytpammdogkkipbaa.Rt
set_option linter.unusedVariables false
attribute [local go_sem] Ext.cell Ext.froz Ext.lt Ext.lt1 Ext.lt2 Ext.lt3 Ext.all Ext.set_u drew_heap setCell_size Ext.set_size
attribute [-go_sem] run_min_int2
theorem B1.drew {W : World} {B : Nat} {t : TypeId} {p : Value} (h : B1 W B t p) : B1 W.drew B t p := by unfold B1; rw [drew_heap]; exact h
theorem Ke.drew {ex : Nat → Prop} {n : Nat} {w w' : World} (h : Ke ex n w w') : Ke ex n w w'.drew :=
  ⟨h.os, h.tape, h.output, by rw [drew_heap]; exact h.size, fun k hk he => by rw [drew_heap]; exact h.block k hk he⟩
namespace Sm
open Sl
end Sm
end Go.Proofs.Ytpammdogkkipbaa
