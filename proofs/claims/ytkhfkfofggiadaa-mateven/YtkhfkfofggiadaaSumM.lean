/- Sums over lists: the mathematics alone. -/
import Derived.Test.YtkhfkfofggiadaaRefC13
namespace Go.Proofs.Ytkhfkfofggiadaa
open Go.RowKit
open Go.Proofs.Ytkhfkfofggiadaa.Fx Go.Proofs.Ytkhfkfofggiadaa.Wd Go.Proofs.Ytkhfkfofggiadaa.Sc Go.Proofs.Ytkhfkfofggiadaa.Rt
namespace Sm
open Sl
theorem gt_cons_zero (x : Int) (l : List Int) : gt (x :: l) 0 = x := rfl
theorem gt_cons_succ (x : Int) (l : List Int) (j : Nat) : gt (x :: l) (j + 1) = gt l j := rfl
theorem ws_shift (f : Nat → Int) (k : Nat) : ws f (k + 1) = f 0 + ws (fun j => f (j + 1)) k := by
  induction k with
  | zero => simp [ws]
  | succ k ih => rw [ws, ih, ws]; omega
theorem ws_gt (l : List Int) : ws (gt l) l.length = l.sum := by
  induction l with
  | nil => rfl
  | cons x l ih =>
    rw [List.length_cons, ws_shift, List.sum_cons]
    have e : (fun j => gt (x :: l) (j + 1)) = gt l := by funext j; rfl
    rw [e, ih, gt_cons_zero]
theorem ws_zip (l m : List Int) : ws (fun j => ml (gt l j) (gt m j)) (min l.length m.length) = (List.zipWith ml l m).sum := by
  induction l generalizing m with
  | nil => simp [ws]
  | cons x l ih =>
    cases m with
    | nil => simp [ws]
    | cons y m =>
      rw [List.length_cons, List.length_cons, show min (l.length + 1) (m.length + 1) = min l.length m.length + 1 by omega, ws_shift, List.zipWith_cons_cons, List.sum_cons]
      have e : (fun j => ml (gt (x :: l) (j + 1)) (gt (y :: m) (j + 1))) = fun j => ml (gt l j) (gt m j) := by funext j; rfl
      rw [e, ih]; rfl
theorem tot_eq (l : List Int) : tot l = ((l.take 64).map cl).sum := ws_gt _
theorem ml_cl2 (a b : Int) : ml (cl a) (cl b) = ml a b := ml_clcl a b
theorem zip_map (l m : List Int) : List.zipWith ml (l.map cl) (m.map cl) = List.zipWith ml l m := by
  induction l generalizing m with
  | nil => simp
  | cons x l ih =>
    cases m with
    | nil => simp
    | cons y m => simp only [List.map_cons, List.zipWith_cons_cons, ih, ml_cl2]
theorem zip_take (l m : List Int) (k : Nat) (g : k = min l.length m.length) : List.zipWith ml (l.take k) (m.take k) = List.zipWith ml l m := by
  rw [← List.take_zipWith, List.take_of_length_le]
  rw [List.length_zipWith]; omega
theorem dz_eq (l m : List Int) : dz l m = ((List.zipWith ml l m).take 64).sum := by
  unfold dz dp
  rw [ws_zip]
  unfold vk
  rw [zip_map, ← List.take_zipWith, zip_take l m (kk l m) rfl]
theorem dp_self (l : List Int) : dp (vk l 64) (vk l 64) = ((l.take 64).map fun x => ml x x).sum := by
  unfold dp
  rw [ws_zip]
  unfold vk
  rw [zip_map, List.zipWith_self]
theorem sum_rev (l : List Int) : l.reverse.sum = l.sum := by
  induction l with
  | nil => rfl
  | cons x l ih => rw [List.reverse_cons, List.sum_append, ih]; simp [List.sum_cons]; omega
theorem ml_comm (a b : Int) : ml a b = ml b a := by unfold ml; exact Int.mul_comm _ _
theorem zip_comm (l m : List Int) : List.zipWith ml l m = List.zipWith ml m l := by
  rw [List.zipWith_comm]
  congr 1
  funext a b; exact ml_comm b a
/-- Turned round. -/
theorem tot_rev {l : List Int} (h : l.length ≤ 64) : tot l.reverse = tot l := by
  rw [tot_eq, tot_eq, List.take_of_length_le (by rw [List.length_reverse]; exact h), List.take_of_length_le h, List.map_reverse, sum_rev]
theorem ck_rev {l : List Int} (h : l.length ≤ 64) : ck l.reverse 64 = ck l 64 := by
  unfold ck
  rw [List.take_of_length_le (by rw [List.length_reverse]; exact h), List.take_of_length_le h, List.any_reverse]
theorem vk_rev_len {l : List Int} : (vk l.reverse 64).length = (vk l 64).length := by
  unfold vk; rw [List.length_map, List.length_map, List.length_take, List.length_take, List.length_reverse]
theorem mn_rev {l : List Int} (h : l.length ≤ 64) : mn l.reverse = mn l := by unfold mn; rw [vk_rev_len, tot_rev h]
theorem dz_rev {l m : List Int} (h : l.length ≤ 64) (e : l.length = m.length) : dz m.reverse l.reverse = dz l m := by
  rw [dz_eq, dz_eq, List.take_of_length_le (by rw [List.length_zipWith, List.length_reverse]; omega), List.take_of_length_le (by rw [List.length_zipWith]; omega), ← List.reverse_zipWith e.symm, sum_rev, zip_comm]
theorem dp_rev {l : List Int} (h : l.length ≤ 64) : dp (vk l.reverse 64) (vk l.reverse 64) = dp (vk l 64) (vk l 64) := by
  rw [dp_self, dp_self, List.take_of_length_le (by rw [List.length_reverse]; exact h), List.take_of_length_le h, List.map_reverse, sum_rev]
/-! Parts. -/
theorem tot_parts {l : List Int} (h : l.length ≤ 64) (k : Nat) : tot (l.take k) + tot (l.drop k) = tot l := by
  rw [tot_eq, tot_eq, tot_eq, List.take_of_length_le (l := l) h, List.take_of_length_le (l := l.take k) (by rw [List.length_take]; omega), List.take_of_length_le (l := l.drop k) (by rw [List.length_drop]; omega), ← List.sum_append, ← List.map_append, List.take_append_drop]
theorem ck_parts {l : List Int} (h : l.length ≤ 64) (k : Nat) : (ck (l.take k) 64 || ck (l.drop k) 64) = ck l 64 := by
  unfold ck
  rw [List.take_of_length_le (l := l) h, List.take_of_length_le (l := l.take k) (by rw [List.length_take]; omega), List.take_of_length_le (l := l.drop k) (by rw [List.length_drop]; omega), ← List.any_append, List.take_append_drop]
theorem ones_sum (l : List Int) : (List.zipWith ml l (List.replicate l.length 4294967296)).sum = 4294967296 * (l.map cl).sum := by
  induction l with
  | nil => rfl
  | cons x l ih =>
    rw [List.length_cons, List.replicate_succ, List.zipWith_cons_cons, List.sum_cons, ih, List.map_cons, List.sum_cons, Int.mul_add]
    unfold ml
    rw [show cl 4294967296 = 4294967296 by decide, Int.mul_comm (cl x)]
theorem dz_ones {l : List Int} (h : l.length ≤ 64) : dz l (List.replicate l.length 4294967296) = 4294967296 * tot l ∧ rn (4294967296 * tot l) = tot l := by
  constructor
  · rw [dz_eq, tot_eq, List.take_of_length_le (by rw [List.length_zipWith, List.length_replicate]; omega), List.take_of_length_le h, ones_sum]
  · unfold rn; omega
theorem ck_ones (n : Nat) : ck (List.replicate n 4294967296) 64 = false := by
  unfold ck
  rw [List.take_replicate, List.any_replicate]
  split
  · rfl
  · decide
theorem sum_between {L H : Int} (l : List Int) (h : ∀ x ∈ l, L ≤ x ∧ x ≤ H) : L * l.length ≤ l.sum ∧ l.sum ≤ H * l.length := by
  induction l with
  | nil => simp
  | cons x l ih =>
    have h1 := h x (by simp)
    have h2 := ih (fun y hy => h y (by simp [hy]))
    rw [List.sum_cons, List.length_cons]
    push_cast
    rw [Int.mul_add, Int.mul_add, Int.mul_one, Int.mul_one]
    omega
/-! The greatest product of two lists. -/
theorem cs_step {S A B x y : Int} (hA : 0 ≤ A) (hB : 0 ≤ B) (h : S * S ≤ A * B) : (S + x * y) * (S + x * y) ≤ (A + x * x) * (B + y * y) := by
  have h1 : 2 * (S * (x * y)) ≤ A * (y * y) + B * (x * x) := by
    have p1 : 0 ≤ A * (y * y) := Int.mul_nonneg hA (sq_nn y)
    have p2 : 0 ≤ B * (x * x) := Int.mul_nonneg hB (sq_nn x)
    rcases Int.lt_or_le (A * (y * y) + B * (x * x)) (2 * (S * (x * y))) with g | g
    · exfalso
      have q := sq_lt (a := A * (y * y) + B * (x * x)) (by omega) g
      have e1 : 2 * (S * (x * y)) * (2 * (S * (x * y))) = 4 * ((S * S) * ((x * x) * (y * y))) := by grind
      have e2 : (A * (y * y) + B * (x * x)) * (A * (y * y) + B * (x * x)) = (A * (y * y) - B * (x * x)) * (A * (y * y) - B * (x * x)) + 4 * ((A * B) * ((x * x) * (y * y))) := by grind
      have e3 := sq_nn (A * (y * y) - B * (x * x))
      have e4 : (S * S) * ((x * x) * (y * y)) ≤ (A * B) * ((x * x) * (y * y)) := Int.mul_le_mul_of_nonneg_right h (Int.mul_nonneg (sq_nn x) (sq_nn y))
      omega
    · exact g
  have e1 : (S + x * y) * (S + x * y) = S * S + 2 * (S * (x * y)) + (x * x) * (y * y) := by grind
  have e2 : (A + x * x) * (B + y * y) = A * B + (A * (y * y) + B * (x * x)) + (x * x) * (y * y) := by grind
  omega
theorem sq_sum_nn (l : List Int) : 0 ≤ (l.map fun x => ml x x).sum := by
  induction l with
  | nil => simp
  | cons x l ih => rw [List.map_cons, List.sum_cons]; have : 0 ≤ ml x x := ml_nn x; omega
theorem cs (l m : List Int) : (List.zipWith ml l m).sum * (List.zipWith ml l m).sum ≤ (l.map fun x => ml x x).sum * (m.map fun x => ml x x).sum := by
  induction l generalizing m with
  | nil => simp
  | cons x l ih =>
    cases m with
    | nil => simp
    | cons y m =>
      rw [List.zipWith_cons_cons, List.sum_cons, List.map_cons, List.map_cons, List.sum_cons, List.sum_cons, Int.add_comm (ml x y), Int.add_comm (ml x x), Int.add_comm (ml y y)]
      exact cs_step (sq_sum_nn l) (sq_sum_nn m) (ih m)
end Sm
end Go.Proofs.Ytkhfkfofggiadaa
