/- Norms and products of lists: what SumNorm asks. -/
import Derived.Test.YtkhfkfofggiadaaSumM
namespace Go.Proofs.Ytkhfkfofggiadaa
open Go.Proofs.Ytkhfkfofggiadaa.Fx Go.Proofs.Ytkhfkfofggiadaa.Wd Go.Proofs.Ytkhfkfofggiadaa.Sc Go.Proofs.Ytkhfkfofggiadaa.Rt
namespace Sm
open Sl
/-- The sum of the squares. -/
def sq (l : List Int) : Int := (l.map fun x => ml x x).sum
theorem dp_sq {l : List Int} (h : l.length ≤ 64) : dp (vk l 64) (vk l 64) = sq l := by rw [dp_self, List.take_of_length_le h]; rfl
theorem sq_nn' (l : List Int) : 0 ≤ sq l := sq_sum_nn l
theorem sq_cons (x : Int) (l : List Int) : sq (x :: l) = ab x * ab x + sq l := by unfold sq; rw [List.map_cons, List.sum_cons, ml_ab]
theorem sq_mem {l : List Int} {x : Int} (h : x ∈ l) : ab x * ab x ≤ sq l := by
  induction l with
  | nil => simp at h
  | cons y l ih =>
    rw [sq_cons]
    have h1 := sq_nn' l
    have h2 := Rt.sq_nn (ab y)
    rcases List.mem_cons.1 h with rfl | g
    · omega
    · have := ih g; omega
theorem norm_ge {l : List Int} {x : Int} (h : x ∈ l) : ab x ≤ sr (sq l) := by
  have ha := ab_bd x
  have h1 : sr (ab x * ab x) = ab x := in_hit ha.1 ha.2 rfl
  have m1 := sr_mono (sq_mem h)
  omega
theorem abs_nn (l : List Int) : 0 ≤ (l.map ab).sum := by
  induction l with
  | nil => simp
  | cons x l ih => rw [List.map_cons, List.sum_cons]; have := ab_bd x; omega
theorem abs_sq (l : List Int) : sq l ≤ (l.map ab).sum * (l.map ab).sum := by
  induction l with
  | nil => simp [sq]
  | cons x l ih =>
    rw [sq_cons, List.map_cons, List.sum_cons]
    have h1 := abs_nn l
    have h2 := (ab_bd x).1
    generalize (l.map ab).sum = s at *
    have e : (ab x + s) * (ab x + s) = ab x * ab x + s * s + 2 * (ab x * s) := by grind
    have := Int.mul_nonneg h2 h1
    omega
theorem cl_ab (x : Int) : cl (ab x) = ab x := by have := ab_bd x; exact (cl_in (by omega) this.2).1
theorem tot_abs {l : List Int} (h : l.length ≤ 64) : tot (l.map ab) = (l.map ab).sum := by
  rw [tot_eq, List.take_of_length_le (by rw [List.length_map]; exact h), List.map_map]
  congr 1
  apply List.map_congr_left
  intro x _
  exact cl_ab x
theorem norm_le {l : List Int} (h : l.length ≤ 64) : sr (sq l) ≤ cl (tot (l.map ab)) := by
  rw [tot_abs h]
  have h1 := abs_sq l
  have h2 := abs_nn l
  have hs := sr_bd (sq l)
  have hq := sr_sq (z := sq l) (sq_nn' l)
  have hl := le_of_sq (a := sr (sq l)) (b := (l.map ab).sum) (by omega) (by omega)
  generalize (l.map ab).sum = t at *
  rcases Int.lt_or_le 288230376151711744 t with g | g
  · rw [(cl_hi g).1]; omega
  · rw [(cl_in (by omega) g).1]; omega
theorem norm_one (x : Int) : sr (dp (vk [x] 64) (vk [x] 64)) = ab x := by
  rw [dp_sq (by simp), sq_cons]
  have ha := ab_bd x
  exact in_hit ha.1 ha.2 (by simp [sq])
theorem zip_cut (l m : List Int) (h : l.length ≤ 64) : List.zipWith ml l m = List.zipWith ml l (m.take 64) := by
  apply List.ext_getElem?
  intro i
  rw [List.getElem?_zipWith, List.getElem?_zipWith]
  by_cases g : i < 64
  · rw [List.getElem?_take_of_lt g]
  · rw [List.getElem?_eq_none (l := l) (by omega)]
theorem dz_cut {l m : List Int} (h : l.length ≤ 64) : dz l m = (List.zipWith ml l (m.take 64)).sum := by
  rw [dz_eq, List.take_of_length_le (by rw [List.length_zipWith]; omega), zip_cut l m h]
theorem dot_norm {l m : List Int} {N M : Int} (h : l.length ≤ 64) (hN : sr (sq l) = N) (hM : sr (sq (m.take 64)) = M) (r1 : ro (sq l) = false) (r2 : ro (sq (m.take 64)) = false) (ht : tb (N + 1) (M + 1) = false) (hc : co (rn (dz l m)) = false) :
    ab (cl (rn (dz l m))) ≤ tv (N + 1) (M + 1) + 1 := by
  have n1 := sr_next r1
  have n2 := sr_next r2
  rw [hN] at n1
  rw [hM] at n2
  have b1 := sr_bd (sq l)
  have b2 := sr_bd (sq (m.take 64))
  rw [hN] at b1
  rw [hM] at b2
  obtain ⟨-, -, e3, -, -⟩ := tv_ok ht
  obtain ⟨c1, c2, c3⟩ := co_false hc
  rw [c3, e3]
  have cs' : dz l m * dz l m ≤ sq l * sq (m.take 64) := by rw [dz_cut h]; exact cs l (m.take 64)
  have q1 := sq_nn' l
  have q2 := sq_nn' (m.take 64)
  generalize sq l = A at *
  generalize sq (m.take 64) = B at *
  generalize dz l m = z at *
  have hW : 0 ≤ (N + 1) * (M + 1) := Int.mul_nonneg (by omega) (by omega)
  have k1 : A * B ≤ ((N + 1) * (N + 1)) * ((M + 1) * (M + 1)) := Int.mul_le_mul (by omega) (by omega) q2 (by have := Rt.sq_nn (N + 1); omega)
  have k2 : ((N + 1) * (N + 1)) * ((M + 1) * (M + 1)) = ((N + 1) * (M + 1)) * ((N + 1) * (M + 1)) := by grind
  generalize (N + 1) * (M + 1) = W at *
  have z1 : z ≤ W := le_of_sq (by omega) (by omega)
  have z2 : -z ≤ W := le_of_sq (by omega) (by rw [Int.neg_mul_neg]; omega)
  have z3 : ab (rn z) = max (rn z) (-rn z) := by unfold ab; rw [c3]
  rw [z3]
  unfold rn
  omega
end Sm
end Go.Proofs.Ytkhfkfofggiadaa
