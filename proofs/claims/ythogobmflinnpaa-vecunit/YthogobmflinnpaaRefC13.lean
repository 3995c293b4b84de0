/- The contracts of the document's own answers of layer 6, third part: the mean. -/
import Derived.Test.YthogobmflinnpaaRefC12
namespace Go.Proofs.Ythogobmflinnpaa
open Go.ChangeShapes Go.WideShapes Go.ChangeAt Go.RowKit
open Go.Proofs.Ythogobmflinnpaa.Fx Go.Proofs.Ythogobmflinnpaa.Wd
set_option linter.unusedVariables false
attribute [local go_sem] Ext.cell Ext.froz Ext.lt Ext.lt1 Ext.lt2 Ext.lt3 Ext.all Ext.set_u drew_heap setCell_size Ext.set_size
namespace Sm
open Sl
/-- The mean: the sum by how many there are, rounded. -/
def mn (l : List Int) : Int := if (vk l 64).length = 0 then 0 else (2 * tot l + (vk l 64).length) / (2 * (vk l 64).length)
theorem ck_nil {l : List Int} (h : (vk l 64).length = 0) : ck l 64 = false := by
  unfold vk at h
  rw [List.length_map, List.length_eq_zero_iff] at h
  unfold ck; rw [h]; rfl
theorem tot_bd (l : List Int) : -((vk l 64).length * 288230376151711744) ≤ tot l ∧ tot l ≤ (vk l 64).length * 288230376151711744 := ws_bd1 _ (fun j => vk_bd l 64 j) _
theorem mid_math {T M N L0 H0 : Int} (hN : 1 ≤ N) (hN2 : N ≤ 64) (hM : M = T / (2 * N)) (h0 : -288230376151711744 ≤ L0) (h1 : L0 ≤ M) (h2 : M ≤ H0) (h3 : H0 ≤ 288230376151711744) (h4 : L0 < H0) :
    ∃ D m : Int, (H0 - L0).tdiv 2 = D ∧ H0 - D = m ∧ (0 ≤ D ∧ D ≤ 288230376151711744) ∧ (L0 < m ∧ m ≤ H0) ∧ ((m ≤ M ∧ cm (2 * N * m) T ≤ 0) ∨ (M ≤ m - 1 ∧ ¬ cm (2 * N * m) T ≤ 0)) := by
  refine ⟨(H0 - L0) / 2, _, by rw [Int.tdiv_eq_ediv_of_nonneg (by omega)], rfl, by omega, by omega, ?_⟩
  generalize H0 - (H0 - L0) / 2 = m
  have key : m ≤ M ↔ 2 * N * m ≤ T := by
    rw [hM, Int.le_ediv_iff_mul_le (by omega), Int.mul_comm m]
  have := Rt.cm_cases (2 * N * m) T
  by_cases g : m ≤ M
  · left; have := key.1 g; exact ⟨g, by omega⟩
  · right
    have : ¬ 2 * N * m ≤ T := fun h => g (key.2 h)
    exact ⟨by omega, by omega⟩
theorem mean_in {z T1 T : Int} {L : Nat} (h0 : 1 ≤ L) (e1 : z + z = T1) (e2 : T1 + L = T) (b0 : -(L * 288230376151711744) ≤ z) (b1 : z ≤ L * 288230376151711744) : -288230376151711744 ≤ (-288230376151711744 : Int) ∧ -288230376151711744 ≤ T / (2 * L) ∧ T / (2 * L) ≤ 288230376151711744 ∧ (288230376151711744 : Int) ≤ 288230376151711744 := by
  refine ⟨by omega, ?_, ?_, by omega⟩
  · rw [Int.le_ediv_iff_mul_le (by omega)]; omega
  · have : T / (2 * L) < 288230376151711744 + 1 := by
      apply Int.ediv_lt_of_lt_mul (by omega); omega
    omega
end Sm
end Go.Proofs.Ythogobmflinnpaa
