/- The contracts of the document's own answers of layer 6. -/
import Derived.Test.YtpammdogkkipbaaSumS
import Derived.Test.YtpammdogkkipbaaRefC6
import Derived.Test.YtpammdogkkipbaaRefC9
namespace Go.Proofs.Ytpammdogkkipbaa
open Go.ChangeShapes Go.WideShapes Go.ChangeAt Go.RowKit
open Go.Proofs.Ytpammdogkkipbaa.Fx Go.Proofs.Ytpammdogkkipbaa.Wd
set_option linter.unusedVariables false
attribute [local go_sem] Ext.cell Ext.froz Ext.lt Ext.lt1 Ext.lt2 Ext.lt3 Ext.all Ext.set_u drew_heap setCell_size Ext.set_size
namespace Sm
open Sl
theorem infoI : (Try.prog.info? 3).map (fun i => (i.zero, i.size, i.bytes)) = some (some (.int .i64 0), 1, 8) := by kernel_rfl
theorem cell_one (w : World) (v : Value) : ∀ j u, [v][j]? = some u → (w.alloc (.cells #[v] 3)).cell? ((⟨w.heap.size, 0, none⟩ : Addr).add j) = some u := by
  intro j u hj
  match j, hj with
  | 0, hj => simp at hj; subst hj; simp [Addr.add]
theorem one_cell (z : Int) : ∀ u ∈ [Value.int .i64 z], u.oneCell' = true := by
  intro u hu; simp at hu; subst hu; rfl
theorem ml_bd (a b : Int) : -83076749736557242056487941267521536 ≤ ml a b ∧ ml a b ≤ 83076749736557242056487941267521536 := by
  have h := mul_le' (ab_bd a).1 (ab_bd a).2 (ab_bd b).1 (ab_bd b).2
  unfold ml
  by_cases ha : a < 0 <;> by_cases hb : b < 0
  · rw [ab_neg ha, ab_neg hb, Int.neg_mul_neg]; omega
  · rw [ab_neg ha, ab_pos hb, Int.neg_mul]; omega
  · rw [ab_pos ha, ab_neg hb, Int.mul_neg]; omega
  · rw [ab_pos ha, ab_pos hb]; omega
theorem mr_set2 {V V' W : World} (X : Ext W) {a b : Addr} {p q : Value} (h : Mr V X.u) (e : (V.setCell a p).setCell b q = V') : Mr V' ((X.set a p).set b q).u := by
  rw [← e]; exact (h.both a p).both b q
/-- The sum of the products of two lists, as many as the shorter one has. -/
def dp (l m : List Int) : Int := ws (fun j => ml (gt l j) (gt m j)) (min l.length m.length)
theorem ws_inr (l m : List Int) {k : Nat} (hk : k ≤ 64) : inr (ws (fun j => ml (gt l j) (gt m j)) k) = true := by
  have := ws_bd (fun j => ml (gt l j) (gt m j)) (fun j => ml_bd _ _) k
  rw [inr_iff]; omega
/-- The sum of a list. -/
def tot (l : List Int) : Int := ws (gt (vk l 64)) (vk l 64).length
theorem vk_64 (l : List Int) : (vk l 64).length ≤ 64 := by unfold vk; rw [List.length_map, List.length_take]; omega
theorem ws_bd1 (f : Nat → Int) (h : ∀ j, -288230376151711744 ≤ f j ∧ f j ≤ 288230376151711744) (k : Nat) : -(k * 288230376151711744) ≤ ws f k ∧ ws f k ≤ k * 288230376151711744 := by
  induction k with
  | zero => simp [ws]
  | succ k ih => have := h k; simp only [ws]; omega
theorem tot_inr (l : List Int) {k : Nat} (hk : k ≤ 64) : inr (ws (gt (vk l 64)) k) = true := by
  have := ws_bd1 (gt (vk l 64)) (fun j => vk_bd l 64 j) k
  rw [inr_iff]; omega
end Sm
end Go.Proofs.Ytpammdogkkipbaa
/- The contracts of the document's own answers of layer 6, second part. -/
namespace Go.Proofs.Ytpammdogkkipbaa
open Go.ChangeShapes Go.WideShapes Go.ChangeAt Go.RowKit
open Go.Proofs.Ytpammdogkkipbaa.Fx Go.Proofs.Ytpammdogkkipbaa.Wd Go.Proofs.Ytpammdogkkipbaa.Sc Go.Proofs.Ytpammdogkkipbaa.Rt
set_option linter.unusedVariables false
attribute [local go_sem] Ext.cell Ext.froz Ext.lt Ext.lt1 Ext.lt2 Ext.lt3 Ext.all Ext.set_u drew_heap setCell_size Ext.set_size
namespace Sm
open Sl
theorem dp_inr (l m : List Int) (h : l.length ≤ 64) : inr (dp l m) = true := ws_inr l m (by omega)
/-- As many of both as the shorter one has. -/
def kk (l m : List Int) : Nat := min l.length m.length
def dz (l m : List Int) : Int := dp (vk (l.take (kk l m)) 64) (vk (m.take (kk l m)) 64)
end Sm
end Go.Proofs.Ytpammdogkkipbaa
/- The contracts of the document's own answers of layer 6, third part: the mean. -/
namespace Go.Proofs.Ytpammdogkkipbaa
open Go.ChangeShapes Go.WideShapes Go.ChangeAt Go.RowKit
open Go.Proofs.Ytpammdogkkipbaa.Fx Go.Proofs.Ytpammdogkkipbaa.Wd
set_option linter.unusedVariables false
attribute [local go_sem] Ext.cell Ext.froz Ext.lt Ext.lt1 Ext.lt2 Ext.lt3 Ext.all Ext.set_u drew_heap setCell_size Ext.set_size
namespace Sm
open Sl
/-- The mean: the sum by how many there are, rounded. -/
def mn (l : List Int) : Int := if (vk l 64).length = 0 then 0 else (2 * tot l + (vk l 64).length) / (2 * (vk l 64).length)
theorem ck_nil {l : List Int} (h : (vk l 64).length = 0) : ck l 64 = false := by
  unfold vk at h
  rw [List.length_map, List.length_eq_zero_iff] at h
  unfold ck; rw [h]; rfl
theorem tot_bd (l : List Int) : -((vk l 64).length * 288230376151711744) ≤ tot l ∧ tot l ≤ (vk l 64).length * 288230376151711744 := ws_bd1 _ (fun j => vk_bd l 64 j) _
theorem mid_math {T M N L0 H0 : Int} (hN : 1 ≤ N) (hN2 : N ≤ 64) (hM : M = T / (2 * N)) (h0 : -288230376151711744 ≤ L0) (h1 : L0 ≤ M) (h2 : M ≤ H0) (h3 : H0 ≤ 288230376151711744) (h4 : L0 < H0) :
    ∃ D m : Int, (H0 - L0).tdiv 2 = D ∧ H0 - D = m ∧ (0 ≤ D ∧ D ≤ 288230376151711744) ∧ (L0 < m ∧ m ≤ H0) ∧ ((m ≤ M ∧ cm (2 * N * m) T ≤ 0) ∨ (M ≤ m - 1 ∧ ¬ cm (2 * N * m) T ≤ 0)) := by
  refine ⟨(H0 - L0) / 2, _, by rw [Int.tdiv_eq_ediv_of_nonneg (by omega)], rfl, by omega, by omega, ?_⟩
  generalize H0 - (H0 - L0) / 2 = m
  have key : m ≤ M ↔ 2 * N * m ≤ T := by
    rw [hM, Int.le_ediv_iff_mul_le (by omega), Int.mul_comm m]
  have := Rt.cm_cases (2 * N * m) T
  by_cases g : m ≤ M
  · left; have := key.1 g; exact ⟨g, by omega⟩
  · right
    have : ¬ 2 * N * m ≤ T := fun h => g (key.2 h)
    exact ⟨by omega, by omega⟩
theorem mean_in {z T1 T : Int} {L : Nat} (h0 : 1 ≤ L) (e1 : z + z = T1) (e2 : T1 + L = T) (b0 : -(L * 288230376151711744) ≤ z) (b1 : z ≤ L * 288230376151711744) : -288230376151711744 ≤ (-288230376151711744 : Int) ∧ -288230376151711744 ≤ T / (2 * L) ∧ T / (2 * L) ≤ 288230376151711744 ∧ (288230376151711744 : Int) ≤ 288230376151711744 := by
  refine ⟨by omega, ?_, ?_, by omega⟩
  · rw [Int.le_ediv_iff_mul_le (by omega)]; omega
  · have : T / (2 * L) < 288230376151711744 + 1 := by
      apply Int.ediv_lt_of_lt_mul (by omega); omega
    omega
end Sm
end Go.Proofs.Ytpammdogkkipbaa
