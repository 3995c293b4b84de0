/- Lists of rows that come in. -/
import Derived.Test.YtpammdogkkipbaaMatS
import Derived.Test.YtpammdogkkipbaaSumM
import Derived.Deep.Matrix
namespace Go.Proofs.Ytpammdogkkipbaa
open Go.ChangeShapes Go.WideShapes Go.ChangeAt Go.RowKit
open Go.Proofs.Ytpammdogkkipbaa.Fx
/-- What the walk is told of a slice of slices of integers that came in. -/
def IsRows (w : World) (a : Option Addr) (len cap : Nat) : Prop :=
  (a = none ∧ len = 0 ∧ cap = 0) ∨
  ∃ (x : Addr) (A : Nat → Option Addr) (L C : Nat → Nat) (Z : Nat → List Int), a = some x ∧ len ≤ cap ∧ cap ≤ maxLen ∧ ∀ r, r < cap → w.cell? (x.add r) = some (.slice (A r) (L r) (C r)) ∧ L r ≤ C r ∧ C r ≤ maxLen ∧ (Z r).length = C r ∧ (∀ n ∈ Z r, (Lit.int .i64 n).wf = true) ∧ (A r = none → C r = 0) ∧ ∀ a', A r = some a' → ∀ c, c < C r → w.cell? (a'.add c) = some (.int .i64 ((Z r).getD c 0))
namespace Sl
theorem of_rows {w : World} {a : Option Addr} {n c : Nat} (h : IsRows w a n c) : ∃ L : List (List Int), L.length = n ∧ Rs w a c L := by
  rcases h with ⟨rfl, rfl, rfl⟩ | ⟨x, A, Lf, C, Z, rfl, h1, h2, h3⟩
  · exact ⟨[], rfl, by simp, by simp [maxLen], fun _ => rfl, fun j hj => by simp at hj⟩
  · refine ⟨(List.range n).map (fun r => (Z r).take (Lf r)), by simp, by simpa using h1, h2, fun e => (by cases e), fun j hj => ?_⟩
    simp only [List.length_map, List.length_range] at hj ⊢
    have h0 := (h3 0 (by omega)).1
    rw [Addr.add, if_pos rfl] at h0
    obtain ⟨s1, s2⟩ := spot_none h0
    obtain ⟨b, o, s⟩ := x
    simp only at s1 s2
    subst s1
    refine ⟨b, o, rfl, s2, fun i hi => ?_⟩
    obtain ⟨g1, g2, g3, g4, g5, g6, g7⟩ := h3 i (by omega)
    have er : rw' ((List.range n).map (fun r => (Z r).take (Lf r))) i = (Z i).take (Lf i) := by
      unfold rw'
      rw [List.getD_eq_getElem?_getD, List.getElem?_map, List.getElem?_range hi]; rfl
    have hl : ((Z i).take (Lf i)).length = Lf i := by rw [List.length_take]; omega
    have hrow : IsRow .i64 w (A i) (Lf i) (C i) (Z i) := by
      cases hA : A i with
      | none =>
        have hC := g6 hA
        exact .inl ⟨rfl, by omega, hC, by rw [← List.length_eq_zero_iff]; omega⟩
      | some a' => exact .inr ⟨a', rfl, g2, g3, g4, fun q hq => g7 a' hA q (by omega), g5⟩
    refine ⟨A i, C i, ?_, ?_⟩
    · rw [er, hl]
      rw [show (⟨b, o + i, none⟩ : Addr) = (⟨b, o, none⟩ : Addr).add i by unfold Addr.add; split <;> simp_all]
      exact g1
    · rw [er]
      rcases hrow with ⟨e1, e2, e3, e4⟩ | ⟨x, e1, e2, e3, e4, e5, e6⟩
      · rw [e1, e3, e4]
        exact ⟨by simp, by simp [maxLen], fun _ => rfl, fun j hj => by simp at hj, fun j => by simp [gt]⟩
      · refine ⟨by omega, e3, fun e => (by rw [e1] at e; cases e), fun j hj => ?_, fun j => ?_⟩
        · rw [hl] at hj ⊢
          have k0 := e5 0 (by omega)
          rw [Addr.add, if_pos rfl] at k0
          obtain ⟨t1, t2⟩ := spot_none k0
          obtain ⟨b', o', s'⟩ := x
          simp only at t1 t2
          subst t1
          refine ⟨b', o', e1, t2, fun q hq => ?_⟩
          have := e5 q (by omega)
          rw [gt_take, if_pos (by omega)]
          rw [show (⟨b', o' + q, none⟩ : Addr) = (⟨b', o', none⟩ : Addr).add q by unfold Addr.add; split <;> simp_all]
          exact this
        · rw [gt_take]
          split
          · unfold gt
            by_cases g : j < (Z i).length
            · rw [List.getD_eq_getElem?_getD, List.getElem?_eq_getElem g]
              exact Fx.bd (e6 _ (List.getElem_mem g))
            · rw [List.getD_eq_getElem?_getD, List.getElem?_eq_none (by omega)]
              simp
          · omega
end Sl
end Go.Proofs.Ytpammdogkkipbaa
