/- Four numbers in memory; turns whose numbers are ints. -/
import Derived.Test.YtmhdpjdkcjdipaaQuatM
namespace Go.Proofs.Ytmhdpjdkcjdipaa
open Go.ChangeShapes Go.WideShapes Go.ChangeAt Go.RowKit
open Go.Proofs.Ytmhdpjdkcjdipaa.Fx Go.Proofs.Ytmhdpjdkcjdipaa.Vc
namespace Qa
open Sl
/-- Its numbers are ints. -/
def W64 (q : Q) : Prop := B64 q.w ∧ B64 q.x ∧ B64 q.y ∧ B64 q.z
theorem gt4 {a b c d : Int} (ha : B64 a) (hb : B64 b) (hc : B64 c) (hd : B64 d) (j : Nat) : -9223372036854775808 ≤ gt [a, b, c, d] j ∧ gt [a, b, c, d] j ≤ 9223372036854775807 := by
  match j with
  | 0 => exact ha
  | 1 => exact hb
  | 2 => exact hc
  | 3 => exact hd
  | j + 4 => simp [gt]
theorem is4 {w : World} (B : Nat) (hB : w.heap.size = B) {a b c d : Int} (ha : B64 a) (hb : B64 b) (hc : B64 c) (hd : B64 d) : Is (w.alloc (.cells #[.int .i64 a, .int .i64 b, .int .i64 c, .int .i64 d] 3)) (some ⟨B, 0, none⟩) 4 [a, b, c, d] := by
  subst hB; exact of_cells [a, b, c, d] (gt4 ha hb hc hd) (by simp [maxLen]) _ rfl
/-- Four numbers in cells of their own, wherever they lie. -/
theorem is4_cells {w : World} {B o : Nat} (hB : B < w.heap.size) {a b c d : Int} (h0 : w.cell? ⟨B, o, none⟩ = some (.int .i64 a)) (h1 : w.cell? ⟨B, o + 1, none⟩ = some (.int .i64 b)) (h2 : w.cell? ⟨B, o + 2, none⟩ = some (.int .i64 c)) (h3 : w.cell? ⟨B, o + 3, none⟩ = some (.int .i64 d)) (ha : B64 a) (hb : B64 b) (hc : B64 c) (hd : B64 d) : Is w (some ⟨B, o, none⟩) 4 [a, b, c, d] :=
  ⟨by simp, by simp [maxLen], fun h => (by cases h), fun j hj => ⟨B, o, rfl, hB, fun i hi => by
    match i, hi with
    | 0, _ => exact h0
    | 1, _ => exact h1
    | 2, _ => exact h2
    | 3, _ => exact h3
    | i + 4, hi => exact absurd hi (by simp)⟩, gt4 ha hb hc hd⟩
theorem neg_b64 (a : Int) : B64 (-cl a) := by have := cl_bd a; exact ⟨by omega, by omega⟩
theorem cl_b64 (a : Int) : B64 (cl a) := by have := cl_bd a; exact ⟨by omega, by omega⟩
theorem back_w64 (q : Q) : W64 (back q) := ⟨cl_b64 _, neg_b64 _, neg_b64 _, neg_b64 _⟩
theorem mul_w64 (p q : Q) : W64 (mul p q) := ⟨cl_b64 _, cl_b64 _, cl_b64 _, cl_b64 _⟩
end Qa
end Go.Proofs.Ytmhdpjdkcjdipaa
