/- Samples as arguments. -/
import Derived.Test.YthdjldbieajebaaDoorAccR
import Derived.Test.YthdjldbieajebaaDoorSampleM2
import Derived.Deep.Strs
import Derived.Laws.IdiomArrays
namespace Go.Proofs.YthdjldbieajebaaDoor
open Go.ChangeShapes Go.WideShapes Go.ChangeAt Go.RowKit
set_option linter.unusedVariables false
namespace Sp
variable {H : Type} {enc' : TypeId × Value → H} {W : World} {base : Nat} {sp : Nat → Bool}
abbrev i64 (n : Int) : Prop := -9223372036854775808 ≤ n ∧ n ≤ 9223372036854775807
def Smp.ok (s : Smp) : Prop := i64 s.t ∧ i64 s.s ∧ i64 s.x ∧ i64 s.y ∧ i64 s.z
theorem cells_smp {cs : List Value} {fuel : Nat} {x : DataW H × List MemPlace} (h : DataW.trod enc' Tryd.prog W base sp true fuel 24 cs = some x) (hl : cs.length = 5) :
    ∃ t s a b c : Int, cs = [.int .i64 t, .int .i64 s, .int .i64 a, .int .i64 b, .int .i64 c] ∧ Smp.ok ⟨t, s, a, b, c⟩ := by
  match cs, hl with
  | [c0, c1, c2, c3, c4], _ =>
  obtain ⟨y0, y1, y2, m, -, -, h0, h1, h2⟩ := Go.Deep.trod_struct3 Tryd.underlying24 h
  have ci : Tryd.prog.cellsOf 3 = 1 := by kernel_rfl
  have ca : Tryd.prog.cellsOf 22 = 3 := by kernel_rfl
  simp only [ci, ca] at h0 h1 h2
  obtain ⟨t, e0, -, w0⟩ := DataW.trod_int Tryd.underlying3 h0
  obtain ⟨s, e1, -, w1⟩ := DataW.trod_int Tryd.underlying3 h1
  have h2' : DataW.trod enc' Tryd.prog W base sp true m 22 [c2, c3, c4] = some y2 := h2
  obtain ⟨z0, z1, z2, m2, -, g0, g1, g2⟩ := trod_array3 Tryd.underlying22 ci h2'
  obtain ⟨a, e2, -, w2⟩ := DataW.trod_int Tryd.underlying3 g0
  obtain ⟨b, e3, -, w3⟩ := DataW.trod_int Tryd.underlying3 g1
  obtain ⟨c, e4, -, w4⟩ := DataW.trod_int Tryd.underlying3 g2
  simp at e0 e1 e2 e3 e4
  subst e0 e1 e2 e3 e4
  exact ⟨t, s, a, b, c, rfl, Ce.i64_bd w0, Ce.i64_bd w1, Ce.i64_bd w2, Ce.i64_bd w3, Ce.i64_bd w4⟩
theorem open_smp {v : Value} {d : DataW H} {p : List MemPlace} {b0 : Nat} (hv : Value.okWide Tryd.prog W .any b0 24 v) (h : DataW.Trod enc' Tryd.prog W 0 (fun _ => true) true 24 v d p) :
    ∃ t s a b c : Int, v = .agg #[.int .i64 t, .int .i64 s, .int .i64 a, .int .i64 b, .int .i64 c] ∧ Smp.ok ⟨t, s, a, b, c⟩ := by
  obtain ⟨cs, rfl, hsz⟩ := okWide_struct Tryd.underlying24 hv
  have hc : Tryd.prog.cellsOf 24 = 5 := by kernel_rfl
  rw [hc] at hsz
  obtain ⟨fuel, hf⟩ := h
  obtain ⟨t, s, a, b, c, e, hok⟩ := cells_smp hf (by simpa [Value.cells] using hsz)
  refine ⟨t, s, a, b, c, ?_, hok⟩
  obtain ⟨l⟩ := cs
  simp only [Value.cells] at e
  subst e
  rfl
end Sp
end Go.Proofs.YthdjldbieajebaaDoor
