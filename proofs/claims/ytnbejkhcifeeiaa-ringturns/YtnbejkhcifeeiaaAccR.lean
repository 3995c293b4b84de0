/- Accesses, and lists of them, as arguments. -/
import Derived.Test.YtnbejkhcifeeiaaLvR
import Derived.Test.YtnbejkhcifeeiaaCellM
import Derived.Lib.SmallJoins
namespace Go.Proofs.Ytnbejkhcifeeiaa
open Go.ChangeShapes Go.WideShapes Go.ChangeAt Go.RowKit
set_option linter.unusedVariables false
namespace Ce
variable {H : Type} {enc' : TypeId × Value → H} {W : World} {base : Nat} {sp : Nat → Bool}
theorem i64_bd {a : Int} (w0 : (Lit.int .i64 a).wf = true) : -9223372036854775808 ≤ a ∧ a ≤ 9223372036854775807 := by
  have hm : IntKind.i64.min = -9223372036854775808 := by decide
  have hx : IntKind.i64.max = 9223372036854775807 := by decide
  simp only [Lit.wf, Bool.and_eq_true, decide_eq_true_eq, hm, hx] at w0
  exact w0
theorem cells_acc {cs : List Value} {fuel : Nat} {x : DataW H × List MemPlace} (h : DataW.trod enc' Try.prog W base sp true fuel 66 cs = some x) (hl : cs.length = 4) :
    ∃ k i a b : Int, cs = [.int .i64 k, .int .i64 i, .int .u64 a, .int .u64 b] ∧ Acc.ok ⟨k, i, a, b⟩ := by
  match cs, hl with
  | [c0, c1, c2, c3], _ =>
  obtain ⟨y0, y1, y2, y3, m, -, -, h0, h1, h2, h3⟩ := Go.Joins.trod_struct4 Try.underlying66 h
  have ci : Try.prog.cellsOf 3 = 1 := by kernel_rfl
  have cu : Try.prog.cellsOf 24 = 1 := by kernel_rfl
  simp only [ci, cu] at h0 h1 h2 h3
  obtain ⟨k, e0, -, w0⟩ := DataW.trod_int Try.underlying3 h0
  obtain ⟨i, e1, -, w1⟩ := DataW.trod_int Try.underlying3 h1
  obtain ⟨a, e2, -, w2⟩ := DataW.trod_int Try.underlying24 h2
  obtain ⟨b, e3, -, w3⟩ := DataW.trod_int Try.underlying24 h3
  simp at e0 e1 e2 e3
  subst e0 e1 e2 e3
  exact ⟨k, i, a, b, rfl, i64_bd w0, i64_bd w1, Wl.bd w2, Wl.bd w3⟩
instance : Inhabited Acc := ⟨⟨0, 0, 0, 0⟩⟩
theorem open_accs {a : Option Addr} {n c : Nat} {d : DataW H} {p : List MemPlace} (h : DataW.Trod enc' Try.prog W 0 (fun _ => true) true 78 (.slice a n c) d p) : ∃ l : List Acc, l.length = n ∧ Accs W a c l := by
  obtain ⟨l, h1, h2, h3⟩ := Lv.of_trod (s := 4) (enc := Acc.enc) (ok := Acc.ok) Try.underlying78 (by kernel_rfl) (by omega) (fun cs fuel x hf hl => by
    obtain ⟨k, i, a, b, rfl, hok⟩ := cells_acc hf hl
    refine ⟨⟨k, i, a, b⟩, hok, fun t ht => ?_⟩
    match t, ht with
    | 0, _ => rfl
    | 1, _ => rfl
    | 2, _ => rfl
    | 3, _ => rfl) h
  exact ⟨l, h1, h2, h3⟩
theorem open_acc {v : Value} {d : DataW H} {p : List MemPlace} {b0 : Nat} (hv : Value.okWide Try.prog W .any b0 66 v) (h : DataW.Trod enc' Try.prog W 0 (fun _ => true) true 66 v d p) :
    ∃ k i a b : Int, v = .agg #[.int .i64 k, .int .i64 i, .int .u64 a, .int .u64 b] ∧ Acc.ok ⟨k, i, a, b⟩ := by
  obtain ⟨cs, rfl, hsz⟩ := okWide_struct Try.underlying66 hv
  have hc : Try.prog.cellsOf 66 = 4 := by kernel_rfl
  rw [hc] at hsz
  obtain ⟨fuel, hf⟩ := h
  obtain ⟨k, i, a, b, e, hok⟩ := cells_acc hf (by simpa [Value.cells] using hsz)
  refine ⟨k, i, a, b, ?_, hok⟩
  obtain ⟨l⟩ := cs
  simp only [Value.cells] at e
  subst e
  rfl
end Ce
end Go.Proofs.Ytnbejkhcifeeiaa
