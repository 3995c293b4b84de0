/- Three and four numbers compared. -/
import Derived.Test.YtmhdpjdkcjdipaaMemC
namespace Go.Proofs.Ytmhdpjdkcjdipaa
open Go.ChangeShapes Go.WideShapes Go.ChangeAt Go.RowKit
set_option linter.unusedVariables false
set_option linter.unusedSimpArgs false
namespace Qa
def e3 (a b c d e f : Int) : Bool := decide (a = d ∧ b = e ∧ c = f)
theorem e3_self (a b c : Int) : e3 a b c a b c = true := by simp [e3]
def e4 (a b c d e f g h : Int) : Bool := decide (a = e ∧ b = f ∧ c = g ∧ d = h)
theorem e4_self (a b c d : Int) : e4 a b c d a b c d = true := by simp [e4]
theorem sizeI (w : World) : (Go.sizeOf 3).run Try.prog w = .ok 1 w := by
  have h : (Try.prog.info? 3).map (·.size) = some 1 := by kernel_rfl
  cases hq : Try.prog.info? 3 with
  | none => simp [hq] at h
  | some i => have : i.size = 1 := by simpa [hq] using h
              simp [Go.sizeOf, typeInfo, hq, this]
theorem eqI (x y : Int) (W : World) : (Op.equalIn 9999 3 (.int .i64 x) (.int .i64 y)).run Try.prog W = .ok (x == y) W := run_equalIn_int W 9998 3 .i64 .i64 x y Try.underlying3
theorem eq_3 (a b c d e f : Int) (w : World) : (Op.equalIn 10000 23 (.agg #[.int .i64 a, .int .i64 b, .int .i64 c]) (.agg #[.int .i64 d, .int .i64 e, .int .i64 f])).run Try.prog w = .ok (e3 a b c d e f) w := by
  have p0 : ∀ (x y z : Int) (W : World), (part 3 #[.int .i64 x, .int .i64 y, .int .i64 z] 0).run Try.prog W = .ok (.int .i64 x) W := fun x y z W => by simp [go_sem]
  have p1 : ∀ (x y z : Int) (W : World), (part 3 #[.int .i64 x, .int .i64 y, .int .i64 z] 1).run Try.prog W = .ok (.int .i64 y) W := fun x y z W => by simp [go_sem]
  have p2 : ∀ (x y z : Int) (W : World), (part 3 #[.int .i64 x, .int .i64 y, .int .i64 z] 2).run Try.prog W = .ok (.int .i64 z) W := fun x y z W => by simp [go_sem]
  unfold Op.equalIn
  by_cases h : a = d
  · by_cases k : b = e
    · by_cases m : c = f <;> simp [run_underlying Try.underlying23, Sem.run_bind, sizeI, List.range', eqI, p0, p1, p2, e3, h, k, m]
    · simp [run_underlying Try.underlying23, Sem.run_bind, sizeI, List.range', eqI, p0, p1, p2, e3, h, k]
  · simp [run_underlying Try.underlying23, Sem.run_bind, sizeI, List.range', eqI, p0, p1, p2, e3, h]
theorem eq_4 (a b c d e f g h : Int) (w : World) : (Op.equalIn 10000 22 (.agg #[.int .i64 a, .int .i64 b, .int .i64 c, .int .i64 d]) (.agg #[.int .i64 e, .int .i64 f, .int .i64 g, .int .i64 h])).run Try.prog w = .ok (e4 a b c d e f g h) w := by
  have p0 : ∀ (x y z t : Int) (W : World), (part 3 #[.int .i64 x, .int .i64 y, .int .i64 z, .int .i64 t] 0).run Try.prog W = .ok (.int .i64 x) W := fun x y z t W => by simp [go_sem]
  have p1 : ∀ (x y z t : Int) (W : World), (part 3 #[.int .i64 x, .int .i64 y, .int .i64 z, .int .i64 t] 1).run Try.prog W = .ok (.int .i64 y) W := fun x y z t W => by simp [go_sem]
  have p2 : ∀ (x y z t : Int) (W : World), (part 3 #[.int .i64 x, .int .i64 y, .int .i64 z, .int .i64 t] 2).run Try.prog W = .ok (.int .i64 z) W := fun x y z t W => by simp [go_sem]
  have p3 : ∀ (x y z t : Int) (W : World), (part 3 #[.int .i64 x, .int .i64 y, .int .i64 z, .int .i64 t] 3).run Try.prog W = .ok (.int .i64 t) W := fun x y z t W => by simp [go_sem]
  unfold Op.equalIn
  by_cases q1 : a = e
  · by_cases q2 : b = f
    · by_cases q3 : c = g
      · by_cases q4 : d = h <;> simp [run_underlying Try.underlying22, Sem.run_bind, sizeI, List.range', eqI, p0, p1, p2, p3, e4, q1, q2, q3, q4]
      · simp [run_underlying Try.underlying22, Sem.run_bind, sizeI, List.range', eqI, p0, p1, p2, p3, e4, q1, q2, q3]
    · simp [run_underlying Try.underlying22, Sem.run_bind, sizeI, List.range', eqI, p0, p1, p2, p3, e4, q1, q2]
  · simp [run_underlying Try.underlying22, Sem.run_bind, sizeI, List.range', eqI, p0, p1, p2, p3, e4, q1]
end Qa
end Go.Proofs.Ytmhdpjdkcjdipaa
