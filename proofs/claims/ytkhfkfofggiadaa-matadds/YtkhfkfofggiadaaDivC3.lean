/- The contract of math/bits.Div64: both ways. -/
import Derived.Test.YtkhfkfofggiadaaDivC2
import Derived.RegionTactic
namespace Go.Proofs.Ytkhfkfofggiadaa
open Go.ChangeShapes Go.WideShapes Go.ChangeAt Go.RowKit
open Go.Proofs.Ytkhfkfofggiadaa.Wd
set_option linter.unusedVariables false
namespace Dv
set_option maxHeartbeats 1000000 in
theorem div64_0 (l y : Int) (w : World) (hl0 : 0 ≤ l) (hl : l < 18446744073709551616) (hy : 0 < y) (hy1 : y < 18446744073709551616) :
    Calls Try.prog 96 #[.int .u64 0, .int .u64 l, .int .u64 y] w fun e w' => e = .returned (.tuple #[.int .u64 (l / y), .int .u64 (l % y)]) ∧ ∃ x : Ext w, w' = x.u := by
  have q0 : 0 ≤ l / y := Int.ediv_nonneg hl0 (by omega)
  have q1 : l / y ≤ l := Int.ediv_le_self _ hl0
  have r0 : 0 ≤ l % y := Int.emod_nonneg _ (by omega)
  have r1 : l % y < y := Int.emod_lt_of_pos _ hy
  have n0 : (y == 0) = false := by simp; omega
  go_enter Try.func96, Try.ntmps96
  go_wp2
  go_region


  go_wp2
  go_ret2
  exact ⟨ret_uu rfl rfl, Mr.mk' (Mr.refl w).drew⟩
/-- Both ways: the quotient of a word turned up by 2^32, by a greater one. -/
theorem div_c (a y : Int) (w : World) (h0 : 0 ≤ a) (hy : a < y) (hy1 : y < 18446744073709551616) :
    Calls Try.prog 96 #[.int .u64 (a / 4294967296), .int .u64 (IntKind.u64.wrap (a * 4294967296)), .int .u64 y] w fun e w' => e = .returned (.tuple #[.int .u64 (a * 4294967296 / y), .int .u64 (a * 4294967296 % y)]) ∧ ∃ x : Ext w, w' = x.u := by
  rw [IntKind.wrap_u64]
  by_cases h : a / 4294967296 = 0
  · have e : a * 4294967296 % 18446744073709551616 = a * 4294967296 := by omega
    rw [h, e]
    exact div64_0 _ _ _ (by omega) (by omega) (by omega) hy1
  · have e : a / 4294967296 * 18446744073709551616 + a * 4294967296 % 18446744073709551616 = a * 4294967296 := by omega
    have c := div64_c (a / 4294967296) (a * 4294967296 % 18446744073709551616) y w (by omega) (by omega) (by omega) (by omega) hy1
    rw [e] at c
    exact c.mono fun _ _ ⟨he, hw⟩ => ⟨he, ⟨w, Mr.refl w⟩, hw⟩
end Dv
end Go.Proofs.Ytkhfkfofggiadaa
