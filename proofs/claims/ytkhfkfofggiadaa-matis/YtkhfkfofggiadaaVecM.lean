/- Three numbers together: what the calls answer, as plain functions. -/
import Derived.Test.YtkhfkfofggiadaaSumM2
import Derived.Test.YtkhfkfofggiadaaSumR
namespace Go.Proofs.Ytkhfkfofggiadaa
open Go.Proofs.Ytkhfkfofggiadaa.Fx Go.Proofs.Ytkhfkfofggiadaa.Wd Go.Proofs.Ytkhfkfofggiadaa.Sc Go.Proofs.Ytkhfkfofggiadaa.Rt Go.Proofs.Ytkhfkfofggiadaa.Sm
namespace Vc
open Sl
abbrev B64 (a : Int) : Prop := -9223372036854775808 ≤ a ∧ a ≤ 9223372036854775807
/-- The inner product, and whether something was clamped. -/
def dv (a b : List Int) : Int := cl (rn (dz a b))
def db (a b : List Int) : Bool := ck (a.take (kk a b)) 64 || ck (b.take (kk a b)) 64 || co (rn (dz a b))
/-- The length. -/
noncomputable def lv (a : List Int) : Int := sr (dp (vk a 64) (vk a 64))
def lb (a : List Int) : Bool := ck a 64 || ro (dp (vk a 64) (vk a 64))
/-- One number of an outer product. -/
def pv (p q r s : Int) : Int := dv [p, q] [r, -cl s]
def pb (p q r s : Int) : Bool := co s || db [p, q] [r, -cl s]
theorem gt3 {x y z : Int} (hx : B64 x) (hy : B64 y) (hz : B64 z) (j : Nat) : -9223372036854775808 ≤ gt [x, y, z] j ∧ gt [x, y, z] j ≤ 9223372036854775807 := by
  match j with
  | 0 => exact hx
  | 1 => exact hy
  | 2 => exact hz
  | j + 3 => simp [gt]
theorem gt2 {x y : Int} (hx : B64 x) (hy : B64 y) (j : Nat) : -9223372036854775808 ≤ gt [x, y] j ∧ gt [x, y] j ≤ 9223372036854775807 := by
  match j with
  | 0 => exact hx
  | 1 => exact hy
  | j + 2 => simp [gt]
theorem is3 {w : World} (B : Nat) (hB : w.heap.size = B) {x y z : Int} (hx : B64 x) (hy : B64 y) (hz : B64 z) : Is (w.alloc (.cells #[.int .i64 x, .int .i64 y, .int .i64 z] 3)) (some ⟨B, 0, none⟩) 3 [x, y, z] := by
  subst hB; exact of_cells [x, y, z] (gt3 hx hy hz) (by simp [maxLen]) _ rfl
theorem is2 {w : World} (B : Nat) (hB : w.heap.size = B) {x y : Int} (hx : B64 x) (hy : B64 y) : Is (w.alloc (.cells #[.int .i64 x, .int .i64 y] 3)) (some ⟨B, 0, none⟩) 2 [x, y] := by
  subst hB; exact of_cells [x, y] (gt2 hx hy) (by simp [maxLen]) _ rfl
end Vc
end Go.Proofs.Ytkhfkfofggiadaa
