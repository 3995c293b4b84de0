/-
  No cell of these rows narrows 'for every input' (looked for: loops, veiled, ifaces, maps, wideKeys, modest, calm, conditions, laid).
  DERIVED. THE GIVEN ROWS OF THIS SEAT. 5 by the template 'for every input the law returns true; each argument reads behind the call as it read before'; 0 by the template 'total and deterministic' (their statements: YtpammdogkkipbaaTotals.lean).
  GIVEN WITH THE SEED: the statements are not yours to turn. If you find one false, say at which input.
  Laid BY PROGRAM, IN A SANDBOX (cutbox-rows.mjs): the forced cells as the released guide's own fill.sh prints them over the translation 3db3a7c9c58ae3ac… (all of the seat's roots in one cut). By AI agents, Wed Nov 11 2026. No macro, syntax, notation, axiom, sorry.
-/
import Derived.Test.YtpammdogkkipbaaChecked
import GoSem.Claim
import GoSem.ClaimJoined
import GoSem.ClaimMapViews
import Derived.JoinedTies
import Derived.KernelRfl
namespace Go.Proofs.Ytpammdogkkipbaa
/- THE CELL 'sum', in the pinned program and in every row, IS THE sha256 OF THE DUMP (.gsa) THAT YtpammdogkkipbaaProg.lean LOADS. Nothing in Lean hashes anything: it is a label: what it is worth is what the hold of that sum in a sandbox is worth. -/
noncomputable def Try.pinned : Pinned := { name := "ytpammdogkkipbaa", sum := "3db3a7c9c58ae3acc7d61310a9873d25b83d88b980dd8057b2f3db111ee14c21", checked := Try.checked }
namespace Rows
def none {H : Type} : Left H := { results := [], args := [] }

/-- 'outriggerlaw10.SolveIs': WHATEVER THE INPUT: true; the input reads as it did. -/
def solveIsSpec : ChangeSpec := { name := "solveIs", fn := fun _ => fun
  | [d1, d2] => { results := [.lit (.bool true)], args := [d1, d2] }
  | _ => none }
def solveIsRow : OpenClaim := { program := "ytpammdogkkipbaa", sum := "3db3a7c9c58ae3acc7d61310a9873d25b83d88b980dd8057b2f3db111ee14c21", func := "outrigger/outriggerlaw10.SolveIs", spec := "solveIs", unfollowed := true, recurses := true, named := ["math/bits.divideError", "math/bits.overflowError"], apart := false }
def SolveIsSaid : Prop := solveIsRow.holds Try.pinned (OpenSpec.ofChange solveIsSpec)

/-- ITS FALSE NEIGHBOUR: 'it returns false'. Refute it at one input. -/
def solveIsWrong : ChangeSpec := { name := "solveIs", fn := fun _ => fun
  | [d1, d2] => { results := [.lit (.bool false)], args := [d1, d2] }
  | _ => none }
def SolveIsWrongFalsely : Prop := solveIsRow.holds Try.pinned (OpenSpec.ofChange solveIsWrong)

/-- 'outriggerlaw10.SolveHalf': WHATEVER THE INPUT: true; the input reads as it did. -/
def solveHalfSpec : ChangeSpec := { name := "solveHalf", fn := fun _ => fun
  | [d1, d2, d3] => { results := [.lit (.bool true)], args := [d1, d2, d3] }
  | _ => none }
def solveHalfRow : OpenClaim := { program := "ytpammdogkkipbaa", sum := "3db3a7c9c58ae3acc7d61310a9873d25b83d88b980dd8057b2f3db111ee14c21", func := "outrigger/outriggerlaw10.SolveHalf", spec := "solveHalf", unfollowed := true, recurses := true, named := ["math/bits.divideError", "math/bits.overflowError"], apart := false }
def SolveHalfSaid : Prop := solveHalfRow.holds Try.pinned (OpenSpec.ofChange solveHalfSpec)

/-- ITS FALSE NEIGHBOUR: 'it returns false'. Refute it at one input. -/
def solveHalfWrong : ChangeSpec := { name := "solveHalf", fn := fun _ => fun
  | [d1, d2, d3] => { results := [.lit (.bool false)], args := [d1, d2, d3] }
  | _ => none }
def SolveHalfWrongFalsely : Prop := solveHalfRow.holds Try.pinned (OpenSpec.ofChange solveHalfWrong)

/-- 'outriggerlaw10.SolveAlone': WHATEVER THE INPUT: true; the input reads as it did. -/
def solveAloneSpec : ChangeSpec := { name := "solveAlone", fn := fun _ => fun
  | [d1, d2] => { results := [.lit (.bool true)], args := [d1, d2] }
  | _ => none }
def solveAloneRow : OpenClaim := { program := "ytpammdogkkipbaa", sum := "3db3a7c9c58ae3acc7d61310a9873d25b83d88b980dd8057b2f3db111ee14c21", func := "outrigger/outriggerlaw10.SolveAlone", spec := "solveAlone", unfollowed := true, recurses := true, named := ["math/bits.divideError", "math/bits.overflowError"], apart := false }
def SolveAloneSaid : Prop := solveAloneRow.holds Try.pinned (OpenSpec.ofChange solveAloneSpec)

/-- ITS FALSE NEIGHBOUR: 'it returns false'. Refute it at one input. -/
def solveAloneWrong : ChangeSpec := { name := "solveAlone", fn := fun _ => fun
  | [d1, d2] => { results := [.lit (.bool false)], args := [d1, d2] }
  | _ => none }
def SolveAloneWrongFalsely : Prop := solveAloneRow.holds Try.pinned (OpenSpec.ofChange solveAloneWrong)

/-- 'outriggerlaw10.SolveMade': WHATEVER THE INPUT: true; the input reads as it did. -/
def solveMadeSpec : ChangeSpec := { name := "solveMade", fn := fun _ => fun
  | [d] => { results := [.lit (.bool true)], args := [d] }
  | _ => none }
def solveMadeRow : OpenClaim := { program := "ytpammdogkkipbaa", sum := "3db3a7c9c58ae3acc7d61310a9873d25b83d88b980dd8057b2f3db111ee14c21", func := "outrigger/outriggerlaw10.SolveMade", spec := "solveMade", unfollowed := true, recurses := true, named := ["math/bits.divideError", "math/bits.overflowError"], apart := false }
def SolveMadeSaid : Prop := solveMadeRow.holds Try.pinned (OpenSpec.ofChange solveMadeSpec)

/-- ITS FALSE NEIGHBOUR: 'it returns false'. Refute it at one input. -/
def solveMadeWrong : ChangeSpec := { name := "solveMade", fn := fun _ => fun
  | [d] => { results := [.lit (.bool false)], args := [d] }
  | _ => none }
def SolveMadeWrongFalsely : Prop := solveMadeRow.holds Try.pinned (OpenSpec.ofChange solveMadeWrong)

/-- 'outriggerlaw10.SolveOne': WHATEVER THE INPUT: true; the input reads as it did. -/
def solveOneSpec : ChangeSpec := { name := "solveOne", fn := fun _ => fun
  | [d] => { results := [.lit (.bool true)], args := [d] }
  | _ => none }
def solveOneRow : OpenClaim := { program := "ytpammdogkkipbaa", sum := "3db3a7c9c58ae3acc7d61310a9873d25b83d88b980dd8057b2f3db111ee14c21", func := "outrigger/outriggerlaw10.SolveOne", spec := "solveOne", unfollowed := true, recurses := true, named := ["math/bits.divideError", "math/bits.overflowError"], apart := false }
def SolveOneSaid : Prop := solveOneRow.holds Try.pinned (OpenSpec.ofChange solveOneSpec)

/-- ITS FALSE NEIGHBOUR: 'it returns false'. Refute it at one input. -/
def solveOneWrong : ChangeSpec := { name := "solveOne", fn := fun _ => fun
  | [d] => { results := [.lit (.bool false)], args := [d] }
  | _ => none }
def SolveOneWrongFalsely : Prop := solveOneRow.holds Try.pinned (OpenSpec.ofChange solveOneWrong)

/- THE SECOND FORM. 'bulk': how many values and letters a reading holds, each counted each time it is reached (what is shared counts as often as it is met; a slice's spare places count too). A statement '..UptoSaid' is the law's where the arguments, and the package variables that the reading takes, are together of bulk at most 1048576: NARROWER than '..Said'. Prove '..Said' where nothing that the law and all that it calls make is longer than what came in: it says more and counts as full. Else prove '..UptoSaid'. A law counts once. -/
mutual
def uptoBulk {H : Type} : DataW H → Nat
  | .lit (.string bytes) => bytes.length + 1
  | .lit _ => 1
  | .nil => 1
  | .ptr d => uptoBulk d + 1
  | .slice elems spare => uptoBulkAll elems + uptoBulkAll spare + 1
  | .agg parts => uptoBulkAll parts + 1
  | .iface _ d => uptoBulk d + 1
  | .map entries => uptoBulkEntries entries + 1
  | .held _ => 1
def uptoBulkAll {H : Type} : List (DataW H) → Nat
  | [] => 0
  | d :: r => uptoBulk d + uptoBulkAll r
def uptoBulkEntries {H : Type} : List (Lit × DataW H) → Nat
  | [] => 0
  | x :: r => uptoBulkEntry x + uptoBulkEntries r
def uptoBulkEntry {H : Type} : Lit × DataW H → Nat
  | (.string bytes, d) => bytes.length + uptoBulk d + 1
  | (_, d) => uptoBulk d + 1
 end
def uptoSmall : (H : Type) → List (DataW H) → Bool := fun _ ds => decide (uptoBulkAll ds ≤ 1048576)
def OpenSpec.upto (s : _root_.Go.ChangeSpec) : _root_.Go.OpenSpec := { _root_.Go.OpenSpec.ofChange s with cond := some uptoSmall }

/-- 'outriggerlaw10.SolveIs', WHERE WHAT IT READS IS OF BULK AT MOST 1048576: true; the input reads as it did. -/
def solveIsUptoRow : OpenClaim := { program := "ytpammdogkkipbaa", sum := "3db3a7c9c58ae3acc7d61310a9873d25b83d88b980dd8057b2f3db111ee14c21", func := "outrigger/outriggerlaw10.SolveIs", spec := "solveIs", unfollowed := true, recurses := true, named := ["math/bits.divideError", "math/bits.overflowError"], apart := false, narrowed := true }
def SolveIsUptoSaid : Prop := solveIsUptoRow.holds Try.pinned (OpenSpec.upto solveIsSpec)

/-- 'outriggerlaw10.SolveHalf', WHERE WHAT IT READS IS OF BULK AT MOST 1048576: true; the input reads as it did. -/
def solveHalfUptoRow : OpenClaim := { program := "ytpammdogkkipbaa", sum := "3db3a7c9c58ae3acc7d61310a9873d25b83d88b980dd8057b2f3db111ee14c21", func := "outrigger/outriggerlaw10.SolveHalf", spec := "solveHalf", unfollowed := true, recurses := true, named := ["math/bits.divideError", "math/bits.overflowError"], apart := false, narrowed := true }
def SolveHalfUptoSaid : Prop := solveHalfUptoRow.holds Try.pinned (OpenSpec.upto solveHalfSpec)

/-- 'outriggerlaw10.SolveAlone', WHERE WHAT IT READS IS OF BULK AT MOST 1048576: true; the input reads as it did. -/
def solveAloneUptoRow : OpenClaim := { program := "ytpammdogkkipbaa", sum := "3db3a7c9c58ae3acc7d61310a9873d25b83d88b980dd8057b2f3db111ee14c21", func := "outrigger/outriggerlaw10.SolveAlone", spec := "solveAlone", unfollowed := true, recurses := true, named := ["math/bits.divideError", "math/bits.overflowError"], apart := false, narrowed := true }
def SolveAloneUptoSaid : Prop := solveAloneUptoRow.holds Try.pinned (OpenSpec.upto solveAloneSpec)

/-- 'outriggerlaw10.SolveMade', WHERE WHAT IT READS IS OF BULK AT MOST 1048576: true; the input reads as it did. -/
def solveMadeUptoRow : OpenClaim := { program := "ytpammdogkkipbaa", sum := "3db3a7c9c58ae3acc7d61310a9873d25b83d88b980dd8057b2f3db111ee14c21", func := "outrigger/outriggerlaw10.SolveMade", spec := "solveMade", unfollowed := true, recurses := true, named := ["math/bits.divideError", "math/bits.overflowError"], apart := false, narrowed := true }
def SolveMadeUptoSaid : Prop := solveMadeUptoRow.holds Try.pinned (OpenSpec.upto solveMadeSpec)

/-- 'outriggerlaw10.SolveOne', WHERE WHAT IT READS IS OF BULK AT MOST 1048576: true; the input reads as it did. -/
def solveOneUptoRow : OpenClaim := { program := "ytpammdogkkipbaa", sum := "3db3a7c9c58ae3acc7d61310a9873d25b83d88b980dd8057b2f3db111ee14c21", func := "outrigger/outriggerlaw10.SolveOne", spec := "solveOne", unfollowed := true, recurses := true, named := ["math/bits.divideError", "math/bits.overflowError"], apart := false, narrowed := true }
def SolveOneUptoSaid : Prop := solveOneUptoRow.holds Try.pinned (OpenSpec.upto solveOneSpec)

end Rows
end Go.Proofs.Ytpammdogkkipbaa
