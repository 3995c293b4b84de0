/-
  No cell of these rows narrows 'for every input' (looked for: loops, veiled, ifaces, maps, wideKeys, modest, calm, conditions, laid).
  DERIVED. THE GIVEN ROWS OF THIS SEAT. 6 by the template 'for every input the law returns true; each argument reads behind the call as it read before'; 0 by the template 'total and deterministic' (their statements: YteomkfgkhmdehaaTotals.lean).
  GIVEN WITH THE SEED: the statements are not yours to turn. If you find one false, say at which input.
  Laid BY PROGRAM, IN A SANDBOX (cutbox-rows.mjs): the forced cells as the released guide's own fill.sh prints them over the translation 5115586320387f0f… (all of the seat's roots in one cut). By AI agents, Wed Nov 11 2026. No macro, syntax, notation, axiom, sorry.
-/
import Derived.Test.YteomkfgkhmdehaaChecked
import GoSem.Claim
import GoSem.ClaimJoined
import GoSem.ClaimMapViews
import Derived.JoinedTies
import Derived.KernelRfl
namespace Go.Proofs.Yteomkfgkhmdehaa
/- THE CELL 'sum', in the pinned program and in every row, IS THE sha256 OF THE DUMP (.gsa) THAT YteomkfgkhmdehaaProg.lean LOADS. Nothing in Lean hashes anything: it is a label: what it is worth is what the hold of that sum in a sandbox is worth. -/
noncomputable def Try.pinned : Pinned := { name := "yteomkfgkhmdehaa", sum := "5115586320387f0f1cc63b8a2ed5714d645d0fac6fa4b53f64ec36e9f5d4a401", checked := Try.checked }
namespace Rows
def none {H : Type} : Left H := { results := [], args := [] }

/-- 'outriggerlaw12.TaskIs': WHATEVER THE INPUT: true; the input reads as it did. -/
def taskIsSpec : ChangeSpec := { name := "taskIs", fn := fun _ => fun
  | [d1, d2, d3, d4, d5] => { results := [.lit (.bool true)], args := [d1, d2, d3, d4, d5] }
  | _ => none }
def taskIsRow : OpenClaim := { program := "yteomkfgkhmdehaa", sum := "5115586320387f0f1cc63b8a2ed5714d645d0fac6fa4b53f64ec36e9f5d4a401", func := "outrigger/outriggerlaw12.TaskIs", spec := "taskIs", unfollowed := true, recurses := true, apart := false }
def TaskIsSaid : Prop := taskIsRow.holds Try.pinned (OpenSpec.ofChange taskIsSpec)

/-- ITS FALSE NEIGHBOUR: 'it returns false'. Refute it at one input. -/
def taskIsWrong : ChangeSpec := { name := "taskIs", fn := fun _ => fun
  | [d1, d2, d3, d4, d5] => { results := [.lit (.bool false)], args := [d1, d2, d3, d4, d5] }
  | _ => none }
def TaskIsWrongFalsely : Prop := taskIsRow.holds Try.pinned (OpenSpec.ofChange taskIsWrong)

/-- 'outriggerlaw12.TaskOne': WHATEVER THE INPUT: true; the input reads as it did. -/
def taskOneSpec : ChangeSpec := { name := "taskOne", fn := fun _ => fun
  | [d1, d2] => { results := [.lit (.bool true)], args := [d1, d2] }
  | _ => none }
def taskOneRow : OpenClaim := { program := "yteomkfgkhmdehaa", sum := "5115586320387f0f1cc63b8a2ed5714d645d0fac6fa4b53f64ec36e9f5d4a401", func := "outrigger/outriggerlaw12.TaskOne", spec := "taskOne", unfollowed := true, recurses := true, apart := false }
def TaskOneSaid : Prop := taskOneRow.holds Try.pinned (OpenSpec.ofChange taskOneSpec)

/-- ITS FALSE NEIGHBOUR: 'it returns false'. Refute it at one input. -/
def taskOneWrong : ChangeSpec := { name := "taskOne", fn := fun _ => fun
  | [d1, d2] => { results := [.lit (.bool false)], args := [d1, d2] }
  | _ => none }
def TaskOneWrongFalsely : Prop := taskOneRow.holds Try.pinned (OpenSpec.ofChange taskOneWrong)

/-- 'outriggerlaw12.TaskEnds': WHATEVER THE INPUT: true; the input reads as it did. -/
def taskEndsSpec : ChangeSpec := { name := "taskEnds", fn := fun _ => fun
  | [d1, d2] => { results := [.lit (.bool true)], args := [d1, d2] }
  | _ => none }
def taskEndsRow : OpenClaim := { program := "yteomkfgkhmdehaa", sum := "5115586320387f0f1cc63b8a2ed5714d645d0fac6fa4b53f64ec36e9f5d4a401", func := "outrigger/outriggerlaw12.TaskEnds", spec := "taskEnds", unfollowed := true, recurses := true, apart := false }
def TaskEndsSaid : Prop := taskEndsRow.holds Try.pinned (OpenSpec.ofChange taskEndsSpec)

/-- ITS FALSE NEIGHBOUR: 'it returns false'. Refute it at one input. -/
def taskEndsWrong : ChangeSpec := { name := "taskEnds", fn := fun _ => fun
  | [d1, d2] => { results := [.lit (.bool false)], args := [d1, d2] }
  | _ => none }
def TaskEndsWrongFalsely : Prop := taskEndsRow.holds Try.pinned (OpenSpec.ofChange taskEndsWrong)

/-- 'outriggerlaw12.TaskApart': WHATEVER THE INPUT: true; the input reads as it did. -/
def taskApartSpec : ChangeSpec := { name := "taskApart", fn := fun _ => fun
  | [d1, d2, d3, d4] => { results := [.lit (.bool true)], args := [d1, d2, d3, d4] }
  | _ => none }
def taskApartRow : OpenClaim := { program := "yteomkfgkhmdehaa", sum := "5115586320387f0f1cc63b8a2ed5714d645d0fac6fa4b53f64ec36e9f5d4a401", func := "outrigger/outriggerlaw12.TaskApart", spec := "taskApart", unfollowed := true, recurses := true, apart := false }
def TaskApartSaid : Prop := taskApartRow.holds Try.pinned (OpenSpec.ofChange taskApartSpec)

/-- ITS FALSE NEIGHBOUR: 'it returns false'. Refute it at one input. -/
def taskApartWrong : ChangeSpec := { name := "taskApart", fn := fun _ => fun
  | [d1, d2, d3, d4] => { results := [.lit (.bool false)], args := [d1, d2, d3, d4] }
  | _ => none }
def TaskApartWrongFalsely : Prop := taskApartRow.holds Try.pinned (OpenSpec.ofChange taskApartWrong)

/-- 'outriggerlaw12.TaskLoads': WHATEVER THE INPUT: true; the input reads as it did. -/
def taskLoadsSpec : ChangeSpec := { name := "taskLoads", fn := fun _ => fun
  | [d] => { results := [.lit (.bool true)], args := [d] }
  | _ => none }
def taskLoadsRow : OpenClaim := { program := "yteomkfgkhmdehaa", sum := "5115586320387f0f1cc63b8a2ed5714d645d0fac6fa4b53f64ec36e9f5d4a401", func := "outrigger/outriggerlaw12.TaskLoads", spec := "taskLoads", unfollowed := true, recurses := true, apart := false }
def TaskLoadsSaid : Prop := taskLoadsRow.holds Try.pinned (OpenSpec.ofChange taskLoadsSpec)

/-- ITS FALSE NEIGHBOUR: 'it returns false'. Refute it at one input. -/
def taskLoadsWrong : ChangeSpec := { name := "taskLoads", fn := fun _ => fun
  | [d] => { results := [.lit (.bool false)], args := [d] }
  | _ => none }
def TaskLoadsWrongFalsely : Prop := taskLoadsRow.holds Try.pinned (OpenSpec.ofChange taskLoadsWrong)

/-- 'outriggerlaw12.TaskParts': WHATEVER THE INPUT: true; the input reads as it did. -/
def taskPartsSpec : ChangeSpec := { name := "taskParts", fn := fun _ => fun
  | [d1, d2, d3, d4] => { results := [.lit (.bool true)], args := [d1, d2, d3, d4] }
  | _ => none }
def taskPartsRow : OpenClaim := { program := "yteomkfgkhmdehaa", sum := "5115586320387f0f1cc63b8a2ed5714d645d0fac6fa4b53f64ec36e9f5d4a401", func := "outrigger/outriggerlaw12.TaskParts", spec := "taskParts", unfollowed := true, recurses := true, apart := false }
def TaskPartsSaid : Prop := taskPartsRow.holds Try.pinned (OpenSpec.ofChange taskPartsSpec)

/-- ITS FALSE NEIGHBOUR: 'it returns false'. Refute it at one input. -/
def taskPartsWrong : ChangeSpec := { name := "taskParts", fn := fun _ => fun
  | [d1, d2, d3, d4] => { results := [.lit (.bool false)], args := [d1, d2, d3, d4] }
  | _ => none }
def TaskPartsWrongFalsely : Prop := taskPartsRow.holds Try.pinned (OpenSpec.ofChange taskPartsWrong)

/- THE SECOND FORM. 'bulk': how many values and letters a reading holds, each counted each time it is reached (what is shared counts as often as it is met; a slice's spare places count too). A statement '..UptoSaid' is the law's where the arguments, and the package variables that the reading takes, are together of bulk at most 1048576: NARROWER than '..Said'. Prove '..Said' where nothing that the law and all that it calls make is longer than what came in: it says more and counts as full. Else prove '..UptoSaid'. A law counts once. -/
mutual
def uptoBulk {H : Type} : DataW H → Nat
  | .lit (.string bytes) => bytes.length + 1
  | .lit _ => 1
  | .nil => 1
  | .ptr d => uptoBulk d + 1
  | .slice elems spare => uptoBulkAll elems + uptoBulkAll spare + 1
  | .agg parts => uptoBulkAll parts + 1
  | .iface _ d => uptoBulk d + 1
  | .map entries => uptoBulkEntries entries + 1
  | .held _ => 1
def uptoBulkAll {H : Type} : List (DataW H) → Nat
  | [] => 0
  | d :: r => uptoBulk d + uptoBulkAll r
def uptoBulkEntries {H : Type} : List (Lit × DataW H) → Nat
  | [] => 0
  | x :: r => uptoBulkEntry x + uptoBulkEntries r
def uptoBulkEntry {H : Type} : Lit × DataW H → Nat
  | (.string bytes, d) => bytes.length + uptoBulk d + 1
  | (_, d) => uptoBulk d + 1
 end
def uptoSmall : (H : Type) → List (DataW H) → Bool := fun _ ds => decide (uptoBulkAll ds ≤ 1048576)
def OpenSpec.upto (s : _root_.Go.ChangeSpec) : _root_.Go.OpenSpec := { _root_.Go.OpenSpec.ofChange s with cond := some uptoSmall }

/-- 'outriggerlaw12.TaskIs', WHERE WHAT IT READS IS OF BULK AT MOST 1048576: true; the input reads as it did. -/
def taskIsUptoRow : OpenClaim := { program := "yteomkfgkhmdehaa", sum := "5115586320387f0f1cc63b8a2ed5714d645d0fac6fa4b53f64ec36e9f5d4a401", func := "outrigger/outriggerlaw12.TaskIs", spec := "taskIs", unfollowed := true, recurses := true, apart := false, narrowed := true }
def TaskIsUptoSaid : Prop := taskIsUptoRow.holds Try.pinned (OpenSpec.upto taskIsSpec)

/-- 'outriggerlaw12.TaskOne', WHERE WHAT IT READS IS OF BULK AT MOST 1048576: true; the input reads as it did. -/
def taskOneUptoRow : OpenClaim := { program := "yteomkfgkhmdehaa", sum := "5115586320387f0f1cc63b8a2ed5714d645d0fac6fa4b53f64ec36e9f5d4a401", func := "outrigger/outriggerlaw12.TaskOne", spec := "taskOne", unfollowed := true, recurses := true, apart := false, narrowed := true }
def TaskOneUptoSaid : Prop := taskOneUptoRow.holds Try.pinned (OpenSpec.upto taskOneSpec)

/-- 'outriggerlaw12.TaskEnds', WHERE WHAT IT READS IS OF BULK AT MOST 1048576: true; the input reads as it did. -/
def taskEndsUptoRow : OpenClaim := { program := "yteomkfgkhmdehaa", sum := "5115586320387f0f1cc63b8a2ed5714d645d0fac6fa4b53f64ec36e9f5d4a401", func := "outrigger/outriggerlaw12.TaskEnds", spec := "taskEnds", unfollowed := true, recurses := true, apart := false, narrowed := true }
def TaskEndsUptoSaid : Prop := taskEndsUptoRow.holds Try.pinned (OpenSpec.upto taskEndsSpec)

/-- 'outriggerlaw12.TaskApart', WHERE WHAT IT READS IS OF BULK AT MOST 1048576: true; the input reads as it did. -/
def taskApartUptoRow : OpenClaim := { program := "yteomkfgkhmdehaa", sum := "5115586320387f0f1cc63b8a2ed5714d645d0fac6fa4b53f64ec36e9f5d4a401", func := "outrigger/outriggerlaw12.TaskApart", spec := "taskApart", unfollowed := true, recurses := true, apart := false, narrowed := true }
def TaskApartUptoSaid : Prop := taskApartUptoRow.holds Try.pinned (OpenSpec.upto taskApartSpec)

/-- 'outriggerlaw12.TaskLoads', WHERE WHAT IT READS IS OF BULK AT MOST 1048576: true; the input reads as it did. -/
def taskLoadsUptoRow : OpenClaim := { program := "yteomkfgkhmdehaa", sum := "5115586320387f0f1cc63b8a2ed5714d645d0fac6fa4b53f64ec36e9f5d4a401", func := "outrigger/outriggerlaw12.TaskLoads", spec := "taskLoads", unfollowed := true, recurses := true, apart := false, narrowed := true }
def TaskLoadsUptoSaid : Prop := taskLoadsUptoRow.holds Try.pinned (OpenSpec.upto taskLoadsSpec)

/-- 'outriggerlaw12.TaskParts', WHERE WHAT IT READS IS OF BULK AT MOST 1048576: true; the input reads as it did. -/
def taskPartsUptoRow : OpenClaim := { program := "yteomkfgkhmdehaa", sum := "5115586320387f0f1cc63b8a2ed5714d645d0fac6fa4b53f64ec36e9f5d4a401", func := "outrigger/outriggerlaw12.TaskParts", spec := "taskParts", unfollowed := true, recurses := true, apart := false, narrowed := true }
def TaskPartsUptoSaid : Prop := taskPartsUptoRow.holds Try.pinned (OpenSpec.upto taskPartsSpec)

end Rows
end Go.Proofs.Yteomkfgkhmdehaa
