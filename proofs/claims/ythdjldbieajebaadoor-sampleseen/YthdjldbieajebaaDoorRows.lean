/-
  NARROWER THAN 'FOR EVERY INPUT', by the rows' own cells (each row's printed sentence says how): SampleIs: laid · SampleBack: laid · SampleSeen: laid · SampleSums: laid · SampleOrder: laid · SampleField: laid.
  DERIVED. THE GIVEN ROWS OF THIS SEAT. 6 by the template 'for every input the law returns true; each argument reads behind the call as it read before'; 0 by the template 'total and deterministic' (their statements: YthdjldbieajebaaDoorTotals.lean).
  GIVEN WITH THE SEED: the statements are not yours to turn. If you find one false, say at which input.
  Laid BY PROGRAM, IN A SANDBOX (cutbox-rows.mjs): the forced cells as the released guide's own fill.sh prints them over the translation e76a24d7c3edfaa5… (all of the seat's roots in one cut). By AI agents, Wed Nov 11 2026. No macro, syntax, notation, axiom, sorry.
-/
import Derived.Test.YthdjldbieajebaaDoorChecked
import GoSem.Claim
import GoSem.ClaimJoined
import GoSem.ClaimMapViews
import Derived.JoinedTies
import Derived.KernelRfl
namespace Go.Proofs.YthdjldbieajebaaDoor
/- THE CELL 'sum', in the pinned program and in every row, IS THE sha256 OF THE DUMP (.gsa) THAT YthdjldbieajebaaDoorProg.lean LOADS. Nothing in Lean hashes anything: it is a label: what it is worth is what the hold of that sum in a sandbox is worth. -/
noncomputable def Tryd.pinned : Pinned := { name := "ythdjldbieajebaadoor", sum := "e76a24d7c3edfaa514bf124106ba2cadff58c035a1eafe46c36ebba2713a1153", checked := Tryd.checked }
namespace Rows
def none {H : Type} : Left H := { results := [], args := [] }

/- WHAT THE LISTED PACKAGE-LEVEL VARIABLES READ AS WHEN THE CALL BEGINS. Each datum BY PROGRAM (the guide's laid-datum.mjs) off the statement by which the dump's own 'gosem.cut.vars' lays the variable. In a bare row this is a premise. The card (YthdjldbieajebaaDoorCards.lean) ties it to the program's text. -/
def laid_outrigger_sample_least {H : Type} : DataW H := .agg [.lit (.int .i64 0), .lit (.int .i64 0), .lit (.int .i64 (-288230376151711744)), .lit (.int .i64 (-288230376151711744)), .lit (.int .i64 (-288230376151711744))]
def laid_outrigger_sample_greatest {H : Type} : DataW H := .agg [.lit (.int .i64 1099511627776), .lit (.int .i64 3), .lit (.int .i64 288230376151711744), .lit (.int .i64 288230376151711744), .lit (.int .i64 288230376151711744)]

/-- 'outriggerlaw13.SampleIs': WHATEVER THE INPUT: true; the input reads as it did. -/
def sampleIsSpec : ChangeSpec := { name := "sampleIs", fn := fun _ => fun
  | [d1, d2, d3] => { results := [.lit (.bool true)], args := [d1, d2, d3] }
  | _ => none }
def sampleIsRow : OpenClaim := { program := "ythdjldbieajebaadoor", sum := "e76a24d7c3edfaa514bf124106ba2cadff58c035a1eafe46c36ebba2713a1153", func := "outrigger/outriggerlaw13.SampleIs", spec := "sampleIs", named := ["outrigger/sample.least", "outrigger/sample.greatest"], apart := false, laid := [("outrigger/sample.least", laid_outrigger_sample_least), ("outrigger/sample.greatest", laid_outrigger_sample_greatest)] }
def SampleIsSaid : Prop := sampleIsRow.holds Tryd.pinned (OpenSpec.ofChange sampleIsSpec)

/-- ITS FALSE NEIGHBOUR: 'it returns false'. Refute it at one input. -/
def sampleIsWrong : ChangeSpec := { name := "sampleIs", fn := fun _ => fun
  | [d1, d2, d3] => { results := [.lit (.bool false)], args := [d1, d2, d3] }
  | _ => none }
def SampleIsWrongFalsely : Prop := sampleIsRow.holds Tryd.pinned (OpenSpec.ofChange sampleIsWrong)

/-- 'outriggerlaw13.SampleBack': WHATEVER THE INPUT: true; the input reads as it did. -/
def sampleBackSpec : ChangeSpec := { name := "sampleBack", fn := fun _ => fun
  | [d1, d2] => { results := [.lit (.bool true)], args := [d1, d2] }
  | _ => none }
def sampleBackRow : OpenClaim := { program := "ythdjldbieajebaadoor", sum := "e76a24d7c3edfaa514bf124106ba2cadff58c035a1eafe46c36ebba2713a1153", func := "outrigger/outriggerlaw13.SampleBack", spec := "sampleBack", named := ["outrigger/sample.least", "outrigger/sample.greatest"], apart := false, laid := [("outrigger/sample.least", laid_outrigger_sample_least), ("outrigger/sample.greatest", laid_outrigger_sample_greatest)] }
def SampleBackSaid : Prop := sampleBackRow.holds Tryd.pinned (OpenSpec.ofChange sampleBackSpec)

/-- ITS FALSE NEIGHBOUR: 'it returns false'. Refute it at one input. -/
def sampleBackWrong : ChangeSpec := { name := "sampleBack", fn := fun _ => fun
  | [d1, d2] => { results := [.lit (.bool false)], args := [d1, d2] }
  | _ => none }
def SampleBackWrongFalsely : Prop := sampleBackRow.holds Tryd.pinned (OpenSpec.ofChange sampleBackWrong)

/-- 'outriggerlaw13.SampleSeen': WHATEVER THE INPUT: true; the input reads as it did. -/
def sampleSeenSpec : ChangeSpec := { name := "sampleSeen", fn := fun _ => fun
  | [d1, d2, d3] => { results := [.lit (.bool true)], args := [d1, d2, d3] }
  | _ => none }
def sampleSeenRow : OpenClaim := { program := "ythdjldbieajebaadoor", sum := "e76a24d7c3edfaa514bf124106ba2cadff58c035a1eafe46c36ebba2713a1153", func := "outrigger/outriggerlaw13.SampleSeen", spec := "sampleSeen", named := ["outrigger/sample.least", "outrigger/sample.greatest"], apart := false, laid := [("outrigger/sample.least", laid_outrigger_sample_least), ("outrigger/sample.greatest", laid_outrigger_sample_greatest)] }
def SampleSeenSaid : Prop := sampleSeenRow.holds Tryd.pinned (OpenSpec.ofChange sampleSeenSpec)

/-- ITS FALSE NEIGHBOUR: 'it returns false'. Refute it at one input. -/
def sampleSeenWrong : ChangeSpec := { name := "sampleSeen", fn := fun _ => fun
  | [d1, d2, d3] => { results := [.lit (.bool false)], args := [d1, d2, d3] }
  | _ => none }
def SampleSeenWrongFalsely : Prop := sampleSeenRow.holds Tryd.pinned (OpenSpec.ofChange sampleSeenWrong)

/-- 'outriggerlaw13.SampleSums': WHATEVER THE INPUT: true; the input reads as it did. -/
def sampleSumsSpec : ChangeSpec := { name := "sampleSums", fn := fun _ => fun
  | [d1, d2, d3] => { results := [.lit (.bool true)], args := [d1, d2, d3] }
  | _ => none }
def sampleSumsRow : OpenClaim := { program := "ythdjldbieajebaadoor", sum := "e76a24d7c3edfaa514bf124106ba2cadff58c035a1eafe46c36ebba2713a1153", func := "outrigger/outriggerlaw13.SampleSums", spec := "sampleSums", named := ["outrigger/sample.least", "outrigger/sample.greatest"], apart := false, laid := [("outrigger/sample.least", laid_outrigger_sample_least), ("outrigger/sample.greatest", laid_outrigger_sample_greatest)] }
def SampleSumsSaid : Prop := sampleSumsRow.holds Tryd.pinned (OpenSpec.ofChange sampleSumsSpec)

/-- ITS FALSE NEIGHBOUR: 'it returns false'. Refute it at one input. -/
def sampleSumsWrong : ChangeSpec := { name := "sampleSums", fn := fun _ => fun
  | [d1, d2, d3] => { results := [.lit (.bool false)], args := [d1, d2, d3] }
  | _ => none }
def SampleSumsWrongFalsely : Prop := sampleSumsRow.holds Tryd.pinned (OpenSpec.ofChange sampleSumsWrong)

/-- 'outriggerlaw13.SampleOrder': WHATEVER THE INPUT: true; the input reads as it did. -/
def sampleOrderSpec : ChangeSpec := { name := "sampleOrder", fn := fun _ => fun
  | [d1, d2, d3] => { results := [.lit (.bool true)], args := [d1, d2, d3] }
  | _ => none }
def sampleOrderRow : OpenClaim := { program := "ythdjldbieajebaadoor", sum := "e76a24d7c3edfaa514bf124106ba2cadff58c035a1eafe46c36ebba2713a1153", func := "outrigger/outriggerlaw13.SampleOrder", spec := "sampleOrder", named := ["outrigger/sample.least", "outrigger/sample.greatest"], apart := false, laid := [("outrigger/sample.least", laid_outrigger_sample_least), ("outrigger/sample.greatest", laid_outrigger_sample_greatest)] }
def SampleOrderSaid : Prop := sampleOrderRow.holds Tryd.pinned (OpenSpec.ofChange sampleOrderSpec)

/-- ITS FALSE NEIGHBOUR: 'it returns false'. Refute it at one input. -/
def sampleOrderWrong : ChangeSpec := { name := "sampleOrder", fn := fun _ => fun
  | [d1, d2, d3] => { results := [.lit (.bool false)], args := [d1, d2, d3] }
  | _ => none }
def SampleOrderWrongFalsely : Prop := sampleOrderRow.holds Tryd.pinned (OpenSpec.ofChange sampleOrderWrong)

/-- 'outriggerlaw13.SampleField': WHATEVER THE INPUT: true; the input reads as it did. -/
def sampleFieldSpec : ChangeSpec := { name := "sampleField", fn := fun _ => fun
  | [d1, d2, d3] => { results := [.lit (.bool true)], args := [d1, d2, d3] }
  | _ => none }
def sampleFieldRow : OpenClaim := { program := "ythdjldbieajebaadoor", sum := "e76a24d7c3edfaa514bf124106ba2cadff58c035a1eafe46c36ebba2713a1153", func := "outrigger/outriggerlaw13.SampleField", spec := "sampleField", named := ["outrigger/sample.least", "outrigger/sample.greatest"], apart := false, laid := [("outrigger/sample.least", laid_outrigger_sample_least), ("outrigger/sample.greatest", laid_outrigger_sample_greatest)] }
def SampleFieldSaid : Prop := sampleFieldRow.holds Tryd.pinned (OpenSpec.ofChange sampleFieldSpec)

/-- ITS FALSE NEIGHBOUR: 'it returns false'. Refute it at one input. -/
def sampleFieldWrong : ChangeSpec := { name := "sampleField", fn := fun _ => fun
  | [d1, d2, d3] => { results := [.lit (.bool false)], args := [d1, d2, d3] }
  | _ => none }
def SampleFieldWrongFalsely : Prop := sampleFieldRow.holds Tryd.pinned (OpenSpec.ofChange sampleFieldWrong)

/- THE SECOND FORM. 'bulk': how many values and letters a reading holds, each counted each time it is reached (what is shared counts as often as it is met; a slice's spare places count too). A statement '..UptoSaid' is the law's where the arguments, and the package variables that the reading takes, are together of bulk at most 1048576: NARROWER than '..Said'. Prove '..Said' where nothing that the law and all that it calls make is longer than what came in: it says more and counts as full. Else prove '..UptoSaid'. A law counts once. -/
mutual
def uptoBulk {H : Type} : DataW H → Nat
  | .lit (.string bytes) => bytes.length + 1
  | .lit _ => 1
  | .nil => 1
  | .ptr d => uptoBulk d + 1
  | .slice elems spare => uptoBulkAll elems + uptoBulkAll spare + 1
  | .agg parts => uptoBulkAll parts + 1
  | .iface _ d => uptoBulk d + 1
  | .map entries => uptoBulkEntries entries + 1
  | .held _ => 1
def uptoBulkAll {H : Type} : List (DataW H) → Nat
  | [] => 0
  | d :: r => uptoBulk d + uptoBulkAll r
def uptoBulkEntries {H : Type} : List (Lit × DataW H) → Nat
  | [] => 0
  | x :: r => uptoBulkEntry x + uptoBulkEntries r
def uptoBulkEntry {H : Type} : Lit × DataW H → Nat
  | (.string bytes, d) => bytes.length + uptoBulk d + 1
  | (_, d) => uptoBulk d + 1
 end
def uptoSmall : (H : Type) → List (DataW H) → Bool := fun _ ds => decide (uptoBulkAll ds ≤ 1048576)
def OpenSpec.upto (s : _root_.Go.ChangeSpec) : _root_.Go.OpenSpec := { _root_.Go.OpenSpec.ofChange s with cond := some uptoSmall }

/-- 'outriggerlaw13.SampleIs', WHERE WHAT IT READS IS OF BULK AT MOST 1048576: true; the input reads as it did. -/
def sampleIsUptoRow : OpenClaim := { program := "ythdjldbieajebaadoor", sum := "e76a24d7c3edfaa514bf124106ba2cadff58c035a1eafe46c36ebba2713a1153", func := "outrigger/outriggerlaw13.SampleIs", spec := "sampleIs", named := ["outrigger/sample.least", "outrigger/sample.greatest"], apart := false, laid := [("outrigger/sample.least", laid_outrigger_sample_least), ("outrigger/sample.greatest", laid_outrigger_sample_greatest)], narrowed := true }
def SampleIsUptoSaid : Prop := sampleIsUptoRow.holds Tryd.pinned (OpenSpec.upto sampleIsSpec)

/-- 'outriggerlaw13.SampleBack', WHERE WHAT IT READS IS OF BULK AT MOST 1048576: true; the input reads as it did. -/
def sampleBackUptoRow : OpenClaim := { program := "ythdjldbieajebaadoor", sum := "e76a24d7c3edfaa514bf124106ba2cadff58c035a1eafe46c36ebba2713a1153", func := "outrigger/outriggerlaw13.SampleBack", spec := "sampleBack", named := ["outrigger/sample.least", "outrigger/sample.greatest"], apart := false, laid := [("outrigger/sample.least", laid_outrigger_sample_least), ("outrigger/sample.greatest", laid_outrigger_sample_greatest)], narrowed := true }
def SampleBackUptoSaid : Prop := sampleBackUptoRow.holds Tryd.pinned (OpenSpec.upto sampleBackSpec)

/-- 'outriggerlaw13.SampleSeen', WHERE WHAT IT READS IS OF BULK AT MOST 1048576: true; the input reads as it did. -/
def sampleSeenUptoRow : OpenClaim := { program := "ythdjldbieajebaadoor", sum := "e76a24d7c3edfaa514bf124106ba2cadff58c035a1eafe46c36ebba2713a1153", func := "outrigger/outriggerlaw13.SampleSeen", spec := "sampleSeen", named := ["outrigger/sample.least", "outrigger/sample.greatest"], apart := false, laid := [("outrigger/sample.least", laid_outrigger_sample_least), ("outrigger/sample.greatest", laid_outrigger_sample_greatest)], narrowed := true }
def SampleSeenUptoSaid : Prop := sampleSeenUptoRow.holds Tryd.pinned (OpenSpec.upto sampleSeenSpec)

/-- 'outriggerlaw13.SampleSums', WHERE WHAT IT READS IS OF BULK AT MOST 1048576: true; the input reads as it did. -/
def sampleSumsUptoRow : OpenClaim := { program := "ythdjldbieajebaadoor", sum := "e76a24d7c3edfaa514bf124106ba2cadff58c035a1eafe46c36ebba2713a1153", func := "outrigger/outriggerlaw13.SampleSums", spec := "sampleSums", named := ["outrigger/sample.least", "outrigger/sample.greatest"], apart := false, laid := [("outrigger/sample.least", laid_outrigger_sample_least), ("outrigger/sample.greatest", laid_outrigger_sample_greatest)], narrowed := true }
def SampleSumsUptoSaid : Prop := sampleSumsUptoRow.holds Tryd.pinned (OpenSpec.upto sampleSumsSpec)

/-- 'outriggerlaw13.SampleOrder', WHERE WHAT IT READS IS OF BULK AT MOST 1048576: true; the input reads as it did. -/
def sampleOrderUptoRow : OpenClaim := { program := "ythdjldbieajebaadoor", sum := "e76a24d7c3edfaa514bf124106ba2cadff58c035a1eafe46c36ebba2713a1153", func := "outrigger/outriggerlaw13.SampleOrder", spec := "sampleOrder", named := ["outrigger/sample.least", "outrigger/sample.greatest"], apart := false, laid := [("outrigger/sample.least", laid_outrigger_sample_least), ("outrigger/sample.greatest", laid_outrigger_sample_greatest)], narrowed := true }
def SampleOrderUptoSaid : Prop := sampleOrderUptoRow.holds Tryd.pinned (OpenSpec.upto sampleOrderSpec)

/-- 'outriggerlaw13.SampleField', WHERE WHAT IT READS IS OF BULK AT MOST 1048576: true; the input reads as it did. -/
def sampleFieldUptoRow : OpenClaim := { program := "ythdjldbieajebaadoor", sum := "e76a24d7c3edfaa514bf124106ba2cadff58c035a1eafe46c36ebba2713a1153", func := "outrigger/outriggerlaw13.SampleField", spec := "sampleField", named := ["outrigger/sample.least", "outrigger/sample.greatest"], apart := false, laid := [("outrigger/sample.least", laid_outrigger_sample_least), ("outrigger/sample.greatest", laid_outrigger_sample_greatest)], narrowed := true }
def SampleFieldUptoSaid : Prop := sampleFieldUptoRow.holds Tryd.pinned (OpenSpec.upto sampleFieldSpec)

end Rows
end Go.Proofs.YthdjldbieajebaaDoor
