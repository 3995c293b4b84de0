/-
  DERIVED. GIVEN WITH THE SEED: THE CARDS: each row of YthdjldbieajebaaDoorRows.lean that lists a variable, with what it lists TIED to the program's text (the seventh form; the later family's looks); each row that meets fmt, with fmt's text TOLD by the authors' own Lean function (tested against real Go, not proved from fmt's source: count such statements apart). THE CARD IS WHAT COUNTS. Prove the row's statement (the work); the ties are given (YthdjldbieajebaaDoorTie.lean); close each card by the builder's one call (the guide's Derived/Test/ToyasCard.lean, 'card_holds'). Laid BY PROGRAM, IN A SANDBOX (cutbox-door.mjs). By AI agents, Wed Nov 11 2026. No macro, syntax, notation, axiom, sorry.
-/
import Derived.Test.YthdjldbieajebaaDoorRows
import GoSem.ClaimSeven
namespace Go.Proofs.YthdjldbieajebaaDoor
namespace Rows

/-- THE TIED CARD OF 'outriggerlaw13.SampleIs'. -/
def sampleIsCard : Claim7 := { stood := { row := sampleIsRow, standIns := [], harness := (true, "1f782607c8f36f27e845a24ded3eff340c7c71122bc39e61ae91af2210ec5b9d"), looks := false }, kinds := [], alts := [], laidByText := true, laidKinds := [.data, .data], laidTests := true, laidLooks := .later }
def SampleIsCardSaid : Prop := Claim7.holds Tryd.pinned (.plain (OpenSpec.ofChange sampleIsSpec)) sampleIsCard

/-- THE TIED CARD OF 'outriggerlaw13.SampleBack'. -/
def sampleBackCard : Claim7 := { stood := { row := sampleBackRow, standIns := [], harness := (true, "1f782607c8f36f27e845a24ded3eff340c7c71122bc39e61ae91af2210ec5b9d"), looks := false }, kinds := [], alts := [], laidByText := true, laidKinds := [.data, .data], laidTests := true, laidLooks := .later }
def SampleBackCardSaid : Prop := Claim7.holds Tryd.pinned (.plain (OpenSpec.ofChange sampleBackSpec)) sampleBackCard

/-- THE TIED CARD OF 'outriggerlaw13.SampleSeen'. -/
def sampleSeenCard : Claim7 := { stood := { row := sampleSeenRow, standIns := [], harness := (true, "1f782607c8f36f27e845a24ded3eff340c7c71122bc39e61ae91af2210ec5b9d"), looks := false }, kinds := [], alts := [], laidByText := true, laidKinds := [.data, .data], laidTests := true, laidLooks := .later }
def SampleSeenCardSaid : Prop := Claim7.holds Tryd.pinned (.plain (OpenSpec.ofChange sampleSeenSpec)) sampleSeenCard

/-- THE TIED CARD OF 'outriggerlaw13.SampleSums'. -/
def sampleSumsCard : Claim7 := { stood := { row := sampleSumsRow, standIns := [], harness := (true, "1f782607c8f36f27e845a24ded3eff340c7c71122bc39e61ae91af2210ec5b9d"), looks := false }, kinds := [], alts := [], laidByText := true, laidKinds := [.data, .data], laidTests := true, laidLooks := .later }
def SampleSumsCardSaid : Prop := Claim7.holds Tryd.pinned (.plain (OpenSpec.ofChange sampleSumsSpec)) sampleSumsCard

/-- THE TIED CARD OF 'outriggerlaw13.SampleOrder'. -/
def sampleOrderCard : Claim7 := { stood := { row := sampleOrderRow, standIns := [], harness := (true, "1f782607c8f36f27e845a24ded3eff340c7c71122bc39e61ae91af2210ec5b9d"), looks := false }, kinds := [], alts := [], laidByText := true, laidKinds := [.data, .data], laidTests := true, laidLooks := .later }
def SampleOrderCardSaid : Prop := Claim7.holds Tryd.pinned (.plain (OpenSpec.ofChange sampleOrderSpec)) sampleOrderCard

/-- THE TIED CARD OF 'outriggerlaw13.SampleField'. -/
def sampleFieldCard : Claim7 := { stood := { row := sampleFieldRow, standIns := [], harness := (true, "1f782607c8f36f27e845a24ded3eff340c7c71122bc39e61ae91af2210ec5b9d"), looks := false }, kinds := [], alts := [], laidByText := true, laidKinds := [.data, .data], laidTests := true, laidLooks := .later }
def SampleFieldCardSaid : Prop := Claim7.holds Tryd.pinned (.plain (OpenSpec.ofChange sampleFieldSpec)) sampleFieldCard

/-- THE SECOND FORM's CARD OF 'outriggerlaw13.SampleIs'. -/
def sampleIsUptoCard : Claim7 := { stood := { row := sampleIsUptoRow, standIns := [], harness := (true, "1f782607c8f36f27e845a24ded3eff340c7c71122bc39e61ae91af2210ec5b9d"), looks := false }, kinds := [], alts := [], laidByText := true, laidKinds := [.data, .data], laidTests := true, laidLooks := .later }
def SampleIsUptoCardSaid : Prop := Claim7.holds Tryd.pinned (.plain (OpenSpec.upto sampleIsSpec)) sampleIsUptoCard

/-- THE SECOND FORM's CARD OF 'outriggerlaw13.SampleBack'. -/
def sampleBackUptoCard : Claim7 := { stood := { row := sampleBackUptoRow, standIns := [], harness := (true, "1f782607c8f36f27e845a24ded3eff340c7c71122bc39e61ae91af2210ec5b9d"), looks := false }, kinds := [], alts := [], laidByText := true, laidKinds := [.data, .data], laidTests := true, laidLooks := .later }
def SampleBackUptoCardSaid : Prop := Claim7.holds Tryd.pinned (.plain (OpenSpec.upto sampleBackSpec)) sampleBackUptoCard

/-- THE SECOND FORM's CARD OF 'outriggerlaw13.SampleSeen'. -/
def sampleSeenUptoCard : Claim7 := { stood := { row := sampleSeenUptoRow, standIns := [], harness := (true, "1f782607c8f36f27e845a24ded3eff340c7c71122bc39e61ae91af2210ec5b9d"), looks := false }, kinds := [], alts := [], laidByText := true, laidKinds := [.data, .data], laidTests := true, laidLooks := .later }
def SampleSeenUptoCardSaid : Prop := Claim7.holds Tryd.pinned (.plain (OpenSpec.upto sampleSeenSpec)) sampleSeenUptoCard

/-- THE SECOND FORM's CARD OF 'outriggerlaw13.SampleSums'. -/
def sampleSumsUptoCard : Claim7 := { stood := { row := sampleSumsUptoRow, standIns := [], harness := (true, "1f782607c8f36f27e845a24ded3eff340c7c71122bc39e61ae91af2210ec5b9d"), looks := false }, kinds := [], alts := [], laidByText := true, laidKinds := [.data, .data], laidTests := true, laidLooks := .later }
def SampleSumsUptoCardSaid : Prop := Claim7.holds Tryd.pinned (.plain (OpenSpec.upto sampleSumsSpec)) sampleSumsUptoCard

/-- THE SECOND FORM's CARD OF 'outriggerlaw13.SampleOrder'. -/
def sampleOrderUptoCard : Claim7 := { stood := { row := sampleOrderUptoRow, standIns := [], harness := (true, "1f782607c8f36f27e845a24ded3eff340c7c71122bc39e61ae91af2210ec5b9d"), looks := false }, kinds := [], alts := [], laidByText := true, laidKinds := [.data, .data], laidTests := true, laidLooks := .later }
def SampleOrderUptoCardSaid : Prop := Claim7.holds Tryd.pinned (.plain (OpenSpec.upto sampleOrderSpec)) sampleOrderUptoCard

/-- THE SECOND FORM's CARD OF 'outriggerlaw13.SampleField'. -/
def sampleFieldUptoCard : Claim7 := { stood := { row := sampleFieldUptoRow, standIns := [], harness := (true, "1f782607c8f36f27e845a24ded3eff340c7c71122bc39e61ae91af2210ec5b9d"), looks := false }, kinds := [], alts := [], laidByText := true, laidKinds := [.data, .data], laidTests := true, laidLooks := .later }
def SampleFieldUptoCardSaid : Prop := Claim7.holds Tryd.pinned (.plain (OpenSpec.upto sampleFieldSpec)) sampleFieldUptoCard
end Rows
end Go.Proofs.YthdjldbieajebaaDoor
