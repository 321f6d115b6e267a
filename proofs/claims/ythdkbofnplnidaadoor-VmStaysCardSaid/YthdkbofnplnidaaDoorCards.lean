/-
  DERIVED. GIVEN WITH THE SEED: THE CARDS: each row of YthdkbofnplnidaaDoorRows.lean that lists a variable, with what it lists TIED to the program's text (the seventh form; the later family's looks); each row that meets fmt, with fmt's text TOLD by the authors' own Lean function (tested against real Go, not proved from fmt's source: count such statements apart). THE CARD IS WHAT COUNTS. Prove the row's statement (the work); the ties are given (YthdkbofnplnidaaDoorTie.lean); close each card by the builder's one call (the guide's Derived/Test/ToyasCard.lean, 'card_holds'). Laid BY PROGRAM, IN A SANDBOX (cutbox-door.mjs). By AI agents, Wed Nov 11 2026. No macro, syntax, notation, axiom, sorry.
-/
import Derived.Test.YthdkbofnplnidaaDoorRows
import GoSem.ClaimSeven
namespace Go.Proofs.YthdkbofnplnidaaDoor
namespace Rows

/-- THE TIED CARD OF 'escapementlaw11.VmSteps'. -/
def vmStepsCard : Claim7 := { stood := { row := vmStepsRow, standIns := [], harness := (true, "aa4208663a1f20622c746b33f304f2b0e1301151bb634fc6b5ddbeca47a4265f"), looks := false }, kinds := [], alts := [], laidByText := true, laidKinds := [.data], laidTests := true, laidLooks := .later }
def VmStepsCardSaid : Prop := Claim7.holds Tryd.pinned (.plain (OpenSpec.ofChange vmStepsSpec)) vmStepsCard

/-- THE TIED CARD OF 'escapementlaw11.VmMakes'. -/
def vmMakesCard : Claim7 := { stood := { row := vmMakesRow, standIns := [], harness := (true, "aa4208663a1f20622c746b33f304f2b0e1301151bb634fc6b5ddbeca47a4265f"), looks := false }, kinds := [], alts := [], laidByText := true, laidKinds := [.data], laidTests := true, laidLooks := .later }
def VmMakesCardSaid : Prop := Claim7.holds Tryd.pinned (.plain (OpenSpec.ofChange vmMakesSpec)) vmMakesCard

/-- THE TIED CARD OF 'escapementlaw11.VmStays'. -/
def vmStaysCard : Claim7 := { stood := { row := vmStaysRow, standIns := [], harness := (true, "aa4208663a1f20622c746b33f304f2b0e1301151bb634fc6b5ddbeca47a4265f"), looks := false }, kinds := [], alts := [], laidByText := true, laidKinds := [.data], laidTests := true, laidLooks := .later }
def VmStaysCardSaid : Prop := Claim7.holds Tryd.pinned (.plain (OpenSpec.ofChange vmStaysSpec)) vmStaysCard

/-- THE SECOND FORM's CARD OF 'escapementlaw11.VmSteps'. -/
def vmStepsUptoCard : Claim7 := { stood := { row := vmStepsUptoRow, standIns := [], harness := (true, "aa4208663a1f20622c746b33f304f2b0e1301151bb634fc6b5ddbeca47a4265f"), looks := false }, kinds := [], alts := [], laidByText := true, laidKinds := [.data], laidTests := true, laidLooks := .later }
def VmStepsUptoCardSaid : Prop := Claim7.holds Tryd.pinned (.plain (OpenSpec.upto vmStepsSpec)) vmStepsUptoCard

/-- THE SECOND FORM's CARD OF 'escapementlaw11.VmMakes'. -/
def vmMakesUptoCard : Claim7 := { stood := { row := vmMakesUptoRow, standIns := [], harness := (true, "aa4208663a1f20622c746b33f304f2b0e1301151bb634fc6b5ddbeca47a4265f"), looks := false }, kinds := [], alts := [], laidByText := true, laidKinds := [.data], laidTests := true, laidLooks := .later }
def VmMakesUptoCardSaid : Prop := Claim7.holds Tryd.pinned (.plain (OpenSpec.upto vmMakesSpec)) vmMakesUptoCard

/-- THE SECOND FORM's CARD OF 'escapementlaw11.VmStays'. -/
def vmStaysUptoCard : Claim7 := { stood := { row := vmStaysUptoRow, standIns := [], harness := (true, "aa4208663a1f20622c746b33f304f2b0e1301151bb634fc6b5ddbeca47a4265f"), looks := false }, kinds := [], alts := [], laidByText := true, laidKinds := [.data], laidTests := true, laidLooks := .later }
def VmStaysUptoCardSaid : Prop := Claim7.holds Tryd.pinned (.plain (OpenSpec.upto vmStaysSpec)) vmStaysUptoCard
end Rows
end Go.Proofs.YthdkbofnplnidaaDoor
