/-
  DERIVED. GIVEN WITH THE SEED: THE CARDS: each row of YtaihhbkljinplaaDoorRows.lean that lists a variable, with what it lists TIED to the program's text (the seventh form; the later family's looks); each row that meets fmt, with fmt's text TOLD by the authors' own Lean function (tested against real Go, not proved from fmt's source: count such statements apart). THE CARD IS WHAT COUNTS. Prove the row's statement (the work); the ties are given (YtaihhbkljinplaaDoorTie.lean); close each card by the builder's one call (the guide's Derived/Test/ToyasCard.lean, 'card_holds'). Laid BY PROGRAM, IN A SANDBOX (cutbox-door.mjs). By AI agents, Wed Nov 11 2026. No macro, syntax, notation, axiom, sorry.
-/
import Derived.Test.YtaihhbkljinplaaDoorRows
import GoSem.ClaimSeven
namespace Go.Proofs.YtaihhbkljinplaaDoor
namespace Rows

/-- THE TIED CARD OF 'escapementlaw18.GstatLooks'. -/
def gstatLooksCard : Claim7 := { stood := { row := gstatLooksRow, standIns := [], harness := (true, "b0827f03ccf4414d1f7c78cbb89d867cc7748c64313d262fed0951ecf9690cbf"), looks := false }, kinds := [], alts := [], laidByText := true, laidKinds := [.data, .data], laidTests := true, laidLooks := .later }
def GstatLooksCardSaid : Prop := Claim7.holds Tryd.pinned (.plain (OpenSpec.ofChange gstatLooksSpec)) gstatLooksCard

/-- THE TIED CARD OF 'escapementlaw18.GstatMoves'. -/
def gstatMovesCard : Claim7 := { stood := { row := gstatMovesRow, standIns := [], harness := (true, "b0827f03ccf4414d1f7c78cbb89d867cc7748c64313d262fed0951ecf9690cbf"), looks := false }, kinds := [], alts := [], laidByText := true, laidKinds := [.data, .data], laidTests := true, laidLooks := .later }
def GstatMovesCardSaid : Prop := Claim7.holds Tryd.pinned (.plain (OpenSpec.ofChange gstatMovesSpec)) gstatMovesCard

/-- THE TIED CARD OF 'escapementlaw18.GstatScans'. -/
def gstatScansCard : Claim7 := { stood := { row := gstatScansRow, standIns := [], harness := (true, "b0827f03ccf4414d1f7c78cbb89d867cc7748c64313d262fed0951ecf9690cbf"), looks := false }, kinds := [], alts := [], laidByText := true, laidKinds := [.data, .data], laidTests := true, laidLooks := .later }
def GstatScansCardSaid : Prop := Claim7.holds Tryd.pinned (.plain (OpenSpec.ofChange gstatScansSpec)) gstatScansCard

/-- THE SECOND FORM's CARD OF 'escapementlaw18.GstatLooks'. -/
def gstatLooksUptoCard : Claim7 := { stood := { row := gstatLooksUptoRow, standIns := [], harness := (true, "b0827f03ccf4414d1f7c78cbb89d867cc7748c64313d262fed0951ecf9690cbf"), looks := false }, kinds := [], alts := [], laidByText := true, laidKinds := [.data, .data], laidTests := true, laidLooks := .later }
def GstatLooksUptoCardSaid : Prop := Claim7.holds Tryd.pinned (.plain (OpenSpec.upto gstatLooksSpec)) gstatLooksUptoCard

/-- THE SECOND FORM's CARD OF 'escapementlaw18.GstatMoves'. -/
def gstatMovesUptoCard : Claim7 := { stood := { row := gstatMovesUptoRow, standIns := [], harness := (true, "b0827f03ccf4414d1f7c78cbb89d867cc7748c64313d262fed0951ecf9690cbf"), looks := false }, kinds := [], alts := [], laidByText := true, laidKinds := [.data, .data], laidTests := true, laidLooks := .later }
def GstatMovesUptoCardSaid : Prop := Claim7.holds Tryd.pinned (.plain (OpenSpec.upto gstatMovesSpec)) gstatMovesUptoCard

/-- THE SECOND FORM's CARD OF 'escapementlaw18.GstatScans'. -/
def gstatScansUptoCard : Claim7 := { stood := { row := gstatScansUptoRow, standIns := [], harness := (true, "b0827f03ccf4414d1f7c78cbb89d867cc7748c64313d262fed0951ecf9690cbf"), looks := false }, kinds := [], alts := [], laidByText := true, laidKinds := [.data, .data], laidTests := true, laidLooks := .later }
def GstatScansUptoCardSaid : Prop := Claim7.holds Tryd.pinned (.plain (OpenSpec.upto gstatScansSpec)) gstatScansUptoCard
end Rows
end Go.Proofs.YtaihhbkljinplaaDoor
