/-
  DERIVED. GIVEN WITH THE SEED: THE CARDS: each row of YtbpppcpndkkbaaaGreatDoorRows.lean that lists a variable, with what it lists TIED to the program's text (the seventh form; the later family's looks); each row that meets fmt, with fmt's text TOLD by the authors' own Lean function (tested against real Go, not proved from fmt's source: count such statements apart). THE CARD IS WHAT COUNTS. Prove the row's statement (the work); the ties are given (YtbpppcpndkkbaaaGreatDoorTie.lean); close each card by the builder's one call (the guide's Derived/Test/ToyasCard.lean, 'card_holds'). Laid BY PROGRAM, IN A SANDBOX (cutbox-door.mjs). By AI agents, Wed Nov 11 2026. No macro, syntax, notation, axiom, sorry.
-/
import Derived.Test.YtbpppcpndkkbaaaGreatDoorRows
import GoSem.ClaimSeven
namespace Go.Proofs.YtbpppcpndkkbaaaGreatDoor
namespace Rows

/-- THE TIED CARD OF 'escapementlaw41.ShrinkLists'. -/
def shrinkListsCard : Claim7 := { stood := { row := shrinkListsRow, standIns := [], harness := (true, "109713e48f0470e8291217048186e5b66233089d1d49896d9d7e6d6d8657bb8b"), looks := true }, kinds := [], alts := [], laidByText := true, laidKinds := [.data, .data], laidTests := true, laidLooks := .later }
def ShrinkListsCardSaid : Prop := Claim7.holds Tryz.pinned (.plain (OpenSpec.ofChange shrinkListsSpec)) shrinkListsCard

/-- THE TIED CARD OF 'escapementlaw41.ShrinkHolds'. -/
def shrinkHoldsCard : Claim7 := { stood := { row := shrinkHoldsRow, standIns := [], harness := (true, "109713e48f0470e8291217048186e5b66233089d1d49896d9d7e6d6d8657bb8b"), looks := true }, kinds := [], alts := [], laidByText := true, laidKinds := [.data, .data], laidTests := true, laidLooks := .later }
def ShrinkHoldsCardSaid : Prop := Claim7.holds Tryz.pinned (.plain (OpenSpec.ofChange shrinkHoldsSpec)) shrinkHoldsCard

/-- THE TIED CARD OF 'escapementlaw41.ShrinkCuts'. -/
def shrinkCutsCard : Claim7 := { stood := { row := shrinkCutsRow, standIns := [], harness := (true, "109713e48f0470e8291217048186e5b66233089d1d49896d9d7e6d6d8657bb8b"), looks := true }, kinds := [], alts := [], laidByText := true, laidKinds := [.data, .data], laidTests := true, laidLooks := .later }
def ShrinkCutsCardSaid : Prop := Claim7.holds Tryz.pinned (.plain (OpenSpec.ofChange shrinkCutsSpec)) shrinkCutsCard

/-- THE TIED CARD OF 'escapementlaw41.ShrinkLong'. -/
def shrinkLongCard : Claim7 := { stood := { row := shrinkLongRow, standIns := [], harness := (true, "109713e48f0470e8291217048186e5b66233089d1d49896d9d7e6d6d8657bb8b"), looks := true }, kinds := [], alts := [], laidByText := true, laidKinds := [.data, .data], laidTests := true, laidLooks := .later }
def ShrinkLongCardSaid : Prop := Claim7.holds Tryz.pinned (.plain (OpenSpec.ofChange shrinkLongSpec)) shrinkLongCard

/-- THE SECOND FORM's CARD OF 'escapementlaw41.ShrinkLists'. -/
def shrinkListsUptoCard : Claim7 := { stood := { row := shrinkListsUptoRow, standIns := [], harness := (true, "109713e48f0470e8291217048186e5b66233089d1d49896d9d7e6d6d8657bb8b"), looks := true }, kinds := [], alts := [], laidByText := true, laidKinds := [.data, .data], laidTests := true, laidLooks := .later }
def ShrinkListsUptoCardSaid : Prop := Claim7.holds Tryz.pinned (.plain (OpenSpec.upto shrinkListsSpec)) shrinkListsUptoCard

/-- THE SECOND FORM's CARD OF 'escapementlaw41.ShrinkHolds'. -/
def shrinkHoldsUptoCard : Claim7 := { stood := { row := shrinkHoldsUptoRow, standIns := [], harness := (true, "109713e48f0470e8291217048186e5b66233089d1d49896d9d7e6d6d8657bb8b"), looks := true }, kinds := [], alts := [], laidByText := true, laidKinds := [.data, .data], laidTests := true, laidLooks := .later }
def ShrinkHoldsUptoCardSaid : Prop := Claim7.holds Tryz.pinned (.plain (OpenSpec.upto shrinkHoldsSpec)) shrinkHoldsUptoCard

/-- THE SECOND FORM's CARD OF 'escapementlaw41.ShrinkCuts'. -/
def shrinkCutsUptoCard : Claim7 := { stood := { row := shrinkCutsUptoRow, standIns := [], harness := (true, "109713e48f0470e8291217048186e5b66233089d1d49896d9d7e6d6d8657bb8b"), looks := true }, kinds := [], alts := [], laidByText := true, laidKinds := [.data, .data], laidTests := true, laidLooks := .later }
def ShrinkCutsUptoCardSaid : Prop := Claim7.holds Tryz.pinned (.plain (OpenSpec.upto shrinkCutsSpec)) shrinkCutsUptoCard

/-- THE SECOND FORM's CARD OF 'escapementlaw41.ShrinkLong'. -/
def shrinkLongUptoCard : Claim7 := { stood := { row := shrinkLongUptoRow, standIns := [], harness := (true, "109713e48f0470e8291217048186e5b66233089d1d49896d9d7e6d6d8657bb8b"), looks := true }, kinds := [], alts := [], laidByText := true, laidKinds := [.data, .data], laidTests := true, laidLooks := .later }
def ShrinkLongUptoCardSaid : Prop := Claim7.holds Tryz.pinned (.plain (OpenSpec.upto shrinkLongSpec)) shrinkLongUptoCard
end Rows
end Go.Proofs.YtbpppcpndkkbaaaGreatDoor
