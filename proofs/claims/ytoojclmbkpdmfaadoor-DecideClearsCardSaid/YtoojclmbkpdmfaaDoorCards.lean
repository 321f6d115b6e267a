/-
  DERIVED. GIVEN WITH THE SEED: THE CARDS: each row of YtoojclmbkpdmfaaDoorRows.lean that lists a variable, with what it lists TIED to the program's text (the seventh form; the later family's looks); each row that meets fmt, with fmt's text TOLD by the authors' own Lean function (tested against real Go, not proved from fmt's source: count such statements apart). THE CARD IS WHAT COUNTS. Prove the row's statement (the work); the ties are given (YtoojclmbkpdmfaaDoorTie.lean); close each card by the builder's one call (the guide's Derived/Test/ToyasCard.lean, 'card_holds'). Laid BY PROGRAM, IN A SANDBOX (cutbox-door.mjs). By AI agents, Wed Nov 11 2026. No macro, syntax, notation, axiom, sorry.
-/
import Derived.Test.YtoojclmbkpdmfaaDoorRows
import GoSem.ClaimSeven
namespace Go.Proofs.YtoojclmbkpdmfaaDoor
namespace Rows

/-- THE TIED CARD OF 'escapementlaw25.DecideActs'. -/
def decideActsCard : Claim7 := { stood := { row := decideActsRow, standIns := [], harness := (true, "c1a8b1c2811e560e7af8e10ddae60f8b661447cb435bebda874b0da0da2d8794"), looks := false }, kinds := [], alts := [], laidByText := true, laidKinds := [.data], laidTests := true, laidLooks := .later }
def DecideActsCardSaid : Prop := Claim7.holds Tryd.pinned (.plain (OpenSpec.ofChange decideActsSpec)) decideActsCard

/-- THE TIED CARD OF 'escapementlaw25.DecideClears'. -/
def decideClearsCard : Claim7 := { stood := { row := decideClearsRow, standIns := [], harness := (true, "c1a8b1c2811e560e7af8e10ddae60f8b661447cb435bebda874b0da0da2d8794"), looks := false }, kinds := [], alts := [], laidByText := true, laidKinds := [.data], laidTests := true, laidLooks := .later }
def DecideClearsCardSaid : Prop := Claim7.holds Tryd.pinned (.plain (OpenSpec.ofChange decideClearsSpec)) decideClearsCard

/-- THE TIED CARD OF 'escapementlaw25.DecideEnds'. -/
def decideEndsCard : Claim7 := { stood := { row := decideEndsRow, standIns := [], harness := (true, "c1a8b1c2811e560e7af8e10ddae60f8b661447cb435bebda874b0da0da2d8794"), looks := false }, kinds := [], alts := [], laidByText := true, laidKinds := [.data], laidTests := true, laidLooks := .later }
def DecideEndsCardSaid : Prop := Claim7.holds Tryd.pinned (.plain (OpenSpec.ofChange decideEndsSpec)) decideEndsCard

/-- THE SECOND FORM's CARD OF 'escapementlaw25.DecideActs'. -/
def decideActsUptoCard : Claim7 := { stood := { row := decideActsUptoRow, standIns := [], harness := (true, "c1a8b1c2811e560e7af8e10ddae60f8b661447cb435bebda874b0da0da2d8794"), looks := false }, kinds := [], alts := [], laidByText := true, laidKinds := [.data], laidTests := true, laidLooks := .later }
def DecideActsUptoCardSaid : Prop := Claim7.holds Tryd.pinned (.plain (OpenSpec.upto decideActsSpec)) decideActsUptoCard

/-- THE SECOND FORM's CARD OF 'escapementlaw25.DecideClears'. -/
def decideClearsUptoCard : Claim7 := { stood := { row := decideClearsUptoRow, standIns := [], harness := (true, "c1a8b1c2811e560e7af8e10ddae60f8b661447cb435bebda874b0da0da2d8794"), looks := false }, kinds := [], alts := [], laidByText := true, laidKinds := [.data], laidTests := true, laidLooks := .later }
def DecideClearsUptoCardSaid : Prop := Claim7.holds Tryd.pinned (.plain (OpenSpec.upto decideClearsSpec)) decideClearsUptoCard

/-- THE SECOND FORM's CARD OF 'escapementlaw25.DecideEnds'. -/
def decideEndsUptoCard : Claim7 := { stood := { row := decideEndsUptoRow, standIns := [], harness := (true, "c1a8b1c2811e560e7af8e10ddae60f8b661447cb435bebda874b0da0da2d8794"), looks := false }, kinds := [], alts := [], laidByText := true, laidKinds := [.data], laidTests := true, laidLooks := .later }
def DecideEndsUptoCardSaid : Prop := Claim7.holds Tryd.pinned (.plain (OpenSpec.upto decideEndsSpec)) decideEndsUptoCard
end Rows
end Go.Proofs.YtoojclmbkpdmfaaDoor
