/-
  DERIVED. GIVEN WITH THE SEED: THE CARDS: each row of YtnepgbhbbbcecaaDoorRows.lean that lists a variable, with what it lists TIED to the program's text (the seventh form; the later family's looks); each row that meets fmt, with fmt's text TOLD by the authors' own Lean function (tested against real Go, not proved from fmt's source: count such statements apart). THE CARD IS WHAT COUNTS. Prove the row's statement (the work); the ties are given (YtnepgbhbbbcecaaDoorTie.lean); close each card by the builder's one call (the guide's Derived/Test/ToyasCard.lean, 'card_holds'). Laid BY PROGRAM, IN A SANDBOX (cutbox-door.mjs). By AI agents, Wed Nov 11 2026. No macro, syntax, notation, axiom, sorry.
-/
import Derived.Test.YtnepgbhbbbcecaaDoorRows
import GoSem.ClaimSeven
namespace Go.Proofs.YtnepgbhbbbcecaaDoor
namespace Rows

/-- THE TIED CARD OF 'escapementlaw29.EventPrints'. -/
def eventPrintsCard : Claim7 := { stood := { row := eventPrintsRow, standIns := [], harness := (true, "a2d4683d15ee1848b4a2c5d9f3df855aecf4697a33de155258c30f3853b4a3bc"), looks := true }, kinds := [], alts := [], laidByText := true, laidKinds := [.data, .data, .data], laidTests := true, laidLooks := .later }
def EventPrintsCardSaid : Prop := Claim7.holds Tryd.pinned (.plain (OpenSpec.ofChange eventPrintsSpec)) eventPrintsCard

/-- THE TIED CARD OF 'escapementlaw29.EventParses'. -/
def eventParsesCard : Claim7 := { stood := { row := eventParsesRow, standIns := [], harness := (true, "a2d4683d15ee1848b4a2c5d9f3df855aecf4697a33de155258c30f3853b4a3bc"), looks := true }, kinds := [], alts := [], laidByText := true, laidKinds := [.data, .data, .data, .data, .sentinel, .sentinel, .pinned], laidTests := true, laidLooks := .later }
def EventParsesCardSaid : Prop := Claim7.holds Tryd.pinned (.plain (OpenSpec.ofChange eventParsesSpec)) eventParsesCard

/-- THE TIED CARD OF 'escapementlaw29.EventPicks'. -/
def eventPicksCard : Claim7 := { stood := { row := eventPicksRow, standIns := [], harness := (true, "a2d4683d15ee1848b4a2c5d9f3df855aecf4697a33de155258c30f3853b4a3bc"), looks := true }, kinds := [], alts := [], laidByText := true, laidKinds := [.data, .data, .data], laidTests := true, laidLooks := .later }
def EventPicksCardSaid : Prop := Claim7.holds Tryd.pinned (.plain (OpenSpec.ofChange eventPicksSpec)) eventPicksCard

/-- THE TIED CARD OF 'escapementlaw29.EventBack'. -/
def eventBackCard : Claim7 := { stood := { row := eventBackRow, standIns := [], harness := (true, "a2d4683d15ee1848b4a2c5d9f3df855aecf4697a33de155258c30f3853b4a3bc"), looks := true }, kinds := [], alts := [], laidByText := true, laidKinds := [.data, .data, .data, .data, .sentinel, .sentinel, .pinned], laidTests := true, laidLooks := .later }
def EventBackCardSaid : Prop := Claim7.holds Tryd.pinned (.plain (OpenSpec.ofChange eventBackSpec)) eventBackCard

/-- THE SECOND FORM's CARD OF 'escapementlaw29.EventPrints'. -/
def eventPrintsUptoCard : Claim7 := { stood := { row := eventPrintsUptoRow, standIns := [], harness := (true, "a2d4683d15ee1848b4a2c5d9f3df855aecf4697a33de155258c30f3853b4a3bc"), looks := true }, kinds := [], alts := [], laidByText := true, laidKinds := [.data, .data, .data], laidTests := true, laidLooks := .later }
def EventPrintsUptoCardSaid : Prop := Claim7.holds Tryd.pinned (.plain (OpenSpec.upto eventPrintsSpec)) eventPrintsUptoCard

/-- THE SECOND FORM's CARD OF 'escapementlaw29.EventParses'. -/
def eventParsesUptoCard : Claim7 := { stood := { row := eventParsesUptoRow, standIns := [], harness := (true, "a2d4683d15ee1848b4a2c5d9f3df855aecf4697a33de155258c30f3853b4a3bc"), looks := true }, kinds := [], alts := [], laidByText := true, laidKinds := [.data, .data, .data, .data, .sentinel, .sentinel, .pinned], laidTests := true, laidLooks := .later }
def EventParsesUptoCardSaid : Prop := Claim7.holds Tryd.pinned (.plain (OpenSpec.upto eventParsesSpec)) eventParsesUptoCard

/-- THE SECOND FORM's CARD OF 'escapementlaw29.EventPicks'. -/
def eventPicksUptoCard : Claim7 := { stood := { row := eventPicksUptoRow, standIns := [], harness := (true, "a2d4683d15ee1848b4a2c5d9f3df855aecf4697a33de155258c30f3853b4a3bc"), looks := true }, kinds := [], alts := [], laidByText := true, laidKinds := [.data, .data, .data], laidTests := true, laidLooks := .later }
def EventPicksUptoCardSaid : Prop := Claim7.holds Tryd.pinned (.plain (OpenSpec.upto eventPicksSpec)) eventPicksUptoCard

/-- THE SECOND FORM's CARD OF 'escapementlaw29.EventBack'. -/
def eventBackUptoCard : Claim7 := { stood := { row := eventBackUptoRow, standIns := [], harness := (true, "a2d4683d15ee1848b4a2c5d9f3df855aecf4697a33de155258c30f3853b4a3bc"), looks := true }, kinds := [], alts := [], laidByText := true, laidKinds := [.data, .data, .data, .data, .sentinel, .sentinel, .pinned], laidTests := true, laidLooks := .later }
def EventBackUptoCardSaid : Prop := Claim7.holds Tryd.pinned (.plain (OpenSpec.upto eventBackSpec)) eventBackUptoCard
end Rows
end Go.Proofs.YtnepgbhbbbcecaaDoor
