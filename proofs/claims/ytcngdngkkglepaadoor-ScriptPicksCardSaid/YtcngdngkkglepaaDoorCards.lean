/-
  DERIVED. GIVEN WITH THE SEED: THE CARDS: each row of YtcngdngkkglepaaDoorRows.lean that lists a variable, with what it lists TIED to the program's text (the seventh form; the later family's looks); each row that meets fmt, with fmt's text TOLD by the authors' own Lean function (tested against real Go, not proved from fmt's source: count such statements apart). THE CARD IS WHAT COUNTS. Prove the row's statement (the work); the ties are given (YtcngdngkkglepaaDoorTie.lean); close each card by the builder's one call (the guide's Derived/Test/ToyasCard.lean, 'card_holds'). Laid BY PROGRAM, IN A SANDBOX (cutbox-door.mjs). By AI agents, Wed Nov 11 2026. No macro, syntax, notation, axiom, sorry.
-/
import Derived.Test.YtcngdngkkglepaaDoorRows
import GoSem.ClaimSeven
namespace Go.Proofs.YtcngdngkkglepaaDoor
namespace Rows

/-- THE TIED CARD OF 'escapementlaw30.ScriptTexts'. -/
def scriptTextsCard : Claim7 := { stood := { row := scriptTextsRow, standIns := [], harness := (true, "d4ecd60b17d41af2d5f4fe988ae0f7e6bcda51c671bd02891cce0804f016d9af"), looks := true }, kinds := [], alts := [], laidByText := true, laidKinds := [.data, .data, .data, .data, .sentinel, .sentinel, .pinned], laidTests := true, laidLooks := .later }
def ScriptTextsCardSaid : Prop := Claim7.holds Tryd.pinned (.plain (OpenSpec.ofChange scriptTextsSpec)) scriptTextsCard

/-- THE TIED CARD OF 'escapementlaw30.ScriptPicks'. -/
def scriptPicksCard : Claim7 := { stood := { row := scriptPicksRow, standIns := [], harness := (true, "d4ecd60b17d41af2d5f4fe988ae0f7e6bcda51c671bd02891cce0804f016d9af"), looks := true }, kinds := [], alts := [], laidByText := true, laidKinds := [.data, .data, .data], laidTests := true, laidLooks := .later }
def ScriptPicksCardSaid : Prop := Claim7.holds Tryd.pinned (.plain (OpenSpec.ofChange scriptPicksSpec)) scriptPicksCard

/-- THE TIED CARD OF 'escapementlaw30.ScriptConfs'. -/
def scriptConfsCard : Claim7 := { stood := { row := scriptConfsRow, standIns := [], harness := (true, "d4ecd60b17d41af2d5f4fe988ae0f7e6bcda51c671bd02891cce0804f016d9af"), looks := true }, kinds := [], alts := [], laidByText := true, laidKinds := [.data, .data, .data, .data, .sentinel, .sentinel, .pinned], laidTests := true, laidLooks := .later }
def ScriptConfsCardSaid : Prop := Claim7.holds Tryd.pinned (.plain (OpenSpec.ofChange scriptConfsSpec)) scriptConfsCard

/-- THE TIED CARD OF 'escapementlaw30.ScriptBack'. -/
def scriptBackCard : Claim7 := { stood := { row := scriptBackRow, standIns := [], harness := (true, "d4ecd60b17d41af2d5f4fe988ae0f7e6bcda51c671bd02891cce0804f016d9af"), looks := true }, kinds := [], alts := [], laidByText := true, laidKinds := [.data, .data, .data, .data, .sentinel, .sentinel, .pinned], laidTests := true, laidLooks := .later }
def ScriptBackCardSaid : Prop := Claim7.holds Tryd.pinned (.plain (OpenSpec.ofChange scriptBackSpec)) scriptBackCard

/-- THE TIED CARD OF 'escapementlaw30.ScriptRobins'. -/
def scriptRobinsCard : Claim7 := { stood := { row := scriptRobinsRow, standIns := [], harness := (true, "d4ecd60b17d41af2d5f4fe988ae0f7e6bcda51c671bd02891cce0804f016d9af"), looks := true }, kinds := [], alts := [], laidByText := true, laidKinds := [.data, .data, .data], laidTests := true, laidLooks := .later }
def ScriptRobinsCardSaid : Prop := Claim7.holds Tryd.pinned (.plain (OpenSpec.ofChange scriptRobinsSpec)) scriptRobinsCard

/-- THE SECOND FORM's CARD OF 'escapementlaw30.ScriptTexts'. -/
def scriptTextsUptoCard : Claim7 := { stood := { row := scriptTextsUptoRow, standIns := [], harness := (true, "d4ecd60b17d41af2d5f4fe988ae0f7e6bcda51c671bd02891cce0804f016d9af"), looks := true }, kinds := [], alts := [], laidByText := true, laidKinds := [.data, .data, .data, .data, .sentinel, .sentinel, .pinned], laidTests := true, laidLooks := .later }
def ScriptTextsUptoCardSaid : Prop := Claim7.holds Tryd.pinned (.plain (OpenSpec.upto scriptTextsSpec)) scriptTextsUptoCard

/-- THE SECOND FORM's CARD OF 'escapementlaw30.ScriptPicks'. -/
def scriptPicksUptoCard : Claim7 := { stood := { row := scriptPicksUptoRow, standIns := [], harness := (true, "d4ecd60b17d41af2d5f4fe988ae0f7e6bcda51c671bd02891cce0804f016d9af"), looks := true }, kinds := [], alts := [], laidByText := true, laidKinds := [.data, .data, .data], laidTests := true, laidLooks := .later }
def ScriptPicksUptoCardSaid : Prop := Claim7.holds Tryd.pinned (.plain (OpenSpec.upto scriptPicksSpec)) scriptPicksUptoCard

/-- THE SECOND FORM's CARD OF 'escapementlaw30.ScriptConfs'. -/
def scriptConfsUptoCard : Claim7 := { stood := { row := scriptConfsUptoRow, standIns := [], harness := (true, "d4ecd60b17d41af2d5f4fe988ae0f7e6bcda51c671bd02891cce0804f016d9af"), looks := true }, kinds := [], alts := [], laidByText := true, laidKinds := [.data, .data, .data, .data, .sentinel, .sentinel, .pinned], laidTests := true, laidLooks := .later }
def ScriptConfsUptoCardSaid : Prop := Claim7.holds Tryd.pinned (.plain (OpenSpec.upto scriptConfsSpec)) scriptConfsUptoCard

/-- THE SECOND FORM's CARD OF 'escapementlaw30.ScriptBack'. -/
def scriptBackUptoCard : Claim7 := { stood := { row := scriptBackUptoRow, standIns := [], harness := (true, "d4ecd60b17d41af2d5f4fe988ae0f7e6bcda51c671bd02891cce0804f016d9af"), looks := true }, kinds := [], alts := [], laidByText := true, laidKinds := [.data, .data, .data, .data, .sentinel, .sentinel, .pinned], laidTests := true, laidLooks := .later }
def ScriptBackUptoCardSaid : Prop := Claim7.holds Tryd.pinned (.plain (OpenSpec.upto scriptBackSpec)) scriptBackUptoCard

/-- THE SECOND FORM's CARD OF 'escapementlaw30.ScriptRobins'. -/
def scriptRobinsUptoCard : Claim7 := { stood := { row := scriptRobinsUptoRow, standIns := [], harness := (true, "d4ecd60b17d41af2d5f4fe988ae0f7e6bcda51c671bd02891cce0804f016d9af"), looks := true }, kinds := [], alts := [], laidByText := true, laidKinds := [.data, .data, .data], laidTests := true, laidLooks := .later }
def ScriptRobinsUptoCardSaid : Prop := Claim7.holds Tryd.pinned (.plain (OpenSpec.upto scriptRobinsSpec)) scriptRobinsUptoCard
end Rows
end Go.Proofs.YtcngdngkkglepaaDoor
