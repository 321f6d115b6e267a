/-
  DERIVED. GIVEN WITH THE SEED: THE CARDS: each row of YtkpipoicobmjkaaDoorRows.lean that lists a variable, with what it lists TIED to the program's text (the seventh form; the later family's looks); each row that meets fmt, with fmt's text TOLD by the authors' own Lean function (tested against real Go, not proved from fmt's source: count such statements apart). THE CARD IS WHAT COUNTS. Prove the row's statement (the work); the ties are given (YtkpipoicobmjkaaDoorTie.lean); close each card by the builder's one call (the guide's Derived/Test/ToyasCard.lean, 'card_holds'). Laid BY PROGRAM, IN A SANDBOX (cutbox-door.mjs). By AI agents, Wed Nov 11 2026. No macro, syntax, notation, axiom, sorry.
-/
import Derived.Test.YtkpipoicobmjkaaDoorRows
import GoSem.ClaimSeven
namespace Go.Proofs.YtkpipoicobmjkaaDoor
namespace Rows

/-- THE TIED CARD OF 'escapementlaw09.ValidChecks'. -/
def validChecksCard : Claim7 := { stood := { row := validChecksRow, standIns := [], harness := (true, "de026803e7a18ceb9dddf4b6ca125b412dba4ebba5643413b4ace4607b4e908d"), looks := false }, kinds := [], alts := [], laidByText := true, laidKinds := [.data], laidTests := true, laidLooks := .later }
def ValidChecksCardSaid : Prop := Claim7.holds Tryd.pinned (.plain (OpenSpec.ofChange validChecksSpec)) validChecksCard

/-- THE TIED CARD OF 'escapementlaw09.ValidMends'. -/
def validMendsCard : Claim7 := { stood := { row := validMendsRow, standIns := [], harness := (true, "de026803e7a18ceb9dddf4b6ca125b412dba4ebba5643413b4ace4607b4e908d"), looks := false }, kinds := [], alts := [], laidByText := true, laidKinds := [.data], laidTests := true, laidLooks := .later }
def ValidMendsCardSaid : Prop := Claim7.holds Tryd.pinned (.plain (OpenSpec.ofChange validMendsSpec)) validMendsCard

/-- THE TIED CARD OF 'escapementlaw09.ValidConfs'. -/
def validConfsCard : Claim7 := { stood := { row := validConfsRow, standIns := [], harness := (true, "de026803e7a18ceb9dddf4b6ca125b412dba4ebba5643413b4ace4607b4e908d"), looks := false }, kinds := [], alts := [], laidByText := true, laidKinds := [.data], laidTests := true, laidLooks := .later }
def ValidConfsCardSaid : Prop := Claim7.holds Tryd.pinned (.plain (OpenSpec.ofChange validConfsSpec)) validConfsCard

/-- THE TIED CARD OF 'escapementlaw09.ValidStays'. -/
def validStaysCard : Claim7 := { stood := { row := validStaysRow, standIns := [], harness := (true, "de026803e7a18ceb9dddf4b6ca125b412dba4ebba5643413b4ace4607b4e908d"), looks := false }, kinds := [], alts := [], laidByText := true, laidKinds := [.data], laidTests := true, laidLooks := .later }
def ValidStaysCardSaid : Prop := Claim7.holds Tryd.pinned (.plain (OpenSpec.ofChange validStaysSpec)) validStaysCard

/-- THE SECOND FORM's CARD OF 'escapementlaw09.ValidChecks'. -/
def validChecksUptoCard : Claim7 := { stood := { row := validChecksUptoRow, standIns := [], harness := (true, "de026803e7a18ceb9dddf4b6ca125b412dba4ebba5643413b4ace4607b4e908d"), looks := false }, kinds := [], alts := [], laidByText := true, laidKinds := [.data], laidTests := true, laidLooks := .later }
def ValidChecksUptoCardSaid : Prop := Claim7.holds Tryd.pinned (.plain (OpenSpec.upto validChecksSpec)) validChecksUptoCard

/-- THE SECOND FORM's CARD OF 'escapementlaw09.ValidMends'. -/
def validMendsUptoCard : Claim7 := { stood := { row := validMendsUptoRow, standIns := [], harness := (true, "de026803e7a18ceb9dddf4b6ca125b412dba4ebba5643413b4ace4607b4e908d"), looks := false }, kinds := [], alts := [], laidByText := true, laidKinds := [.data], laidTests := true, laidLooks := .later }
def ValidMendsUptoCardSaid : Prop := Claim7.holds Tryd.pinned (.plain (OpenSpec.upto validMendsSpec)) validMendsUptoCard

/-- THE SECOND FORM's CARD OF 'escapementlaw09.ValidConfs'. -/
def validConfsUptoCard : Claim7 := { stood := { row := validConfsUptoRow, standIns := [], harness := (true, "de026803e7a18ceb9dddf4b6ca125b412dba4ebba5643413b4ace4607b4e908d"), looks := false }, kinds := [], alts := [], laidByText := true, laidKinds := [.data], laidTests := true, laidLooks := .later }
def ValidConfsUptoCardSaid : Prop := Claim7.holds Tryd.pinned (.plain (OpenSpec.upto validConfsSpec)) validConfsUptoCard

/-- THE SECOND FORM's CARD OF 'escapementlaw09.ValidStays'. -/
def validStaysUptoCard : Claim7 := { stood := { row := validStaysUptoRow, standIns := [], harness := (true, "de026803e7a18ceb9dddf4b6ca125b412dba4ebba5643413b4ace4607b4e908d"), looks := false }, kinds := [], alts := [], laidByText := true, laidKinds := [.data], laidTests := true, laidLooks := .later }
def ValidStaysUptoCardSaid : Prop := Claim7.holds Tryd.pinned (.plain (OpenSpec.upto validStaysSpec)) validStaysUptoCard
end Rows
end Go.Proofs.YtkpipoicobmjkaaDoor
