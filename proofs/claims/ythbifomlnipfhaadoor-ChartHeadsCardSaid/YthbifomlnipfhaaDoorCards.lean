/-
  DERIVED. GIVEN WITH THE SEED: THE CARDS: each row of YthbifomlnipfhaaDoorRows.lean that lists a variable, with what it lists TIED to the program's text (the seventh form; the later family's looks); each row that meets fmt, with fmt's text TOLD by the authors' own Lean function (tested against real Go, not proved from fmt's source: count such statements apart). THE CARD IS WHAT COUNTS. Prove the row's statement (the work); the ties are given (YthbifomlnipfhaaDoorTie.lean); close each card by the builder's one call (the guide's Derived/Test/ToyasCard.lean, 'card_holds'). Laid BY PROGRAM, IN A SANDBOX (cutbox-door.mjs). By AI agents, Wed Nov 11 2026. No macro, syntax, notation, axiom, sorry.
-/
import Derived.Test.YthbifomlnipfhaaDoorRows
import GoSem.ClaimSeven
namespace Go.Proofs.YthbifomlnipfhaaDoor
namespace Rows

/-- THE TIED CARD OF 'escapementlaw43.ChartHeads'. -/
def chartHeadsCard : Claim7 := { stood := { row := chartHeadsRow, standIns := [], harness := (true, "4ebfe4a48af8869df4eba6ac7c61cad883acf24cca543d53b3fe80e7e578520f"), looks := false }, kinds := [], alts := [], laidByText := true, laidKinds := [.data], laidTests := true, laidLooks := .later }
def ChartHeadsCardSaid : Prop := Claim7.holds Tryd.pinned (.plain (OpenSpec.ofChange chartHeadsSpec)) chartHeadsCard

/-- THE TIED CARD OF 'escapementlaw43.ChartOnce'. -/
def chartOnceCard : Claim7 := { stood := { row := chartOnceRow, standIns := [], harness := (true, "4ebfe4a48af8869df4eba6ac7c61cad883acf24cca543d53b3fe80e7e578520f"), looks := false }, kinds := [], alts := [], laidByText := true, laidKinds := [.data, .data, .data, .data], laidTests := true, laidLooks := .later }
def ChartOnceCardSaid : Prop := Claim7.holds Tryd.pinned (.plain (OpenSpec.ofChange chartOnceSpec)) chartOnceCard

/-- THE SECOND FORM's CARD OF 'escapementlaw43.ChartHeads'. -/
def chartHeadsUptoCard : Claim7 := { stood := { row := chartHeadsUptoRow, standIns := [], harness := (true, "4ebfe4a48af8869df4eba6ac7c61cad883acf24cca543d53b3fe80e7e578520f"), looks := false }, kinds := [], alts := [], laidByText := true, laidKinds := [.data], laidTests := true, laidLooks := .later }
def ChartHeadsUptoCardSaid : Prop := Claim7.holds Tryd.pinned (.plain (OpenSpec.upto chartHeadsSpec)) chartHeadsUptoCard

/-- THE SECOND FORM's CARD OF 'escapementlaw43.ChartOnce'. -/
def chartOnceUptoCard : Claim7 := { stood := { row := chartOnceUptoRow, standIns := [], harness := (true, "4ebfe4a48af8869df4eba6ac7c61cad883acf24cca543d53b3fe80e7e578520f"), looks := false }, kinds := [], alts := [], laidByText := true, laidKinds := [.data, .data, .data, .data], laidTests := true, laidLooks := .later }
def ChartOnceUptoCardSaid : Prop := Claim7.holds Tryd.pinned (.plain (OpenSpec.upto chartOnceSpec)) chartOnceUptoCard
end Rows
end Go.Proofs.YthbifomlnipfhaaDoor
