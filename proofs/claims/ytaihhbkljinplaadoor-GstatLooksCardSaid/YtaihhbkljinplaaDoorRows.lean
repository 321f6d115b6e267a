/-
  NARROWER THAN 'FOR EVERY INPUT', by the rows' own cells (each row's printed sentence says how): GstatLooks: laid · GstatMoves: laid · GstatScans: laid.
  DERIVED. THE GIVEN ROWS OF THIS SEAT. 3 by the template 'for every input the law returns true; each argument reads behind the call as it read before'; 0 by the template 'total and deterministic' (their statements: YtaihhbkljinplaaDoorTotals.lean).
  GIVEN WITH THE SEED: the statements are not yours to turn. If you find one false, say at which input.
  Laid BY PROGRAM, IN A SANDBOX (cutbox-rows.mjs): the forced cells as the released guide's own fill.sh prints them over the translation 2b407bbef11ddcd1… (all of the seat's roots in one cut). By AI agents, Wed Nov 11 2026. No macro, syntax, notation, axiom, sorry.
-/
import Derived.Test.YtaihhbkljinplaaDoorChecked
import GoSem.Claim
import GoSem.ClaimJoined
import GoSem.ClaimMapViews
import Derived.JoinedTies
import Derived.KernelRfl
namespace Go.Proofs.YtaihhbkljinplaaDoor
/- THE CELL 'sum', in the pinned program and in every row, IS THE sha256 OF THE DUMP (.gsa) THAT YtaihhbkljinplaaDoorProg.lean LOADS. Nothing in Lean hashes anything: it is a label: what it is worth is what the hold of that sum in a sandbox is worth. -/
noncomputable def Tryd.pinned : Pinned := { name := "ytaihhbkljinplaadoor", sum := "2b407bbef11ddcd19966c4ce959a745930efdc8de4371933af23e83fee52092a", checked := Tryd.checked }
namespace Rows
def none {H : Type} : Left H := { results := [], args := [] }

/- WHAT THE LISTED PACKAGE-LEVEL VARIABLES READ AS WHEN THE CALL BEGINS. Each datum BY PROGRAM (the guide's laid-datum.mjs) off the statement by which the dump's own 'gosem.cut.vars' lays the variable. In a bare row this is a premise. The card (YtaihhbkljinplaaDoorCards.lean) ties it to the program's text. -/
def laid_escapement_gstat_follows {H : Type} : DataW H := .agg [.lit (.int .i64 2), .lit (.int .i64 36), .lit (.int .i64 122), .lit (.int .i64 6), .lit (.int .i64 2), .lit (.int .i64 2), .lit (.int .i64 0)]
def laid_escapement_gstat_names {H : Type} : DataW H := .agg [.lit (.string [105, 100, 108, 101]), .lit (.string [114, 117, 110, 110, 97, 98, 108, 101]), .lit (.string [114, 117, 110, 110, 105, 110, 103]), .lit (.string [115, 121, 115, 99, 97, 108, 108]), .lit (.string [119, 97, 105, 116, 105, 110, 103]), .lit (.string [112, 114, 101, 101, 109, 112, 116, 101, 100]), .lit (.string [100, 101, 97, 100])]

/-- 'escapementlaw18.GstatLooks': WHATEVER THE INPUT: true; the input reads as it did. -/
def gstatLooksSpec : ChangeSpec := { name := "gstatLooks", fn := fun _ => fun
  | [d] => { results := [.lit (.bool true)], args := [d] }
  | _ => none }
def gstatLooksRow : OpenClaim := { program := "ytaihhbkljinplaadoor", sum := "2b407bbef11ddcd19966c4ce959a745930efdc8de4371933af23e83fee52092a", func := "escapement/escapementlaw18.GstatLooks", spec := "gstatLooks", named := ["escapement/gstat.names", "escapement/gstat.follows"], apart := false, laid := [("escapement/gstat.follows", laid_escapement_gstat_follows), ("escapement/gstat.names", laid_escapement_gstat_names)] }
def GstatLooksSaid : Prop := gstatLooksRow.holds Tryd.pinned (OpenSpec.ofChange gstatLooksSpec)

/-- ITS FALSE NEIGHBOUR: 'it returns false'. Refute it at one input. -/
def gstatLooksWrong : ChangeSpec := { name := "gstatLooks", fn := fun _ => fun
  | [d] => { results := [.lit (.bool false)], args := [d] }
  | _ => none }
def GstatLooksWrongFalsely : Prop := gstatLooksRow.holds Tryd.pinned (OpenSpec.ofChange gstatLooksWrong)

/-- 'escapementlaw18.GstatMoves': WHATEVER THE INPUT: true; the input reads as it did. -/
def gstatMovesSpec : ChangeSpec := { name := "gstatMoves", fn := fun _ => fun
  | [d1, d2] => { results := [.lit (.bool true)], args := [d1, d2] }
  | _ => none }
def gstatMovesRow : OpenClaim := { program := "ytaihhbkljinplaadoor", sum := "2b407bbef11ddcd19966c4ce959a745930efdc8de4371933af23e83fee52092a", func := "escapement/escapementlaw18.GstatMoves", spec := "gstatMoves", named := ["escapement/gstat.follows", "escapement/gstat.names"], apart := false, laid := [("escapement/gstat.follows", laid_escapement_gstat_follows), ("escapement/gstat.names", laid_escapement_gstat_names)] }
def GstatMovesSaid : Prop := gstatMovesRow.holds Tryd.pinned (OpenSpec.ofChange gstatMovesSpec)

/-- ITS FALSE NEIGHBOUR: 'it returns false'. Refute it at one input. -/
def gstatMovesWrong : ChangeSpec := { name := "gstatMoves", fn := fun _ => fun
  | [d1, d2] => { results := [.lit (.bool false)], args := [d1, d2] }
  | _ => none }
def GstatMovesWrongFalsely : Prop := gstatMovesRow.holds Tryd.pinned (OpenSpec.ofChange gstatMovesWrong)

/-- 'escapementlaw18.GstatScans': WHATEVER THE INPUT: true; the input reads as it did. -/
def gstatScansSpec : ChangeSpec := { name := "gstatScans", fn := fun _ => fun
  | [d] => { results := [.lit (.bool true)], args := [d] }
  | _ => none }
def gstatScansRow : OpenClaim := { program := "ytaihhbkljinplaadoor", sum := "2b407bbef11ddcd19966c4ce959a745930efdc8de4371933af23e83fee52092a", func := "escapement/escapementlaw18.GstatScans", spec := "gstatScans", named := ["escapement/gstat.follows", "escapement/gstat.names"], apart := false, laid := [("escapement/gstat.follows", laid_escapement_gstat_follows), ("escapement/gstat.names", laid_escapement_gstat_names)] }
def GstatScansSaid : Prop := gstatScansRow.holds Tryd.pinned (OpenSpec.ofChange gstatScansSpec)

/-- ITS FALSE NEIGHBOUR: 'it returns false'. Refute it at one input. -/
def gstatScansWrong : ChangeSpec := { name := "gstatScans", fn := fun _ => fun
  | [d] => { results := [.lit (.bool false)], args := [d] }
  | _ => none }
def GstatScansWrongFalsely : Prop := gstatScansRow.holds Tryd.pinned (OpenSpec.ofChange gstatScansWrong)

/- THE SECOND FORM. 'bulk': how many values and letters a reading holds, each counted each time it is reached (what is shared counts as often as it is met; a slice's spare places count too). A statement '..UptoSaid' is the law's where the arguments, and the package variables that the reading takes, are together of bulk at most 1048576: NARROWER than '..Said'. Prove '..Said' where nothing that the law and all that it calls make is longer than what came in: it says more and counts as full. Else prove '..UptoSaid'. A law counts once. -/
mutual
def uptoBulk {H : Type} : DataW H → Nat
  | .lit (.string bytes) => bytes.length + 1
  | .lit _ => 1
  | .nil => 1
  | .ptr d => uptoBulk d + 1
  | .slice elems spare => uptoBulkAll elems + uptoBulkAll spare + 1
  | .agg parts => uptoBulkAll parts + 1
  | .iface _ d => uptoBulk d + 1
  | .map entries => uptoBulkEntries entries + 1
  | .held _ => 1
def uptoBulkAll {H : Type} : List (DataW H) → Nat
  | [] => 0
  | d :: r => uptoBulk d + uptoBulkAll r
def uptoBulkEntries {H : Type} : List (Lit × DataW H) → Nat
  | [] => 0
  | x :: r => uptoBulkEntry x + uptoBulkEntries r
def uptoBulkEntry {H : Type} : Lit × DataW H → Nat
  | (.string bytes, d) => bytes.length + uptoBulk d + 1
  | (_, d) => uptoBulk d + 1
 end
def uptoSmall : (H : Type) → List (DataW H) → Bool := fun _ ds => decide (uptoBulkAll ds ≤ 1048576)
def OpenSpec.upto (s : _root_.Go.ChangeSpec) : _root_.Go.OpenSpec := { _root_.Go.OpenSpec.ofChange s with cond := some uptoSmall }

/-- 'escapementlaw18.GstatLooks', WHERE WHAT IT READS IS OF BULK AT MOST 1048576: true; the input reads as it did. -/
def gstatLooksUptoRow : OpenClaim := { program := "ytaihhbkljinplaadoor", sum := "2b407bbef11ddcd19966c4ce959a745930efdc8de4371933af23e83fee52092a", func := "escapement/escapementlaw18.GstatLooks", spec := "gstatLooks", named := ["escapement/gstat.names", "escapement/gstat.follows"], apart := false, laid := [("escapement/gstat.follows", laid_escapement_gstat_follows), ("escapement/gstat.names", laid_escapement_gstat_names)], narrowed := true }
def GstatLooksUptoSaid : Prop := gstatLooksUptoRow.holds Tryd.pinned (OpenSpec.upto gstatLooksSpec)

/-- 'escapementlaw18.GstatMoves', WHERE WHAT IT READS IS OF BULK AT MOST 1048576: true; the input reads as it did. -/
def gstatMovesUptoRow : OpenClaim := { program := "ytaihhbkljinplaadoor", sum := "2b407bbef11ddcd19966c4ce959a745930efdc8de4371933af23e83fee52092a", func := "escapement/escapementlaw18.GstatMoves", spec := "gstatMoves", named := ["escapement/gstat.follows", "escapement/gstat.names"], apart := false, laid := [("escapement/gstat.follows", laid_escapement_gstat_follows), ("escapement/gstat.names", laid_escapement_gstat_names)], narrowed := true }
def GstatMovesUptoSaid : Prop := gstatMovesUptoRow.holds Tryd.pinned (OpenSpec.upto gstatMovesSpec)

/-- 'escapementlaw18.GstatScans', WHERE WHAT IT READS IS OF BULK AT MOST 1048576: true; the input reads as it did. -/
def gstatScansUptoRow : OpenClaim := { program := "ytaihhbkljinplaadoor", sum := "2b407bbef11ddcd19966c4ce959a745930efdc8de4371933af23e83fee52092a", func := "escapement/escapementlaw18.GstatScans", spec := "gstatScans", named := ["escapement/gstat.follows", "escapement/gstat.names"], apart := false, laid := [("escapement/gstat.follows", laid_escapement_gstat_follows), ("escapement/gstat.names", laid_escapement_gstat_names)], narrowed := true }
def GstatScansUptoSaid : Prop := gstatScansUptoRow.holds Tryd.pinned (OpenSpec.upto gstatScansSpec)

end Rows
end Go.Proofs.YtaihhbkljinplaaDoor
