/-
  NARROWER THAN 'FOR EVERY INPUT', by the rows' own cells (each row's printed sentence says how): ValidChecks: laid · ValidMends: laid · ValidConfs: laid · ValidStays: laid.
  DERIVED. THE GIVEN ROWS OF THIS SEAT. 4 by the template 'for every input the law returns true; each argument reads behind the call as it read before'; 0 by the template 'total and deterministic' (their statements: YtkpipoicobmjkaaDoorTotals.lean).
  GIVEN WITH THE SEED: the statements are not yours to turn. If you find one false, say at which input.
  Laid BY PROGRAM, IN A SANDBOX (cutbox-rows.mjs): the forced cells as the released guide's own fill.sh prints them over the translation aaf42817e07c3090… (all of the seat's roots in one cut). By AI agents, Wed Nov 11 2026. No macro, syntax, notation, axiom, sorry.
-/
import Derived.Test.YtkpipoicobmjkaaDoorChecked
import GoSem.Claim
import GoSem.ClaimJoined
import GoSem.ClaimMapViews
import Derived.JoinedTies
import Derived.KernelRfl
namespace Go.Proofs.YtkpipoicobmjkaaDoor
/- THE CELL 'sum', in the pinned program and in every row, IS THE sha256 OF THE DUMP (.gsa) THAT YtkpipoicobmjkaaDoorProg.lean LOADS. Nothing in Lean hashes anything: it is a label: what it is worth is what the hold of that sum in a sandbox is worth. -/
noncomputable def Tryd.pinned : Pinned := { name := "ytkpipoicobmjkaadoor", sum := "aaf42817e07c309034f1a62b279ee7a6bc10622116bb0cf5cabe5280904346e9", checked := Tryd.checked }
namespace Rows
def none {H : Type} : Left H := { results := [], args := [] }

/- WHAT THE LISTED PACKAGE-LEVEL VARIABLES READ AS WHEN THE CALL BEGINS. Each datum BY PROGRAM (the guide's laid-datum.mjs) off the statement by which the dump's own 'gosem.cut.vars' lays the variable. In a bare row this is a premise. The card (YtkpipoicobmjkaaDoorCards.lean) ties it to the program's text. -/
def laid_escapement_isa_table {H : Type} : DataW H := .agg [.agg [.lit (.string [110, 111, 112]), .lit (.int .i64 0), .lit (.int .i64 0), .lit (.bool false), .lit (.bool false), .lit (.bool false), .lit (.bool false)], .agg [.lit (.string [99, 111, 110, 115, 116]), .lit (.int .i64 1), .lit (.int .i64 0), .lit (.bool true), .lit (.bool false), .lit (.bool false), .lit (.bool false)], .agg [.lit (.string [97, 100, 100]), .lit (.int .i64 3), .lit (.int .i64 0), .lit (.bool false), .lit (.bool false), .lit (.bool false), .lit (.bool false)], .agg [.lit (.string [115, 117, 98]), .lit (.int .i64 3), .lit (.int .i64 0), .lit (.bool false), .lit (.bool false), .lit (.bool false), .lit (.bool false)], .agg [.lit (.string [109, 117, 108]), .lit (.int .i64 3), .lit (.int .i64 0), .lit (.bool false), .lit (.bool false), .lit (.bool false), .lit (.bool false)], .agg [.lit (.string [108, 101, 115, 115]), .lit (.int .i64 3), .lit (.int .i64 0), .lit (.bool false), .lit (.bool false), .lit (.bool false), .lit (.bool false)], .agg [.lit (.string [106, 117, 109, 112]), .lit (.int .i64 0), .lit (.int .i64 1), .lit (.bool false), .lit (.bool false), .lit (.bool true), .lit (.bool false)], .agg [.lit (.string [105, 102]), .lit (.int .i64 1), .lit (.int .i64 1), .lit (.bool false), .lit (.bool false), .lit (.bool false), .lit (.bool false)], .agg [.lit (.string [99, 97, 108, 108]), .lit (.int .i64 0), .lit (.int .i64 2), .lit (.bool false), .lit (.bool false), .lit (.bool false), .lit (.bool false)], .agg [.lit (.string [114, 101, 116]), .lit (.int .i64 0), .lit (.int .i64 0), .lit (.bool false), .lit (.bool false), .lit (.bool true), .lit (.bool false)], .agg [.lit (.string [115, 112, 97, 119, 110]), .lit (.int .i64 1), .lit (.int .i64 2), .lit (.bool false), .lit (.bool false), .lit (.bool false), .lit (.bool true)], .agg [.lit (.string [121, 105, 101, 108, 100]), .lit (.int .i64 0), .lit (.int .i64 0), .lit (.bool false), .lit (.bool true), .lit (.bool false), .lit (.bool false)], .agg [.lit (.string [98, 108, 111, 99, 107]), .lit (.int .i64 0), .lit (.int .i64 0), .lit (.bool false), .lit (.bool true), .lit (.bool false), .lit (.bool false)], .agg [.lit (.string [114, 101, 97, 100, 121]), .lit (.int .i64 1), .lit (.int .i64 0), .lit (.bool false), .lit (.bool false), .lit (.bool false), .lit (.bool true)], .agg [.lit (.string [101, 120, 105, 116]), .lit (.int .i64 0), .lit (.int .i64 0), .lit (.bool false), .lit (.bool false), .lit (.bool true), .lit (.bool false)], .agg [.lit (.string [101, 109, 105, 116]), .lit (.int .i64 1), .lit (.int .i64 0), .lit (.bool false), .lit (.bool false), .lit (.bool false), .lit (.bool false)], .agg [.lit (.string [115, 121, 115]), .lit (.int .i64 1), .lit (.int .i64 0), .lit (.bool false), .lit (.bool true), .lit (.bool false), .lit (.bool false)], .agg [.lit (.string [115, 116, 111, 112]), .lit (.int .i64 0), .lit (.int .i64 0), .lit (.bool false), .lit (.bool true), .lit (.bool false), .lit (.bool false)], .agg [.lit (.string [115, 116, 97, 114, 116]), .lit (.int .i64 0), .lit (.int .i64 0), .lit (.bool false), .lit (.bool false), .lit (.bool false), .lit (.bool false)], .agg [.lit (.string [98, 97, 114, 114, 105, 101, 114]), .lit (.int .i64 0), .lit (.int .i64 0), .lit (.bool false), .lit (.bool true), .lit (.bool false), .lit (.bool false)], .agg [.lit (.string [115, 117, 115, 112, 101, 110, 100]), .lit (.int .i64 1), .lit (.int .i64 0), .lit (.bool false), .lit (.bool true), .lit (.bool false), .lit (.bool true)], .agg [.lit (.string [114, 101, 115, 117, 109, 101]), .lit (.int .i64 1), .lit (.int .i64 0), .lit (.bool false), .lit (.bool false), .lit (.bool false), .lit (.bool true)], .agg [.lit (.string [114, 101, 115, 105, 122, 101]), .lit (.int .i64 1), .lit (.int .i64 0), .lit (.bool false), .lit (.bool false), .lit (.bool false), .lit (.bool true)], .agg [.lit (.string [115, 101, 108, 102]), .lit (.int .i64 1), .lit (.int .i64 0), .lit (.bool false), .lit (.bool false), .lit (.bool false), .lit (.bool true)]]

/-- 'escapementlaw09.ValidChecks': WHATEVER THE INPUT: true; the input reads as it did. -/
def validChecksSpec : ChangeSpec := { name := "validChecks", fn := fun _ => fun
  | [d] => { results := [.lit (.bool true)], args := [d] }
  | _ => none }
def validChecksRow : OpenClaim := { program := "ytkpipoicobmjkaadoor", sum := "aaf42817e07c309034f1a62b279ee7a6bc10622116bb0cf5cabe5280904346e9", func := "escapement/escapementlaw09.ValidChecks", spec := "validChecks", unfollowed := true, recurses := true, named := ["escapement/isa.table"], apart := false, laid := [("escapement/isa.table", laid_escapement_isa_table)] }
def ValidChecksSaid : Prop := validChecksRow.holds Tryd.pinned (OpenSpec.ofChange validChecksSpec)

/-- ITS FALSE NEIGHBOUR: 'it returns false'. Refute it at one input. -/
def validChecksWrong : ChangeSpec := { name := "validChecks", fn := fun _ => fun
  | [d] => { results := [.lit (.bool false)], args := [d] }
  | _ => none }
def ValidChecksWrongFalsely : Prop := validChecksRow.holds Tryd.pinned (OpenSpec.ofChange validChecksWrong)

/-- 'escapementlaw09.ValidMends': WHATEVER THE INPUT: true; the input reads as it did. -/
def validMendsSpec : ChangeSpec := { name := "validMends", fn := fun _ => fun
  | [d1, d2, d3] => { results := [.lit (.bool true)], args := [d1, d2, d3] }
  | _ => none }
def validMendsRow : OpenClaim := { program := "ytkpipoicobmjkaadoor", sum := "aaf42817e07c309034f1a62b279ee7a6bc10622116bb0cf5cabe5280904346e9", func := "escapement/escapementlaw09.ValidMends", spec := "validMends", unfollowed := true, recurses := true, named := ["escapement/isa.table"], apart := false, laid := [("escapement/isa.table", laid_escapement_isa_table)] }
def ValidMendsSaid : Prop := validMendsRow.holds Tryd.pinned (OpenSpec.ofChange validMendsSpec)

/-- ITS FALSE NEIGHBOUR: 'it returns false'. Refute it at one input. -/
def validMendsWrong : ChangeSpec := { name := "validMends", fn := fun _ => fun
  | [d1, d2, d3] => { results := [.lit (.bool false)], args := [d1, d2, d3] }
  | _ => none }
def ValidMendsWrongFalsely : Prop := validMendsRow.holds Tryd.pinned (OpenSpec.ofChange validMendsWrong)

/-- 'escapementlaw09.ValidConfs': WHATEVER THE INPUT: true; the input reads as it did. -/
def validConfsSpec : ChangeSpec := { name := "validConfs", fn := fun _ => fun
  | [d] => { results := [.lit (.bool true)], args := [d] }
  | _ => none }
def validConfsRow : OpenClaim := { program := "ytkpipoicobmjkaadoor", sum := "aaf42817e07c309034f1a62b279ee7a6bc10622116bb0cf5cabe5280904346e9", func := "escapement/escapementlaw09.ValidConfs", spec := "validConfs", unfollowed := true, recurses := true, named := ["escapement/isa.table"], apart := false, laid := [("escapement/isa.table", laid_escapement_isa_table)] }
def ValidConfsSaid : Prop := validConfsRow.holds Tryd.pinned (OpenSpec.ofChange validConfsSpec)

/-- ITS FALSE NEIGHBOUR: 'it returns false'. Refute it at one input. -/
def validConfsWrong : ChangeSpec := { name := "validConfs", fn := fun _ => fun
  | [d] => { results := [.lit (.bool false)], args := [d] }
  | _ => none }
def ValidConfsWrongFalsely : Prop := validConfsRow.holds Tryd.pinned (OpenSpec.ofChange validConfsWrong)

/-- 'escapementlaw09.ValidStays': WHATEVER THE INPUT: true; the input reads as it did. -/
def validStaysSpec : ChangeSpec := { name := "validStays", fn := fun _ => fun
  | [d] => { results := [.lit (.bool true)], args := [d] }
  | _ => none }
def validStaysRow : OpenClaim := { program := "ytkpipoicobmjkaadoor", sum := "aaf42817e07c309034f1a62b279ee7a6bc10622116bb0cf5cabe5280904346e9", func := "escapement/escapementlaw09.ValidStays", spec := "validStays", unfollowed := true, recurses := true, named := ["escapement/isa.table"], apart := false, laid := [("escapement/isa.table", laid_escapement_isa_table)] }
def ValidStaysSaid : Prop := validStaysRow.holds Tryd.pinned (OpenSpec.ofChange validStaysSpec)

/-- ITS FALSE NEIGHBOUR: 'it returns false'. Refute it at one input. -/
def validStaysWrong : ChangeSpec := { name := "validStays", fn := fun _ => fun
  | [d] => { results := [.lit (.bool false)], args := [d] }
  | _ => none }
def ValidStaysWrongFalsely : Prop := validStaysRow.holds Tryd.pinned (OpenSpec.ofChange validStaysWrong)

/- THE SECOND FORM. 'bulk': how many values and letters a reading holds, each counted each time it is reached (what is shared counts as often as it is met; a slice's spare places count too). A statement '..UptoSaid' is the law's where the arguments, and the package variables that the reading takes, are together of bulk at most 1048576: NARROWER than '..Said'. Prove '..Said' where nothing that the law and all that it calls make is longer than what came in: it says more and counts as full. Else prove '..UptoSaid'. A law counts once. -/
mutual
def uptoBulk {H : Type} : DataW H → Nat
  | .lit (.string bytes) => bytes.length + 1
  | .lit _ => 1
  | .nil => 1
  | .ptr d => uptoBulk d + 1
  | .slice elems spare => uptoBulkAll elems + uptoBulkAll spare + 1
  | .agg parts => uptoBulkAll parts + 1
  | .iface _ d => uptoBulk d + 1
  | .map entries => uptoBulkEntries entries + 1
  | .held _ => 1
def uptoBulkAll {H : Type} : List (DataW H) → Nat
  | [] => 0
  | d :: r => uptoBulk d + uptoBulkAll r
def uptoBulkEntries {H : Type} : List (Lit × DataW H) → Nat
  | [] => 0
  | x :: r => uptoBulkEntry x + uptoBulkEntries r
def uptoBulkEntry {H : Type} : Lit × DataW H → Nat
  | (.string bytes, d) => bytes.length + uptoBulk d + 1
  | (_, d) => uptoBulk d + 1
 end
def uptoSmall : (H : Type) → List (DataW H) → Bool := fun _ ds => decide (uptoBulkAll ds ≤ 1048576)
def OpenSpec.upto (s : _root_.Go.ChangeSpec) : _root_.Go.OpenSpec := { _root_.Go.OpenSpec.ofChange s with cond := some uptoSmall }

/-- 'escapementlaw09.ValidChecks', WHERE WHAT IT READS IS OF BULK AT MOST 1048576: true; the input reads as it did. -/
def validChecksUptoRow : OpenClaim := { program := "ytkpipoicobmjkaadoor", sum := "aaf42817e07c309034f1a62b279ee7a6bc10622116bb0cf5cabe5280904346e9", func := "escapement/escapementlaw09.ValidChecks", spec := "validChecks", unfollowed := true, recurses := true, named := ["escapement/isa.table"], apart := false, laid := [("escapement/isa.table", laid_escapement_isa_table)], narrowed := true }
def ValidChecksUptoSaid : Prop := validChecksUptoRow.holds Tryd.pinned (OpenSpec.upto validChecksSpec)

/-- 'escapementlaw09.ValidMends', WHERE WHAT IT READS IS OF BULK AT MOST 1048576: true; the input reads as it did. -/
def validMendsUptoRow : OpenClaim := { program := "ytkpipoicobmjkaadoor", sum := "aaf42817e07c309034f1a62b279ee7a6bc10622116bb0cf5cabe5280904346e9", func := "escapement/escapementlaw09.ValidMends", spec := "validMends", unfollowed := true, recurses := true, named := ["escapement/isa.table"], apart := false, laid := [("escapement/isa.table", laid_escapement_isa_table)], narrowed := true }
def ValidMendsUptoSaid : Prop := validMendsUptoRow.holds Tryd.pinned (OpenSpec.upto validMendsSpec)

/-- 'escapementlaw09.ValidConfs', WHERE WHAT IT READS IS OF BULK AT MOST 1048576: true; the input reads as it did. -/
def validConfsUptoRow : OpenClaim := { program := "ytkpipoicobmjkaadoor", sum := "aaf42817e07c309034f1a62b279ee7a6bc10622116bb0cf5cabe5280904346e9", func := "escapement/escapementlaw09.ValidConfs", spec := "validConfs", unfollowed := true, recurses := true, named := ["escapement/isa.table"], apart := false, laid := [("escapement/isa.table", laid_escapement_isa_table)], narrowed := true }
def ValidConfsUptoSaid : Prop := validConfsUptoRow.holds Tryd.pinned (OpenSpec.upto validConfsSpec)

/-- 'escapementlaw09.ValidStays', WHERE WHAT IT READS IS OF BULK AT MOST 1048576: true; the input reads as it did. -/
def validStaysUptoRow : OpenClaim := { program := "ytkpipoicobmjkaadoor", sum := "aaf42817e07c309034f1a62b279ee7a6bc10622116bb0cf5cabe5280904346e9", func := "escapement/escapementlaw09.ValidStays", spec := "validStays", unfollowed := true, recurses := true, named := ["escapement/isa.table"], apart := false, laid := [("escapement/isa.table", laid_escapement_isa_table)], narrowed := true }
def ValidStaysUptoSaid : Prop := validStaysUptoRow.holds Tryd.pinned (OpenSpec.upto validStaysSpec)

end Rows
end Go.Proofs.YtkpipoicobmjkaaDoor
