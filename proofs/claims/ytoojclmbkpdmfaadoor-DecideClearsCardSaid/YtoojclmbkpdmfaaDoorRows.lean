/-
  NARROWER THAN 'FOR EVERY INPUT', by the rows' own cells (each row's printed sentence says how): DecideActs: laid · DecideClears: laid · DecideEnds: laid.
  DERIVED. THE GIVEN ROWS OF THIS SEAT. 3 by the template 'for every input the law returns true; each argument reads behind the call as it read before'; 0 by the template 'total and deterministic' (their statements: YtoojclmbkpdmfaaDoorTotals.lean).
  GIVEN WITH THE SEED: the statements are not yours to turn. If you find one false, say at which input.
  Laid BY PROGRAM, IN A SANDBOX (cutbox-rows.mjs): the forced cells as the released guide's own fill.sh prints them over the translation 45788d8308a4f4ba… (all of the seat's roots in one cut). By AI agents, Wed Nov 11 2026. No macro, syntax, notation, axiom, sorry.
-/
import Derived.Test.YtoojclmbkpdmfaaDoorChecked
import GoSem.Claim
import GoSem.ClaimJoined
import GoSem.ClaimMapViews
import Derived.JoinedTies
import Derived.KernelRfl
namespace Go.Proofs.YtoojclmbkpdmfaaDoor
/- THE CELL 'sum', in the pinned program and in every row, IS THE sha256 OF THE DUMP (.gsa) THAT YtoojclmbkpdmfaaDoorProg.lean LOADS. Nothing in Lean hashes anything: it is a label: what it is worth is what the hold of that sum in a sandbox is worth. -/
noncomputable def Tryd.pinned : Pinned := { name := "ytoojclmbkpdmfaadoor", sum := "45788d8308a4f4ba1f11c20c67d1d9a39a212f4ce85c52ec326b2c235920c492", checked := Tryd.checked }
namespace Rows
def none {H : Type} : Left H := { results := [], args := [] }

/- WHAT THE LISTED PACKAGE-LEVEL VARIABLES READ AS WHEN THE CALL BEGINS. Each datum BY PROGRAM (the guide's laid-datum.mjs) off the statement by which the dump's own 'gosem.cut.vars' lays the variable. In a bare row this is a premise. The card (YtoojclmbkpdmfaaDoorCards.lean) ties it to the program's text. -/
def laid_escapement_decide_names {H : Type} : DataW H := .agg [.lit (.string [103, 111]), .lit (.string [115, 101, 114, 118, 101]), .lit (.string [112, 97, 114, 107]), .lit (.string [114, 101, 113, 117, 101, 117, 101]), .lit (.string [102, 111, 114, 103, 101, 116])]

/-- 'escapementlaw25.DecideActs': WHATEVER THE INPUT: true; the input reads as it did. -/
def decideActsSpec : ChangeSpec := { name := "decideActs", fn := fun _ => fun
  | [d1, d2, d3] => { results := [.lit (.bool true)], args := [d1, d2, d3] }
  | _ => none }
def decideActsRow : OpenClaim := { program := "ytoojclmbkpdmfaadoor", sum := "45788d8308a4f4ba1f11c20c67d1d9a39a212f4ce85c52ec326b2c235920c492", func := "escapement/escapementlaw25.DecideActs", spec := "decideActs", named := ["escapement/decide.names"], apart := false, laid := [("escapement/decide.names", laid_escapement_decide_names)] }
def DecideActsSaid : Prop := decideActsRow.holds Tryd.pinned (OpenSpec.ofChange decideActsSpec)

/-- ITS FALSE NEIGHBOUR: 'it returns false'. Refute it at one input. -/
def decideActsWrong : ChangeSpec := { name := "decideActs", fn := fun _ => fun
  | [d1, d2, d3] => { results := [.lit (.bool false)], args := [d1, d2, d3] }
  | _ => none }
def DecideActsWrongFalsely : Prop := decideActsRow.holds Tryd.pinned (OpenSpec.ofChange decideActsWrong)

/-- 'escapementlaw25.DecideClears': WHATEVER THE INPUT: true; the input reads as it did. -/
def decideClearsSpec : ChangeSpec := { name := "decideClears", fn := fun _ => fun
  | [d1, d2] => { results := [.lit (.bool true)], args := [d1, d2] }
  | _ => none }
def decideClearsRow : OpenClaim := { program := "ytoojclmbkpdmfaadoor", sum := "45788d8308a4f4ba1f11c20c67d1d9a39a212f4ce85c52ec326b2c235920c492", func := "escapement/escapementlaw25.DecideClears", spec := "decideClears", named := ["escapement/decide.names"], apart := false, laid := [("escapement/decide.names", laid_escapement_decide_names)] }
def DecideClearsSaid : Prop := decideClearsRow.holds Tryd.pinned (OpenSpec.ofChange decideClearsSpec)

/-- ITS FALSE NEIGHBOUR: 'it returns false'. Refute it at one input. -/
def decideClearsWrong : ChangeSpec := { name := "decideClears", fn := fun _ => fun
  | [d1, d2] => { results := [.lit (.bool false)], args := [d1, d2] }
  | _ => none }
def DecideClearsWrongFalsely : Prop := decideClearsRow.holds Tryd.pinned (OpenSpec.ofChange decideClearsWrong)

/-- 'escapementlaw25.DecideEnds': WHATEVER THE INPUT: true; the input reads as it did. -/
def decideEndsSpec : ChangeSpec := { name := "decideEnds", fn := fun _ => fun
  | [d1, d2, d3] => { results := [.lit (.bool true)], args := [d1, d2, d3] }
  | _ => none }
def decideEndsRow : OpenClaim := { program := "ytoojclmbkpdmfaadoor", sum := "45788d8308a4f4ba1f11c20c67d1d9a39a212f4ce85c52ec326b2c235920c492", func := "escapement/escapementlaw25.DecideEnds", spec := "decideEnds", named := ["escapement/decide.names"], apart := false, laid := [("escapement/decide.names", laid_escapement_decide_names)] }
def DecideEndsSaid : Prop := decideEndsRow.holds Tryd.pinned (OpenSpec.ofChange decideEndsSpec)

/-- ITS FALSE NEIGHBOUR: 'it returns false'. Refute it at one input. -/
def decideEndsWrong : ChangeSpec := { name := "decideEnds", fn := fun _ => fun
  | [d1, d2, d3] => { results := [.lit (.bool false)], args := [d1, d2, d3] }
  | _ => none }
def DecideEndsWrongFalsely : Prop := decideEndsRow.holds Tryd.pinned (OpenSpec.ofChange decideEndsWrong)

/- THE SECOND FORM. 'bulk': how many values and letters a reading holds, each counted each time it is reached (what is shared counts as often as it is met; a slice's spare places count too). A statement '..UptoSaid' is the law's where the arguments, and the package variables that the reading takes, are together of bulk at most 1048576: NARROWER than '..Said'. Prove '..Said' where nothing that the law and all that it calls make is longer than what came in: it says more and counts as full. Else prove '..UptoSaid'. A law counts once. -/
mutual
def uptoBulk {H : Type} : DataW H → Nat
  | .lit (.string bytes) => bytes.length + 1
  | .lit _ => 1
  | .nil => 1
  | .ptr d => uptoBulk d + 1
  | .slice elems spare => uptoBulkAll elems + uptoBulkAll spare + 1
  | .agg parts => uptoBulkAll parts + 1
  | .iface _ d => uptoBulk d + 1
  | .map entries => uptoBulkEntries entries + 1
  | .held _ => 1
def uptoBulkAll {H : Type} : List (DataW H) → Nat
  | [] => 0
  | d :: r => uptoBulk d + uptoBulkAll r
def uptoBulkEntries {H : Type} : List (Lit × DataW H) → Nat
  | [] => 0
  | x :: r => uptoBulkEntry x + uptoBulkEntries r
def uptoBulkEntry {H : Type} : Lit × DataW H → Nat
  | (.string bytes, d) => bytes.length + uptoBulk d + 1
  | (_, d) => uptoBulk d + 1
 end
def uptoSmall : (H : Type) → List (DataW H) → Bool := fun _ ds => decide (uptoBulkAll ds ≤ 1048576)
def OpenSpec.upto (s : _root_.Go.ChangeSpec) : _root_.Go.OpenSpec := { _root_.Go.OpenSpec.ofChange s with cond := some uptoSmall }

/-- 'escapementlaw25.DecideActs', WHERE WHAT IT READS IS OF BULK AT MOST 1048576: true; the input reads as it did. -/
def decideActsUptoRow : OpenClaim := { program := "ytoojclmbkpdmfaadoor", sum := "45788d8308a4f4ba1f11c20c67d1d9a39a212f4ce85c52ec326b2c235920c492", func := "escapement/escapementlaw25.DecideActs", spec := "decideActs", named := ["escapement/decide.names"], apart := false, laid := [("escapement/decide.names", laid_escapement_decide_names)], narrowed := true }
def DecideActsUptoSaid : Prop := decideActsUptoRow.holds Tryd.pinned (OpenSpec.upto decideActsSpec)

/-- 'escapementlaw25.DecideClears', WHERE WHAT IT READS IS OF BULK AT MOST 1048576: true; the input reads as it did. -/
def decideClearsUptoRow : OpenClaim := { program := "ytoojclmbkpdmfaadoor", sum := "45788d8308a4f4ba1f11c20c67d1d9a39a212f4ce85c52ec326b2c235920c492", func := "escapement/escapementlaw25.DecideClears", spec := "decideClears", named := ["escapement/decide.names"], apart := false, laid := [("escapement/decide.names", laid_escapement_decide_names)], narrowed := true }
def DecideClearsUptoSaid : Prop := decideClearsUptoRow.holds Tryd.pinned (OpenSpec.upto decideClearsSpec)

/-- 'escapementlaw25.DecideEnds', WHERE WHAT IT READS IS OF BULK AT MOST 1048576: true; the input reads as it did. -/
def decideEndsUptoRow : OpenClaim := { program := "ytoojclmbkpdmfaadoor", sum := "45788d8308a4f4ba1f11c20c67d1d9a39a212f4ce85c52ec326b2c235920c492", func := "escapement/escapementlaw25.DecideEnds", spec := "decideEnds", named := ["escapement/decide.names"], apart := false, laid := [("escapement/decide.names", laid_escapement_decide_names)], narrowed := true }
def DecideEndsUptoSaid : Prop := decideEndsUptoRow.holds Tryd.pinned (OpenSpec.upto decideEndsSpec)

end Rows
end Go.Proofs.YtoojclmbkpdmfaaDoor
