/-
  No cell of these rows narrows 'for every input' (looked for: loops, veiled, ifaces, maps, wideKeys, modest, calm, conditions, laid).
  DERIVED. THE GIVEN ROWS OF THIS SEAT. 4 by the template 'for every input the law returns true; each argument reads behind the call as it read before'; 0 by the template 'total and deterministic' (their statements: YtfmjmhnbdceipaaTotals.lean).
  GIVEN WITH THE SEED: the statements are not yours to turn. If you find one false, say at which input.
  Laid BY PROGRAM, IN A SANDBOX (cutbox-rows.mjs): the forced cells as the released guide's own fill.sh prints them over the translation b6e34631ac06d4bc… (all of the seat's roots in one cut). By AI agents, Wed Nov 11 2026. No macro, syntax, notation, axiom, sorry.
-/
import Derived.Test.YtfmjmhnbdceipaaChecked
import GoSem.Claim
import GoSem.ClaimJoined
import GoSem.ClaimMapViews
import Derived.JoinedTies
import Derived.KernelRfl
namespace Go.Proofs.Ytfmjmhnbdceipaa
/- THE CELL 'sum', in the pinned program and in every row, IS THE sha256 OF THE DUMP (.gsa) THAT YtfmjmhnbdceipaaProg.lean LOADS. Nothing in Lean hashes anything: it is a label: what it is worth is what the hold of that sum in a sandbox is worth. -/
noncomputable def Try.pinned : Pinned := { name := "ytfmjmhnbdceipaa", sum := "b6e34631ac06d4bc5879e44d7976882d1f62d6410650e035986582d9c7b2d21c", checked := Try.checked }
namespace Rows
def none {H : Type} : Left H := { results := [], args := [] }

/-- 'escapementlaw40.PctScripts': WHATEVER THE INPUT: true; the input reads as it did. -/
def pctScriptsSpec : ChangeSpec := { name := "pctScripts", fn := fun _ => fun
  | [d1, d2] => { results := [.lit (.bool true)], args := [d1, d2] }
  | _ => none }
def pctScriptsRow : OpenClaim := { program := "ytfmjmhnbdceipaa", sum := "b6e34631ac06d4bc5879e44d7976882d1f62d6410650e035986582d9c7b2d21c", func := "escapement/escapementlaw40.PctScripts", spec := "pctScripts", unfollowed := true, recurses := true, apart := false }
def PctScriptsSaid : Prop := pctScriptsRow.holds Try.pinned (OpenSpec.ofChange pctScriptsSpec)

/-- ITS FALSE NEIGHBOUR: 'it returns false'. Refute it at one input. -/
def pctScriptsWrong : ChangeSpec := { name := "pctScripts", fn := fun _ => fun
  | [d1, d2] => { results := [.lit (.bool false)], args := [d1, d2] }
  | _ => none }
def PctScriptsWrongFalsely : Prop := pctScriptsRow.holds Try.pinned (OpenSpec.ofChange pctScriptsWrong)

/-- 'escapementlaw40.PctOrders': WHATEVER THE INPUT: true; the input reads as it did. -/
def pctOrdersSpec : ChangeSpec := { name := "pctOrders", fn := fun _ => fun
  | [d1, d2, d3, d4] => { results := [.lit (.bool true)], args := [d1, d2, d3, d4] }
  | _ => none }
def pctOrdersRow : OpenClaim := { program := "ytfmjmhnbdceipaa", sum := "b6e34631ac06d4bc5879e44d7976882d1f62d6410650e035986582d9c7b2d21c", func := "escapement/escapementlaw40.PctOrders", spec := "pctOrders", unfollowed := true, recurses := true, apart := false }
def PctOrdersSaid : Prop := pctOrdersRow.holds Try.pinned (OpenSpec.ofChange pctOrdersSpec)

/-- ITS FALSE NEIGHBOUR: 'it returns false'. Refute it at one input. -/
def pctOrdersWrong : ChangeSpec := { name := "pctOrders", fn := fun _ => fun
  | [d1, d2, d3, d4] => { results := [.lit (.bool false)], args := [d1, d2, d3, d4] }
  | _ => none }
def PctOrdersWrongFalsely : Prop := pctOrdersRow.holds Try.pinned (OpenSpec.ofChange pctOrdersWrong)

/-- 'escapementlaw40.PctOnce': WHATEVER THE INPUT: true; the input reads as it did. -/
def pctOnceSpec : ChangeSpec := { name := "pctOnce", fn := fun _ => fun
  | [d1, d2, d3, d4] => { results := [.lit (.bool true)], args := [d1, d2, d3, d4] }
  | _ => none }
def pctOnceRow : OpenClaim := { program := "ytfmjmhnbdceipaa", sum := "b6e34631ac06d4bc5879e44d7976882d1f62d6410650e035986582d9c7b2d21c", func := "escapement/escapementlaw40.PctOnce", spec := "pctOnce", unfollowed := true, recurses := true, apart := false }
def PctOnceSaid : Prop := pctOnceRow.holds Try.pinned (OpenSpec.ofChange pctOnceSpec)

/-- ITS FALSE NEIGHBOUR: 'it returns false'. Refute it at one input. -/
def pctOnceWrong : ChangeSpec := { name := "pctOnce", fn := fun _ => fun
  | [d1, d2, d3, d4] => { results := [.lit (.bool false)], args := [d1, d2, d3, d4] }
  | _ => none }
def PctOnceWrongFalsely : Prop := pctOnceRow.holds Try.pinned (OpenSpec.ofChange pctOnceWrong)

/-- 'escapementlaw40.PctFair': WHATEVER THE INPUT: true; the input reads as it did. -/
def pctFairSpec : ChangeSpec := { name := "pctFair", fn := fun _ => fun
  | [d] => { results := [.lit (.bool true)], args := [d] }
  | _ => none }
def pctFairRow : OpenClaim := { program := "ytfmjmhnbdceipaa", sum := "b6e34631ac06d4bc5879e44d7976882d1f62d6410650e035986582d9c7b2d21c", func := "escapement/escapementlaw40.PctFair", spec := "pctFair", unfollowed := true, recurses := true, apart := false }
def PctFairSaid : Prop := pctFairRow.holds Try.pinned (OpenSpec.ofChange pctFairSpec)

/-- ITS FALSE NEIGHBOUR: 'it returns false'. Refute it at one input. -/
def pctFairWrong : ChangeSpec := { name := "pctFair", fn := fun _ => fun
  | [d] => { results := [.lit (.bool false)], args := [d] }
  | _ => none }
def PctFairWrongFalsely : Prop := pctFairRow.holds Try.pinned (OpenSpec.ofChange pctFairWrong)

/- THE SECOND FORM. 'bulk': how many values and letters a reading holds, each counted each time it is reached (what is shared counts as often as it is met; a slice's spare places count too). A statement '..UptoSaid' is the law's where the arguments, and the package variables that the reading takes, are together of bulk at most 1048576: NARROWER than '..Said'. Prove '..Said' where nothing that the law and all that it calls make is longer than what came in: it says more and counts as full. Else prove '..UptoSaid'. A law counts once. -/
mutual
def uptoBulk {H : Type} : DataW H → Nat
  | .lit (.string bytes) => bytes.length + 1
  | .lit _ => 1
  | .nil => 1
  | .ptr d => uptoBulk d + 1
  | .slice elems spare => uptoBulkAll elems + uptoBulkAll spare + 1
  | .agg parts => uptoBulkAll parts + 1
  | .iface _ d => uptoBulk d + 1
  | .map entries => uptoBulkEntries entries + 1
  | .held _ => 1
def uptoBulkAll {H : Type} : List (DataW H) → Nat
  | [] => 0
  | d :: r => uptoBulk d + uptoBulkAll r
def uptoBulkEntries {H : Type} : List (Lit × DataW H) → Nat
  | [] => 0
  | x :: r => uptoBulkEntry x + uptoBulkEntries r
def uptoBulkEntry {H : Type} : Lit × DataW H → Nat
  | (.string bytes, d) => bytes.length + uptoBulk d + 1
  | (_, d) => uptoBulk d + 1
 end
def uptoSmall : (H : Type) → List (DataW H) → Bool := fun _ ds => decide (uptoBulkAll ds ≤ 1048576)
def OpenSpec.upto (s : _root_.Go.ChangeSpec) : _root_.Go.OpenSpec := { _root_.Go.OpenSpec.ofChange s with cond := some uptoSmall }

/-- 'escapementlaw40.PctScripts', WHERE WHAT IT READS IS OF BULK AT MOST 1048576: true; the input reads as it did. -/
def pctScriptsUptoRow : OpenClaim := { program := "ytfmjmhnbdceipaa", sum := "b6e34631ac06d4bc5879e44d7976882d1f62d6410650e035986582d9c7b2d21c", func := "escapement/escapementlaw40.PctScripts", spec := "pctScripts", unfollowed := true, recurses := true, apart := false, narrowed := true }
def PctScriptsUptoSaid : Prop := pctScriptsUptoRow.holds Try.pinned (OpenSpec.upto pctScriptsSpec)

/-- 'escapementlaw40.PctOrders', WHERE WHAT IT READS IS OF BULK AT MOST 1048576: true; the input reads as it did. -/
def pctOrdersUptoRow : OpenClaim := { program := "ytfmjmhnbdceipaa", sum := "b6e34631ac06d4bc5879e44d7976882d1f62d6410650e035986582d9c7b2d21c", func := "escapement/escapementlaw40.PctOrders", spec := "pctOrders", unfollowed := true, recurses := true, apart := false, narrowed := true }
def PctOrdersUptoSaid : Prop := pctOrdersUptoRow.holds Try.pinned (OpenSpec.upto pctOrdersSpec)

/-- 'escapementlaw40.PctOnce', WHERE WHAT IT READS IS OF BULK AT MOST 1048576: true; the input reads as it did. -/
def pctOnceUptoRow : OpenClaim := { program := "ytfmjmhnbdceipaa", sum := "b6e34631ac06d4bc5879e44d7976882d1f62d6410650e035986582d9c7b2d21c", func := "escapement/escapementlaw40.PctOnce", spec := "pctOnce", unfollowed := true, recurses := true, apart := false, narrowed := true }
def PctOnceUptoSaid : Prop := pctOnceUptoRow.holds Try.pinned (OpenSpec.upto pctOnceSpec)

/-- 'escapementlaw40.PctFair', WHERE WHAT IT READS IS OF BULK AT MOST 1048576: true; the input reads as it did. -/
def pctFairUptoRow : OpenClaim := { program := "ytfmjmhnbdceipaa", sum := "b6e34631ac06d4bc5879e44d7976882d1f62d6410650e035986582d9c7b2d21c", func := "escapement/escapementlaw40.PctFair", spec := "pctFair", unfollowed := true, recurses := true, apart := false, narrowed := true }
def PctFairUptoSaid : Prop := pctFairUptoRow.holds Try.pinned (OpenSpec.upto pctFairSpec)

end Rows
end Go.Proofs.Ytfmjmhnbdceipaa
