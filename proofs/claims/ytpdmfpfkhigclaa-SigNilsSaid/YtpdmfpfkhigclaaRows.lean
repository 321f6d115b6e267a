/-
  No cell of these rows narrows 'for every input' (looked for: loops, veiled, ifaces, maps, wideKeys, modest, calm, conditions, laid).
  DERIVED. THE GIVEN ROWS OF THIS SEAT. 3 by the template 'for every input the law returns true; each argument reads behind the call as it read before'; 0 by the template 'total and deterministic' (their statements: YtpdmfpfkhigclaaTotals.lean).
  GIVEN WITH THE SEED: the statements are not yours to turn. If you find one false, say at which input.
  Laid BY PROGRAM, IN A SANDBOX (cutbox-rows.mjs): the forced cells as the released guide's own fill.sh prints them over the translation 760ea43c1d2dd54f… (all of the seat's roots in one cut). By AI agents, Wed Nov 11 2026. No macro, syntax, notation, axiom, sorry.
-/
import Derived.Test.YtpdmfpfkhigclaaChecked
import GoSem.Claim
import GoSem.ClaimJoined
import GoSem.ClaimMapViews
import Derived.JoinedTies
import Derived.KernelRfl
namespace Go.Proofs.Ytpdmfpfkhigclaa
/- THE CELL 'sum', in the pinned program and in every row, IS THE sha256 OF THE DUMP (.gsa) THAT YtpdmfpfkhigclaaProg.lean LOADS. Nothing in Lean hashes anything: it is a label: what it is worth is what the hold of that sum in a sandbox is worth. -/
noncomputable def Try.pinned : Pinned := { name := "ytpdmfpfkhigclaa", sum := "760ea43c1d2dd54f7e193f86d4f027912747cb04837c08c0d54ebdb1ed4a0e46", checked := Try.checked }
namespace Rows
def none {H : Type} : Left H := { results := [], args := [] }

/-- 'escapementlaw21.SigPlays': WHATEVER THE INPUT: true; the input reads as it did. -/
def sigPlaysSpec : ChangeSpec := { name := "sigPlays", fn := fun _ => fun
  | [d] => { results := [.lit (.bool true)], args := [d] }
  | _ => none }
def sigPlaysRow : OpenClaim := { program := "ytpdmfpfkhigclaa", sum := "760ea43c1d2dd54f7e193f86d4f027912747cb04837c08c0d54ebdb1ed4a0e46", func := "escapement/escapementlaw21.SigPlays", spec := "sigPlays", unfollowed := true, recurses := true, apart := false }
def SigPlaysSaid : Prop := sigPlaysRow.holds Try.pinned (OpenSpec.ofChange sigPlaysSpec)

/-- ITS FALSE NEIGHBOUR: 'it returns false'. Refute it at one input. -/
def sigPlaysWrong : ChangeSpec := { name := "sigPlays", fn := fun _ => fun
  | [d] => { results := [.lit (.bool false)], args := [d] }
  | _ => none }
def SigPlaysWrongFalsely : Prop := sigPlaysRow.holds Try.pinned (OpenSpec.ofChange sigPlaysWrong)

/-- 'escapementlaw21.SigOnce': WHATEVER THE INPUT: true; the input reads as it did. -/
def sigOnceSpec : ChangeSpec := { name := "sigOnce", fn := fun _ => fun
  | [d1, d2, d3] => { results := [.lit (.bool true)], args := [d1, d2, d3] }
  | _ => none }
def sigOnceRow : OpenClaim := { program := "ytpdmfpfkhigclaa", sum := "760ea43c1d2dd54f7e193f86d4f027912747cb04837c08c0d54ebdb1ed4a0e46", func := "escapement/escapementlaw21.SigOnce", spec := "sigOnce", unfollowed := true, recurses := true, apart := false }
def SigOnceSaid : Prop := sigOnceRow.holds Try.pinned (OpenSpec.ofChange sigOnceSpec)

/-- ITS FALSE NEIGHBOUR: 'it returns false'. Refute it at one input. -/
def sigOnceWrong : ChangeSpec := { name := "sigOnce", fn := fun _ => fun
  | [d1, d2, d3] => { results := [.lit (.bool false)], args := [d1, d2, d3] }
  | _ => none }
def SigOnceWrongFalsely : Prop := sigOnceRow.holds Try.pinned (OpenSpec.ofChange sigOnceWrong)

/-- 'escapementlaw21.SigNils': WHATEVER THE INPUT: true; the input reads as it did. -/
def sigNilsSpec : ChangeSpec := { name := "sigNils", fn := fun _ => fun
  | [d1, d2] => { results := [.lit (.bool true)], args := [d1, d2] }
  | _ => none }
def sigNilsRow : OpenClaim := { program := "ytpdmfpfkhigclaa", sum := "760ea43c1d2dd54f7e193f86d4f027912747cb04837c08c0d54ebdb1ed4a0e46", func := "escapement/escapementlaw21.SigNils", spec := "sigNils", unfollowed := true, recurses := true, apart := false }
def SigNilsSaid : Prop := sigNilsRow.holds Try.pinned (OpenSpec.ofChange sigNilsSpec)

/-- ITS FALSE NEIGHBOUR: 'it returns false'. Refute it at one input. -/
def sigNilsWrong : ChangeSpec := { name := "sigNils", fn := fun _ => fun
  | [d1, d2] => { results := [.lit (.bool false)], args := [d1, d2] }
  | _ => none }
def SigNilsWrongFalsely : Prop := sigNilsRow.holds Try.pinned (OpenSpec.ofChange sigNilsWrong)

/- THE SECOND FORM. 'bulk': how many values and letters a reading holds, each counted each time it is reached (what is shared counts as often as it is met; a slice's spare places count too). A statement '..UptoSaid' is the law's where the arguments, and the package variables that the reading takes, are together of bulk at most 1048576: NARROWER than '..Said'. Prove '..Said' where nothing that the law and all that it calls make is longer than what came in: it says more and counts as full. Else prove '..UptoSaid'. A law counts once. -/
mutual
def uptoBulk {H : Type} : DataW H → Nat
  | .lit (.string bytes) => bytes.length + 1
  | .lit _ => 1
  | .nil => 1
  | .ptr d => uptoBulk d + 1
  | .slice elems spare => uptoBulkAll elems + uptoBulkAll spare + 1
  | .agg parts => uptoBulkAll parts + 1
  | .iface _ d => uptoBulk d + 1
  | .map entries => uptoBulkEntries entries + 1
  | .held _ => 1
def uptoBulkAll {H : Type} : List (DataW H) → Nat
  | [] => 0
  | d :: r => uptoBulk d + uptoBulkAll r
def uptoBulkEntries {H : Type} : List (Lit × DataW H) → Nat
  | [] => 0
  | x :: r => uptoBulkEntry x + uptoBulkEntries r
def uptoBulkEntry {H : Type} : Lit × DataW H → Nat
  | (.string bytes, d) => bytes.length + uptoBulk d + 1
  | (_, d) => uptoBulk d + 1
 end
def uptoSmall : (H : Type) → List (DataW H) → Bool := fun _ ds => decide (uptoBulkAll ds ≤ 1048576)
def OpenSpec.upto (s : _root_.Go.ChangeSpec) : _root_.Go.OpenSpec := { _root_.Go.OpenSpec.ofChange s with cond := some uptoSmall }

/-- 'escapementlaw21.SigPlays', WHERE WHAT IT READS IS OF BULK AT MOST 1048576: true; the input reads as it did. -/
def sigPlaysUptoRow : OpenClaim := { program := "ytpdmfpfkhigclaa", sum := "760ea43c1d2dd54f7e193f86d4f027912747cb04837c08c0d54ebdb1ed4a0e46", func := "escapement/escapementlaw21.SigPlays", spec := "sigPlays", unfollowed := true, recurses := true, apart := false, narrowed := true }
def SigPlaysUptoSaid : Prop := sigPlaysUptoRow.holds Try.pinned (OpenSpec.upto sigPlaysSpec)

/-- 'escapementlaw21.SigOnce', WHERE WHAT IT READS IS OF BULK AT MOST 1048576: true; the input reads as it did. -/
def sigOnceUptoRow : OpenClaim := { program := "ytpdmfpfkhigclaa", sum := "760ea43c1d2dd54f7e193f86d4f027912747cb04837c08c0d54ebdb1ed4a0e46", func := "escapement/escapementlaw21.SigOnce", spec := "sigOnce", unfollowed := true, recurses := true, apart := false, narrowed := true }
def SigOnceUptoSaid : Prop := sigOnceUptoRow.holds Try.pinned (OpenSpec.upto sigOnceSpec)

/-- 'escapementlaw21.SigNils', WHERE WHAT IT READS IS OF BULK AT MOST 1048576: true; the input reads as it did. -/
def sigNilsUptoRow : OpenClaim := { program := "ytpdmfpfkhigclaa", sum := "760ea43c1d2dd54f7e193f86d4f027912747cb04837c08c0d54ebdb1ed4a0e46", func := "escapement/escapementlaw21.SigNils", spec := "sigNils", unfollowed := true, recurses := true, apart := false, narrowed := true }
def SigNilsUptoSaid : Prop := sigNilsUptoRow.holds Try.pinned (OpenSpec.upto sigNilsSpec)

end Rows
end Go.Proofs.Ytpdmfpfkhigclaa
