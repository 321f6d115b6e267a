/-
  No cell of these rows narrows 'for every input' (looked for: loops, veiled, ifaces, maps, wideKeys, modest, calm, conditions, laid).
  DERIVED. THE GIVEN ROWS OF THIS SEAT. 4 by the template 'for every input the law returns true; each argument reads behind the call as it read before'; 0 by the template 'total and deterministic' (their statements: YtifflhombjljbaaTotals.lean).
  GIVEN WITH THE SEED: the statements are not yours to turn. If you find one false, say at which input.
  Laid BY PROGRAM, IN A SANDBOX (cutbox-rows.mjs): the forced cells as the released guide's own fill.sh prints them over the translation e82a634763eaccec… (all of the seat's roots in one cut). By AI agents, Wed Nov 11 2026. No macro, syntax, notation, axiom, sorry.
-/
import Derived.Test.YtifflhombjljbaaChecked
import GoSem.Claim
import GoSem.ClaimJoined
import GoSem.ClaimMapViews
import Derived.JoinedTies
import Derived.KernelRfl
namespace Go.Proofs.Ytifflhombjljbaa
/- THE CELL 'sum', in the pinned program and in every row, IS THE sha256 OF THE DUMP (.gsa) THAT YtifflhombjljbaaProg.lean LOADS. Nothing in Lean hashes anything: it is a label: what it is worth is what the hold of that sum in a sandbox is worth. -/
noncomputable def Try.pinned : Pinned := { name := "ytifflhombjljbaa", sum := "e82a634763eaccec2a042f1da8b697b4b50f7406ee7cc68a0d986a8ae81e6ff1", checked := Try.checked }
namespace Rows
def none {H : Type} : Left H := { results := [], args := [] }

/-- 'escapementlaw16.GlobPlays': WHATEVER THE INPUT: true; the input reads as it did. -/
def globPlaysSpec : ChangeSpec := { name := "globPlays", fn := fun _ => fun
  | [d] => { results := [.lit (.bool true)], args := [d] }
  | _ => none }
def globPlaysRow : OpenClaim := { program := "ytifflhombjljbaa", sum := "e82a634763eaccec2a042f1da8b697b4b50f7406ee7cc68a0d986a8ae81e6ff1", func := "escapement/escapementlaw16.GlobPlays", spec := "globPlays", unfollowed := true, recurses := true, apart := false }
def GlobPlaysSaid : Prop := globPlaysRow.holds Try.pinned (OpenSpec.ofChange globPlaysSpec)

/-- ITS FALSE NEIGHBOUR: 'it returns false'. Refute it at one input. -/
def globPlaysWrong : ChangeSpec := { name := "globPlays", fn := fun _ => fun
  | [d] => { results := [.lit (.bool false)], args := [d] }
  | _ => none }
def GlobPlaysWrongFalsely : Prop := globPlaysRow.holds Try.pinned (OpenSpec.ofChange globPlaysWrong)

/-- 'escapementlaw16.GlobManies': WHATEVER THE INPUT: true; the input reads as it did. -/
def globManiesSpec : ChangeSpec := { name := "globManies", fn := fun _ => fun
  | [d1, d2, d3] => { results := [.lit (.bool true)], args := [d1, d2, d3] }
  | _ => none }
def globManiesRow : OpenClaim := { program := "ytifflhombjljbaa", sum := "e82a634763eaccec2a042f1da8b697b4b50f7406ee7cc68a0d986a8ae81e6ff1", func := "escapement/escapementlaw16.GlobManies", spec := "globManies", unfollowed := true, recurses := true, apart := false }
def GlobManiesSaid : Prop := globManiesRow.holds Try.pinned (OpenSpec.ofChange globManiesSpec)

/-- ITS FALSE NEIGHBOUR: 'it returns false'. Refute it at one input. -/
def globManiesWrong : ChangeSpec := { name := "globManies", fn := fun _ => fun
  | [d1, d2, d3] => { results := [.lit (.bool false)], args := [d1, d2, d3] }
  | _ => none }
def GlobManiesWrongFalsely : Prop := globManiesRow.holds Try.pinned (OpenSpec.ofChange globManiesWrong)

/-- 'escapementlaw16.GlobOrder': WHATEVER THE INPUT: true; the input reads as it did. -/
def globOrderSpec : ChangeSpec := { name := "globOrder", fn := fun _ => fun
  | [d1, d2] => { results := [.lit (.bool true)], args := [d1, d2] }
  | _ => none }
def globOrderRow : OpenClaim := { program := "ytifflhombjljbaa", sum := "e82a634763eaccec2a042f1da8b697b4b50f7406ee7cc68a0d986a8ae81e6ff1", func := "escapement/escapementlaw16.GlobOrder", spec := "globOrder", unfollowed := true, recurses := true, apart := false }
def GlobOrderSaid : Prop := globOrderRow.holds Try.pinned (OpenSpec.ofChange globOrderSpec)

/-- ITS FALSE NEIGHBOUR: 'it returns false'. Refute it at one input. -/
def globOrderWrong : ChangeSpec := { name := "globOrder", fn := fun _ => fun
  | [d1, d2] => { results := [.lit (.bool false)], args := [d1, d2] }
  | _ => none }
def GlobOrderWrongFalsely : Prop := globOrderRow.holds Try.pinned (OpenSpec.ofChange globOrderWrong)

/-- 'escapementlaw16.GlobNils': WHATEVER THE INPUT: true; the input reads as it did. -/
def globNilsSpec : ChangeSpec := { name := "globNils", fn := fun _ => fun
  | [d] => { results := [.lit (.bool true)], args := [d] }
  | _ => none }
def globNilsRow : OpenClaim := { program := "ytifflhombjljbaa", sum := "e82a634763eaccec2a042f1da8b697b4b50f7406ee7cc68a0d986a8ae81e6ff1", func := "escapement/escapementlaw16.GlobNils", spec := "globNils", unfollowed := true, recurses := true, apart := false }
def GlobNilsSaid : Prop := globNilsRow.holds Try.pinned (OpenSpec.ofChange globNilsSpec)

/-- ITS FALSE NEIGHBOUR: 'it returns false'. Refute it at one input. -/
def globNilsWrong : ChangeSpec := { name := "globNils", fn := fun _ => fun
  | [d] => { results := [.lit (.bool false)], args := [d] }
  | _ => none }
def GlobNilsWrongFalsely : Prop := globNilsRow.holds Try.pinned (OpenSpec.ofChange globNilsWrong)

/- THE SECOND FORM. 'bulk': how many values and letters a reading holds, each counted each time it is reached (what is shared counts as often as it is met; a slice's spare places count too). A statement '..UptoSaid' is the law's where the arguments, and the package variables that the reading takes, are together of bulk at most 1048576: NARROWER than '..Said'. Prove '..Said' where nothing that the law and all that it calls make is longer than what came in: it says more and counts as full. Else prove '..UptoSaid'. A law counts once. -/
mutual
def uptoBulk {H : Type} : DataW H → Nat
  | .lit (.string bytes) => bytes.length + 1
  | .lit _ => 1
  | .nil => 1
  | .ptr d => uptoBulk d + 1
  | .slice elems spare => uptoBulkAll elems + uptoBulkAll spare + 1
  | .agg parts => uptoBulkAll parts + 1
  | .iface _ d => uptoBulk d + 1
  | .map entries => uptoBulkEntries entries + 1
  | .held _ => 1
def uptoBulkAll {H : Type} : List (DataW H) → Nat
  | [] => 0
  | d :: r => uptoBulk d + uptoBulkAll r
def uptoBulkEntries {H : Type} : List (Lit × DataW H) → Nat
  | [] => 0
  | x :: r => uptoBulkEntry x + uptoBulkEntries r
def uptoBulkEntry {H : Type} : Lit × DataW H → Nat
  | (.string bytes, d) => bytes.length + uptoBulk d + 1
  | (_, d) => uptoBulk d + 1
 end
def uptoSmall : (H : Type) → List (DataW H) → Bool := fun _ ds => decide (uptoBulkAll ds ≤ 1048576)
def OpenSpec.upto (s : _root_.Go.ChangeSpec) : _root_.Go.OpenSpec := { _root_.Go.OpenSpec.ofChange s with cond := some uptoSmall }

/-- 'escapementlaw16.GlobPlays', WHERE WHAT IT READS IS OF BULK AT MOST 1048576: true; the input reads as it did. -/
def globPlaysUptoRow : OpenClaim := { program := "ytifflhombjljbaa", sum := "e82a634763eaccec2a042f1da8b697b4b50f7406ee7cc68a0d986a8ae81e6ff1", func := "escapement/escapementlaw16.GlobPlays", spec := "globPlays", unfollowed := true, recurses := true, apart := false, narrowed := true }
def GlobPlaysUptoSaid : Prop := globPlaysUptoRow.holds Try.pinned (OpenSpec.upto globPlaysSpec)

/-- 'escapementlaw16.GlobManies', WHERE WHAT IT READS IS OF BULK AT MOST 1048576: true; the input reads as it did. -/
def globManiesUptoRow : OpenClaim := { program := "ytifflhombjljbaa", sum := "e82a634763eaccec2a042f1da8b697b4b50f7406ee7cc68a0d986a8ae81e6ff1", func := "escapement/escapementlaw16.GlobManies", spec := "globManies", unfollowed := true, recurses := true, apart := false, narrowed := true }
def GlobManiesUptoSaid : Prop := globManiesUptoRow.holds Try.pinned (OpenSpec.upto globManiesSpec)

/-- 'escapementlaw16.GlobOrder', WHERE WHAT IT READS IS OF BULK AT MOST 1048576: true; the input reads as it did. -/
def globOrderUptoRow : OpenClaim := { program := "ytifflhombjljbaa", sum := "e82a634763eaccec2a042f1da8b697b4b50f7406ee7cc68a0d986a8ae81e6ff1", func := "escapement/escapementlaw16.GlobOrder", spec := "globOrder", unfollowed := true, recurses := true, apart := false, narrowed := true }
def GlobOrderUptoSaid : Prop := globOrderUptoRow.holds Try.pinned (OpenSpec.upto globOrderSpec)

/-- 'escapementlaw16.GlobNils', WHERE WHAT IT READS IS OF BULK AT MOST 1048576: true; the input reads as it did. -/
def globNilsUptoRow : OpenClaim := { program := "ytifflhombjljbaa", sum := "e82a634763eaccec2a042f1da8b697b4b50f7406ee7cc68a0d986a8ae81e6ff1", func := "escapement/escapementlaw16.GlobNils", spec := "globNils", unfollowed := true, recurses := true, apart := false, narrowed := true }
def GlobNilsUptoSaid : Prop := globNilsUptoRow.holds Try.pinned (OpenSpec.upto globNilsSpec)

end Rows
end Go.Proofs.Ytifflhombjljbaa
