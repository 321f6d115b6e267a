/- Rows of truths: which numbers are in a list. -/
import Derived.Test.YtffhoddpmmlhkaaRowz
import Derived.Deep.OwnRows
namespace Go.Proofs.Ytffhoddpmmlhkaa
open Go.ChangeShapes Go.WideShapes Go.ChangeAt Go.RowKit Go.Deep
set_option linter.unusedVariables false

def brow (n : Nat) (S : List Int) : Array Value := ((List.range n).map fun (j : Nat) => Value.bool (decide ((j : Int) ∈ S))).toArray
theorem brow_at (n : Nat) (S : List Int) (k : Nat) (hk : k < n) : (brow n S)[k]? = some (.bool (decide ((k : Int) ∈ S))) := by simp [brow, hk]
theorem brow_set (n : Nat) (S S' : List Int) (k : Nat) (b : Bool) (h : ∀ j : Nat, decide ((j : Int) ∈ S') = if j = k then b else decide ((j : Int) ∈ S)) : (brow n S).setIfInBounds k (.bool b) = brow n S' := by
  apply Array.ext'
  simp only [brow, List.setIfInBounds_toArray]
  apply List.ext_getElem (by simp)
  intro i h1 h2
  rw [List.getElem_set]
  simp only [List.getElem_map, List.getElem_range, h]
  by_cases e : k = i
  · subst e; simp
  · rw [if_neg e, if_neg (fun h => e h.symm)]
theorem bool_info : (Try.prog.info? 4).map (fun i => (i.zero, i.size, i.bytes)) = some (some (.bool false), 1, 1) := by kernel_rfl
theorem make_brow (n : Nat) (hn : n ≤ 1000000) (W : World) : (Instr.makeSlice 35 (.int .i64 (n : Int)) (.int .i64 (n : Int))).run Try.prog W = .ok (.slice (some ⟨W.heap.size, 0, none⟩) n n) (W.alloc (.cells (brow n []) 4)) := by
  have h := run_make_row' (P := Try.prog) 35 4 (.bool false) 1 Try.underlying35 bool_info rfl .i64 .i64 n (by omega) (by omega) W
  have e : madeCells #[.bool false] n = brow n [] := by
    apply Array.ext'
    rw [toList_madeCells_one]
    apply List.ext_getElem (by simp [brow])
    intro i h1 h2
    simp [brow]
  rw [e] at h
  exact h
end Go.Proofs.Ytffhoddpmmlhkaa
