/- The document's names; the op of a name; what is wrong with an instruction. -/
import Derived.Test.YthdkbofnplnidaaDoorIsaBc
import Derived.BigRegion
namespace Go.Proofs.YthdkbofnplnidaaDoor
open Go.ChangeShapes Go.WideShapes Go.ChangeAt Go.RowKit Go.Deep
set_option linter.unusedVariables false
set_option linter.unusedSimpArgs false

def nmV : Array Value := (nmL.map Value.string).toArray
theorem nmV_at (k : Nat) (hk : k < 24) : nmV[k]? = some (.string (nm k)) := by
  have hl : nmL.length = 24 := by decide
  have : k < nmL.length := by omega
  simp [nmV, nm, this]
theorem names_any (W : World) : Calls Tryd.prog 52 #[] W fun e W' => e = .returned (.slice (some ⟨W.heap.size, 0, none⟩) 24 24) ∧ Blk W' W.heap.size 9 nmV ∧ Below W.heap.size W W' := by
  go_enter Tryd.func52, Tryd.ntmps52
  go_wp2
  go_ret
  exact ⟨rfl, Blk.new _ _ _, (Below.refl _ _).alloc (Nat.le_refl _) _⟩
theorem is_in (k : Nat) (hk : k < 24) (W : World) : Calls Tryd.prog 47 #[.int .i64 k] W fun e W' => e = .returned (.bool true) ∧ Below W.heap.size W W' := by
  have h0 : (0 : Int) ≤ (k : Int) := by omega
  have h1 : (k : Int) < 24 := by omega
  go_enter Tryd.func47, Tryd.ntmps47
  go_wp2_with (go_at_call 52; refine (names_any _).mono ?_; rintro e w1 ⟨rfl, _, hb⟩)
  go_ret
  exact ⟨rfl, hb⟩
theorem is_out (op : Int) (h : op < 0 ∨ 24 ≤ op) (W : World) : Calls Tryd.prog 47 #[.int .i64 op] W fun e W' => e = .returned (.bool false) ∧ Below W.heap.size W W' := by
  rcases h with h | h
  · have h' : ¬ 0 ≤ op := by omega
    go_enter Tryd.func47, Tryd.ntmps47
    go_wp2
    go_ret
    exact ⟨rfl, Below.refl _ _⟩
  · have h0 : 0 ≤ op := by omega
    have h2 : decide (op < 24) = false := decide_eq_false (by omega)
    go_enter Tryd.func47, Tryd.ntmps47
    go_wp2_with (go_at_call 52; refine (names_any _).mono ?_; rintro e w1 ⟨rfl, _, hb⟩)
    go_ret
    exact ⟨rfl, hb⟩

theorem nm_ne : ∀ i : Nat, i < 24 → ∀ j : Nat, j < 24 → i ≠ j → ((nm i).toList == (nm j).toList) = false := by decide +kernel
end Go.Proofs.YthdkbofnplnidaaDoor
