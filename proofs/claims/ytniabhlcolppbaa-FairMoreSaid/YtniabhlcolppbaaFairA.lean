/- A watch of steps: see. -/
import Derived.Test.YtniabhlcolppbaaRapp
import Derived.Test.YtniabhlcolppbaaModN
import Derived.Laws.CopyOwn
import Derived.Laws.MakeOwn
import Derived.Deep.LoopGhost
import Derived.WalkLawsBesides
namespace Go.Proofs.Ytniabhlcolppbaa
open Go.ChangeShapes Go.WideShapes Go.ChangeAt Go.RowKit Go.Deep
set_option linter.unusedVariables false

def Wb (W : World) (b : Nat) (k : Int) (rv : Value) (u : Bool) (wo : Int) : Prop := Blk W b 37 #[.int .i64 k, rv, .bool u, .int .i64 wo]
theorem Wb.cells {W : World} {b : Nat} {k wo : Int} {rv : Value} {u : Bool} (h : Wb W b k rv u wo) : W.cell? ⟨b, 0, none⟩ = some (.int .i64 k) ∧ W.cell? ⟨b, 1, none⟩ = some rv ∧ W.cell? ⟨b, 2, none⟩ = some (.bool u) ∧ W.cell? ⟨b, 3, none⟩ = some (.int .i64 wo) ∧ W.frozen? ⟨b, 1, none⟩ = false ∧ W.frozen? ⟨b, 2, none⟩ = false ∧ W.frozen? ⟨b, 3, none⟩ = false ∧ b < W.heap.size :=
  ⟨Blk.cell h 0, Blk.cell h 1, Blk.cell h 2, Blk.cell h 3, Blk.frozen h 1, Blk.frozen h 2, Blk.frozen h 3, Blk.lt h⟩
def SeeP (W : World) (b : Nat) (k wo x : Int) (rv : Value) (u : Bool) (e : Ending) (W' : World) : Prop := e = .returned (.tuple #[]) ∧ Wb W' b k rv (u || decide (k < x)) (max wo x) ∧ Chg (fun g => g = b) W W'
theorem SeeP.mk {W : World} {b : Nat} {k wo x : Int} {rv : Value} {u : Bool} (h : Wb W b k rv u wo) (y : Int) (v : Bool) (hy : y = max wo x) (hv : v = (u || decide (k < x))) : SeeP W b k wo x rv u (.returned (.tuple #[])) ((W.setCell ⟨b, 3, none⟩ (.int .i64 y)).setCell ⟨b, 2, none⟩ (.bool v)) := by
  subst hy hv
  exact ⟨rfl, by simpa [Wb] using (Blk.set_ (Blk.set_ h 3 (.int .i64 (max wo x))) 2 (.bool (u || decide (k < x)))), Chg.setCell (S := fun g => g = b) (p := ⟨b, 2, none⟩) (Chg.setCell (S := fun g => g = b) (p := ⟨b, 3, none⟩) (Chg.refl _ _) (.inl rfl) _) (.inl rfl) _⟩
set_option maxHeartbeats 4000000 in
theorem see_any (W : World) (b : Nat) (k wo x : Int) (rv : Value) (u : Bool) (h : Wb W b k rv u wo) :
    Calls Try.prog 10 #[.pointer (some ⟨b, 0, none⟩), .int .i64 x] W (SeeP W b k wo x rv u) := by
  have key := SeeP.mk (x := x) h
  obtain ⟨c0, c1, c2, c3, f1, f2, f3, kb⟩ := h.cells
  have KEY := Lib.hid key
  clear key h
  cases u with
  | true =>
    go_enter Try.func10, Try.ntmps10
    go_wp2
    all_goals
      go_end0
      first | exact KEY.out x true (by omega) (by simp) | exact KEY.out wo true (by omega) (by simp)
  | false =>
    by_cases hk : k < x
    · have hd : decide (k < x) = true := by simpa using hk
      go_enter Try.func10, Try.ntmps10
      go_wp2
      all_goals
        go_end0
        first | exact KEY.out x true (by omega) (by simp [hk]) | exact KEY.out wo true (by omega) (by simp [hk])
    · have hd : decide (k < x) = false := by simpa using hk
      go_enter Try.func10, Try.ntmps10
      go_wp2
      all_goals
        go_end0
        first | exact KEY.out x false (by omega) (by simp [hk]) | exact KEY.out wo false (by omega) (by simp [hk])
end Go.Proofs.Ytniabhlcolppbaa
