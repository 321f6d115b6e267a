/- The walk of the law SemaNils. -/
import Derived.Test.YtealbmadodommaaSemE
namespace Go.Proofs.Ytealbmadodommaa
open Go.ChangeShapes Go.WideShapes Go.ChangeAt Go.RowKit Go.Deep
set_option linter.unusedVariables false
set_option maxHeartbeats 2000000 in
theorem walk_semaNils (a0 : Int) (w : World) (w0 : (Lit.int .i64 a0).wf = true) :
    Calls Try.prog 5 #[.int .i64 a0] w fun e w' => e = .returned (.bool true) ∧ Below w.heap.size w w' := by
  have hnn : ∀ W, (binOp .neq 24 (.pointer none) (.pointer none)).run Try.prog W = .ok (.bool false) W := fun _ => by kernel_rfl
  go_enter Try.func5, Try.ntmps5
  go_wp2_with (first | (go_at_call 6; refine (alive_any _).mono ?_; rintro e w' ⟨rfl, hb⟩) | (go_at_call 8; go_in) | (go_at_call 10; go_in) | (go_at_call 14; go_in) | (go_at_call 12; go_in) | (go_at_call 16; go_in) | (go_at_call 17; go_in))
  go_ret
  exact ⟨rfl, ((Below.refl _ _).alloc (Nat.le_refl _) _).trans (hb.mono (by simp))⟩
end Go.Proofs.Ytealbmadodommaa
