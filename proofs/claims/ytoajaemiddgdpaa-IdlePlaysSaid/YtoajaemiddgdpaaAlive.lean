/- The chapter's example of the idle list. -/
import Derived.Test.YtoajaemiddgdpaaBase
import Derived.Handy
import Derived.RegionTactic
import Derived.ChangeAlike
namespace Go.Proofs.Ytoajaemiddgdpaa
open Go.ChangeShapes Go.WideShapes Go.ChangeAt Go.RowKit
theorem new_4 (w : World) : Calls Try.prog 7 #[.int .i64 4] w fun e w' => e = .returned (.pointer (some ⟨w.heap.size + 1, 0, none⟩)) ∧ w' = (w.alloc (.cells #[.int .i64 (-1), .int .i64 (-1), .int .i64 (-1), .int .i64 (-1)] 3)).alloc (.cells #[.slice (some ⟨w.heap.size, 0, none⟩) 4 4, .int .i64 (-2), .int .i64 0] 43) := by
  have hmk : ∀ W : World, (Instr.makeSlice 26 (.int .i64 4) (.int .i64 4)).run Try.prog W = .ok (.slice (some ⟨W.heap.size, 0, none⟩) 4 4) (W.alloc (.cells #[.int .i64 0, .int .i64 0, .int .i64 0, .int .i64 0] 3)) := fun _ => by kernel_rfl
  go_enter Try.func7, Try.ntmps7
  go_wp2
  go_rounds 5
  go_ret
  exact ⟨rfl, rfl⟩

set_option maxHeartbeats 4000000 in
theorem alive_any (w : World) : Calls Try.prog 6 #[] w fun e w' => e = .returned (.bool true) ∧ Below w.heap.size w w' := by
  have hmf : ∀ (fn : Fn) (first cap : Array Value) (W : World), (Instr.makeFunc fn first cap).run Try.prog W = .ok (.func fn first cap) W := fun _ _ _ _ => rfl
  go_enter Try.func6, Try.ntmps6
  go_wp2_with (go_at_call 7; refine (new_4 _).mono ?_; rintro e w1 ⟨rfl, rfl⟩)
  go_wp2_with (first | (go_at_call 15; go_in) | (go_at_call 13; go_in) | (go_at_call 17; go_in) | (go_at_call 9; go_in) | (go_at_call 12; go_in) | (go_at_call 18; go_in))
  go_region
  go_wp2_with (first | (go_at_call 15; go_in) | (go_at_call 13; go_in) | (go_at_call 17; go_in) | (go_at_call 9; go_in) | (go_at_call 12; go_in) | (go_at_call 18; go_in))
  go_region
  go_wp2_with (first | (go_at_call 15; go_in) | (go_at_call 13; go_in) | (go_at_call 17; go_in) | (go_at_call 9; go_in) | (go_at_call 12; go_in) | (go_at_call 18; go_in))
  go_step3
  go_wp2_with (first | (go_at_call 15; go_in) | (go_at_call 13; go_in) | (go_at_call 17; go_in) | (go_at_call 9; go_in) | (go_at_call 12; go_in) | (go_at_call 18; go_in))
  go_step3
  go_wp2_with (first | (go_at_call 15; go_in) | (go_at_call 13; go_in) | (go_at_call 17; go_in) | (go_at_call 9; go_in) | (go_at_call 12; go_in) | (go_at_call 18; go_in))
  go_rounds 2
  go_region
  go_wp2_with (first | (go_at_call 15; go_in) | (go_at_call 13; go_in) | (go_at_call 17; go_in) | (go_at_call 9; go_in) | (go_at_call 12; go_in) | (go_at_call 18; go_in))
  rw [Exit.noGoto_ret]
  go_wp2_with (first | (go_at_call 15; go_in) | (go_at_call 13; go_in) | (go_at_call 17; go_in) | (go_at_call 9; go_in) | (go_at_call 12; go_in) | (go_at_call 18; go_in))
  go_ret
  exact ⟨rfl, by go_grown⟩
end Go.Proofs.Ytoajaemiddgdpaa
