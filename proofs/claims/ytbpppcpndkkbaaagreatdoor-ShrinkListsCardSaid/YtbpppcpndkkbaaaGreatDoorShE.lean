/- Contracts: no machine comes of the empty program. -/
import Derived.Test.YtbpppcpndkkbaaaGreatDoorRk
namespace Go.Proofs.YtbpppcpndkkbaaaGreatDoor
open Go.ChangeShapes Go.WideShapes Go.ChangeAt Go.RowKit Go.Deep
set_option linter.unusedVariables false

set_option maxHeartbeats 1000000 in
theorem check_none (W : World) : Calls Tryz.prog 24 #[.agg #[.slice none 0 0]] W fun e W' => e = .returned (.tuple #[.int .i64 (-1), .int .i64 (-1), .int .i64 6]) ∧ Chg (fun _ => False) W W' := by
  go_enter Tryz.func24, Tryz.ntmps24
  go_wp2
  go_ret3
  exact ⟨rfl, (Chg.refl _ _).alloc _⟩
set_option maxHeartbeats 1000000 in
theorem new_none (W : World) : Calls Tryz.prog 14 #[.agg #[.slice none 0 0], .agg #[.int .i64 0, .int .i64 0, .int .i64 0]] W fun e W' => e = .returned (.tuple #[.pointer none, .int .i64 1]) ∧ Chg (fun _ => False) W W' := by
  have HC := Lib.hid (fun V => check_none V)
  go_enter Tryz.func14, Tryz.ntmps14
  go_wp2_with (go_at_call 24; refine (HC.out _).mono ?_; rintro e w1 ⟨rfl, hc⟩)
  go_ret2
  exact ⟨rfl, (((Chg.refl _ _).alloc _).alloc _).trans hc (fun _ _ h => h)⟩
set_option maxHeartbeats 1000000 in
theorem prefix_none (A : Option Addr) (n c : Nat) (W : World) : Calls Tryz.prog 19 #[.agg #[.slice none 0 0], .agg #[.int .i64 0, .int .i64 0, .int .i64 0], .slice A n c] W fun e W' => e = .returned (.int .i64 (-1)) ∧ Chg (fun _ => False) W W' := by
  have HC := Lib.hid (fun V => new_none V)
  go_enter Tryz.func19, Tryz.ntmps19
  go_wp2_with (go_at_call 14; refine (HC.out _).mono ?_; rintro e w1 ⟨rfl, hc⟩)
  go_ret
  exact ⟨rfl, (((Chg.refl _ _).alloc _).alloc _).trans hc (fun _ _ h => h)⟩
end Go.Proofs.YtbpppcpndkkbaaaGreatDoor
