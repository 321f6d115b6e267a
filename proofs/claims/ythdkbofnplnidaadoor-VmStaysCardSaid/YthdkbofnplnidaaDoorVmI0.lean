/- A thread does its instruction: two numbers. -/
import Derived.Test.YthdkbofnplnidaaDoorVmE
namespace Go.Proofs.YthdkbofnplnidaaDoor
open Go.ChangeShapes Go.WideShapes Go.ChangeAt Go.RowKit Go.Deep
set_option linter.unusedVariables false
set_option linter.unusedSimpArgs false

def ofF (op x y : Int) : Int := if op = 2 then wrap64 (x + y) else if op = 3 then wrap64 (x - y) else if op = 4 then wrap64 (x * y) else if x < y then 1 else 0
theorem of_2 (W : World) : Calls Tryd.prog 33 #[.int .i64 2] W fun e W' => e = .returned (.func (.func 40) #[] #[]) ∧ W = W' := by
  go_enter Tryd.func33, Tryd.ntmps33
  go_wp2
  go_ret
  exact ⟨rfl, rfl⟩
theorem pair_2 (rb re : Int) (W : World) : Calls Tryd.prog 40 #[.agg #[.int .i64 rb, .int .i64 re]] W fun e W' => e = .returned (.int .i64 (ofF 2 rb re)) ∧ Chg (fun _ => False) W W' := by
  have h : ofF 2 rb re = (wrap64 (rb + re)) := rfl
  rw [h]
  clear h
  go_enter Tryd.func40, Tryd.ntmps40
  go_wp2
  go_ret
  exact ⟨rfl, (Chg.refl _ _).alloc _⟩
theorem of_3 (W : World) : Calls Tryd.prog 33 #[.int .i64 3] W fun e W' => e = .returned (.func (.func 41) #[] #[]) ∧ W = W' := by
  go_enter Tryd.func33, Tryd.ntmps33
  go_wp2
  go_ret
  exact ⟨rfl, rfl⟩
theorem pair_3 (rb re : Int) (W : World) : Calls Tryd.prog 41 #[.agg #[.int .i64 rb, .int .i64 re]] W fun e W' => e = .returned (.int .i64 (ofF 3 rb re)) ∧ Chg (fun _ => False) W W' := by
  have h : ofF 3 rb re = (wrap64 (rb - re)) := rfl
  rw [h]
  clear h
  go_enter Tryd.func41, Tryd.ntmps41
  go_wp2
  go_ret
  exact ⟨rfl, (Chg.refl _ _).alloc _⟩
theorem of_4 (W : World) : Calls Tryd.prog 33 #[.int .i64 4] W fun e W' => e = .returned (.func (.func 42) #[] #[]) ∧ W = W' := by
  go_enter Tryd.func33, Tryd.ntmps33
  go_wp2
  go_ret
  exact ⟨rfl, rfl⟩
theorem pair_4 (rb re : Int) (W : World) : Calls Tryd.prog 42 #[.agg #[.int .i64 rb, .int .i64 re]] W fun e W' => e = .returned (.int .i64 (ofF 4 rb re)) ∧ Chg (fun _ => False) W W' := by
  have h : ofF 4 rb re = (wrap64 (rb * re)) := rfl
  rw [h]
  clear h
  go_enter Tryd.func42, Tryd.ntmps42
  go_wp2
  go_ret
  exact ⟨rfl, (Chg.refl _ _).alloc _⟩
theorem of_5 (W : World) : Calls Tryd.prog 33 #[.int .i64 5] W fun e W' => e = .returned (.func (.func 43) #[] #[]) ∧ W = W' := by
  go_enter Tryd.func33, Tryd.ntmps33
  go_wp2
  go_ret
  exact ⟨rfl, rfl⟩
theorem pair_5 (rb re : Int) (W : World) : Calls Tryd.prog 43 #[.agg #[.int .i64 rb, .int .i64 re]] W fun e W' => e = .returned (.int .i64 (ofF 5 rb re)) ∧ Chg (fun _ => False) W W' := by
  have h : ofF 5 rb re = (if rb < re then 1 else 0) := rfl
  rw [h]
  clear h
  by_cases h : rb < re
  · rw [if_pos h]
    go_enter Tryd.func43, Tryd.ntmps43
    go_wp2
    go_ret
    exact ⟨rfl, (Chg.refl _ _).alloc _⟩
  · rw [if_neg h]
    go_enter Tryd.func43, Tryd.ntmps43
    go_wp2
    go_ret
    exact ⟨rfl, (Chg.refl _ _).alloc _⟩
end Go.Proofs.YthdkbofnplnidaaDoor
