/- Contracts of the document's answer for a note, one for each way through it. -/
import Derived.Test.YthlkkljnmgmhhaaBase
import Derived.RegionTactic
import Derived.ChangeAlike
namespace Go.Proofs.Ythlkkljnmgmhhaa
open Go.ChangeShapes Go.WideShapes Go.ChangeAt Go.RowKit

/-- What the answer hands back, and that it writes nothing that was there. -/
def DoPost (w : World) (s : Bool) (v a f : Int) (e : Ending) (w' : World) : Prop :=
  e = .returned (.tuple #[.agg #[.bool s, .int .i64 v], .int .i64 a, .int .i64 f]) ∧ Below w.heap.size w w'

set_option maxHeartbeats 1000000 in
theorem do_clearHeld (set : Bool) (rw x : Int) (w : World) (hp : 0 < rw) :
    Calls Try.prog 8 #[.agg #[.bool set, .int .i64 rw], .agg #[.int .i64 0, .int .i64 x]] w (DoPost w set rw 0 7) := by
  go_enter Try.func8, Try.ntmps8
  go_wp2
  refine bodyPost_ret (v := .tuple #[.agg #[.bool set, .int .i64 rw], .int .i64 (0), .int .i64 7]) (by simp [results, Try.results8, go_sem]) rfl ⟨rfl, ?_⟩
  repeat (first | exact Below.refl _ _ | exact Nat.le_refl _ | refine Below.setCell ?_ ?_ _ | refine Below.alloc ?_ ?_ _ | refine Below.drew ?_ | simp | omega)

set_option maxHeartbeats 1000000 in
theorem do_clearOk (set : Bool) (x : Int) (w : World)  :
    Calls Try.prog 8 #[.agg #[.bool set, .int .i64 0], .agg #[.int .i64 0, .int .i64 x]] w (DoPost w false 0 0 0) := by
  go_enter Try.func8, Try.ntmps8
  go_wp2
  refine bodyPost_ret (v := .tuple #[.agg #[.bool false, .int .i64 0], .int .i64 (0), .int .i64 0]) (by simp [results, Try.results8, go_sem]) rfl ⟨rfl, ?_⟩
  repeat (first | exact Below.refl _ _ | exact Nat.le_refl _ | refine Below.setCell ?_ ?_ _ | refine Below.alloc ?_ ?_ _ | refine Below.drew ?_ | simp | omega)

set_option maxHeartbeats 1000000 in
theorem do_sleepNeg (set : Bool) (rw x : Int) (w : World) (hx : x < 0) :
    Calls Try.prog 8 #[.agg #[.bool set, .int .i64 rw], .agg #[.int .i64 1, .int .i64 x]] w (DoPost w set rw 0 1) := by
  go_enter Try.func8, Try.ntmps8
  go_wp2
  refine bodyPost_ret (v := .tuple #[.agg #[.bool set, .int .i64 rw], .int .i64 (0), .int .i64 1]) (by simp [results, Try.results8, go_sem]) rfl ⟨rfl, ?_⟩
  repeat (first | exact Below.refl _ _ | exact Nat.le_refl _ | refine Below.setCell ?_ ?_ _ | refine Below.alloc ?_ ?_ _ | refine Below.drew ?_ | simp | omega)

set_option maxHeartbeats 1000000 in
theorem do_sleepBig (set : Bool) (rw x : Int) (w : World) (hx0 : 0 ≤ x) (hx : 1099511627776 < x) :
    Calls Try.prog 8 #[.agg #[.bool set, .int .i64 rw], .agg #[.int .i64 1, .int .i64 x]] w (DoPost w set rw 0 1) := by
  go_enter Try.func8, Try.ntmps8
  go_wp2
  refine bodyPost_ret (v := .tuple #[.agg #[.bool set, .int .i64 rw], .int .i64 (0), .int .i64 1]) (by simp [results, Try.results8, go_sem]) rfl ⟨rfl, ?_⟩
  repeat (first | exact Below.refl _ _ | exact Nat.le_refl _ | refine Below.setCell ?_ ?_ _ | refine Below.alloc ?_ ?_ _ | refine Below.drew ?_ | simp | omega)

set_option maxHeartbeats 1000000 in
theorem do_sleepOther (set : Bool) (rw x : Int) (w : World) (hx0 : 0 ≤ x) (hx : x ≤ 1099511627776) (hp : 0 < rw) (hn : (rw != x + 1) = true) :
    Calls Try.prog 8 #[.agg #[.bool set, .int .i64 rw], .agg #[.int .i64 1, .int .i64 x]] w (DoPost w set rw 0 7) := by
  go_enter Try.func8, Try.ntmps8
  go_wp2
  refine bodyPost_ret (v := .tuple #[.agg #[.bool set, .int .i64 rw], .int .i64 (0), .int .i64 7]) (by simp [results, Try.results8, go_sem]) rfl ⟨rfl, ?_⟩
  repeat (first | exact Below.refl _ _ | exact Nat.le_refl _ | refine Below.setCell ?_ ?_ _ | refine Below.alloc ?_ ?_ _ | refine Below.drew ?_ | simp | omega)

set_option maxHeartbeats 1000000 in
theorem do_sleepSame (x : Int) (w : World) (hx0 : 0 ≤ x) (hx : x ≤ 1099511627776) :
    Calls Try.prog 8 #[.agg #[.bool false, .int .i64 (x + 1)], .agg #[.int .i64 1, .int .i64 x]] w (DoPost w false (x + 1) 0 0) := by
  go_enter Try.func8, Try.ntmps8
  go_wp2
  refine bodyPost_ret (v := .tuple #[.agg #[.bool false, .int .i64 (x + 1)], .int .i64 (0), .int .i64 0]) (by simp [results, Try.results8, go_sem]) rfl ⟨rfl, ?_⟩
  repeat (first | exact Below.refl _ _ | exact Nat.le_refl _ | refine Below.setCell ?_ ?_ _ | refine Below.alloc ?_ ?_ _ | refine Below.drew ?_ | simp | omega)

set_option maxHeartbeats 1000000 in
theorem do_sleepSet (x : Int) (w : World) (hx0 : 0 ≤ x) (hx : x ≤ 1099511627776) :
    Calls Try.prog 8 #[.agg #[.bool true, .int .i64 0], .agg #[.int .i64 1, .int .i64 x]] w (DoPost w true 0 1 0) := by
  go_enter Try.func8, Try.ntmps8
  go_wp2
  refine bodyPost_ret (v := .tuple #[.agg #[.bool true, .int .i64 0], .int .i64 (1), .int .i64 0]) (by simp [results, Try.results8, go_sem]) rfl ⟨rfl, ?_⟩
  repeat (first | exact Below.refl _ _ | exact Nat.le_refl _ | refine Below.setCell ?_ ?_ _ | refine Below.alloc ?_ ?_ _ | refine Below.drew ?_ | simp | omega)

set_option maxHeartbeats 1000000 in
theorem do_sleepNew (x : Int) (w : World) (hx0 : 0 ≤ x) (hx : x ≤ 1099511627776) :
    Calls Try.prog 8 #[.agg #[.bool false, .int .i64 0], .agg #[.int .i64 1, .int .i64 x]] w (DoPost w false (x + 1) 0 0) := by
  go_enter Try.func8, Try.ntmps8
  go_wp2
  refine bodyPost_ret (v := .tuple #[.agg #[.bool false, .int .i64 (x + 1)], .int .i64 (0), .int .i64 0]) (by simp [results, Try.results8, go_sem]) rfl ⟨rfl, ?_⟩
  repeat (first | exact Below.refl _ _ | exact Nat.le_refl _ | refine Below.setCell ?_ ?_ _ | refine Below.alloc ?_ ?_ _ | refine Below.drew ?_ | simp | omega)

set_option maxHeartbeats 1000000 in
theorem do_wakeSet (rw kd x : Int) (w : World) (hk0 : (kd == 0) = false) (hk1 : (kd == 1) = false) :
    Calls Try.prog 8 #[.agg #[.bool true, .int .i64 rw], .agg #[.int .i64 kd, .int .i64 x]] w (DoPost w true rw (-1) 9) := by
  go_enter Try.func8, Try.ntmps8
  go_wp2
  refine bodyPost_ret (v := .tuple #[.agg #[.bool true, .int .i64 rw], .int .i64 ((-1)), .int .i64 9]) (by simp [results, Try.results8, go_sem]) rfl ⟨rfl, ?_⟩
  repeat (first | exact Below.refl _ _ | exact Nat.le_refl _ | refine Below.setCell ?_ ?_ _ | refine Below.alloc ?_ ?_ _ | refine Below.drew ?_ | simp | omega)

set_option maxHeartbeats 1000000 in
theorem do_wakeOk (rw kd x : Int) (w : World) (hk0 : (kd == 0) = false) (hk1 : (kd == 1) = false) (h0 : 0 ≤ rw) (h1 : rw ≤ 1099511627777) :
    Calls Try.prog 8 #[.agg #[.bool false, .int .i64 rw], .agg #[.int .i64 kd, .int .i64 x]] w (DoPost w true 0 (rw - 1) 0) := by
  go_enter Try.func8, Try.ntmps8
  go_wp2
  go_region
  all_goals go_wp2
  all_goals refine bodyPost_ret (v := .tuple #[.agg #[.bool true, .int .i64 0], .int .i64 ((rw - 1)), .int .i64 0]) (by simp [results, Try.results8, go_sem]) rfl ⟨rfl, ?_⟩
  all_goals repeat (first | exact Below.refl _ _ | exact Nat.le_refl _ | refine Below.setCell ?_ ?_ _ | refine Below.alloc ?_ ?_ _ | refine Below.drew ?_ | simp | omega)

end Go.Proofs.Ythlkkljnmgmhhaa
