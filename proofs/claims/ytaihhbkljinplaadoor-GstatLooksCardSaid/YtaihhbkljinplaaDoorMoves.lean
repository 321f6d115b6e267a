/- Contracts of Move and of its answer. -/
import Derived.Test.YtaihhbkljinplaaDoorMay
import Derived.Test.YtaihhbkljinplaaDoorLocks
import Derived.Deep.QuietTactic
import Derived.BigQuiet
namespace Go.Proofs.YtaihhbkljinplaaDoor
open Go.ChangeShapes Go.WideShapes Go.ChangeAt Go.RowKit

attribute [local go_sem] bx0 bn0 ba0 bo0 bp0 bx1 bn1 ba1 bo1 bp1 bx2 bn2 ba2 bo2 bp2 bx3 bn3 ba3 bo3 bp3 bx4 bn4 ba4 bo4 bp4 bx5 bn5 ba5 bo5 bp5 bx6 bn6 ba6 bo6 bp6 bx7 bn7 ba7 bo7 bp7 bx8 bn8 ba8 bo8 bp8 bx9 bn9 ba9 bo9 bp9 bx10 bn10 ba10 bo10 bp10 bx11 bn11 ba11 bo11 bp11 bx12 bn12 ba12 bo12 bp12 bx13 bn13 ba13 bo13 bp13 bx14 bn14 ba14 bo14 bp14 bk0 bk1 bk2 bk3 bk4 bk6 bk7 bk9 bk14 bk15 bk18 bk29 bk30 bk36 bk58 bk61 bk122
theorem bt0_0 : bits .or .i64 0 0 = 0 := by decide
theorem bt0_8 : bits .or .i64 0 8 = 8 := by decide
theorem bt1_0 : bits .or .i64 1 0 = 1 := by decide
theorem bt1_8 : bits .or .i64 1 8 = 9 := by decide
theorem bt2_0 : bits .or .i64 2 0 = 2 := by decide
theorem bt2_8 : bits .or .i64 2 8 = 10 := by decide
theorem bt3_0 : bits .or .i64 3 0 = 3 := by decide
theorem bt3_8 : bits .or .i64 3 8 = 11 := by decide
theorem bt4_0 : bits .or .i64 4 0 = 4 := by decide
theorem bt4_8 : bits .or .i64 4 8 = 12 := by decide
theorem bt5_0 : bits .or .i64 5 0 = 5 := by decide
theorem bt5_8 : bits .or .i64 5 8 = 13 := by decide
theorem bt6_0 : bits .or .i64 6 0 = 6 := by decide
theorem bt6_8 : bits .or .i64 6 8 = 14 := by decide
attribute [local go_sem] bt0_0 bt0_8 bt1_0 bt1_8 bt2_0 bt2_8 bt3_0 bt3_8 bt4_0 bt4_8 bt5_0 bt5_8 bt6_0 bt6_8
theorem move_out {w to : Int} (h : isB w = false) : moveR w to = (0, 1) := by simp [moveR, h]
theorem move_out2 {w to : Int} (h : to < 0 ∨ 6 < to) : moveR w to = (0, 1) := by unfold moveR; rw [if_pos (by omega)]
set_option maxHeartbeats 8000000 in
theorem move_any (w to : Int) (hw : (Lit.int .i64 w).wf = true) (W : World) (hT : Tab W) : Calls Tryd.prog 14 #[.int .i64 w, .int .i64 to] W fun e W' => e = .returned (.tuple #[.int .i64 (moveR w to).1, .int .i64 (moveR w to).2]) ∧ W = W' := by
  obtain ⟨n0, n1, n2, n3, n4, n5, n6, f0, f1, f2, f3, f4, f5, f6, hz⟩ := hT
  rcases cases12 w with rfl | rfl | rfl | rfl | rfl | rfl | rfl | rfl | rfl | rfl | rfl | hb
  case inr.inr.inr.inr.inr.inr.inr.inr.inr.inr.inr =>
    go_enter Tryd.func14, Tryd.ntmps14
    go_wp2_with (first | (go_at_call 6; refine (is_any w hw _).mono ?_; rintro e w' ⟨rfl, rfl⟩) | (go_at_call 7; refine (refIs_any w hw _).mono ?_; rintro e w' ⟨rfl, rfl⟩))
    go_ret2
    rw [move_out hb]
    exact ⟨rfl, rfl⟩
  all_goals rcases int7 to with rfl | rfl | rfl | rfl | rfl | rfl | rfl | hto | hto
  all_goals try (have d7 : decide (to < 7) = false := decide_eq_false (by omega))
  all_goals try (have d9 : decide (to ≤ 6) = false := decide_eq_false (by omega))
  all_goals go_enter Tryd.func14, Tryd.ntmps14
  all_goals go_wp2
  all_goals go_ret2
  all_goals first | exact ⟨rfl, rfl⟩ | (rw [move_out2 (.inl hto)]; exact ⟨rfl, rfl⟩) | (rw [move_out2 (.inr hto)]; exact ⟨rfl, rfl⟩)

set_option maxHeartbeats 8000000 in
theorem refMove_any (w to : Int) (hw : (Lit.int .i64 w).wf = true) (W : World) (hT : Tab W) : Calls Tryd.prog 15 #[.int .i64 w, .int .i64 to] W fun e W' => e = .returned (.tuple #[.int .i64 (moveR w to).1, .int .i64 (moveR w to).2]) ∧ W = W' := by
  obtain ⟨n0, n1, n2, n3, n4, n5, n6, f0, f1, f2, f3, f4, f5, f6, hz⟩ := hT
  rcases cases12 w with rfl | rfl | rfl | rfl | rfl | rfl | rfl | rfl | rfl | rfl | rfl | hb
  case inr.inr.inr.inr.inr.inr.inr.inr.inr.inr.inr =>
    go_enter Tryd.func15, Tryd.ntmps15
    go_wp2_with (first | (go_at_call 6; refine (is_any w hw _).mono ?_; rintro e w' ⟨rfl, rfl⟩) | (go_at_call 7; refine (refIs_any w hw _).mono ?_; rintro e w' ⟨rfl, rfl⟩))
    go_ret2
    rw [move_out hb]
    exact ⟨rfl, rfl⟩
  all_goals rcases int7 to with rfl | rfl | rfl | rfl | rfl | rfl | rfl | hto | hto
  all_goals try (have d7 : decide (to < 7) = false := decide_eq_false (by omega))
  all_goals try (have d9 : decide (to ≤ 6) = false := decide_eq_false (by omega))
  all_goals go_enter Tryd.func15, Tryd.ntmps15
  all_goals go_wp2
  all_goals go_ret2
  all_goals first | exact ⟨rfl, rfl⟩ | (rw [move_out2 (.inl hto)]; exact ⟨rfl, rfl⟩) | (rw [move_out2 (.inr hto)]; exact ⟨rfl, rfl⟩)

end Go.Proofs.YtaihhbkljinplaaDoor
