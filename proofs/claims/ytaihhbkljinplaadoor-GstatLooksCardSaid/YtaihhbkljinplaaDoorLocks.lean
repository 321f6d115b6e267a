/- Contracts of Lock, Unlock, Name, and of the answers of these. -/
import Derived.Test.YtaihhbkljinplaaDoorWords
import Derived.Deep.QuietTactic
import Derived.BigQuiet
namespace Go.Proofs.YtaihhbkljinplaaDoor
open Go.ChangeShapes Go.WideShapes Go.ChangeAt Go.RowKit

attribute [local go_sem] bx0 bn0 ba0 bo0 bp0 bx1 bn1 ba1 bo1 bp1 bx2 bn2 ba2 bo2 bp2 bx3 bn3 ba3 bo3 bp3 bx4 bn4 ba4 bo4 bp4 bx5 bn5 ba5 bo5 bp5 bx6 bn6 ba6 bo6 bp6 bx7 bn7 ba7 bo7 bp7 bx8 bn8 ba8 bo8 bp8 bx9 bn9 ba9 bo9 bp9 bx10 bn10 ba10 bo10 bp10 bx11 bn11 ba11 bo11 bp11 bx12 bn12 ba12 bo12 bp12 bx13 bn13 ba13 bo13 bp13 bx14 bn14 ba14 bo14 bp14 bk0 bk1 bk2 bk3 bk4 bk6 bk7 bk9 bk14 bk15 bk18 bk29 bk30 bk36 bk58 bk61 bk122
theorem cases12 (w : Int) : w = 0 ∨ w = 1 ∨ w = 2 ∨ w = 3 ∨ w = 4 ∨ w = 5 ∨ w = 6 ∨ w = 9 ∨ w = 11 ∨ w = 12 ∨ w = 13 ∨ isB w = false := by
  cases hb : isB w with
  | false => simp
  | true => have := isB_cases hb; omega
set_option maxHeartbeats 4000000 in
theorem lock_any (w : Int) (hw : (Lit.int .i64 w).wf = true) (W : World) : Calls Tryd.prog 16 #[.int .i64 w] W fun e W' => e = .returned (.tuple #[.int .i64 (lockR w).1, .int .i64 (lockR w).2]) ∧ W = W' := by
  rcases cases12 w with rfl | rfl | rfl | rfl | rfl | rfl | rfl | rfl | rfl | rfl | rfl | hb
  all_goals go_enter Tryd.func16, Tryd.ntmps16
  any_goals (first | (have hlit : isB w = false := hb; go_wp2_with (first | (go_at_call 6; refine (is_any w hw _).mono ?_; rintro e w' ⟨rfl, rfl⟩) | (go_at_call 7; refine (refIs_any w hw _).mono ?_; rintro e w' ⟨rfl, rfl⟩) | (go_at_call 10; refine (sc_any w hw _).mono ?_; rintro e w' ⟨rfl, rfl⟩))) | go_wp2)
  all_goals go_ret2
  all_goals refine ⟨?_, rfl⟩
  all_goals first | rfl | (unfold lockR; rw [hb]; rfl)

set_option maxHeartbeats 4000000 in
theorem refLock_any (w : Int) (hw : (Lit.int .i64 w).wf = true) (W : World) : Calls Tryd.prog 17 #[.int .i64 w] W fun e W' => e = .returned (.tuple #[.int .i64 (lockR w).1, .int .i64 (lockR w).2]) ∧ W = W' := by
  rcases cases12 w with rfl | rfl | rfl | rfl | rfl | rfl | rfl | rfl | rfl | rfl | rfl | hb
  all_goals go_enter Tryd.func17, Tryd.ntmps17
  any_goals (first | (have hlit : isB w = false := hb; go_wp2_with (first | (go_at_call 6; refine (is_any w hw _).mono ?_; rintro e w' ⟨rfl, rfl⟩) | (go_at_call 7; refine (refIs_any w hw _).mono ?_; rintro e w' ⟨rfl, rfl⟩) | (go_at_call 10; refine (sc_any w hw _).mono ?_; rintro e w' ⟨rfl, rfl⟩))) | go_wp2)
  all_goals go_ret2
  all_goals refine ⟨?_, rfl⟩
  all_goals first | rfl | (unfold lockR; rw [hb]; rfl)

set_option maxHeartbeats 4000000 in
theorem unlock_any (w : Int) (hw : (Lit.int .i64 w).wf = true) (W : World) : Calls Tryd.prog 18 #[.int .i64 w] W fun e W' => e = .returned (.tuple #[.int .i64 (unlockR w).1, .int .i64 (unlockR w).2]) ∧ W = W' := by
  rcases cases12 w with rfl | rfl | rfl | rfl | rfl | rfl | rfl | rfl | rfl | rfl | rfl | hb
  all_goals go_enter Tryd.func18, Tryd.ntmps18
  any_goals (first | (have hlit : isB w = false := hb; go_wp2_with (first | (go_at_call 6; refine (is_any w hw _).mono ?_; rintro e w' ⟨rfl, rfl⟩) | (go_at_call 7; refine (refIs_any w hw _).mono ?_; rintro e w' ⟨rfl, rfl⟩) | (go_at_call 10; refine (sc_any w hw _).mono ?_; rintro e w' ⟨rfl, rfl⟩))) | go_wp2)
  all_goals go_ret2
  all_goals refine ⟨?_, rfl⟩
  all_goals first | rfl | (unfold unlockR; rw [hb]; rfl)

set_option maxHeartbeats 4000000 in
theorem refUnlock_any (w : Int) (hw : (Lit.int .i64 w).wf = true) (W : World) : Calls Tryd.prog 19 #[.int .i64 w] W fun e W' => e = .returned (.tuple #[.int .i64 (unlockR w).1, .int .i64 (unlockR w).2]) ∧ W = W' := by
  rcases cases12 w with rfl | rfl | rfl | rfl | rfl | rfl | rfl | rfl | rfl | rfl | rfl | hb
  all_goals go_enter Tryd.func19, Tryd.ntmps19
  any_goals (first | (have hlit : isB w = false := hb; go_wp2_with (first | (go_at_call 6; refine (is_any w hw _).mono ?_; rintro e w' ⟨rfl, rfl⟩) | (go_at_call 7; refine (refIs_any w hw _).mono ?_; rintro e w' ⟨rfl, rfl⟩) | (go_at_call 10; refine (sc_any w hw _).mono ?_; rintro e w' ⟨rfl, rfl⟩))) | go_wp2)
  all_goals go_ret2
  all_goals refine ⟨?_, rfl⟩
  all_goals first | rfl | (unfold unlockR; rw [hb]; rfl)

end Go.Proofs.YtaihhbkljinplaaDoor
