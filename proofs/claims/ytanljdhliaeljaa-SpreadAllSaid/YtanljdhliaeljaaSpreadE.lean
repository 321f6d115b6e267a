/- The chapter's example of a plan; the walk of the law SpreadWorlds. -/
import Derived.Test.YtanljdhliaeljaaWorld
namespace Go.Proofs.Ytanljdhliaeljaa
open Go.ChangeShapes Go.WideShapes Go.ChangeAt Go.RowKit Go.Deep
set_option linter.unusedVariables false

def zex (i : Nat) : Int := if i = 0 then 1 else if i = 1 then 0 else 2
theorem spr_ex : spr zex 0 1 3 = ([2], [1]) := by decide
theorem world_ex (w : World) : Calls Try.prog 6 #[.slice (some ⟨w.heap.size, 0, none⟩) 3 3, .int .i64 0, .int .i64 1] (w.alloc (.cells #[.int .i64 1, .int .i64 0, .int .i64 2] 3)) fun e w' => ∃ A1 c1 A2 c2, e = .returned (.agg #[.slice A1 1 c1, .slice A2 1 c2]) ∧
      Row w' (w.heap.size + 1) 3 1 A1 1 c1 (ints [2]) ∧ Row w' (w.heap.size + 1) 3 1 A2 1 c2 (ints [1]) ∧ Below w.heap.size w w' := by
  have hI : Ints .i64 (w.alloc (.cells #[.int .i64 1, .int .i64 0, .int .i64 2] 3)) (some ⟨w.heap.size, 0, none⟩) 3 zex := by
    refine ⟨by unfold maxLen; omega, fun _ => ⟨w.heap.size, 0, rfl, by simp, fun i hi => ?_⟩⟩
    rcases i with _ | _ | _ | i
    · exact ⟨by simp [go_sem, zex], by decide⟩
    · exact ⟨by simp [go_sem, zex], by decide⟩
    · exact ⟨by simp [go_sem, zex], by decide⟩
    · omega
  refine (world_any _ 3 3 zex 0 1 _ hI (by omega)).mono ?_
  rintro e w' ⟨A1, c1, A2, c2, rfl, h1, h2, hb⟩
  rw [spr_ex] at h1 h2
  refine ⟨A1, c1, A2, c2, by rw [spr_ex]; rfl, by simpa using h1, by simpa using h2, ((Below.refl _ _).alloc (Nat.le_refl _) _).trans (hb.mono (by simp))⟩

theorem wake_any (a b c : Int) (W : World) : Calls Try.prog 9 #[.int .i64 a, .int .i64 b, .int .i64 c] W fun e W' => e = .returned (.bool (decide (0 < a) && decide (b ≤ 0) && decide (0 < c))) ∧ W = W' := by
  by_cases h1 : 0 < a
  · by_cases h2 : b ≤ 0
    · by_cases h3 : 0 < c
      all_goals
        go_enter Try.func9, Try.ntmps9
        go_wp2
        go_ret
        exact ⟨ret_bool (by simp [h1, h2, h3]), rfl⟩
    · go_enter Try.func9, Try.ntmps9
      go_wp2
      go_ret
      exact ⟨ret_bool (by have := h2; simp; omega), rfl⟩
  · go_enter Try.func9, Try.ntmps9
    go_wp2
    go_ret
    exact ⟨ret_bool (by have := h1; simp; omega), rfl⟩

set_option maxHeartbeats 2000000 in
theorem alive_any (w : World) : Calls Try.prog 5 #[] w fun e w' => e = .returned (.bool true) ∧ Below w.heap.size w w' := by
  have d1 : (decide ((0 : Int) < 1) && decide ((0 : Int) ≤ 0) && decide ((0 : Int) < 1)) = true := by decide
  have d2 : (decide ((0 : Int) < 1) && decide ((1 : Int) ≤ 0) && decide ((0 : Int) < 1)) = false := by decide
  go_enter Try.func5, Try.ntmps5
  go_wp2_with fail
  refine (world_ex _).mono ?_
  rintro e w1 ⟨A1, c1, A2, c2, rfl, h1, h2, hb⟩
  go_wp2_with fail
  refine (same_yes _ _ _ _ _ _ [2] _ ((h1.rd.alloc _).alloc _) ?_ (by decide)).mono ?_
  · exact Rd.litn _ _ _ _ (by simp)
  rintro e w2 ⟨rfl, q, rfl⟩
  go_wp2_with fail
  refine (same_yes _ _ _ _ _ _ [1] _ ((((h2.rd.alloc _).alloc _).alloc _).drewN q) ?_ (by decide)).mono ?_
  · exact (Rd.litn _ _ _ _ (by simp)).drewN q
  rintro e w3 ⟨rfl, q2, rfl⟩
  go_wp2_with fail
  refine (wake_any _ _ _ _).mono ?_
  rintro e w4 ⟨rfl, rfl⟩
  rw [d1]
  go_wp2_with fail
  refine (wake_any _ _ _ _).mono ?_
  rintro e w4 ⟨rfl, rfl⟩
  rw [d2]
  go_wp2
  go_ret
  have := hb.size
  exact ⟨rfl, by (repeat' (first | (with_reducible exact hb) | (with_reducible refine belowN ?_ _) | (with_reducible refine Below.alloc ?_ ?_ _) | omega | (simp; omega)))⟩
end Go.Proofs.Ytanljdhliaeljaa
