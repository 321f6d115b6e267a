/- The walk of the law PstatNils. -/
import Derived.Test.YtemnipdmclohmaaPsD
namespace Go.Proofs.Ytemnipdmclohmaa
open Go.ChangeShapes Go.WideShapes Go.ChangeAt Go.RowKit Go.Deep
set_option linter.unusedVariables false

set_option maxHeartbeats 4000000 in
theorem act_nil (kd p m : Int) (W : World) (h0 : 0 ≤ kd) (h6 : kd ≤ 6) : Calls Try.prog 10 #[.pointer none, .agg #[.int .i64 kd, .int .i64 p, .int .i64 m]] W fun e W' => e = .returned (.int .i64 1) ∧ Chg (fun _ => False) W W' := by
  have hk : kd = 0 ∨ kd = 1 ∨ kd = 2 ∨ kd = 3 ∨ kd = 4 ∨ kd = 5 ∨ kd = 6 := by omega
  clear h0 h6
  go_enter Try.func10, Try.ntmps10
  rcases hk with rfl | rfl | rfl | rfl | rfl | rfl | rfl
  all_goals go_wp2_with (first
    | (go_at_call 16; refine (take_nil _ _ _).mono ?_; rintro e w1 ⟨rfl, hc⟩)
    | (go_at_call 17; refine (enter_nil _ _).mono ?_; rintro e w1 ⟨rfl, hc⟩)
    | (go_at_call 21; refine (leave_nil _ _ _).mono ?_; rintro e w1 ⟨rfl, hc⟩)
    | (go_at_call 22; refine (release_nil _ _).mono ?_; rintro e w1 ⟨rfl, hc⟩)
    | (go_at_call 18; refine (stop_nil _ _).mono ?_; rintro e w1 ⟨rfl, hc⟩)
    | (go_at_call 23; refine (go_nil _ _).mono ?_; rintro e w1 ⟨rfl, hc⟩)
    | (go_at_call 24; refine (resize_nil _ _).mono ?_; rintro e w1 ⟨rfl, rfl⟩))
  all_goals go_ret
  all_goals exact ⟨rfl, Chg.pre ((Chg.refl _ _).alloc _) (by first | exact hc | exact Chg.refl _ _)⟩
theorem lower {w w' : World} {B B' : Nat} (h : Below B w w') (hB : B' ≤ B) : Below B' w w' := ⟨h.os, h.tape, h.output, h.size, fun k hk => h.block k (by omega)⟩
theorem low {w w1 w2 : World} (h : Below w.heap.size w w1) (hc : Chg (fun _ => False) w1 w2) : Below w.heap.size w w2 := h.trans (hc.below h.size (by rintro g _ hh; exact hh.elim))
set_option maxHeartbeats 4000000 in
theorem walk_pstatNils (a0_0 a0_1 a0_2 : Int) (w : World) (w0_0 : (Lit.int .i64 a0_0).wf = true) (w0_1 : (Lit.int .i64 a0_1).wf = true) (w0_2 : (Lit.int .i64 a0_2).wf = true) :
    Calls Try.prog 5 #[.agg #[.int .i64 a0_0, .int .i64 a0_1, .int .i64 a0_2]] w fun e w' => e = .returned (.bool true) ∧ Below w.heap.size w w' := by
  clear w0_0 w0_1 w0_2
  go_enter Try.func5, Try.ntmps5
  by_cases h0 : a0_0 < 0
  · go_wp2_with (go_at_call 7; refine (alive_any _).mono ?_; rintro e w' ⟨rfl, hb⟩)
    go_ret
    exact ⟨rfl, ((Below.refl _ _).alloc (Nat.le_refl _) _).trans (lower hb (by simp))⟩
  · by_cases h6 : 6 < a0_0
    · have h0' : 0 ≤ a0_0 := by omega
      go_wp2_with (go_at_call 7; refine (alive_any _).mono ?_; rintro e w' ⟨rfl, hb⟩)
      go_ret
      exact ⟨rfl, ((Below.refl _ _).alloc (Nat.le_refl _) _).trans (lower hb (by simp))⟩
    · have h0' : 0 ≤ a0_0 := by omega
      have h6' : a0_0 ≤ 6 := by omega
      go_wp2_with fail
      refine (act_nil _ _ _ _ h0' h6').mono ?_
      rintro e v1 ⟨rfl, hc1⟩
      have hd : v1.cell? ⟨w.heap.size, 1, none⟩ = some (.int .i64 a0_1) := (hc1.cell (p := ⟨w.heap.size, 1, none⟩) (by simp) (fun h => h)).trans (by simp [go_sem])
      go_wp2_with (first
        | (go_at_call 14; refine (len_nil _).mono ?_; rintro e v2 ⟨rfl, rfl⟩)
        | (go_at_call 13; refine (get_nil _ _).mono ?_; rintro e v3 ⟨rfl, rfl⟩)
        | (go_at_call 12; refine (who_nil _ _).mono ?_; rintro e v4 ⟨rfl, rfl⟩)
        | (go_at_call 15; refine (count_nil _ _).mono ?_; rintro e v5 ⟨rfl, rfl⟩)
        | (go_at_call 7; refine (alive_any _).mono ?_; rintro e v6 ⟨rfl, hb⟩))
      go_ret
      exact ⟨rfl, (low ((Below.refl _ _).alloc (Nat.le_refl _) _) hc1).trans (lower hb (Nat.le_trans (by simp) hc1.size))⟩
end Go.Proofs.Ytemnipdmclohmaa
