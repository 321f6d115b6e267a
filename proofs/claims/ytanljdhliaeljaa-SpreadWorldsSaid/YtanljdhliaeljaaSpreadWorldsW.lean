/- The walk of the law SpreadWorlds. -/
import Derived.Test.YtanljdhliaeljaaSpreadE
namespace Go.Proofs.Ytanljdhliaeljaa
open Go.ChangeShapes Go.WideShapes Go.ChangeAt Go.RowKit Go.Deep
set_option linter.unusedVariables false

theorem Ints.below {k : IntKind} {w w' : World} {A : Option Addr} {n : Nat} {z : Nat → Int} (h : Ints k w A n z) (hb : Below w.heap.size w w') : Ints k w' A n z := by
  refine ⟨h.1, fun hl => ?_⟩
  obtain ⟨b, o, e, hlt, hc⟩ := h.2 hl
  exact ⟨b, o, e, Nat.lt_of_lt_of_le hlt hb.size, fun i hi => ⟨(hb.cell (p := ⟨b, o + i, none⟩) hlt).trans (hc i hi).1, (hc i hi).2⟩⟩

set_option maxHeartbeats 4000000 in
theorem walk_spreadWorlds (a0 : Option Addr) (len0 cap0 : Nat) (z0 : Nat → Int) (a1 a2 : Int) (w : World) (w0 : Ints .i64 w a0 len0 z0) (w1 : (Lit.int .i64 a1).wf = true) (w2 : (Lit.int .i64 a2).wf = true) :
    Calls Try.prog 3 #[.slice a0 len0 cap0, .int .i64 a1, .int .i64 a2] w fun e w' => e = .returned (.bool true) ∧ Below w.heap.size w w' := by
  have hm := w0.1
  unfold maxLen at hm
  by_cases h300 : 300 < len0
  · go_enter Try.func3, Try.ntmps3
    go_wp2_with (go_at_call 5; refine (alive_any _).mono ?_; rintro e w' ⟨rfl, hb⟩)
    go_ret
    exact ⟨rfl, hb⟩
  · have hcase : ¬ 0 < a1 ∨ (0 < a1 ∧ ¬ a2 ≤ 0) ∨ (0 < a1 ∧ a2 ≤ 0 ∧ ¬ 0 < (len0 : Int)) ∨ (0 < a1 ∧ a2 ≤ 0 ∧ 0 < (len0 : Int)) := by omega
    have hle := spr_le z0 a1 a2 len0
    rcases hcase with h1 | ⟨h1, h2⟩ | ⟨h1, h2, h3⟩ | ⟨h1, h2, h3⟩
    all_goals
      go_enter Try.func3, Try.ntmps3
      go_wp2_with fail
      refine (world_any _ _ _ z0 a1 a2 _ w0 (by omega)).mono ?_
      rintro e u1 ⟨A1, c1, A2, c2, rfl, r1, r2, hb1⟩
      go_wp2_with fail
      refine (rworld_any _ _ _ z0 a1 a2 _ ((Ints.below w0 hb1).below ((Below.refl _ _).alloc (Nat.le_refl _) _)) (by omega)).mono ?_
      rintro e u2 ⟨B1, d1, B2, d2, rfl, q1, q2, hb2⟩
      have hz2 := hb2.size
      have k1 := (r1.alloc (.cells #[.slice A1 (spr z0 a1 a2 len0).1.length c1, .slice A2 (spr z0 a1 a2 len0).2.length c2] 25)).rd.below hb2 (Nat.le_refl _)
      have k2 := (r2.alloc (.cells #[.slice A1 (spr z0 a1 a2 len0).1.length c1, .slice A2 (spr z0 a1 a2 len0).2.length c2] 25)).rd.below hb2 (Nat.le_refl _)
      have m0 : u2.cell? ⟨u1.heap.size, 0, none⟩ = some (.slice A1 (spr z0 a1 a2 len0).1.length c1) := by
        rw [hb2.cell (p := ⟨u1.heap.size, 0, none⟩) (by simp)]; simp [go_sem]
      have m1 : u2.cell? ⟨u1.heap.size, 1, none⟩ = some (.slice A2 (spr z0 a1 a2 len0).2.length c2) := by
        rw [hb2.cell (p := ⟨u1.heap.size, 1, none⟩) (by simp)]; simp [go_sem]
      have m2 : u1.heap.size < u2.heap.size := by simp at hz2; omega
      generalize (spr z0 a1 a2 len0).1 = gs at *
      generalize (spr z0 a1 a2 len0).2 = is at *
      go_wp2_with fail
      refine (same_yes _ _ _ _ _ _ gs _ (k1.alloc _) (q1.rd.alloc _) (by omega)).mono ?_
      rintro e u3 ⟨rfl, q, rfl⟩
      go_wp2_with fail
      refine (same_yes _ _ _ _ _ _ is _ ((k2.alloc _).drewN _) ((q2.rd.alloc _).drewN _) (by omega)).mono ?_
      rintro e u4 ⟨rfl, q', rfl⟩
      go_wp2_with (first | (go_at_call 9; go_in) | (go_at_call 5; refine (alive_any _).mono ?_; rintro e w' ⟨rfl, hb⟩))
      go_ret
      have hz1 := hb1.size
      have hz3 : w.heap.size ≤ u2.heap.size := by simp at hz2; omega
      have hu : Below w.heap.size w u2 := (hb1.alloc hb1.size _).trans (hb2.mono (by simp; omega))
      exact ⟨rfl, (belowN (hu.alloc hz3 _) _).trans (hb.mono (by simp; omega))⟩
end Go.Proofs.Ytanljdhliaeljaa
