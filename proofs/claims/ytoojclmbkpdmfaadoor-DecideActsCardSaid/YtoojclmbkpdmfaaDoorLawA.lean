/- The walk of the law DecideActs. -/
import Derived.Test.YtoojclmbkpdmfaaDoorRefs
import Derived.Deep.RegionHeld3
namespace Go.Proofs.YtoojclmbkpdmfaaDoor
open Go.ChangeShapes Go.WideShapes Go.ChangeAt Go.RowKit
set_option linter.unusedVariables false

theorem ssB (w W : World) (C A : Option Addr) (lc cc ls cs : Nat) (ar pe ba so su sp : Bool) (h : W.cell? ⟨w.heap.size, 0, none⟩ = some (.slice C lc cc) ∧ W.cell? ⟨w.heap.size, 1, none⟩ = some (.slice A ls cs) ∧ W.cell? ⟨w.heap.size + 1, 0, none⟩ = some (.bool ar) ∧ W.cell? ⟨w.heap.size + 1, 1, none⟩ = some (.bool pe) ∧ W.cell? ⟨w.heap.size + 1, 2, none⟩ = some (.bool ba) ∧ W.cell? ⟨w.heap.size + 1, 3, none⟩ = some (.bool so) ∧ W.cell? ⟨w.heap.size + 1, 4, none⟩ = some (.bool su) ∧ W.cell? ⟨w.heap.size + 1, 5, none⟩ = some (.bool sp) ∧ Below w.heap.size w W ∧ w.heap.size + 1 < W.heap.size) : Below w.heap.size w W := h.2.2.2.2.2.2.2.2.1
theorem ssZ (w W : World) (C A : Option Addr) (lc cc ls cs : Nat) (ar pe ba so su sp : Bool) (h : W.cell? ⟨w.heap.size, 0, none⟩ = some (.slice C lc cc) ∧ W.cell? ⟨w.heap.size, 1, none⟩ = some (.slice A ls cs) ∧ W.cell? ⟨w.heap.size + 1, 0, none⟩ = some (.bool ar) ∧ W.cell? ⟨w.heap.size + 1, 1, none⟩ = some (.bool pe) ∧ W.cell? ⟨w.heap.size + 1, 2, none⟩ = some (.bool ba) ∧ W.cell? ⟨w.heap.size + 1, 3, none⟩ = some (.bool so) ∧ W.cell? ⟨w.heap.size + 1, 4, none⟩ = some (.bool su) ∧ W.cell? ⟨w.heap.size + 1, 5, none⟩ = some (.bool sp) ∧ Below w.heap.size w W ∧ w.heap.size + 1 < W.heap.size) : w.heap.size + 1 < W.heap.size := h.2.2.2.2.2.2.2.2.2
theorem ssK (w W : World) (C A : Option Addr) (lc cc ls cs : Nat) (ar pe ba so su sp : Bool) (w2 : World) (h : W.cell? ⟨w.heap.size, 0, none⟩ = some (.slice C lc cc) ∧ W.cell? ⟨w.heap.size, 1, none⟩ = some (.slice A ls cs) ∧ W.cell? ⟨w.heap.size + 1, 0, none⟩ = some (.bool ar) ∧ W.cell? ⟨w.heap.size + 1, 1, none⟩ = some (.bool pe) ∧ W.cell? ⟨w.heap.size + 1, 2, none⟩ = some (.bool ba) ∧ W.cell? ⟨w.heap.size + 1, 3, none⟩ = some (.bool so) ∧ W.cell? ⟨w.heap.size + 1, 4, none⟩ = some (.bool su) ∧ W.cell? ⟨w.heap.size + 1, 5, none⟩ = some (.bool sp) ∧ Below w.heap.size w W ∧ w.heap.size + 1 < W.heap.size) (h2 : Below W.heap.size W w2) : w2.cell? ⟨w.heap.size, 0, none⟩ = some (.slice C lc cc) ∧ w2.cell? ⟨w.heap.size, 1, none⟩ = some (.slice A ls cs) ∧ w2.cell? ⟨w.heap.size + 1, 0, none⟩ = some (.bool ar) ∧ w2.cell? ⟨w.heap.size + 1, 1, none⟩ = some (.bool pe) ∧ w2.cell? ⟨w.heap.size + 1, 2, none⟩ = some (.bool ba) ∧ w2.cell? ⟨w.heap.size + 1, 3, none⟩ = some (.bool so) ∧ w2.cell? ⟨w.heap.size + 1, 4, none⟩ = some (.bool su) ∧ w2.cell? ⟨w.heap.size + 1, 5, none⟩ = some (.bool sp) ∧ Below w.heap.size w w2 ∧ w.heap.size + 1 < w2.heap.size := by
  obtain ⟨s0, s1, c0, c1, c2, c3, c4, c5, hb, hz⟩ := h
  have hz0 : w.heap.size < W.heap.size := by omega
  exact ⟨(h2.cell hz0).trans s0, (h2.cell hz0).trans s1, (h2.cell hz).trans c0, (h2.cell hz).trans c1, (h2.cell hz).trans c2, (h2.cell hz).trans c3, (h2.cell hz).trans c4, (h2.cell hz).trans c5, hb.trans (h2.mono (by omega)), Nat.lt_of_lt_of_le hz h2.size⟩
theorem ssD (w W : World) (C A : Option Addr) (lc cc ls cs : Nat) (ar pe ba so su sp : Bool) (h : W.cell? ⟨w.heap.size, 0, none⟩ = some (.slice C lc cc) ∧ W.cell? ⟨w.heap.size, 1, none⟩ = some (.slice A ls cs) ∧ W.cell? ⟨w.heap.size + 1, 0, none⟩ = some (.bool ar) ∧ W.cell? ⟨w.heap.size + 1, 1, none⟩ = some (.bool pe) ∧ W.cell? ⟨w.heap.size + 1, 2, none⟩ = some (.bool ba) ∧ W.cell? ⟨w.heap.size + 1, 3, none⟩ = some (.bool so) ∧ W.cell? ⟨w.heap.size + 1, 4, none⟩ = some (.bool su) ∧ W.cell? ⟨w.heap.size + 1, 5, none⟩ = some (.bool sp) ∧ Below w.heap.size w W ∧ w.heap.size + 1 < W.heap.size) : W.drew.cell? ⟨w.heap.size, 0, none⟩ = some (.slice C lc cc) ∧ W.drew.cell? ⟨w.heap.size, 1, none⟩ = some (.slice A ls cs) ∧ W.drew.cell? ⟨w.heap.size + 1, 0, none⟩ = some (.bool ar) ∧ W.drew.cell? ⟨w.heap.size + 1, 1, none⟩ = some (.bool pe) ∧ W.drew.cell? ⟨w.heap.size + 1, 2, none⟩ = some (.bool ba) ∧ W.drew.cell? ⟨w.heap.size + 1, 3, none⟩ = some (.bool so) ∧ W.drew.cell? ⟨w.heap.size + 1, 4, none⟩ = some (.bool su) ∧ W.drew.cell? ⟨w.heap.size + 1, 5, none⟩ = some (.bool sp) ∧ Below w.heap.size w W.drew ∧ w.heap.size + 1 < W.drew.heap.size := ssK w W C A lc cc ls cs ar pe ba so su sp W.drew h (Below.refl _ _).drew

set_option maxRecDepth 100000 in
set_option maxHeartbeats 8000000 in
theorem walk_decideActs (C A : Option Addr) (lc cc ls cs : Nat) (z : Nat → Bool) (pc : Int) (ar pe ba so su sp : Bool) (w : World) (hT : Truths w A ls z) (hlc : lc ≤ maxLen) (hL : laidMetH Tryd.prog Rows.decideActsRow.laid w) :
    Calls Tryd.prog 3 #[.agg #[.slice C lc cc, .slice A ls cs], .int .i64 pc, .agg #[.bool ar, .bool pe, .bool ba, .bool so, .bool su, .bool sp]] w fun e w' => e = .returned (.bool true) ∧ Below w.heap.size w w' := by
  have hn := names_cell (show laidMetH Tryd.prog Rows.decideEndsRow.laid w from hL)
  have hz0 : 0 < w.heap.size := by simpa using World.block_lt_of_cell? w _ hn
  have hal : ∀ W : World, Below w.heap.size w W → Calls Tryd.prog 7 #[] W fun e W' => e = .returned (.bool true) ∧ Below W.heap.size W W' := fun W h => alive_any W ((h.cell (p := ⟨0, 3, none⟩) hz0).trans hn)
  have hB0 : Below w.heap.size w ((w.alloc (.cells #[.slice C lc cc, .slice A ls cs] 25)).alloc (.cells #[.bool ar, .bool pe, .bool ba, .bool so, .bool su, .bool sp] 27)) := (((Below.refl _ _).alloc (Nat.le_refl _) _).alloc (by simp) _)
  clear hn
  by_cases hl : lc ≤ 100 ∧ ls ≤ 100
  · have d1 : decide (lc ≤ 100) = true := decide_eq_true hl.1
    have d2 : decide (ls ≤ 100) = true := decide_eq_true hl.2
    go_enter Tryd.func3, Tryd.ntmps3
    go_wp2_with (go_at_call 6; refine (light_any _ _ _ _ _ _ _).mono ?_; rintro e w1 ⟨rfl, hb1⟩)
    have ss0 := ssK w ((w.alloc (.cells #[.slice C lc cc, .slice A ls cs] 25)).alloc (.cells #[.bool ar, .bool pe, .bool ba, .bool so, .bool su, .bool sp] 27)) C A lc cc ls cs ar pe ba so su sp w1 ⟨by simp [go_sem], by simp [go_sem], by simp [go_sem], by simp [go_sem], by simp [go_sem], by simp [go_sem], by simp [go_sem], by simp [go_sem], hB0, by simp⟩ hb1
    clear hb1 d1 d2 hB0
    go_region_held3 (fun w' => w'.cell? ⟨w.heap.size, 0, none⟩ = some (.slice C lc cc) ∧ w'.cell? ⟨w.heap.size, 1, none⟩ = some (.slice A ls cs) ∧ w'.cell? ⟨w.heap.size + 1, 0, none⟩ = some (.bool ar) ∧ w'.cell? ⟨w.heap.size + 1, 1, none⟩ = some (.bool pe) ∧ w'.cell? ⟨w.heap.size + 1, 2, none⟩ = some (.bool ba) ∧ w'.cell? ⟨w.heap.size + 1, 3, none⟩ = some (.bool so) ∧ w'.cell? ⟨w.heap.size + 1, 4, none⟩ = some (.bool su) ∧ w'.cell? ⟨w.heap.size + 1, 5, none⟩ = some (.bool sp) ∧ Below w.heap.size w w' ∧ w.heap.size + 1 < w'.heap.size) (first | exact ssD w _ C A lc cc ls cs ar pe ba so su sp ss0 | exact ssK w _ C A lc cc ls cs ar pe ba so su sp _ (by assumption) hbu1 | exact ssK w _ C A lc cc ls cs ar pe ba so su sp _ (by assumption) hbu2 | exact ssK w _ C A lc cc ls cs ar pe ba so su sp _ (by assumption) hbu3 | exact ssK w _ C A lc cc ls cs ar pe ba so su sp _ (by assumption) hbu4 | exact ssK w _ C A lc cc ls cs ar pe ba so su sp _ (by assumption) hbu5 | exact ssK w _ C A lc cc ls cs ar pe ba so su sp _ (by assumption) hbu7)
      ((first | (go_at_call 8; refine (decide_any _ _ _ _ _ _ z _ _ _ _ _ _ _ _ ?_ hlc).mono ?_; exact hT.below (ssB w _ C A lc cc ls cs ar pe ba so su sp (by assumption)); rintro e u1 ⟨rfl, hbu1⟩) | (go_at_call 9; refine (refDecide_any _ _ _ _ _ _ z _ _ _ _ _ _ _ _ ?_ hlc).mono ?_; exact hT.below (ssB w _ C A lc cc ls cs ar pe ba so su sp (by assumption)); rintro e u2 ⟨rfl, hbu2⟩) | (go_at_call 10; refine (of_any _ _ _ _ _ _ _).mono ?_; rintro e u3 ⟨rfl, hbu3⟩) | (go_at_call 11; refine (behind_any _ _ _ _ _ _ _).mono ?_; rintro e u4 ⟨rfl, hbu4⟩) | (go_at_call 12; refine (refBehind_any _ _ _ _ _ _ _).mono ?_; rintro e u5 ⟨rfl, hbu5⟩) | (go_at_call 7; refine (hal _ ?_).mono ?_; exact ssB w _ C A lc cc ls cs ar pe ba so su sp (by assumption); rintro e u7 ⟨rfl, hbu7⟩)))
    all_goals go_wp2
    all_goals go_ret
    all_goals exact ⟨by simp, ssB w _ C A lc cc ls cs ar pe ba so su sp (by assumption)⟩
  · have hd : (decide (lc ≤ 100) && decide (ls ≤ 100)) = false := by
      rw [Bool.and_eq_false_iff]
      by_cases h1 : lc ≤ 100
      · exact .inr (decide_eq_false (by omega))
      · exact .inl (decide_eq_false h1)
    go_enter Tryd.func3, Tryd.ntmps3
    go_wp2_with (first | (go_at_call 6; refine (light_any _ _ _ _ _ _ _).mono ?_; rintro e w1 ⟨rfl, hb1⟩; have hs1 := hb1.size; simp at hs1) | (go_at_call 7; refine (hal _ (hB0.trans (hb1.mono (by simp; omega)))).mono ?_; rintro e w3 ⟨rfl, hb3⟩))
    go_ret
    exact ⟨rfl, (hB0.trans (hb1.mono (by simp; omega))).trans (hb3.mono (by omega))⟩
end Go.Proofs.YtoojclmbkpdmfaaDoor
