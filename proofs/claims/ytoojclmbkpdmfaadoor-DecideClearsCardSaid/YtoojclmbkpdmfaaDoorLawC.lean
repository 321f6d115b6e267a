/- The walk of the law DecideClears. -/
import Derived.Test.YtoojclmbkpdmfaaDoorRefs
import Derived.Deep.RegionHeld3
namespace Go.Proofs.YtoojclmbkpdmfaaDoor
open Go.ChangeShapes Go.WideShapes Go.ChangeAt Go.RowKit
set_option linter.unusedVariables false

theorem scB (w W : World) (ar pe ba so su sp : Bool) (h : W.cell? ⟨w.heap.size, 0, none⟩ = some (.bool ar) ∧ W.cell? ⟨w.heap.size, 1, none⟩ = some (.bool pe) ∧ W.cell? ⟨w.heap.size, 2, none⟩ = some (.bool ba) ∧ W.cell? ⟨w.heap.size, 3, none⟩ = some (.bool so) ∧ W.cell? ⟨w.heap.size, 4, none⟩ = some (.bool su) ∧ W.cell? ⟨w.heap.size, 5, none⟩ = some (.bool sp) ∧ Below w.heap.size w W ∧ w.heap.size < W.heap.size) : Below w.heap.size w W := h.2.2.2.2.2.2.1
theorem scK (w W : World) (ar pe ba so su sp : Bool) (w2 : World) (h : W.cell? ⟨w.heap.size, 0, none⟩ = some (.bool ar) ∧ W.cell? ⟨w.heap.size, 1, none⟩ = some (.bool pe) ∧ W.cell? ⟨w.heap.size, 2, none⟩ = some (.bool ba) ∧ W.cell? ⟨w.heap.size, 3, none⟩ = some (.bool so) ∧ W.cell? ⟨w.heap.size, 4, none⟩ = some (.bool su) ∧ W.cell? ⟨w.heap.size, 5, none⟩ = some (.bool sp) ∧ Below w.heap.size w W ∧ w.heap.size < W.heap.size) (h2 : Below W.heap.size W w2) : w2.cell? ⟨w.heap.size, 0, none⟩ = some (.bool ar) ∧ w2.cell? ⟨w.heap.size, 1, none⟩ = some (.bool pe) ∧ w2.cell? ⟨w.heap.size, 2, none⟩ = some (.bool ba) ∧ w2.cell? ⟨w.heap.size, 3, none⟩ = some (.bool so) ∧ w2.cell? ⟨w.heap.size, 4, none⟩ = some (.bool su) ∧ w2.cell? ⟨w.heap.size, 5, none⟩ = some (.bool sp) ∧ Below w.heap.size w w2 ∧ w.heap.size < w2.heap.size := by
  obtain ⟨c0, c1, c2, c3, c4, c5, hb, hz⟩ := h
  exact ⟨(h2.cell hz).trans c0, (h2.cell hz).trans c1, (h2.cell hz).trans c2, (h2.cell hz).trans c3, (h2.cell hz).trans c4, (h2.cell hz).trans c5, hb.trans (h2.mono (by omega)), Nat.lt_of_lt_of_le hz h2.size⟩
theorem scD (w W : World) (ar pe ba so su sp : Bool) (h : W.cell? ⟨w.heap.size, 0, none⟩ = some (.bool ar) ∧ W.cell? ⟨w.heap.size, 1, none⟩ = some (.bool pe) ∧ W.cell? ⟨w.heap.size, 2, none⟩ = some (.bool ba) ∧ W.cell? ⟨w.heap.size, 3, none⟩ = some (.bool so) ∧ W.cell? ⟨w.heap.size, 4, none⟩ = some (.bool su) ∧ W.cell? ⟨w.heap.size, 5, none⟩ = some (.bool sp) ∧ Below w.heap.size w W ∧ w.heap.size < W.heap.size) : W.drew.cell? ⟨w.heap.size, 0, none⟩ = some (.bool ar) ∧ W.drew.cell? ⟨w.heap.size, 1, none⟩ = some (.bool pe) ∧ W.drew.cell? ⟨w.heap.size, 2, none⟩ = some (.bool ba) ∧ W.drew.cell? ⟨w.heap.size, 3, none⟩ = some (.bool so) ∧ W.drew.cell? ⟨w.heap.size, 4, none⟩ = some (.bool su) ∧ W.drew.cell? ⟨w.heap.size, 5, none⟩ = some (.bool sp) ∧ Below w.heap.size w W.drew ∧ w.heap.size < W.drew.heap.size := scK w W ar pe ba so su sp W.drew h (Below.refl _ _).drew

set_option maxRecDepth 100000 in
set_option maxHeartbeats 8000000 in
theorem clears_0 (ar pe ba so su sp : Bool) (w : World) (hN : Names w) :
    Calls Tryd.prog 4 #[.agg #[.bool ar, .bool pe, .bool ba, .bool so, .bool su, .bool sp], .int .i64 0] w fun e w' => e = .returned (.bool true) ∧ Below w.heap.size w w' := by
  have hal : ∀ W : World, Below w.heap.size w W → Calls Tryd.prog 7 #[] W fun e W' => e = .returned (.bool true) ∧ Below W.heap.size W W' := fun W h => alive_any W (hN.below h).2.2.2.1
  have ss0 := scK w (w.alloc (.cells #[.bool ar, .bool pe, .bool ba, .bool so, .bool su, .bool sp] 27)) ar pe ba so su sp ((w.alloc (.cells #[.bool ar, .bool pe, .bool ba, .bool so, .bool su, .bool sp] 27)).alloc (.cells #[.string ⟨#[103, 111]⟩, .string ⟨#[115, 101, 114, 118, 101]⟩, .string ⟨#[112, 97, 114, 107]⟩, .string ⟨#[114, 101, 113, 117, 101, 117, 101]⟩, .string ⟨#[102, 111, 114, 103, 101, 116]⟩] 9)) ⟨by simp [go_sem], by simp [go_sem], by simp [go_sem], by simp [go_sem], by simp [go_sem], by simp [go_sem], (Below.refl _ _).alloc (Nat.le_refl _) _, by simp⟩ ((Below.refl _ _).alloc (by simp) _)
  go_enter Tryd.func4, Tryd.ntmps4
  go_wp2
  go_region_held3 (fun w' => w'.cell? ⟨w.heap.size, 0, none⟩ = some (.bool ar) ∧ w'.cell? ⟨w.heap.size, 1, none⟩ = some (.bool pe) ∧ w'.cell? ⟨w.heap.size, 2, none⟩ = some (.bool ba) ∧ w'.cell? ⟨w.heap.size, 3, none⟩ = some (.bool so) ∧ w'.cell? ⟨w.heap.size, 4, none⟩ = some (.bool su) ∧ w'.cell? ⟨w.heap.size, 5, none⟩ = some (.bool sp) ∧ Below w.heap.size w w' ∧ w.heap.size < w'.heap.size) (first | assumption | exact scD w _ ar pe ba so su sp ss0 | exact scK w _ ar pe ba so su sp _ (by assumption) hbu1 | exact scK w _ ar pe ba so su sp _ (by assumption) hbu2 | exact scK w _ ar pe ba so su sp _ (by assumption) hbu3 | exact scK w _ ar pe ba so su sp _ (by assumption) hbu7)
    ((first | (go_at_call 13; refine (clear_0 _ _ _ _ _ _ _).mono ?_; rintro e u1 ⟨rfl, hbu1⟩) | (go_at_call 14; refine (refClear_0 _ _ _ _ _ _ _).mono ?_; rintro e u2 ⟨rfl, hbu2⟩) | (go_at_call 10; refine (of_any _ _ _ _ _ _ _).mono ?_; rintro e u3 ⟨rfl, hbu3⟩) | (go_at_call 15; refine (name_0 _ ?_).mono ?_; exact hN.below (scB w _ ar pe ba so su sp (by assumption)); rintro e u4 ⟨rfl, rfl⟩) | (go_at_call 7; refine (hal _ ?_).mono ?_; exact scB w _ ar pe ba so su sp (by assumption); rintro e u7 ⟨rfl, hbu7⟩)))
  all_goals go_wp2
  all_goals go_ret
  all_goals exact ⟨by first | rfl | simp, scB w _ ar pe ba so su sp (by assumption)⟩

set_option maxRecDepth 100000 in
set_option maxHeartbeats 8000000 in
theorem clears_1 (ar pe ba so su sp : Bool) (w : World) (hN : Names w) :
    Calls Tryd.prog 4 #[.agg #[.bool ar, .bool pe, .bool ba, .bool so, .bool su, .bool sp], .int .i64 1] w fun e w' => e = .returned (.bool true) ∧ Below w.heap.size w w' := by
  have hal : ∀ W : World, Below w.heap.size w W → Calls Tryd.prog 7 #[] W fun e W' => e = .returned (.bool true) ∧ Below W.heap.size W W' := fun W h => alive_any W (hN.below h).2.2.2.1
  have ss0 := scK w (w.alloc (.cells #[.bool ar, .bool pe, .bool ba, .bool so, .bool su, .bool sp] 27)) ar pe ba so su sp ((w.alloc (.cells #[.bool ar, .bool pe, .bool ba, .bool so, .bool su, .bool sp] 27)).alloc (.cells #[.string ⟨#[103, 111]⟩, .string ⟨#[115, 101, 114, 118, 101]⟩, .string ⟨#[112, 97, 114, 107]⟩, .string ⟨#[114, 101, 113, 117, 101, 117, 101]⟩, .string ⟨#[102, 111, 114, 103, 101, 116]⟩] 9)) ⟨by simp [go_sem], by simp [go_sem], by simp [go_sem], by simp [go_sem], by simp [go_sem], by simp [go_sem], (Below.refl _ _).alloc (Nat.le_refl _) _, by simp⟩ ((Below.refl _ _).alloc (by simp) _)
  go_enter Tryd.func4, Tryd.ntmps4
  go_wp2
  go_region_held3 (fun w' => w'.cell? ⟨w.heap.size, 0, none⟩ = some (.bool ar) ∧ w'.cell? ⟨w.heap.size, 1, none⟩ = some (.bool pe) ∧ w'.cell? ⟨w.heap.size, 2, none⟩ = some (.bool ba) ∧ w'.cell? ⟨w.heap.size, 3, none⟩ = some (.bool so) ∧ w'.cell? ⟨w.heap.size, 4, none⟩ = some (.bool su) ∧ w'.cell? ⟨w.heap.size, 5, none⟩ = some (.bool sp) ∧ Below w.heap.size w w' ∧ w.heap.size < w'.heap.size) (first | assumption | exact scD w _ ar pe ba so su sp ss0 | exact scK w _ ar pe ba so su sp _ (by assumption) hbu1 | exact scK w _ ar pe ba so su sp _ (by assumption) hbu2 | exact scK w _ ar pe ba so su sp _ (by assumption) hbu3 | exact scK w _ ar pe ba so su sp _ (by assumption) hbu7)
    ((first | (go_at_call 13; refine (clear_1 _ _ _ _ _ _ _).mono ?_; rintro e u1 ⟨rfl, hbu1⟩) | (go_at_call 14; refine (refClear_1 _ _ _ _ _ _ _).mono ?_; rintro e u2 ⟨rfl, hbu2⟩) | (go_at_call 10; refine (of_any _ _ _ _ _ _ _).mono ?_; rintro e u3 ⟨rfl, hbu3⟩) | (go_at_call 15; refine (name_1 _ ?_).mono ?_; exact hN.below (scB w _ ar pe ba so su sp (by assumption)); rintro e u4 ⟨rfl, rfl⟩) | (go_at_call 7; refine (hal _ ?_).mono ?_; exact scB w _ ar pe ba so su sp (by assumption); rintro e u7 ⟨rfl, hbu7⟩)))
  all_goals go_wp2
  all_goals go_ret
  all_goals exact ⟨by first | rfl | simp, scB w _ ar pe ba so su sp (by assumption)⟩

set_option maxRecDepth 100000 in
set_option maxHeartbeats 8000000 in
theorem clears_2 (ar pe ba so su sp : Bool) (w : World) (hN : Names w) :
    Calls Tryd.prog 4 #[.agg #[.bool ar, .bool pe, .bool ba, .bool so, .bool su, .bool sp], .int .i64 2] w fun e w' => e = .returned (.bool true) ∧ Below w.heap.size w w' := by
  have hal : ∀ W : World, Below w.heap.size w W → Calls Tryd.prog 7 #[] W fun e W' => e = .returned (.bool true) ∧ Below W.heap.size W W' := fun W h => alive_any W (hN.below h).2.2.2.1
  have ss0 := scK w (w.alloc (.cells #[.bool ar, .bool pe, .bool ba, .bool so, .bool su, .bool sp] 27)) ar pe ba so su sp ((w.alloc (.cells #[.bool ar, .bool pe, .bool ba, .bool so, .bool su, .bool sp] 27)).alloc (.cells #[.string ⟨#[103, 111]⟩, .string ⟨#[115, 101, 114, 118, 101]⟩, .string ⟨#[112, 97, 114, 107]⟩, .string ⟨#[114, 101, 113, 117, 101, 117, 101]⟩, .string ⟨#[102, 111, 114, 103, 101, 116]⟩] 9)) ⟨by simp [go_sem], by simp [go_sem], by simp [go_sem], by simp [go_sem], by simp [go_sem], by simp [go_sem], (Below.refl _ _).alloc (Nat.le_refl _) _, by simp⟩ ((Below.refl _ _).alloc (by simp) _)
  go_enter Tryd.func4, Tryd.ntmps4
  go_wp2
  go_region_held3 (fun w' => w'.cell? ⟨w.heap.size, 0, none⟩ = some (.bool ar) ∧ w'.cell? ⟨w.heap.size, 1, none⟩ = some (.bool pe) ∧ w'.cell? ⟨w.heap.size, 2, none⟩ = some (.bool ba) ∧ w'.cell? ⟨w.heap.size, 3, none⟩ = some (.bool so) ∧ w'.cell? ⟨w.heap.size, 4, none⟩ = some (.bool su) ∧ w'.cell? ⟨w.heap.size, 5, none⟩ = some (.bool sp) ∧ Below w.heap.size w w' ∧ w.heap.size < w'.heap.size) (first | assumption | exact scD w _ ar pe ba so su sp ss0 | exact scK w _ ar pe ba so su sp _ (by assumption) hbu1 | exact scK w _ ar pe ba so su sp _ (by assumption) hbu2 | exact scK w _ ar pe ba so su sp _ (by assumption) hbu3 | exact scK w _ ar pe ba so su sp _ (by assumption) hbu7)
    ((first | (go_at_call 13; refine (clear_2 _ _ _ _ _ _ _).mono ?_; rintro e u1 ⟨rfl, hbu1⟩) | (go_at_call 14; refine (refClear_2 _ _ _ _ _ _ _).mono ?_; rintro e u2 ⟨rfl, hbu2⟩) | (go_at_call 10; refine (of_any _ _ _ _ _ _ _).mono ?_; rintro e u3 ⟨rfl, hbu3⟩) | (go_at_call 15; refine (name_2 _ ?_).mono ?_; exact hN.below (scB w _ ar pe ba so su sp (by assumption)); rintro e u4 ⟨rfl, rfl⟩) | (go_at_call 7; refine (hal _ ?_).mono ?_; exact scB w _ ar pe ba so su sp (by assumption); rintro e u7 ⟨rfl, hbu7⟩)))
  all_goals go_wp2
  all_goals go_ret
  all_goals exact ⟨by first | rfl | simp, scB w _ ar pe ba so su sp (by assumption)⟩

set_option maxRecDepth 100000 in
set_option maxHeartbeats 8000000 in
theorem clears_3 (ar pe ba so su sp : Bool) (w : World) (hN : Names w) :
    Calls Tryd.prog 4 #[.agg #[.bool ar, .bool pe, .bool ba, .bool so, .bool su, .bool sp], .int .i64 3] w fun e w' => e = .returned (.bool true) ∧ Below w.heap.size w w' := by
  have hal : ∀ W : World, Below w.heap.size w W → Calls Tryd.prog 7 #[] W fun e W' => e = .returned (.bool true) ∧ Below W.heap.size W W' := fun W h => alive_any W (hN.below h).2.2.2.1
  have ss0 := scK w (w.alloc (.cells #[.bool ar, .bool pe, .bool ba, .bool so, .bool su, .bool sp] 27)) ar pe ba so su sp ((w.alloc (.cells #[.bool ar, .bool pe, .bool ba, .bool so, .bool su, .bool sp] 27)).alloc (.cells #[.string ⟨#[103, 111]⟩, .string ⟨#[115, 101, 114, 118, 101]⟩, .string ⟨#[112, 97, 114, 107]⟩, .string ⟨#[114, 101, 113, 117, 101, 117, 101]⟩, .string ⟨#[102, 111, 114, 103, 101, 116]⟩] 9)) ⟨by simp [go_sem], by simp [go_sem], by simp [go_sem], by simp [go_sem], by simp [go_sem], by simp [go_sem], (Below.refl _ _).alloc (Nat.le_refl _) _, by simp⟩ ((Below.refl _ _).alloc (by simp) _)
  go_enter Tryd.func4, Tryd.ntmps4
  go_wp2
  go_region_held3 (fun w' => w'.cell? ⟨w.heap.size, 0, none⟩ = some (.bool ar) ∧ w'.cell? ⟨w.heap.size, 1, none⟩ = some (.bool pe) ∧ w'.cell? ⟨w.heap.size, 2, none⟩ = some (.bool ba) ∧ w'.cell? ⟨w.heap.size, 3, none⟩ = some (.bool so) ∧ w'.cell? ⟨w.heap.size, 4, none⟩ = some (.bool su) ∧ w'.cell? ⟨w.heap.size, 5, none⟩ = some (.bool sp) ∧ Below w.heap.size w w' ∧ w.heap.size < w'.heap.size) (first | assumption | exact scD w _ ar pe ba so su sp ss0 | exact scK w _ ar pe ba so su sp _ (by assumption) hbu1 | exact scK w _ ar pe ba so su sp _ (by assumption) hbu2 | exact scK w _ ar pe ba so su sp _ (by assumption) hbu3 | exact scK w _ ar pe ba so su sp _ (by assumption) hbu7)
    ((first | (go_at_call 13; refine (clear_3 _ _ _ _ _ _ _).mono ?_; rintro e u1 ⟨rfl, hbu1⟩) | (go_at_call 14; refine (refClear_3 _ _ _ _ _ _ _).mono ?_; rintro e u2 ⟨rfl, hbu2⟩) | (go_at_call 10; refine (of_any _ _ _ _ _ _ _).mono ?_; rintro e u3 ⟨rfl, hbu3⟩) | (go_at_call 15; refine (name_3 _ ?_).mono ?_; exact hN.below (scB w _ ar pe ba so su sp (by assumption)); rintro e u4 ⟨rfl, rfl⟩) | (go_at_call 7; refine (hal _ ?_).mono ?_; exact scB w _ ar pe ba so su sp (by assumption); rintro e u7 ⟨rfl, hbu7⟩)))
  all_goals go_wp2
  all_goals go_ret
  all_goals exact ⟨by first | rfl | simp, scB w _ ar pe ba so su sp (by assumption)⟩

set_option maxRecDepth 100000 in
set_option maxHeartbeats 8000000 in
theorem clears_4 (ar pe ba so su sp : Bool) (w : World) (hN : Names w) :
    Calls Tryd.prog 4 #[.agg #[.bool ar, .bool pe, .bool ba, .bool so, .bool su, .bool sp], .int .i64 4] w fun e w' => e = .returned (.bool true) ∧ Below w.heap.size w w' := by
  have hal : ∀ W : World, Below w.heap.size w W → Calls Tryd.prog 7 #[] W fun e W' => e = .returned (.bool true) ∧ Below W.heap.size W W' := fun W h => alive_any W (hN.below h).2.2.2.1
  have ss0 := scK w (w.alloc (.cells #[.bool ar, .bool pe, .bool ba, .bool so, .bool su, .bool sp] 27)) ar pe ba so su sp ((w.alloc (.cells #[.bool ar, .bool pe, .bool ba, .bool so, .bool su, .bool sp] 27)).alloc (.cells #[.string ⟨#[103, 111]⟩, .string ⟨#[115, 101, 114, 118, 101]⟩, .string ⟨#[112, 97, 114, 107]⟩, .string ⟨#[114, 101, 113, 117, 101, 117, 101]⟩, .string ⟨#[102, 111, 114, 103, 101, 116]⟩] 9)) ⟨by simp [go_sem], by simp [go_sem], by simp [go_sem], by simp [go_sem], by simp [go_sem], by simp [go_sem], (Below.refl _ _).alloc (Nat.le_refl _) _, by simp⟩ ((Below.refl _ _).alloc (by simp) _)
  go_enter Tryd.func4, Tryd.ntmps4
  go_wp2
  go_region_held3 (fun w' => w'.cell? ⟨w.heap.size, 0, none⟩ = some (.bool ar) ∧ w'.cell? ⟨w.heap.size, 1, none⟩ = some (.bool pe) ∧ w'.cell? ⟨w.heap.size, 2, none⟩ = some (.bool ba) ∧ w'.cell? ⟨w.heap.size, 3, none⟩ = some (.bool so) ∧ w'.cell? ⟨w.heap.size, 4, none⟩ = some (.bool su) ∧ w'.cell? ⟨w.heap.size, 5, none⟩ = some (.bool sp) ∧ Below w.heap.size w w' ∧ w.heap.size < w'.heap.size) (first | assumption | exact scD w _ ar pe ba so su sp ss0 | exact scK w _ ar pe ba so su sp _ (by assumption) hbu1 | exact scK w _ ar pe ba so su sp _ (by assumption) hbu2 | exact scK w _ ar pe ba so su sp _ (by assumption) hbu3 | exact scK w _ ar pe ba so su sp _ (by assumption) hbu7)
    ((first | (go_at_call 13; refine (clear_4 _ _ _ _ _ _ _).mono ?_; rintro e u1 ⟨rfl, hbu1⟩) | (go_at_call 14; refine (refClear_4 _ _ _ _ _ _ _).mono ?_; rintro e u2 ⟨rfl, hbu2⟩) | (go_at_call 10; refine (of_any _ _ _ _ _ _ _).mono ?_; rintro e u3 ⟨rfl, hbu3⟩) | (go_at_call 15; refine (name_4 _ ?_).mono ?_; exact hN.below (scB w _ ar pe ba so su sp (by assumption)); rintro e u4 ⟨rfl, rfl⟩) | (go_at_call 7; refine (hal _ ?_).mono ?_; exact scB w _ ar pe ba so su sp (by assumption); rintro e u7 ⟨rfl, hbu7⟩)))
  all_goals go_wp2
  all_goals go_ret
  all_goals exact ⟨by first | rfl | simp, scB w _ ar pe ba so su sp (by assumption)⟩

set_option maxRecDepth 100000 in
set_option maxHeartbeats 8000000 in
theorem clears_low (a : Int) (ar pe ba so su sp : Bool) (w : World) (ha : a < 0) (hN : Names w) :
    Calls Tryd.prog 4 #[.agg #[.bool ar, .bool pe, .bool ba, .bool so, .bool su, .bool sp], .int .i64 a] w fun e w' => e = .returned (.bool true) ∧ Below w.heap.size w w' := by
  have hal : ∀ W : World, Below w.heap.size w W → Calls Tryd.prog 7 #[] W fun e W' => e = .returned (.bool true) ∧ Below W.heap.size W W' := fun W h => alive_any W (hN.below h).2.2.2.1
  have ss0 : (w.alloc (.cells #[.bool ar, .bool pe, .bool ba, .bool so, .bool su, .bool sp] 27)).cell? ⟨w.heap.size, 0, none⟩ = some (.bool ar) ∧ (w.alloc (.cells #[.bool ar, .bool pe, .bool ba, .bool so, .bool su, .bool sp] 27)).cell? ⟨w.heap.size, 1, none⟩ = some (.bool pe) ∧ (w.alloc (.cells #[.bool ar, .bool pe, .bool ba, .bool so, .bool su, .bool sp] 27)).cell? ⟨w.heap.size, 2, none⟩ = some (.bool ba) ∧ (w.alloc (.cells #[.bool ar, .bool pe, .bool ba, .bool so, .bool su, .bool sp] 27)).cell? ⟨w.heap.size, 3, none⟩ = some (.bool so) ∧ (w.alloc (.cells #[.bool ar, .bool pe, .bool ba, .bool so, .bool su, .bool sp] 27)).cell? ⟨w.heap.size, 4, none⟩ = some (.bool su) ∧ (w.alloc (.cells #[.bool ar, .bool pe, .bool ba, .bool so, .bool su, .bool sp] 27)).cell? ⟨w.heap.size, 5, none⟩ = some (.bool sp) ∧ Below w.heap.size w (w.alloc (.cells #[.bool ar, .bool pe, .bool ba, .bool so, .bool su, .bool sp] 27)) ∧ w.heap.size < (w.alloc (.cells #[.bool ar, .bool pe, .bool ba, .bool so, .bool su, .bool sp] 27)).heap.size := ⟨by simp [go_sem], by simp [go_sem], by simp [go_sem], by simp [go_sem], by simp [go_sem], by simp [go_sem], (Below.refl _ _).alloc (Nat.le_refl _) _, by simp⟩
  go_enter Tryd.func4, Tryd.ntmps4
  go_wp2
  go_region_held3 (fun w' => w'.cell? ⟨w.heap.size, 0, none⟩ = some (.bool ar) ∧ w'.cell? ⟨w.heap.size, 1, none⟩ = some (.bool pe) ∧ w'.cell? ⟨w.heap.size, 2, none⟩ = some (.bool ba) ∧ w'.cell? ⟨w.heap.size, 3, none⟩ = some (.bool so) ∧ w'.cell? ⟨w.heap.size, 4, none⟩ = some (.bool su) ∧ w'.cell? ⟨w.heap.size, 5, none⟩ = some (.bool sp) ∧ Below w.heap.size w w' ∧ w.heap.size < w'.heap.size) (first | assumption | exact scD w _ ar pe ba so su sp ss0 | exact scK w _ ar pe ba so su sp _ (by assumption) hbu1 | exact scK w _ ar pe ba so su sp _ (by assumption) hbu2 | exact scK w _ ar pe ba so su sp _ (by assumption) hbu3 | exact scK w _ ar pe ba so su sp _ (by assumption) hbu7)
    ((first | (go_at_call 13; refine (clear_out _ (.inl ha) _ _ _ _ _ _ _).mono ?_; rintro e u1 ⟨rfl, hbu1⟩) | (go_at_call 14; refine (refClear_out _ (.inl ha) _ _ _ _ _ _ _).mono ?_; rintro e u2 ⟨rfl, hbu2⟩) | (go_at_call 10; refine (of_any _ _ _ _ _ _ _).mono ?_; rintro e u3 ⟨rfl, hbu3⟩) | (go_at_call 15; refine (name_out _ (.inl ha) _).mono ?_;  rintro e u4 ⟨rfl, rfl⟩) | (go_at_call 7; refine (hal _ ?_).mono ?_; exact scB w _ ar pe ba so su sp (by assumption); rintro e u7 ⟨rfl, hbu7⟩)))
  all_goals go_wp2
  all_goals go_ret
  all_goals exact ⟨by first | rfl | simp, scB w _ ar pe ba so su sp (by assumption)⟩

set_option maxRecDepth 100000 in
set_option maxHeartbeats 8000000 in
theorem clears_high (a : Int) (ar pe ba so su sp : Bool) (w : World) (ha : 4 < a) (hN : Names w) :
    Calls Tryd.prog 4 #[.agg #[.bool ar, .bool pe, .bool ba, .bool so, .bool su, .bool sp], .int .i64 a] w fun e w' => e = .returned (.bool true) ∧ Below w.heap.size w w' := by
  have hal : ∀ W : World, Below w.heap.size w W → Calls Tryd.prog 7 #[] W fun e W' => e = .returned (.bool true) ∧ Below W.heap.size W W' := fun W h => alive_any W (hN.below h).2.2.2.1
  have d5 : decide (a < 5) = false := decide_eq_false (by omega)
  have ss0 : (w.alloc (.cells #[.bool ar, .bool pe, .bool ba, .bool so, .bool su, .bool sp] 27)).cell? ⟨w.heap.size, 0, none⟩ = some (.bool ar) ∧ (w.alloc (.cells #[.bool ar, .bool pe, .bool ba, .bool so, .bool su, .bool sp] 27)).cell? ⟨w.heap.size, 1, none⟩ = some (.bool pe) ∧ (w.alloc (.cells #[.bool ar, .bool pe, .bool ba, .bool so, .bool su, .bool sp] 27)).cell? ⟨w.heap.size, 2, none⟩ = some (.bool ba) ∧ (w.alloc (.cells #[.bool ar, .bool pe, .bool ba, .bool so, .bool su, .bool sp] 27)).cell? ⟨w.heap.size, 3, none⟩ = some (.bool so) ∧ (w.alloc (.cells #[.bool ar, .bool pe, .bool ba, .bool so, .bool su, .bool sp] 27)).cell? ⟨w.heap.size, 4, none⟩ = some (.bool su) ∧ (w.alloc (.cells #[.bool ar, .bool pe, .bool ba, .bool so, .bool su, .bool sp] 27)).cell? ⟨w.heap.size, 5, none⟩ = some (.bool sp) ∧ Below w.heap.size w (w.alloc (.cells #[.bool ar, .bool pe, .bool ba, .bool so, .bool su, .bool sp] 27)) ∧ w.heap.size < (w.alloc (.cells #[.bool ar, .bool pe, .bool ba, .bool so, .bool su, .bool sp] 27)).heap.size := ⟨by simp [go_sem], by simp [go_sem], by simp [go_sem], by simp [go_sem], by simp [go_sem], by simp [go_sem], (Below.refl _ _).alloc (Nat.le_refl _) _, by simp⟩
  go_enter Tryd.func4, Tryd.ntmps4
  go_wp2
  go_region_held3 (fun w' => w'.cell? ⟨w.heap.size, 0, none⟩ = some (.bool ar) ∧ w'.cell? ⟨w.heap.size, 1, none⟩ = some (.bool pe) ∧ w'.cell? ⟨w.heap.size, 2, none⟩ = some (.bool ba) ∧ w'.cell? ⟨w.heap.size, 3, none⟩ = some (.bool so) ∧ w'.cell? ⟨w.heap.size, 4, none⟩ = some (.bool su) ∧ w'.cell? ⟨w.heap.size, 5, none⟩ = some (.bool sp) ∧ Below w.heap.size w w' ∧ w.heap.size < w'.heap.size) (first | assumption | exact scD w _ ar pe ba so su sp ss0 | exact scK w _ ar pe ba so su sp _ (by assumption) hbu1 | exact scK w _ ar pe ba so su sp _ (by assumption) hbu2 | exact scK w _ ar pe ba so su sp _ (by assumption) hbu3 | exact scK w _ ar pe ba so su sp _ (by assumption) hbu7)
    ((first | (go_at_call 13; refine (clear_out _ (.inr ha) _ _ _ _ _ _ _).mono ?_; rintro e u1 ⟨rfl, hbu1⟩) | (go_at_call 14; refine (refClear_out _ (.inr ha) _ _ _ _ _ _ _).mono ?_; rintro e u2 ⟨rfl, hbu2⟩) | (go_at_call 10; refine (of_any _ _ _ _ _ _ _).mono ?_; rintro e u3 ⟨rfl, hbu3⟩) | (go_at_call 15; refine (name_out _ (.inr ha) _).mono ?_;  rintro e u4 ⟨rfl, rfl⟩) | (go_at_call 7; refine (hal _ ?_).mono ?_; exact scB w _ ar pe ba so su sp (by assumption); rintro e u7 ⟨rfl, hbu7⟩)))
  all_goals go_wp2
  all_goals go_ret
  all_goals exact ⟨by first | rfl | simp, scB w _ ar pe ba so su sp (by assumption)⟩

theorem walk_decideClears (a0_0 : Bool) (a0_1 : Bool) (a0_2 : Bool) (a0_3 : Bool) (a0_4 : Bool) (a0_5 : Bool) (a1 : Int) (w : World) (w1 : (Lit.int .i64 a1).wf = true) (hL : laidMetH Tryd.prog Rows.decideClearsRow.laid w) :
    Calls Tryd.prog 4 #[.agg #[.bool a0_0, .bool a0_1, .bool a0_2, .bool a0_3, .bool a0_4, .bool a0_5], .int .i64 a1] w fun e w' => e = .returned (.bool true) ∧ Below w.heap.size w w' := by
  have hN := names_of_laid (show laidMetH Tryd.prog Rows.decideEndsRow.laid w from hL)
  have h : a1 = 0 ∨ a1 = 1 ∨ a1 = 2 ∨ a1 = 3 ∨ a1 = 4 ∨ a1 < 0 ∨ 4 < a1 := by omega
  rcases h with rfl | rfl | rfl | rfl | rfl | h | h
  · exact clears_0 _ _ _ _ _ _ w hN
  · exact clears_1 _ _ _ _ _ _ w hN
  · exact clears_2 _ _ _ _ _ _ w hN
  · exact clears_3 _ _ _ _ _ _ w hN
  · exact clears_4 _ _ _ _ _ _ w hN
  · exact clears_low _ _ _ _ _ _ _ w h hN
  · exact clears_high _ _ _ _ _ _ _ w h hN
end Go.Proofs.YtoojclmbkpdmfaaDoor
