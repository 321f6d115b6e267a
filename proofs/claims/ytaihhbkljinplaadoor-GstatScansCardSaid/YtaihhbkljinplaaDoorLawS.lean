/- The walk of the law GstatScans. -/
import Derived.Test.YtaihhbkljinplaaDoorLawM
import Derived.Test.YtaihhbkljinplaaDoorInts
import Derived.Deep.QuietTactic
import Derived.BigQuiet
namespace Go.Proofs.YtaihhbkljinplaaDoor
open Go.ChangeShapes Go.WideShapes Go.ChangeAt Go.RowKit
set_option linter.unusedVariables false

theorem wfB {w : Int} (h : isB w = true) : (Lit.int .i64 w).wf = true := by
  have := isB_cases h
  exact WalkArith.wf_i64 (by omega)
theorem step_move {wd to : Int} (hw : isB wd = true) (h0 : 0 ≤ to) (h6 : to ≤ 6) :
    (∃ nx, moveR wd to = (nx, 0) ∧ isB nx = true ∧ scB nx = scB wd ∧ (scB wd = true → (baseI nx == 2) = false)) ∨ (∃ f, moveR wd to = (0, f) ∧ (f == 0) = false) := by
  rcases isB_cases hw with rfl | rfl | rfl | rfl | rfl | rfl | rfl | rfl | rfl | rfl | rfl
  all_goals rcases int7 to with rfl | rfl | rfl | rfl | rfl | rfl | rfl | ht | ht
  all_goals first | omega | exact .inl ⟨_, rfl, rfl, rfl, fun _ => rfl⟩ | exact .inl ⟨_, rfl, rfl, rfl, fun h => by cases h⟩ | exact .inr ⟨_, rfl, rfl⟩
theorem step_unlock {wd : Int} (hw : isB wd = true) :
    (∃ nx, unlockR wd = (nx, 0) ∧ isB nx = true ∧ scB nx = false) ∨ (∃ f, unlockR wd = (0, f) ∧ (f == 0) = false) := by
  rcases isB_cases hw with rfl | rfl | rfl | rfl | rfl | rfl | rfl | rfl | rfl | rfl | rfl
  all_goals first | exact .inl ⟨_, rfl, rfl, rfl⟩ | exact .inr ⟨_, rfl, rfl⟩
theorem step_lock {wd : Int} (hw : isB wd = true) :
    (∃ nx, lockR wd = (nx, 0) ∧ isB nx = true ∧ scB nx = true ∧ (baseI nx == 2) = false) ∨ (∃ f, lockR wd = (0, f) ∧ (f == 0) = false) := by
  rcases isB_cases hw with rfl | rfl | rfl | rfl | rfl | rfl | rfl | rfl | rfl | rfl | rfl
  all_goals first | exact .inl ⟨_, rfl, rfl, rfl, rfl⟩ | exact .inr ⟨_, rfl, rfl⟩

/-- What holds at the head of a round. -/
def Round (len : Nat) (wv hv i : Value) (W wr : World) : Prop :=
  ∃ (k : Nat) (wd : Int) (h : Bool), k ≤ len ∧ i = .int .i64 k ∧ wv = .int .i64 wd ∧ hv = .bool h ∧ isB wd = true ∧ scB wd = h ∧ wr = W
theorem Round.step {len k : Nat} {wd : Int} {h : Bool} {W : World} (hk : k < len) (hb : isB wd = true) (hs : scB wd = h) : Round len (.int .i64 wd) (.bool h) (.int .i64 ((k : Int) + 1)) W W :=
  ⟨k + 1, wd, h, by omega, by go_num, rfl, rfl, hb, hs, rfl⟩

set_option maxHeartbeats 8000000 in
theorem walk_gstatScans (A : Option Addr) (len cap : Nat) (z : Nat → Int) (w : World) (hF : Ints .i64 w A len z) (hL : laidMetH Tryd.prog Rows.gstatScansRow.laid w) :
    Calls Tryd.prog 5 #[.slice A len cap] w fun e w' => e = .returned (.bool true) ∧ Below w.heap.size w w' := by
  have hT : Tab w := tab_of_laid (show laidMetH Tryd.prog Rows.gstatLooksRow.laid w from hL)
  have hm := hF.1
  unfold maxLen at hm
  by_cases h100 : 100 < len
  · go_enter Tryd.func5, Tryd.ntmps5
    go_wp2_with (go_at_call 13; refine (alive_any _ hT).mono ?_; rintro e w' ⟨rfl, rfl⟩)
    go_ret
    exact ⟨rfl, Below.refl _ _⟩
  · go_enter Tryd.func5, Tryd.ntmps5
    go_wp2
    go_loopw [3, 4, 5] (fun wv hv i wr => Round len wv hv i w wr) (fun _ _ i _ => len - (intOf i).toNat)
    case atStart => exact ⟨0, 0, false, Nat.zero_le _, rfl, rfl, rfl, rfl, rfl, rfl⟩
    case round =>
      obtain ⟨k, wd, h, hk, rfl, rfl, rfl, hb, hs, rfl⟩ := hrel
      by_cases hlt : k < len
      · obtain ⟨b, o, rfl, hbl, hc⟩ := hF.2 (by omega)
        have e0 := (hc k (by omega)).1
        have hwz := (hc k (by omega)).2
        generalize z k = to at e0 hwz
        clear hF hc
        have hwd := wfB hb
        by_cases t0 : to < 0
        · have hmv := move_out2 (w := wd) (.inl t0)
          rcases step_unlock hb with ⟨nx, hu, hn1, hn2⟩ | ⟨f, hu, hf⟩
          · have hnw := wfB hn1
            go_wp2_with (first
              | (go_at_call 14; refine (move_any wd to hwd _ hT).mono ?_; rintro e w' ⟨rfl, rfl⟩)
              | (go_at_call 16; refine (lock_any wd hwd _).mono ?_; rintro e w' ⟨rfl, rfl⟩)
              | (go_at_call 18; refine (unlock_any wd hwd _).mono ?_; rintro e w' ⟨rfl, rfl⟩)
              | (go_at_call 6; refine (is_any nx hnw _).mono ?_; rintro e w' ⟨rfl, rfl⟩)
              | (go_at_call 10; refine (sc_any nx hnw _).mono ?_; rintro e w' ⟨rfl, rfl⟩)
              | (go_at_call 8; refine (base_any nx hnw _).mono ?_; rintro e w' ⟨rfl, rfl⟩))
            go_roundw
            case rel => exact Round.step hlt hn1 hn2
            case measure => simp [intOf]; omega
          · go_wp2_with (first
              | (go_at_call 14; refine (move_any wd to hwd _ hT).mono ?_; rintro e w' ⟨rfl, rfl⟩)
              | (go_at_call 16; refine (lock_any wd hwd _).mono ?_; rintro e w' ⟨rfl, rfl⟩)
              | (go_at_call 18; refine (unlock_any wd hwd _).mono ?_; rintro e w' ⟨rfl, rfl⟩)
              | (go_at_call 6; refine (is_any nx hnw _).mono ?_; rintro e w' ⟨rfl, rfl⟩)
              | (go_at_call 10; refine (sc_any nx hnw _).mono ?_; rintro e w' ⟨rfl, rfl⟩)
              | (go_at_call 8; refine (base_any nx hnw _).mono ?_; rintro e w' ⟨rfl, rfl⟩))
            go_roundw
            case rel => exact Round.step hlt hb hs
            case measure => simp [intOf]; omega
        · by_cases t6 : 6 < to
          · have hmv := move_out2 (w := wd) (.inr t6)
            rcases step_lock hb with ⟨nx, hu, hn1, hn2, hn3⟩ | ⟨f, hu, hf⟩
            · have hnw := wfB hn1
              go_wp2_with (first
              | (go_at_call 14; refine (move_any wd to hwd _ hT).mono ?_; rintro e w' ⟨rfl, rfl⟩)
              | (go_at_call 16; refine (lock_any wd hwd _).mono ?_; rintro e w' ⟨rfl, rfl⟩)
              | (go_at_call 18; refine (unlock_any wd hwd _).mono ?_; rintro e w' ⟨rfl, rfl⟩)
              | (go_at_call 6; refine (is_any nx hnw _).mono ?_; rintro e w' ⟨rfl, rfl⟩)
              | (go_at_call 10; refine (sc_any nx hnw _).mono ?_; rintro e w' ⟨rfl, rfl⟩)
              | (go_at_call 8; refine (base_any nx hnw _).mono ?_; rintro e w' ⟨rfl, rfl⟩))
              go_roundw
              case rel => exact Round.step hlt hn1 hn2
              case measure => simp [intOf]; omega
            · go_wp2_with (first
              | (go_at_call 14; refine (move_any wd to hwd _ hT).mono ?_; rintro e w' ⟨rfl, rfl⟩)
              | (go_at_call 16; refine (lock_any wd hwd _).mono ?_; rintro e w' ⟨rfl, rfl⟩)
              | (go_at_call 18; refine (unlock_any wd hwd _).mono ?_; rintro e w' ⟨rfl, rfl⟩)
              | (go_at_call 6; refine (is_any nx hnw _).mono ?_; rintro e w' ⟨rfl, rfl⟩)
              | (go_at_call 10; refine (sc_any nx hnw _).mono ?_; rintro e w' ⟨rfl, rfl⟩)
              | (go_at_call 8; refine (base_any nx hnw _).mono ?_; rintro e w' ⟨rfl, rfl⟩))
              go_roundw
              case rel => exact Round.step hlt hb hs
              case measure => simp [intOf]; omega
          · rcases step_move hb (by omega : 0 ≤ to) (by omega) with ⟨nx, hu, hn1, hn2, hn3⟩ | ⟨f, hu, hf⟩
            · have hnw := wfB hn1
              rw [hs] at hn2 hn3
              cases h with
              | false =>
                clear hn3
                go_wp2_with (first
              | (go_at_call 14; refine (move_any wd to hwd _ hT).mono ?_; rintro e w' ⟨rfl, rfl⟩)
              | (go_at_call 16; refine (lock_any wd hwd _).mono ?_; rintro e w' ⟨rfl, rfl⟩)
              | (go_at_call 18; refine (unlock_any wd hwd _).mono ?_; rintro e w' ⟨rfl, rfl⟩)
              | (go_at_call 6; refine (is_any nx hnw _).mono ?_; rintro e w' ⟨rfl, rfl⟩)
              | (go_at_call 10; refine (sc_any nx hnw _).mono ?_; rintro e w' ⟨rfl, rfl⟩)
              | (go_at_call 8; refine (base_any nx hnw _).mono ?_; rintro e w' ⟨rfl, rfl⟩))
                go_roundw
                case rel => exact Round.step hlt hn1 hn2
                case measure => simp [intOf]; omega
              | true =>
                have hn4 := hn3 rfl
                clear hn3
                go_wp2_with (first
              | (go_at_call 14; refine (move_any wd to hwd _ hT).mono ?_; rintro e w' ⟨rfl, rfl⟩)
              | (go_at_call 16; refine (lock_any wd hwd _).mono ?_; rintro e w' ⟨rfl, rfl⟩)
              | (go_at_call 18; refine (unlock_any wd hwd _).mono ?_; rintro e w' ⟨rfl, rfl⟩)
              | (go_at_call 6; refine (is_any nx hnw _).mono ?_; rintro e w' ⟨rfl, rfl⟩)
              | (go_at_call 10; refine (sc_any nx hnw _).mono ?_; rintro e w' ⟨rfl, rfl⟩)
              | (go_at_call 8; refine (base_any nx hnw _).mono ?_; rintro e w' ⟨rfl, rfl⟩))
                go_roundw
                case rel => exact Round.step hlt hn1 hn2
                case measure => simp [intOf]; omega
            · go_wp2_with (first
              | (go_at_call 14; refine (move_any wd to hwd _ hT).mono ?_; rintro e w' ⟨rfl, rfl⟩)
              | (go_at_call 16; refine (lock_any wd hwd _).mono ?_; rintro e w' ⟨rfl, rfl⟩)
              | (go_at_call 18; refine (unlock_any wd hwd _).mono ?_; rintro e w' ⟨rfl, rfl⟩)
              | (go_at_call 6; refine (is_any nx hnw _).mono ?_; rintro e w' ⟨rfl, rfl⟩)
              | (go_at_call 10; refine (sc_any nx hnw _).mono ?_; rintro e w' ⟨rfl, rfl⟩)
              | (go_at_call 8; refine (base_any nx hnw _).mono ?_; rintro e w' ⟨rfl, rfl⟩))
              go_roundw
              case rel => exact Round.step hlt hb hs
              case measure => simp [intOf]; omega
      · go_wp2_with (go_at_call 13; refine (alive_any _ hT).mono ?_; rintro e w' ⟨rfl, rfl⟩)
        go_ret
        exact ⟨rfl, Below.refl _ _⟩
end Go.Proofs.YtaihhbkljinplaaDoor
