/- A watch of steps: the chapter's example; the walk of the law FairMore. -/
import Derived.Test.YtniabhlcolppbaaFairB
import Derived.Test.YtniabhlcolppbaaShape
namespace Go.Proofs.Ytniabhlcolppbaa
open Go.ChangeShapes Go.WideShapes Go.ChangeAt Go.RowKit Go.Deep
set_option linter.unusedVariables false

def wst (wo : Int) : Int := max wo 1
theorem new_any (k : Int) (W : World) (h1 : 1 ≤ k) (h2 : k ≤ 1000) : Calls Try.prog 6 #[.int .i64 k] W fun e W' => e = .returned (.pointer (some ⟨W.heap.size, 0, none⟩)) ∧ W' = W.alloc (.cells #[.int .i64 k, .slice none 0 0, .bool false, .int .i64 0] 37) := by
  have h3 : ¬ k < 1 := by omega
  have h4 : ¬ 1000 < k := by omega
  go_enter Try.func6, Try.ntmps6
  go_wp2
  go_ret
  exact ⟨rfl, rfl⟩
theorem wt_new (W : World) (B : Nat) (k : Int) (hB : B ≤ W.heap.size) : Wt (W.alloc (.cells #[.int .i64 k, .slice none 0 0, .bool false, .int .i64 0] 37)) B W.heap.size k false 0 [] :=
  ⟨hB, .slice none 0 0, Blk.new _ _ _, .inl ⟨rfl, rfl⟩⟩
theorem worst_any (W : World) (B b : Nat) (k wo : Int) (u : Bool) (cnt : List Int) (h : Wt W B b k u wo cnt) : Calls Try.prog 8 #[.pointer (some ⟨b, 0, none⟩)] W fun e W' => e = .returned (.int .i64 (wst wo)) ∧ W = W' := by
  obtain ⟨_, rv, h1, _⟩ := h
  obtain ⟨c0, c1, c2, c3, f1, f2, f3, kb⟩ := h1.cells
  clear h1
  have hv := Lib.hid (show wst wo = max wo 1 from rfl)
  go_enter Try.func8, Try.ntmps8
  go_wp2
  all_goals
    go_ret
    exact ⟨ret_int (by rw [hv.out]; omega), rfl⟩
theorem fair_any (W : World) (B b : Nat) (k wo : Int) (u : Bool) (cnt : List Int) (h : Wt W B b k u wo cnt) : Calls Try.prog 9 #[.pointer (some ⟨b, 0, none⟩)] W fun e W' => e = .returned (.bool (!u)) ∧ W = W' := by
  obtain ⟨_, rv, h1, _⟩ := h
  obtain ⟨c0, c1, c2, c3, f1, f2, f3, kb⟩ := h1.cells
  clear h1
  go_enter Try.func9, Try.ntmps9
  go_wp2
  go_ret
  exact ⟨rfl, rfl⟩
set_option maxHeartbeats 4000000 in
theorem alive_any (w : World) : Calls Try.prog 5 #[] w fun e w' => e = .returned (.bool true) ∧ Below w.heap.size w w' := by
  have hW := (wt_new w w.heap.size 1 (Nat.le_refl _)).kept (S := fun _ => False) ((Chg.refl _ _).alloc (.cells #[.bool false] 4)) (fun h => h) (fun _ _ _ h => h)
  have hP : Pk ((w.alloc (.cells #[.int .i64 1, .slice none 0 0, .bool false, .int .i64 0] 37)).alloc (.cells #[.bool false] 4)) (some ⟨w.heap.size + 1, 0, none⟩) 1 (fun _ => false) := fun _ => ⟨w.heap.size + 1, 0, rfl, by simp, fun m hm => by
    obtain rfl : m = 0 := by omega
    simp [go_sem]⟩
  have HS := Lib.hid (step_any _ w.heap.size w.heap.size 1 0 7 0 0 false [] (some ⟨w.heap.size + 1, 0, none⟩) 1 1 (fun _ => false) hW hP (by omega) (fun b' o h _ => by cases h; omega) (fun m => by simp [gc]) (by simp; omega) (by simp))
  have e1 : uAt (fun _ => false) (modOf 7 (1 : Nat)) [] 1 (modOf 0 65) false 1 1 = false := by decide
  have e2 : wAt (fun _ => false) (modOf 7 (1 : Nat)) [] 0 (modOf 0 65) 1 = 0 := by decide
  rw [e1, e2] at HS
  have e3 : wst 0 = 1 := by decide
  generalize rowAt (fun _ => false) (modOf 7 (1 : Nat)) [] 1 1 = cc at HS
  clear hW hP e1 e2
  have HN := Lib.hid (fun W => new_any 1 W (by omega) (by omega))
  go_enter Try.func5, Try.ntmps5
  go_wp2_with (first
    | (go_at_call 6; refine (HN.out _).mono ?_; rintro e w1 ⟨rfl, rfl⟩)
    | (go_at_call 7; refine HS.out.mono ?_; rintro e w1 ⟨rfl, hw1, hc1⟩; have HW1 := Lib.hid hw1; have HC1 := Lib.hid hc1; clear hw1 hc1)
    | (go_at_call 8; refine (worst_any _ _ _ _ _ _ _ HW1.out).mono ?_; rw [e3]; rintro e w2 ⟨rfl, rfl⟩)
    | (go_at_call 9; refine (fair_any _ _ _ _ _ _ _ HW1.out).mono ?_; rintro e w2 ⟨rfl, rfl⟩))
  go_ret
  exact ⟨rfl, (((Below.refl _ _).alloc (Nat.le_refl _) _).alloc (by simp) _).trans (HC1.out.below (by simp; omega) (fun g _ h => by rw [h]; exact Nat.le_refl _))⟩
end Go.Proofs.Ytniabhlcolppbaa
