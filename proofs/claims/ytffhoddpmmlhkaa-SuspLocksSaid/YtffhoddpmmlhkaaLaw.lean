/- What the words say; contracts of Is, Scanned and of the answer Is. -/
import Derived.Test.YtffhoddpmmlhkaaBits
import Derived.Deep.QuietTactic
import Derived.BigQuiet
namespace Go.Proofs.Ytffhoddpmmlhkaa
open Go.ChangeShapes Go.WideShapes Go.ChangeAt Go.RowKit

/-- Is it a word? -/
def isB (w : Int) : Bool := decide (0 ≤ w ∧ w ≤ 6 ∨ w = 9 ∨ w = 11 ∨ w = 12 ∨ w = 13)
/-- Is it a word with Scan? -/
def scB (w : Int) : Bool := decide (w = 9 ∨ w = 11 ∨ w = 12 ∨ w = 13)
theorem isB_cases {w : Int} (h : isB w = true) : w = 0 ∨ w = 1 ∨ w = 2 ∨ w = 3 ∨ w = 4 ∨ w = 5 ∨ w = 6 ∨ w = 9 ∨ w = 11 ∨ w = 12 ∨ w = 13 := by
  unfold isB at h
  simp at h
  omega
theorem all_cases (w : Int) (hw : (Lit.int .i64 w).wf = true) : w = 0 ∨ w = 1 ∨ w = 2 ∨ w = 3 ∨ w = 4 ∨ w = 5 ∨ w = 6 ∨ w = 7 ∨ w = 8 ∨ w = 9 ∨ w = 10 ∨ w = 11 ∨ w = 12 ∨ w = 13 ∨ w = 14 ∨ ((w < 0 ∨ 14 < w) ∧ isB w = false ∧ scB w = false ∧ bits .xor .i64 w 8 < 0) ∨ ((w < 0 ∨ 14 < w) ∧ isB w = false ∧ scB w = false ∧ 6 < bits .xor .i64 w 8) := by
  by_cases h : 0 ≤ w ∧ w ≤ 14
  · omega
  · have hb : isB w = false := by unfold isB; simp; omega
    have hs : scB w = false := by unfold scB; simp; omega
    have ho : w < 0 ∨ 14 < w := by omega
    rcases xor_out w hw (by omega) with hx | hx
    · exact .inr (.inr (.inr (.inr (.inr (.inr (.inr (.inr (.inr (.inr (.inr (.inr (.inr (.inr (.inr (.inl ⟨ho, hb, hs, hx⟩)))))))))))))))
    · exact .inr (.inr (.inr (.inr (.inr (.inr (.inr (.inr (.inr (.inr (.inr (.inr (.inr (.inr (.inr (.inr ⟨ho, hb, hs, hx⟩)))))))))))))))

attribute [local go_sem] bx0 bn0 ba0 bo0 bp0 bx1 bn1 ba1 bo1 bp1 bx2 bn2 ba2 bo2 bp2 bx3 bn3 ba3 bo3 bp3 bx4 bn4 ba4 bo4 bp4 bx5 bn5 ba5 bo5 bp5 bx6 bn6 ba6 bo6 bp6 bx7 bn7 ba7 bo7 bp7 bx8 bn8 ba8 bo8 bp8 bx9 bn9 ba9 bo9 bp9 bx10 bn10 ba10 bo10 bp10 bx11 bn11 ba11 bo11 bp11 bx12 bn12 ba12 bo12 bp12 bx13 bn13 ba13 bo13 bp13 bx14 bn14 ba14 bo14 bp14 bk0 bk1 bk2 bk3 bk4 bk6 bk7 bk9 bk14 bk15 bk18 bk29 bk30 bk36 bk58 bk61 bk122
set_option maxHeartbeats 2000000 in
theorem sc_any (w : Int) (hw : (Lit.int .i64 w).wf = true) (W : World) : Calls Try.prog 19 #[.int .i64 w] W fun e W' => e = .returned (.bool (scB w)) ∧ W = W' := by
  rcases all_cases w hw with rfl | rfl | rfl | rfl | rfl | rfl | rfl | rfl | rfl | rfl | rfl | rfl | rfl | rfl | rfl | ⟨ho, hb, hs, hx⟩ | ⟨ho, hb, hs, hx⟩
  all_goals try (rcases ho with ho | ho)
  all_goals try (have d7 : decide (w < 7) = false := decide_eq_false (by omega))
  all_goals try (have d6 : decide (w ≤ 6) = false := decide_eq_false (by omega))
  all_goals go_enter Try.func19, Try.ntmps19
  all_goals go_wp2
  all_goals go_ret
  all_goals refine ⟨?_, rfl⟩
  all_goals first | rfl | (rw [hb]; done) | (rw [hs]; done) | (rw [hb]; simp; omega) | (rw [hs]; simp; omega) | (unfold scB; rw [hb]; rfl)

set_option maxHeartbeats 2000000 in
theorem is_any (w : Int) (hw : (Lit.int .i64 w).wf = true) (W : World) : Calls Try.prog 18 #[.int .i64 w] W fun e W' => e = .returned (.bool (isB w)) ∧ W = W' := by
  rcases all_cases w hw with rfl | rfl | rfl | rfl | rfl | rfl | rfl | rfl | rfl | rfl | rfl | rfl | rfl | rfl | rfl | ⟨ho, hb, hs, hx⟩ | ⟨ho, hb, hs, hx⟩
  all_goals try (rcases ho with ho | ho)
  all_goals try (have d7 : decide (w < 7) = false := decide_eq_false (by omega))
  all_goals try (have d6 : decide (w ≤ 6) = false := decide_eq_false (by omega))
  all_goals go_enter Try.func18, Try.ntmps18
  all_goals go_wp2
  all_goals go_ret
  all_goals refine ⟨?_, rfl⟩
  all_goals first | rfl | (rw [hb]; done) | (rw [hs]; done) | (rw [hb]; simp; omega) | (rw [hs]; simp; omega) | (unfold isB; rw [hb]; rfl)

set_option maxHeartbeats 2000000 in
theorem refIs_any (w : Int) (hw : (Lit.int .i64 w).wf = true) (W : World) : Calls Try.prog 6 #[.int .i64 w] W fun e W' => e = .returned (.bool (isB w)) ∧ W = W' := by
  rcases all_cases w hw with rfl | rfl | rfl | rfl | rfl | rfl | rfl | rfl | rfl | rfl | rfl | rfl | rfl | rfl | rfl | ⟨ho, hb, hs, hx⟩ | ⟨ho, hb, hs, hx⟩
  all_goals try (rcases ho with ho | ho)
  all_goals try (have d7 : decide (w < 7) = false := decide_eq_false (by omega))
  all_goals try (have d6 : decide (w ≤ 6) = false := decide_eq_false (by omega))
  all_goals go_enter Try.func6, Try.ntmps6
  all_goals go_wp2
  all_goals go_ret
  all_goals refine ⟨?_, rfl⟩
  all_goals first | rfl | (rw [hb]; done) | (rw [hs]; done) | (rw [hb]; simp; omega) | (rw [hs]; simp; omega) | (unfold isB; rw [hb]; rfl)

theorem cases12 (w : Int) : w = 0 ∨ w = 1 ∨ w = 2 ∨ w = 3 ∨ w = 4 ∨ w = 5 ∨ w = 6 ∨ w = 9 ∨ w = 11 ∨ w = 12 ∨ w = 13 ∨ isB w = false := by
  cases hb : isB w with
  | false => simp
  | true => have := isB_cases hb; omega
set_option maxHeartbeats 2000000 in
theorem alive_any (W : World) : Calls Try.prog 7 #[] W fun e W' => e = .returned (.bool true) ∧ W = W' := by
  go_enter Try.func7, Try.ntmps7
  go_wp2
  go_ret
  exact ⟨rfl, rfl⟩

set_option maxHeartbeats 8000000 in
theorem walk_suspLocks (a0 : Int) (a1 : Bool) (w : World) (w0 : (Lit.int .i64 a0).wf = true) :
    Calls Try.prog 3 #[.int .i64 a0, .bool a1] w fun e w' => e = .returned (.bool true) ∧ Below w.heap.size w w' := by
  rcases cases12 a0 with rfl | rfl | rfl | rfl | rfl | rfl | rfl | rfl | rfl | rfl | rfl | hb
  case inr.inr.inr.inr.inr.inr.inr.inr.inr.inr.inr =>
    have hs : scB a0 = false := by
      unfold isB at hb
      unfold scB
      simp at hb ⊢
      omega
    go_enter Try.func3, Try.ntmps3
    go_wp2_with (first
      | (go_at_call 5; go_in)
      | (go_at_call 18; refine (is_any a0 w0 _).mono ?_; rintro e w' ⟨rfl, rfl⟩)
      | (go_at_call 6; refine (refIs_any a0 w0 _).mono ?_; rintro e w' ⟨rfl, rfl⟩)
      | (go_at_call 19; refine (sc_any a0 w0 _).mono ?_; rintro e w' ⟨rfl, rfl⟩)
      | (go_at_call 7; refine (alive_any _).mono ?_; rintro e w' ⟨rfl, rfl⟩))
    go_ret
    exact ⟨rfl, Below.refl _ _⟩
  all_goals cases a1
  all_goals go_enter Try.func3, Try.ntmps3
  all_goals go_wp2_with (first
      | (go_at_call 7; refine (alive_any _).mono ?_; rintro e w' ⟨rfl, rfl⟩)
      | (go_at_call 5; go_in) | (go_at_call 6; go_in) | (go_at_call 8; go_in) | (go_at_call 9; go_in) | (go_at_call 10; go_in) | (go_at_call 18; go_in) | (go_at_call 19; go_in) | (go_at_call 20; go_in) | (go_at_call 21; go_in) | (go_at_call 23; go_in))
  all_goals go_ret
  all_goals exact ⟨rfl, Below.refl _ _⟩
end Go.Proofs.Ytffhoddpmmlhkaa
