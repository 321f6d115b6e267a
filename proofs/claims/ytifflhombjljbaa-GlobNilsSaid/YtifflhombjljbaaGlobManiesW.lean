/- The walks of the laws GlobManies, GlobNils. -/
import Derived.Test.YtifflhombjljbaaGlobE
import Derived.Handy
namespace Go.Proofs.Ytifflhombjljbaa
open Go.ChangeShapes Go.WideShapes Go.ChangeAt Go.RowKit Go.Deep
set_option linter.unusedVariables false

theorem i64_le {a : Int} (h : (Lit.int .i64 a).wf = true) : a ≤ 9223372036854775807 := by
  have h' : (decide (IntKind.i64.min ≤ a) && decide (a ≤ IntKind.i64.max)) = true := h
  rw [Bool.and_eq_true] at h'
  have h2 := of_decide_eq_true h'.2
  have e : IntKind.i64.max = 9223372036854775807 := by decide
  omega
theorem manyOf_in {n p m : Int} (h : ¬ (n < 1 ∨ p < 1 ∨ m < 1)) : 1 ≤ manyOf n p m ∧ manyOf n p m ≤ n ∧ manyOf n p m ≤ m := by
  have h0 : 0 ≤ n / p := Int.ediv_nonneg (by omega) (by omega)
  rw [manyOf, if_neg h]
  generalize n / p = q at *
  split <;> omega
set_option maxHeartbeats 4000000 in
theorem walk_globManies (a0 a1 a2 : Int) (w : World) (w0 : (Lit.int .i64 a0).wf = true) (w1 : (Lit.int .i64 a1).wf = true) (w2 : (Lit.int .i64 a2).wf = true) :
    Calls Try.prog 4 #[.int .i64 a0, .int .i64 a1, .int .i64 a2] w fun e w' => e = .returned (.bool true) ∧ Below w.heap.size w w' := by
  have b0 := i64_le w0
  have b1 := i64_le w1
  have b2 := i64_le w2
  have hm := Lib.hid (fun (W : World) => many_any a0 a1 a2 W b0 b1 b2)
  have hr := Lib.hid (fun (W : World) => rmany_any a0 a1 a2 W b0 b1 b2)
  have hcase : a0 < 1 ∨ (¬ a0 < 1 ∧ a1 < 1) ∨ (¬ a0 < 1 ∧ ¬ a1 < 1 ∧ a2 < 1) ∨ (¬ a0 < 1 ∧ ¬ a1 < 1 ∧ ¬ a2 < 1) := by omega
  have hin : ¬ (a0 < 1 ∨ a1 < 1 ∨ a2 < 1) → 1 ≤ manyOf a0 a1 a2 ∧ manyOf a0 a1 a2 ≤ a0 ∧ manyOf a0 a1 a2 ≤ a2 := manyOf_in
  generalize manyOf a0 a1 a2 = v at *
  clear w0 w1 w2 b0 b1 b2
  rcases hcase with h1 | ⟨h1, h2⟩ | ⟨h1, h2, h3⟩ | ⟨h1, h2, h3⟩
  case inr.inr.inr =>
    obtain ⟨v1, v2, v3⟩ := hin (by omega)
    clear hin
    go_enter Try.func4, Try.ntmps4
    go_wp2_with (first | (go_at_call 14; refine (hm.out _).mono ?_; rintro e w9 ⟨rfl, rfl⟩) | (go_at_call 15; refine (hr.out _).mono ?_; rintro e w9 ⟨rfl, rfl⟩) | (go_at_call 8; refine (alive_any _).mono ?_; rintro e w' ⟨rfl, hb⟩))
    go_ret
    exact ⟨rfl, hb⟩
  all_goals
    clear hin
    go_enter Try.func4, Try.ntmps4
    go_wp2_with (first | (go_at_call 14; refine (hm.out _).mono ?_; rintro e w9 ⟨rfl, rfl⟩) | (go_at_call 15; refine (hr.out _).mono ?_; rintro e w9 ⟨rfl, rfl⟩) | (go_at_call 8; refine (alive_any _).mono ?_; rintro e w' ⟨rfl, hb⟩))
    go_ret
    exact ⟨rfl, hb⟩

set_option maxHeartbeats 4000000 in
theorem batch_nil (W : World) : Calls Try.prog 17 #[.pointer none, .int .i64 1, .int .i64 1] W fun e W' => e = .returned (.slice none 0 0) ∧ W = W' := by
  have hmf : ∀ (fn : Fn) (first cap : Array Value) (W : World), (Instr.makeFunc fn first cap).run Try.prog W = .ok (.func fn first cap) W := fun _ _ _ _ => rfl
  have HM := Lib.hid (fun W => (show Calls Try.prog 14 #[.int .i64 0, .int .i64 1, .int .i64 1] W fun e W' => e = .returned (.int .i64 0) ∧ W = W' from many_any 0 1 1 W (by omega) (by omega) (by omega)))
  go_enter Try.func17, Try.ntmps17
  go_wp2_with (first | (go_at_call 14; refine (HM.out _).mono ?_; rintro e w9 ⟨rfl, rfl⟩) | (go_at_call 11; go_in))
  go_rounds 1
  go_ret
  exact ⟨rfl, rfl⟩
set_option maxHeartbeats 4000000 in
theorem walk_globNils (a0 : Int) (w : World) (w0 : (Lit.int .i64 a0).wf = true) :
    Calls Try.prog 6 #[.int .i64 a0] w fun e w' => e = .returned (.bool true) ∧ Below w.heap.size w w' := by
  have hmf : ∀ (fn : Fn) (first cap : Array Value) (W : World), (Instr.makeFunc fn first cap).run Try.prog W = .ok (.func fn first cap) W := fun _ _ _ _ => rfl
  go_enter Try.func6, Try.ntmps6
  go_wp2_with (first | (go_at_call 8; refine (alive_any _).mono ?_; rintro e w' ⟨rfl, hb⟩) | (go_at_call 17; refine (batch_nil _).mono ?_; rintro e w9 ⟨rfl, rfl⟩) | (go_at_call 18; go_in) | (go_at_call 16; go_in) | (go_at_call 19; go_in) | (go_at_call 11; go_in) | (go_at_call 13; go_in) | (go_at_call 20; go_in))
  go_ret
  exact ⟨rfl, Below.trans (by (repeat' (first | (with_reducible exact Below.refl _ _) | (with_reducible refine Below.alloc ?_ ?_ _) | omega | (simp; done) | (simp; omega)))) (hb.mono (by simp; omega))⟩
end Go.Proofs.Ytifflhombjljbaa
