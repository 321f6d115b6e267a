/- Contracts: slices.Clone of a row of ints. -/
import Derived.Test.YtfceebbbhjjnaaaRapp
namespace Go.Proofs.Ytfceebbbhjjnaaa
open Go.ChangeShapes Go.WideShapes Go.ChangeAt Go.RowKit Go.Deep
set_option linter.unusedVariables false

set_option maxHeartbeats 1000000 in
theorem clone_any (A : Option Addr) (n c : Nat) (xs : List Int) (W : World) (hA : Rd W 1 A n (ints xs)) (hm : n ≤ 100000) (hnil : A = none → n = 0 ∧ c = 0) :
    Calls Try.prog 33 #[.slice A n c] W fun e W' => ∃ A' c', e = .returned (.slice A' n c') ∧ Row W' W.heap.size 3 1 A' n c' (ints xs) ∧ Below W.heap.size W W' := by
  have hn1 := hA.len
  rcases A with _ | ad
  · obtain ⟨rfl, rfl⟩ := hnil rfl
    obtain rfl : xs = [] := List.eq_nil_of_length_eq_zero (by omega)
    have heq : ∀ W, (binOp .eql 28 (.slice none 0 0) (.slice none 0 0)).run Try.prog W = .ok (.bool true) W := fun _ => by kernel_rfl
    go_enter Try.func33, Try.ntmps33
    go_wp2
    go_ret
    exact ⟨none, 0, rfl, Row.nil _ _ _ _, Below.refl _ _⟩
  · have heq := fun (W : World) => Lib.run_eql_slice_nil (P := Try.prog) W 28 3 (some ad) n c 0 0 Try.underlying28
    go_enter Try.func33, Try.ntmps33
    have hrow0 : Row (W.alloc (.cells #[] 3)) W.heap.size 3 1 (some ⟨W.heap.size, 0, none⟩) 0 0 (ints []) := ⟨rfl, Nat.le_refl _, Nat.zero_le _, .inr ⟨W.heap.size, #[], rfl, Nat.le_refl _, heap_alloc_new W _, by simp, rfl⟩⟩
    go_wp2_with (at_builtin; refine wpList_app rfl (.tmp 5) (.tmp 6) rfl W.heap.size _ 0 0 [] rfl hrow0 (some ad) n c xs rfl (hA.alloc _) ?c1 ?c2 ?_; (case c1 => omega); (case c2 => simp); intro A2 c2 w2 h1 h2 h3)
    go_ret
    refine ⟨A2, c2, rfl, by simpa using h1, ((Below.refl _ _).alloc (Nat.le_refl _) _).grown h2 (by simp) (fun g hg => by simp at hg; omega)⟩
end Go.Proofs.Ytfceebbbhjjnaaa
