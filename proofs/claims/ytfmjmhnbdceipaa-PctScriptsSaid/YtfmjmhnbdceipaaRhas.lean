/- Contracts over rows of ints: Has. -/
import Derived.Test.YtfmjmhnbdceipaaRowz
import Derived.Deep.QuietTactic
import Derived.BigQuiet
namespace Go.Proofs.Ytfmjmhnbdceipaa
open Go.ChangeShapes Go.WideShapes Go.ChangeAt Go.RowKit Go.Deep
set_option linter.unusedVariables false

set_option maxHeartbeats 1000000 in
theorem has_any (A : Option Addr) (n c : Nat) (g : Int) (xs : List Int) (W : World) (hA : Rd W 1 A n (ints xs)) (hm : n ≤ 1048576) :
    Calls Try.prog 22 #[.slice A n c, .int .i64 g] W fun e W' => e = .returned (.bool (decide (g ∈ xs))) ∧ W = W' := by
  have hn1 := hA.len
  go_enter Try.func22, Try.ntmps22
  go_wp2
  go_loop [5] (fun i => ∃ k : Nat, k ≤ n ∧ i = .int .i64 k ∧ Hid (∀ j (h : j < xs.length), j < k → xs[j] ≠ g)) (fun i => n - (intOf i).toNat)
  case atStart => exact ⟨0, Nat.zero_le _, rfl, fun _ _ h => absurd h (by omega)⟩
  case round =>
    obtain ⟨k, hk, rfl, hno⟩ := hrel
    by_cases hlt : k < n
    · obtain ⟨b, o, rfl, hb, hc⟩ := hA.at_ (by omega)
      have e0 := hc k (by omega)
      have hz : Hid (∀ z, z = xs[k]'(by omega) → z = xs[k]'(by omega)) := fun _ h => h
      obtain ⟨z, hz⟩ : ∃ z, z = xs[k]'(by omega) := ⟨_, rfl⟩
      rw [← hz] at e0
      have Hz := Lib.hid hz
      clear hz hA hc
      by_cases he : z = g
      · subst he
        go_wp2
        go_ret
        have hin : z ∈ xs := by rw [Hz.out]; exact List.getElem_mem _
        simp [hin]
      · have hd : decide (z = g) = false := by simpa using he
        go_wp2
        go_round
        case rel => exact ⟨k + 1, by omega, by go_num, fun j h hj => by
          rcases Nat.lt_or_ge j k with h1 | h1
          · exact hno.out j h h1
          · obtain rfl : j = k := by omega
            rw [← Hz.out]; exact he⟩
        case measure => simp [intOf]; omega
    · go_wp2
      go_ret
      have hin : ¬ g ∈ xs := by
        intro h
        obtain ⟨j, hj, rfl⟩ := List.getElem_of_mem h
        exact hno.out j hj (by omega) rfl
      simp [hin]
end Go.Proofs.Ytfmjmhnbdceipaa
