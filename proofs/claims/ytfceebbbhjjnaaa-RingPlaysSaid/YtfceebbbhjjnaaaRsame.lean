/- Contracts over rows of ints: Same (rows that are the same), Has. -/
import Derived.Test.YtfceebbbhjjnaaaRowz
import Derived.Deep.QuietTactic
import Derived.BigQuiet
namespace Go.Proofs.Ytfceebbbhjjnaaa
open Go.ChangeShapes Go.WideShapes Go.ChangeAt Go.RowKit Go.Deep
set_option linter.unusedVariables false

set_option maxHeartbeats 1000000 in
theorem same_yes (A D : Option Addr) (n m c d : Nat) (xs : List Int) (W : World) (hA : Rd W 1 A n (ints xs)) (hD : Rd W 1 D m (ints xs)) (hm : n ≤ 1048576) :
    Calls Try.prog 10 #[.slice A n c, .slice D m d] W fun e W' => e = .returned (.bool true) ∧ ∃ k, W' = W.drewN k := by
  have hn1 := hA.len
  have hn2 := hD.len
  obtain rfl : n = m := by omega
  go_enter Try.func10, Try.ntmps10
  go_wp2
  go_loopw [5] (fun i wr => (∃ k : Nat, k ≤ n ∧ i = .int .i64 k) ∧ ∃ q, wr = W.drewN q) (fun i _ => n - (intOf i).toNat)
  case atStart => exact ⟨⟨0, Nat.zero_le _, rfl⟩, 0, rfl⟩
  case round =>
    obtain ⟨⟨k, hk, rfl⟩, q, rfl⟩ := hrel
    by_cases hlt : k < n
    · obtain ⟨b, o, rfl, hb, hc⟩ := hA.at_ (by omega)
      obtain ⟨b', o', rfl, hb', hc'⟩ := hD.at_ (by omega)
      have e0 := hc k (by omega)
      have e1 := hc' k (by omega)
      generalize xs[k]'(by omega) = z at e0 e1
      have hi0 : (0 : Int) ≤ (k : Int) := by omega
      have hi1 : (k : Int) < (n : Int) := by omega
      clear hA hD hc hc'
      go_wp2
      go_quiet (fail)
      go_wp2
      go_roundw
      case rel => exact ⟨⟨k + 1, by omega, by go_num⟩, _, rfl⟩
      case measure => simp [intOf]; omega
    · go_wp2
      go_ret
      exact ⟨rfl, q, rfl⟩

end Go.Proofs.Ytfceebbbhjjnaaa
