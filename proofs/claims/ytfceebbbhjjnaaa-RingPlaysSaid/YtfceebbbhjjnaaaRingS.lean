/- Fill, by the program and by the document. -/
import Derived.Test.YtfceebbbhjjnaaaRingR
import Derived.Test.YtfceebbbhjjnaaaRclone
import Derived.WalkMore
import Derived.Deep.LoopGhost
namespace Go.Proofs.Ytfceebbbhjjnaaa
open Go.ChangeShapes Go.WideShapes Go.ChangeAt Go.RowKit Go.Deep
set_option linter.unusedVariables false

abbrev fnV : Value := .func (.func 31) #[] #[]
set_option maxHeartbeats 1000000 in
theorem idx_none (A : Option Addr) (c : Nat) (xs : List Int) (W : World) (hA : Rd W 1 A xs.length (ints xs)) (hm : xs.length ≤ 1000) (h : ∀ (k : Nat) (hk : k < xs.length), ¬ xs[k] < 1) :
    Calls Try.prog 35 #[.slice A xs.length c, fnV] W fun e W' => e = .returned (.int .i64 (-1)) ∧ W = W' := by
  have H := Lib.hid h
  clear h
  go_enter Try.func35, Try.ntmps35
  go_wp2
  go_loop [8] (fun i => ∃ k : Nat, k ≤ xs.length ∧ i = .int .i64 k) (fun i => xs.length - (intOf i).toNat)
  case atStart => exact ⟨0, Nat.zero_le _, rfl⟩
  case round =>
    obtain ⟨k, hk, rfl⟩ := hrel
    have k0 : (0 : Int) ≤ k := by omega
    by_cases hlt : k < xs.length
    · have k1 : (k : Int) < xs.length := by omega
      obtain ⟨b, o, rfl, hb, hc⟩ := hA.at_ (by omega)
      have e0 := hc k hlt
      have hz := H.out k hlt
      generalize xs[k] = z at *
      clear hc hA
      go_wp2_with (go_at_call 31; go_in)
      go_round
      case rel => exact ⟨k + 1, by omega, by go_num⟩
      case measure => simp [intOf]; omega
    · obtain rfl : k = xs.length := by omega
      clear hA
      go_wp2
      go_ret
      exact ⟨rfl, rfl⟩
set_option maxHeartbeats 1000000 in
theorem idx_some (A : Option Addr) (c : Nat) (xs : List Int) (W : World) (hA : Rd W 1 A xs.length (ints xs)) (hm : xs.length ≤ 1000) (h : ∃ (k : Nat) (hk : k < xs.length), xs[k] < 1) :
    Calls Try.prog 35 #[.slice A xs.length c, fnV] W fun e W' => (∃ k : Nat, e = .returned (.int .i64 (k : Int)) ∧ k < 1000) ∧ W = W' := by
  have H := Lib.hid h
  clear h
  go_enter Try.func35, Try.ntmps35
  go_wp2
  go_loop [8] (fun i => ∃ k : Nat, k ≤ xs.length ∧ i = .int .i64 k ∧ Hid (∀ (j : Nat) (hj : j < xs.length), j < k → ¬ xs[j] < 1)) (fun i => xs.length - (intOf i).toNat)
  case atStart => exact ⟨0, Nat.zero_le _, rfl, Lib.hid (fun j _ hj => absurd hj (by omega))⟩
  case round =>
    obtain ⟨k, hk, rfl, hall⟩ := hrel
    have k0 : (0 : Int) ≤ k := by omega
    by_cases hlt : k < xs.length
    · have k1 : (k : Int) < xs.length := by omega
      obtain ⟨b, o, rfl, hb, hc⟩ := hA.at_ (by omega)
      have e0 := hc k hlt
      have HN := Lib.hid (fun (hz : ¬ xs[k] < 1) (j : Nat) (hj : j < xs.length) (h2 : j < k + 1) => show ¬ xs[j] < 1 from by
        rcases Nat.lt_or_ge j k with h1 | h1
        · exact hall.out j hj h1
        · obtain rfl : j = k := by omega
          exact hz)
      generalize xs[k] = z at *
      clear hc hA
      by_cases hz : z < 1
      · go_wp2_with (go_at_call 31; go_in)
        go_ret
        exact ⟨⟨k, rfl, by omega⟩, rfl⟩
      · go_wp2_with (go_at_call 31; go_in)
        go_round
        case rel => exact ⟨k + 1, by omega, by go_num, Lib.hid (HN.out hz)⟩
        case measure => simp [intOf]; omega
    · obtain ⟨j, hj, h1⟩ := H.out
      exact absurd h1 (hall.out j hj (by omega))
def small (xs : List Int) : Bool := xs.any (fun z => decide (z < 1))
theorem small_no {xs : List Int} (h : small xs = false) : ∀ (k : Nat) (hk : k < xs.length), ¬ xs[k] < 1 := by
  intro k hk hz
  have := List.any_eq_false.1 h _ (List.getElem_mem hk)
  simp at this; omega
theorem small_yes {xs : List Int} (h : small xs = true) : ∃ (k : Nat) (hk : k < xs.length), xs[k] < 1 := by
  obtain ⟨z, hz, h1⟩ := List.any_eq_true.1 h
  obtain ⟨k, hk, rfl⟩ := List.mem_iff_getElem.1 hz
  exact ⟨k, hk, by simpa using h1⟩
set_option maxHeartbeats 1000000 in
theorem contains_any (A : Option Addr) (c : Nat) (xs : List Int) (W : World) (hA : Rd W 1 A xs.length (ints xs)) (hm : xs.length ≤ 1000) :
    Calls Try.prog 32 #[.slice A xs.length c, fnV] W fun e W' => e = .returned (.bool (small xs)) ∧ W = W' := by
  cases hs : small xs with
  | true =>
    have HI := Lib.hid (idx_some A c xs W hA hm (small_yes hs))
    clear hs hA
    go_enter Try.func32, Try.ntmps32
    go_wp2_with (go_at_call 35; refine HI.out.mono ?_; rintro e w1 ⟨⟨k, rfl, hk⟩, rfl⟩; have k0 : (0 : Int) ≤ (k : Int) := Int.natCast_nonneg k)
    go_ret
    exact ⟨ret_bool (by simp), rfl⟩
  | false =>
    have HI := Lib.hid (idx_none A c xs W hA hm (small_no hs))
    clear hs hA
    go_enter Try.func32, Try.ntmps32
    go_wp2_with (go_at_call 35; refine HI.out.mono ?_; rintro e w1 ⟨rfl, rfl⟩)
    go_ret
    exact ⟨rfl, rfl⟩
end Go.Proofs.Ytfceebbbhjjnaaa
