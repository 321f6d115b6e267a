/- Dice: the program's and the document's. -/
import Derived.Test.YtfmjmhnbdceipaaRapp
import Derived.WalkMore
namespace Go.Proofs.Ytfmjmhnbdceipaa
open Go.ChangeShapes Go.WideShapes Go.ChangeAt Go.RowKit Go.Deep
set_option linter.unusedVariables false

def nx (x : Int) : Int := IntKind.u64.wrap (IntKind.u64.wrap (x * 6364136223846793005) + 1442695040888963407)
def told (x : Int) : Int := x / 8589934592
theorem rnext_any (x : Int) (W : World) : Calls Try.prog 34 #[.int .u64 x] W fun e W' => e = .returned (.tuple #[.int .u64 (nx x), .int .u64 (told (nx x))]) ∧ W' = W := by
  go_enter Try.func34, Try.ntmps34
  go_wp2
  go_ret2
  exact ⟨rfl, rfl⟩
theorem next_at (x : Int) (K : Nat) (W : World) (h : Blk W K 60 #[.int .u64 x]) : Calls Try.prog 33 #[.pointer (some ⟨K, 0, none⟩)] W fun e W' => e = .returned (.int .u64 (told (nx x))) ∧ W' = W.setCell ⟨K, 0, none⟩ (.int .u64 (nx x)) := by
  have c0 := h.cell 0
  have f0 := h.frozen 0
  simp at c0
  go_enter Try.func33, Try.ntmps33
  go_wp2
  go_ret
  exact ⟨rfl, rfl⟩
theorem u64_range (n : Int) : 0 ≤ IntKind.u64.wrap n ∧ IntKind.u64.wrap n ≤ 18446744073709551615 := by
  have e : IntKind.u64.wrap n = n % 18446744073709551616 := by
    show (if (false && decide (n % (2 ^ 64 : Int) ≥ (2 ^ 63 : Int))) = true then n % (2 ^ 64 : Int) - (2 ^ 64 : Int) else n % (2 ^ 64 : Int)) = _
    simp
  rw [e]
  omega
theorem nx_in (x : Int) : 0 ≤ nx x ∧ nx x ≤ 18446744073709551615 := u64_range _
theorem told_in (x : Int) : 0 ≤ told (nx x) ∧ told (nx x) ≤ 2147483647 := by
  have h := nx_in x
  unfold told
  omega
/-- What is told below n. -/
def bel (x n : Int) : Int := told (nx x) % n
theorem bel_in (x n : Int) (h : 1 ≤ n) : 0 ≤ bel x n ∧ bel x n < n := ⟨Int.emod_nonneg _ (by omega), Int.emod_lt_of_pos _ (by omega)⟩
theorem rbelow_no (x n : Int) (W : World) (h : n < 1) : Calls Try.prog 29 #[.int .u64 x, .int .i64 n] W fun e W' => e = .returned (.tuple #[.int .u64 x, .int .i64 0]) ∧ W' = W := by
  go_enter Try.func29, Try.ntmps29
  go_wp2
  go_ret2
  exact ⟨rfl, rfl⟩
theorem rbelow_yes (x n : Int) (W : World) (h : 1 ≤ n) (hn : n ≤ 9223372036854775807) : Calls Try.prog 29 #[.int .u64 x, .int .i64 n] W fun e W' => e = .returned (.tuple #[.int .u64 (nx x), .int .i64 (bel x n)]) ∧ ∃ q, W' = W.drewN q := by
  have hb := bel_in x n h
  have ht := told_in x
  unfold bel at hb ⊢
  have hr := rnext_any x W
  generalize told (nx x) = t at *
  generalize nx x = y at *
  have h0 : ¬ n < 1 := by omega
  have n0 : 0 ≤ n := by omega
  have m0 := IntWalk.u64_in n (by omega)
  have e1 : t.tmod n = t % n := by rw [Int.tmod_eq_emod_of_nonneg ht.1]
  have e2 : IntKind.u64.wrap (t % n) = t % n := IntWalk.u64_in _ (by omega)
  have e3 : IntKind.i64.wrap (t % n) = t % n := IntWalk.i64_in _ (by omega)
  obtain ⟨t0, t1⟩ := ht
  obtain ⟨b0, b1⟩ := hb
  have HR := Lib.hid hr
  clear hr
  go_enter Try.func29, Try.ntmps29
  go_wp2_with (go_at_call 34; refine HR.out.mono ?_; rintro e w1 ⟨rfl, rfl⟩)
  go_quiet (fail)
  go_wp2
  go_ret2
  exact ⟨rfl, _, rfl⟩
theorem below_no (x n : Int) (K : Nat) (W : World) (h : n < 1) : Calls Try.prog 27 #[.pointer (some ⟨K, 0, none⟩), .int .i64 n] W fun e W' => e = .returned (.int .i64 0) ∧ W' = W := by
  go_enter Try.func27, Try.ntmps27
  go_wp2
  go_ret
  exact ⟨rfl, rfl⟩
theorem below_yes (x n : Int) (K : Nat) (W : World) (hB : Blk W K 60 #[.int .u64 x]) (h : 1 ≤ n) (hn : n ≤ 9223372036854775807) : Calls Try.prog 27 #[.pointer (some ⟨K, 0, none⟩), .int .i64 n] W fun e W' => e = .returned (.int .i64 (bel x n)) ∧ W' = W.setCell ⟨K, 0, none⟩ (.int .u64 (nx x)) := by
  have hb := bel_in x n h
  have ht := told_in x
  unfold bel at hb ⊢
  have hr := next_at x K W hB
  generalize told (nx x) = t at *
  generalize nx x = y at *
  have h0 : ¬ n < 1 := by omega
  have n0 : 0 ≤ n := by omega
  have m0 := IntWalk.u64_in n (by omega)
  have e1 : t.tmod n = t % n := by rw [Int.tmod_eq_emod_of_nonneg ht.1]
  have e2 : IntKind.u64.wrap (t % n) = t % n := IntWalk.u64_in _ (by omega)
  have e3 : IntKind.i64.wrap (t % n) = t % n := IntWalk.i64_in _ (by omega)
  obtain ⟨t0, t1⟩ := ht
  obtain ⟨b0, b1⟩ := hb
  have HR := Lib.hid hr
  clear hr
  go_enter Try.func27, Try.ntmps27
  go_wp2_with (go_at_call 33; refine HR.out.mono ?_; rintro e w1 ⟨rfl, rfl⟩)
  go_ret
  exact ⟨rfl, rfl⟩
theorem dnew_any (x : Int) (W : World) : Calls Try.prog 26 #[.int .u64 x] W fun e W' => e = .returned (.pointer (some ⟨W.heap.size, 0, none⟩)) ∧ W' = W.alloc (.cells #[.int .u64 x] 60) := by
  go_enter Try.func26, Try.ntmps26
  go_wp2
  go_ret
  exact ⟨rfl, rfl⟩
end Go.Proofs.Ytfmjmhnbdceipaa
