/- Greatest common divisors and coprimes: the program's and the document's; the walk of the law NumDivides. -/
import Derived.Test.YtobcaohginiegaaDD
import Derived.Handy
namespace Go.Proofs.Ytobcaohginiegaa
open Go.ChangeShapes Go.WideShapes Go.ChangeAt Go.RowKit Go.Deep Go.Shelf
set_option linter.unusedVariables false

def gcdOf (a b : Int) : Int := if a < 0 ∨ b < 0 then 0 else ((Nat.gcd a.toNat b.toNat : Nat) : Int)
theorem gcdOf_nat (x y : Nat) : gcdOf x y = (Nat.gcd x y : Int) := by rw [gcdOf, if_neg (by omega)]; simp
theorem gcdOf_bad {a b : Int} (h : a < 0 ∨ b < 0) : gcdOf a b = 0 := if_pos h

set_option maxHeartbeats 2000000 in
theorem gcd_any (a b : Int) (W : World) (ha : a ≤ 9223372036854775807) (hb : b ≤ 9223372036854775807) :
    Calls Try.prog 25 #[.int .i64 a, .int .i64 b] W fun e W' => e = .returned (.int .i64 (gcdOf a b)) ∧ Below W.heap.size W W' := by
  by_cases h : a < 0 ∨ b < 0
  · have hv := Lib.hid (gcdOf_bad h)
    have hc : a < 0 ∨ (¬ a < 0 ∧ b < 0) := by omega
    clear h
    rcases hc with h1 | ⟨h1, h2⟩
    all_goals
      go_enter Try.func25, Try.ntmps25
      go_wp2
      try go_step3
      go_wp2
      try rw [Exit.noGoto_ret]
      go_ret
      exact ⟨ret_int hv.out.symm, Below.refl _ _⟩
  · obtain ⟨x, hx⟩ : ∃ x : Nat, a = x := ⟨a.toNat, by omega⟩
    obtain ⟨y, hy⟩ : ∃ y : Nat, b = y := ⟨b.toNat, by omega⟩
    subst hx
    subst hy
    have hv := Lib.hid (gcdOf_nat x y)
    clear h
    have h1 : (0 : Int) ≤ (x : Int) := by omega
    have h2 : (0 : Int) ≤ (y : Int) := by omega
    go_enter Try.func25, Try.ntmps25
    go_wp2
    go_step3
    go_wp2
    go_step3
    go_wp2
    go_loopw [0, 1] (fun av bv wr => (∃ p q : Nat, av = .int .i64 p ∧ bv = .int .i64 q ∧ p ≤ 9223372036854775807 ∧ q ≤ 9223372036854775807 ∧ Hid (Nat.gcd p q = Nat.gcd x y)) ∧ ∃ k, wr = W.drewN k) (fun _ bv _ => (intOf bv).toNat)
    case atStart => exact ⟨⟨x, y, rfl, rfl, by omega, by omega, rfl⟩, 0, rfl⟩
    case round =>
      obtain ⟨⟨p, q, rfl, rfl, hp, hq, hg⟩, k, rfl⟩ := hrel
      by_cases hq0 : q = 0
      · subst hq0
        go_wp2
        try rw [Exit.noGoto_normal]
        go_wp2
        try rw [Exit.noGoto_ret]
        go_ret
        exact ⟨ret_int (by rw [hv.out, ← hg.out, Nat.gcd_zero_right]), belowN (Below.refl _ _) _⟩
      · have hqz : ((q : Int) == 0) = false := by simp; omega
        have hqz2 : decide ((q : Int) = 0) = false := by simp; omega
        have hq1 : (1 : Int) ≤ (q : Int) := by omega
        by_cases hlt : (p : Int) < (q : Int)
        · go_wp2
          go_roundw
          case rel => exact ⟨⟨q, p, rfl, rfl, hq, hp, (show Nat.gcd q p = Nat.gcd x y by rw [Nat.gcd_comm]; exact hg.out)⟩, _, rfl⟩
          case measure => simp [intOf]; omega
        · have hp1 : (0 : Int) ≤ (p : Int) := by omega
          go_wp2
          go_quiet (fail)
          go_wp2
          go_roundw
          case rel => exact ⟨⟨q, p % q, rfl, by simp, hq, by have := Nat.mod_lt p (show q > 0 by omega); omega, (show Nat.gcd q (p % q) = Nat.gcd x y by rw [Nat.gcd_comm, ← Nat.gcd_rec, Nat.gcd_comm]; exact hg.out)⟩, k + nq, by rw [World.drewN_drewN]⟩
          case measure => simp [intOf]; have := Nat.mod_lt p (show q > 0 by omega); omega

set_option maxHeartbeats 2000000 in
theorem rgcd_nat : ∀ (m x y : Nat) (W : World), y ≤ m → x ≤ 9223372036854775807 → y ≤ 9223372036854775807 → Calls Try.prog 22 #[.int .i64 (x : Int), .int .i64 (y : Int)] W fun e W' => e = .returned (.int .i64 ((Nat.gcd x y : Nat) : Int)) ∧ W = W' := by
  intro m
  induction m with
  | zero =>
    intro x y W hm hx hy
    obtain rfl : y = 0 := by omega
    have h1 : (0 : Int) ≤ (x : Int) := by omega
    have hg := Lib.hid (Nat.gcd_zero_right x)
    go_enter Try.func22, Try.ntmps22
    go_wp2
    go_ret
    exact ⟨ret_int (by rw [hg.out]), rfl⟩
  | succ m ih =>
    intro x y W hm hx hy
    have h1 : (0 : Int) ≤ (x : Int) := by omega
    by_cases hy0 : y = 0
    · subst hy0
      have hg := Lib.hid (Nat.gcd_zero_right x)
      go_enter Try.func22, Try.ntmps22
      go_wp2
      go_ret
      exact ⟨ret_int (by rw [hg.out]), rfl⟩
    · have hlt := Nat.mod_lt x (show y > 0 by omega)
      have hrec := Lib.hid (ih y (x % y) W (by omega) hy (by omega))
      have hg := Lib.hid (show Nat.gcd y (x % y) = Nat.gcd x y by rw [Nat.gcd_comm, ← Nat.gcd_rec, Nat.gcd_comm])
      have hyz : ((y : Int) == 0) = false := by simp; omega
      have hyz2 : decide ((y : Int) = 0) = false := by simp; omega
      have h2 : (1 : Int) ≤ (y : Int) := by omega
      have hmod : (x : Int) % (y : Int) = ((x % y : Nat) : Int) := by simp
      generalize x % y = z at hrec hg hmod
      clear ih hlt
      go_enter Try.func22, Try.ntmps22
      go_wp2_with (go_at_call 22; refine (hrec.out).mono ?_; rintro e w1 ⟨rfl, rfl⟩)
      go_ret
      exact ⟨ret_int (by rw [hg.out]), rfl⟩
end Go.Proofs.Ytobcaohginiegaa
