/- The walk of the law NumDivides. -/
import Derived.Test.YtedenmbdefnhiaaNumF
namespace Go.Proofs.Ytedenmbdefnhiaa
open Go.ChangeShapes Go.WideShapes Go.ChangeAt Go.RowKit Go.Deep Go.Shelf
set_option linter.unusedVariables false

set_option maxHeartbeats 2000000 in
theorem rgcd_any (a b : Int) (W : World) (ha : a ≤ 9223372036854775807) (hb : b ≤ 9223372036854775807) :
    Calls Try.prog 14 #[.int .i64 a, .int .i64 b] W fun e W' => e = .returned (.int .i64 (gcdOf a b)) ∧ W = W' := by
  by_cases h : a < 0 ∨ b < 0
  · have hv := Lib.hid (gcdOf_bad h)
    have hc : a < 0 ∨ (¬ a < 0 ∧ b < 0) := by omega
    clear h
    rcases hc with h1 | ⟨h1, h2⟩
    all_goals
      go_enter Try.func14, Try.ntmps14
      go_wp2
      go_ret
      exact ⟨ret_int hv.out.symm, rfl⟩
  · obtain ⟨x, rfl⟩ : ∃ x : Nat, a = x := ⟨a.toNat, by omega⟩
    obtain ⟨y, rfl⟩ : ∃ y : Nat, b = y := ⟨b.toNat, by omega⟩
    rw [gcdOf_nat]
    exact rgcd_nat y x y W (Nat.le_refl _) (by omega) (by omega)

set_option maxHeartbeats 4000000 in
theorem walk_numDivides (a0 a1 a2 : Int) (w : World) (w0 : (Lit.int .i64 a0).wf = true) (w1 : (Lit.int .i64 a1).wf = true) (w2 : (Lit.int .i64 a2).wf = true) :
    Calls Try.prog 4 #[.int .i64 a0, .int .i64 a1, .int .i64 a2] w fun e w' => e = .returned (.bool true) ∧ Below w.heap.size w w' := by
  have h1 := Lib.hid (fun W => gcd_any a0 a1 W (i64_le w0) (i64_le w1))
  have h2 := Lib.hid (fun W => rgcd_any a0 a1 W (i64_le w0) (i64_le w1))
  generalize gcdOf a0 a1 = g at h1 h2
  clear w0 w1 w2
  have hc : (300 < a2 ∧ a2 ≤ 1024) ∨ a2 < 1 ∨ (300 < a2 ∧ 1024 < a2) ∨ (1 ≤ a2 ∧ a2 ≤ 300) := by omega
  rcases hc with ⟨c1, c2⟩ | c1 | ⟨c1, c2⟩ | ⟨c1, c2⟩
  · go_enter Try.func4, Try.ntmps4
    go_wp2_with (go_at_call 7; refine (alive_any _).mono ?_; rintro e w' ⟨rfl, hb⟩)
    go_ret
    exact ⟨rfl, hb⟩
  · have h3 := Lib.hid (fun W => coprimes_no a2 W (by omega))
    have h4 := Lib.hid (fun W => rcoprimes_no a2 W (by omega))
    go_enter Try.func4, Try.ntmps4
    go_wp2_with (first | (go_at_call 13; refine (h1.out _).mono ?_; rintro e w3 ⟨rfl, hb3⟩) | (go_at_call 14; refine (h2.out _).mono ?_; rintro e w4 ⟨rfl, rfl⟩) | (go_at_call 16; refine (h3.out _).mono ?_; rintro e w4 ⟨rfl, rfl⟩) | (go_at_call 17; refine (h4.out _).mono ?_; rintro e w4 ⟨rfl, rfl⟩) | (go_at_call 15; refine (same_yes _ _ _ _ _ _ [] _ (Rd.nil _ _ _) (Rd.nil _ _ _) (by decide)).mono ?_; rintro e w5 ⟨rfl, q, rfl⟩) | (go_at_call 7; refine (alive_any _).mono ?_; rintro e w' ⟨rfl, hb⟩))
    go_ret
    exact ⟨rfl, (belowN hb3 q).trans (hb.mono hb3.size)⟩
  · have h3 := Lib.hid (fun W => coprimes_no a2 W (by omega))
    have h4 := Lib.hid (fun W => rcoprimes_no a2 W (by omega))
    go_enter Try.func4, Try.ntmps4
    go_wp2_with (first | (go_at_call 13; refine (h1.out _).mono ?_; rintro e w3 ⟨rfl, hb3⟩) | (go_at_call 14; refine (h2.out _).mono ?_; rintro e w4 ⟨rfl, rfl⟩) | (go_at_call 16; refine (h3.out _).mono ?_; rintro e w4 ⟨rfl, rfl⟩) | (go_at_call 17; refine (h4.out _).mono ?_; rintro e w4 ⟨rfl, rfl⟩) | (go_at_call 15; refine (same_yes _ _ _ _ _ _ [] _ (Rd.nil _ _ _) (Rd.nil _ _ _) (by decide)).mono ?_; rintro e w5 ⟨rfl, q, rfl⟩) | (go_at_call 7; refine (alive_any _).mono ?_; rintro e w' ⟨rfl, hb⟩))
    go_ret
    exact ⟨rfl, (belowN hb3 q).trans (hb.mono hb3.size)⟩
  · obtain ⟨N, rfl⟩ : ∃ N : Nat, a2 = N := ⟨a2.toNat, by omega⟩
    have h3 := Lib.hid (fun W => coprimes_yes N W (by omega) (by omega))
    have h4 := Lib.hid (fun W => rcoprimes_yes N W (by omega) (by omega))
    have hl := copr_len N N
    have hN : (copr N N).length ≤ 1048576 := by omega
    clear hl
    go_enter Try.func4, Try.ntmps4
    go_wp2_with (first | (go_at_call 13; refine (h1.out _).mono ?_; rintro e w3 ⟨rfl, hb3⟩) | (go_at_call 14; refine (h2.out _).mono ?_; rintro e w4 ⟨rfl, rfl⟩) | (go_at_call 16; refine (h3.out _).mono ?_; rintro e w4 ⟨⟨A, c, hv, hr4, hb4⟩, v, rfl⟩; (simp only at hv); subst hv) | (go_at_call 17; refine (h4.out _).mono ?_; rintro e w5 ⟨⟨A2, c2, hv, hr5, hb5⟩, v, rfl⟩; (simp only at hv); subst hv) | (go_at_call 15; refine (same_yes _ _ _ _ _ _ (copr N N) _ (hr4.rd.below hb5 (Nat.le_refl _)) hr5.rd hN).mono ?_; rintro e w5 ⟨rfl, q, rfl⟩) | (go_at_call 7; refine (alive_any _).mono ?_; rintro e w' ⟨rfl, hb⟩))
    go_ret
    have hb6 := (hb3.trans (hb4.mono hb3.size)).trans (hb5.mono (hb3.trans (hb4.mono hb3.size)).size)
    exact ⟨rfl, (belowN hb6 q).trans (hb.mono hb6.size)⟩
end Go.Proofs.Ytedenmbdefnhiaa
