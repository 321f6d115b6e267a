/- DealOrders, walked. -/
import Derived.Test.YtobcaohginiegaaDJ
namespace Go.Proofs.Ytobcaohginiegaa
open Go.ChangeShapes Go.WideShapes Go.ChangeAt Go.RowKit Go.Deep Go.Shelf
set_option linter.unusedVariables false
attribute [local go_sem] Oper.semAt_some

set_option maxHeartbeats 8000000 in
theorem walk_dealOrders (a0 a1 a2 : Int) (w : World) (w0 : (Lit.int .i64 a0).wf = true) (w1 : (Lit.int .i64 a1).wf = true) (w2 : (Lit.int .i64 a2).wf = true) :
    Calls Try.prog 3 #[.int .i64 a0, .int .i64 a1, .int .i64 a2] w fun e w' => e = .returned (.bool true) ∧ Below w.heap.size w w' := by
  clear w0 w1 w2
  by_cases hs : 100 < a0 ∧ a0 ≤ 256
  · obtain ⟨s1, s2⟩ := hs
    go_enter Try.func3, Try.ntmps3
    go_wp2_with (go_at_call 6; refine (alive_any _).mono ?_; rintro e w' ⟨rfl, hb2⟩)
    go_ret
    exact ⟨rfl, hb2⟩
  · by_cases hn : a0 < 1 ∨ 256 < a0
    · have h1 := Lib.hid (fun W => ways_no a0 W hn)
      have h2 := Lib.hid (fun W => rways_no a0 W hn)
      have h3 := Lib.hid (fun W => order_no a0 a2 W hn)
      have h4 := Lib.hid (fun W => rorder_no a0 a2 W hn)
      have h5 := Lib.hid (fun W => others_no a0 a1 a2 W hn)
      have h6 := Lib.hid (fun W => rothers_no a0 a1 a2 W hn)
      clear hn
      go_enter Try.func3, Try.ntmps3
      go_wp2_with (first
        | (go_at_call 7; refine (h1.out _).mono ?_; rintro e w9 ⟨rfl, rfl⟩)
        | (go_at_call 8; refine (h2.out _).mono ?_; rintro e w9 ⟨rfl, rfl⟩)
        | (go_at_call 10; refine (h3.out _).mono ?_; rintro e w3 ⟨rfl, hb3⟩; have hz3 := hb3.size)
        | (go_at_call 11; refine (h4.out _).mono ?_; rintro e w9 ⟨rfl, rfl⟩)
        | (go_at_call 12; refine (h5.out _).mono ?_; rintro e w5 ⟨rfl, hb5⟩; have hz5 := hb5.size)
        | (go_at_call 13; refine (h6.out _).mono ?_; rintro e w9 ⟨rfl, rfl⟩)
        | (go_at_call 9; refine (same_yes _ _ _ _ _ _ [] _ (Rd.nil _ _ _) (Rd.nil _ _ _) (by decide)).mono ?_; rintro e w9 ⟨rfl, q, rfl⟩)
        | (go_at_call 6; refine (alive_any _).mono ?_; rintro e w7 ⟨rfl, hb7⟩))
      all_goals (
        go_ret
        exact ⟨rfl, (belowN ((belowN hb3 _).trans (hb5.mono hz3)) _).trans (hb7.mono (Nat.le_trans hz3 hz5))⟩)
    · obtain ⟨N, rfl⟩ : ∃ N : Nat, a0 = N := ⟨a0.toNat, by omega⟩
      have n1 : 1 ≤ N := by omega
      have n2 : N ≤ 256 := by omega
      have h1 := Lib.hid (fun W => ways_yes N W n1 n2)
      have h2 := Lib.hid (fun W => rways_yes N W n1 n2)
      have h3 := Lib.hid (fun W => order_yes N a2 W n1 n2)
      have h4 := Lib.hid (fun W => rorder_yes N a2 W n1 n2)
      have h5 := Lib.hid (fun W => others_yes N a1 a2 W n1 n2)
      have h6 := Lib.hid (fun W => rothers_yes N a1 a2 W n1 n2)
      have hk : (keep a1 (orderOf N a2)).length ≤ 1048576 := by have := List.length_filter_le (fun x => decide (x ≠ a1)) (orderOf N a2); rw [orderOf_len] at this; rw [keep]; omega
      have n3 : (N : Int) ≤ 100 := by omega
      generalize keep a1 (orderOf N a2) = K at *
      generalize orderOf N a2 = L at *
      generalize waysOf N = v at *
      clear hn hs
      go_enter Try.func3, Try.ntmps3
      go_wp2_with (first
        | (go_at_call 7; refine (h1.out _).mono ?_; rintro e u1 ⟨rfl, hb1⟩; have hz1 := hb1.size)
        | (go_at_call 8; refine (h2.out _).mono ?_; rintro e u2 ⟨rfl, hb2⟩; have hz2 := hb2.size)
        | (go_at_call 10; refine (h3.out _).mono ?_; rintro e u3 ⟨A3, c3, rfl, hr3, hb3⟩; have hz3 := hb3.size)
        | (go_at_call 11; refine (h4.out _).mono ?_; rintro e u4 ⟨A4, c4, rfl, hr4, hb4⟩; have hz4 := hb4.size)
        | (go_at_call 12; refine (h5.out _).mono ?_; rintro e u5 ⟨A5, c5, rfl, hr5, hb5⟩; have hz5 := hb5.size)
        | (go_at_call 13; refine (h6.out _).mono ?_; rintro e u6 ⟨A6, c6, rfl, hr6, hb6⟩; have hz6 := hb6.size)
        | (go_at_call 6; refine (alive_any _).mono ?_; rintro e u7 ⟨rfl, hb7⟩)
        | (go_at_call 9; refine (same_yes _ _ _ _ _ _ K _ (hr5.below_ hb6).rd hr6.rd hk).mono ?_; rintro e w9 ⟨rfl, q2, rfl⟩)
        | (go_at_call 9; refine (same_yes _ _ _ _ _ _ L _ (hr3.below_ hb4).rd hr4.rd (by omega)).mono ?_; rintro e w9 ⟨rfl, q1, rfl⟩))
      have s2 := Nat.le_trans hz1 hz2
      have s3 := Nat.le_trans s2 hz3
      have s4 := Nat.le_trans s3 hz4
      have s5 := Nat.le_trans s4 hz5
      have s6 := Nat.le_trans s5 hz6
      have t4 := belowN (((hb1.trans (hb2.mono hz1)).trans (hb3.mono s2)).trans (hb4.mono s3)) q1
      have t6 := belowN ((t4.trans (hb5.mono s4)).trans (hb6.mono s5)) q2
      go_ret
      exact ⟨rfl, t6.trans (hb7.mono s6)⟩
end Go.Proofs.Ytobcaohginiegaa
