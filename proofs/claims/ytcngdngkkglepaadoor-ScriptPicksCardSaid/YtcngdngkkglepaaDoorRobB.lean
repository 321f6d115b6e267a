/- The walk of the law ScriptRobins, by what must come at any rate. -/
import Derived.Test.YtcngdngkkglepaaDoorRobA
namespace Go.Proofs.YtcngdngkkglepaaDoor
open Go.ChangeShapes Go.WideShapes Go.ChangeAt Go.RowKit Go.Deep
set_option linter.unusedVariables false
set_option linter.unusedSimpArgs false

set_option maxHeartbeats 4000000 in
theorem robins_of (hal : ∀ V, Calls Tryd.prog 8 #[] V fun e V' => e = .returned (.bool true) ∧ Chg (fun _ => False) V V') (n delay : Int) (w : World) :
    Calls Tryd.prog 7 #[.int .i64 n, .int .i64 delay] w fun e w' => e = .returned (.bool true) ∧ Below w.heap.size w w' := by
  have HL := Lib.hid hal
  clear hal
  rcases (show (500 < n ∧ n ≤ 65536) ∨ n = 0 ∨ n < 0 ∨ (0 < n ∧ n ≤ 500) ∨ 65536 < n by omega) with ⟨h1, h2⟩ | rfl | h1 | ⟨h1, h2⟩ | h1
  · go_enter Tryd.func7, Tryd.ntmps7
    go_wp2_with (go_at_call 8; refine (HL.out _).mono ?_; rintro e w2 ⟨rfl, hc2⟩)
    go_ret
    exact ⟨rfl, hc2.below (Nat.le_refl _) (fun _ _ h => h.elim)⟩
  · skip
    have HR := Lib.hid (robin_at 0 delay 0 w (by omega) (by omega))
    go_enter Tryd.func7, Tryd.ntmps7
    go_wp2_with (go_at_call 22; refine HR.out.mono ?_; rintro e w1 ⟨A, c, rfl, hr1, hc1⟩; have HA := Lib.hid hr1.rd; have HC := Lib.hid hc1; clear hr1 hc1)
    go_loopw [6] (fun iv wr => (∃ k : Nat, k ≤ 0 ∧ iv = .int .i64 k) ∧ ∃ q, wr = w1.drewN q) (fun iv _ => 0 - (intOf iv).toNat)
    case atStart => exact ⟨⟨0, Nat.zero_le _, rfl⟩, 0, rfl⟩
    case round =>
      obtain ⟨⟨k, hk, rfl⟩, q, rfl⟩ := hrel
      have k0 : (0 : Int) ≤ k := by omega
      by_cases hlt : k < 0
      · exact absurd hlt (by omega)
      · obtain rfl : k = 0 := by omega
        clear HA
        go_wp2_with (go_at_call 8; refine (HL.out _).mono ?_; rintro e w2 ⟨rfl, hc2⟩; have HC2 := Lib.hid ((HC.out.drewN q).trans hc2 (fun _ _ h => h)); clear hc2)
        go_ret
        exact ⟨rfl, HC2.out.below (Nat.le_refl _) (fun _ _ h => h.elim)⟩
  · have h3 : ¬ 0 ≤ n := by omega
    have h4 : ¬ 500 < n := by omega
    have HR := Lib.hid (robin_at n delay 0 w (by omega) (by omega))
    go_enter Tryd.func7, Tryd.ntmps7
    go_wp2_with (go_at_call 22; refine HR.out.mono ?_; rintro e w1 ⟨A, c, rfl, hr1, hc1⟩; have HA := Lib.hid hr1.rd; have HC := Lib.hid hc1; clear hr1 hc1)
    go_loopw [6] (fun iv wr => (∃ k : Nat, k ≤ 0 ∧ iv = .int .i64 k) ∧ ∃ q, wr = w1.drewN q) (fun iv _ => 0 - (intOf iv).toNat)
    case atStart => exact ⟨⟨0, Nat.zero_le _, rfl⟩, 0, rfl⟩
    case round =>
      obtain ⟨⟨k, hk, rfl⟩, q, rfl⟩ := hrel
      have k0 : (0 : Int) ≤ k := by omega
      by_cases hlt : k < 0
      · exact absurd hlt (by omega)
      · obtain rfl : k = 0 := by omega
        clear HA
        go_wp2_with (go_at_call 8; refine (HL.out _).mono ?_; rintro e w2 ⟨rfl, hc2⟩; have HC2 := Lib.hid ((HC.out.drewN q).trans hc2 (fun _ _ h => h)); clear hc2)
        go_ret
        exact ⟨rfl, HC2.out.below (Nat.le_refl _) (fun _ _ h => h.elim)⟩
  · obtain ⟨m, rfl⟩ : ∃ m : Nat, n = m := ⟨n.toNat, by omega⟩
    have h4 : ¬ (500 : Int) < m := by omega
    have h5 : (0 : Int) ≤ m := by omega
    have h6 : (m : Int) ≤ 65536 := by omega
    have HR := Lib.hid (robin_at m delay m w (by omega) (by omega))
    go_enter Tryd.func7, Tryd.ntmps7
    go_wp2_with (go_at_call 22; refine HR.out.mono ?_; rintro e w1 ⟨A, c, rfl, hr1, hc1⟩; have HA := Lib.hid hr1.rd; have HC := Lib.hid hc1; clear hr1 hc1)
    go_loopw [6] (fun iv wr => (∃ k : Nat, k ≤ m ∧ iv = .int .i64 k) ∧ ∃ q, wr = w1.drewN q) (fun iv _ => m - (intOf iv).toNat)
    case atStart => exact ⟨⟨0, Nat.zero_le _, rfl⟩, 0, rfl⟩
    case round =>
      obtain ⟨⟨k, hk, rfl⟩, q, rfl⟩ := hrel
      have k0 : (0 : Int) ≤ k := by omega
      by_cases hlt : k < m
      · have k1 : (k : Int) < m := by omega
        obtain ⟨hl, b, o, rfl, hb, hcc⟩ := HA.out.getk (rob_uni delay _) (by decide) (by omega)
        have hke : k < (rob delay m).length := by omega
        have e0 := hcc k hke 0 (by decide)
        have e1 := hcc k hke 1 (by decide)
        have e2 := hcc k hke 2 (by decide)
        rw [rob_at] at e0 e1 e2
        simp only [Nat.add_zero] at e0
        rw [← Nat.add_assoc] at e1 e2
        simp at e0 e1 e2
        clear hcc HA
        go_wp2
        go_roundw
        case rel => exact ⟨⟨k + 1, by omega, by go_num⟩, _, rfl⟩
        case measure => simp [intOf]; omega
      · obtain rfl : k = m := by omega
        clear HA
        go_wp2_with (go_at_call 8; refine (HL.out _).mono ?_; rintro e w2 ⟨rfl, hc2⟩; have HC2 := Lib.hid ((HC.out.drewN q).trans hc2 (fun _ _ h => h)); clear hc2)
        go_ret
        exact ⟨rfl, HC2.out.below (Nat.le_refl _) (fun _ _ h => h.elim)⟩
  · have h3 : (0 : Int) ≤ n := by omega
    have h4 : 500 < n := by omega
    have h5 : ¬ n ≤ 65536 := by omega
    have HR := Lib.hid (robin_at n delay 65536 w (by omega) (by omega))
    go_enter Tryd.func7, Tryd.ntmps7
    go_wp2_with (go_at_call 22; refine HR.out.mono ?_; rintro e w1 ⟨A, c, rfl, hr1, hc1⟩; have HA := Lib.hid hr1.rd; have HC := Lib.hid hc1; clear hr1 hc1)
    go_loopw [6] (fun iv wr => (∃ k : Nat, k ≤ 65536 ∧ iv = .int .i64 k) ∧ ∃ q, wr = w1.drewN q) (fun iv _ => 65536 - (intOf iv).toNat)
    case atStart => exact ⟨⟨0, Nat.zero_le _, rfl⟩, 0, rfl⟩
    case round =>
      obtain ⟨⟨k, hk, rfl⟩, q, rfl⟩ := hrel
      have k0 : (0 : Int) ≤ k := by omega
      by_cases hlt : k < 65536
      · have k1 : (k : Int) < 65536 := by omega
        obtain ⟨hl, b, o, rfl, hb, hcc⟩ := HA.out.getk (rob_uni delay _) (by decide) (by omega)
        have hke : k < (rob delay 65536).length := by omega
        have e0 := hcc k hke 0 (by decide)
        have e1 := hcc k hke 1 (by decide)
        have e2 := hcc k hke 2 (by decide)
        rw [rob_at] at e0 e1 e2
        simp only [Nat.add_zero] at e0
        rw [← Nat.add_assoc] at e1 e2
        simp at e0 e1 e2
        clear hcc HA
        go_wp2
        go_roundw
        case rel => exact ⟨⟨k + 1, by omega, by go_num⟩, _, rfl⟩
        case measure => simp [intOf]; omega
      · obtain rfl : k = 65536 := by omega
        clear HA
        go_wp2_with (go_at_call 8; refine (HL.out _).mono ?_; rintro e w2 ⟨rfl, hc2⟩; have HC2 := Lib.hid ((HC.out.drewN q).trans hc2 (fun _ _ h => h)); clear hc2)
        go_ret
        exact ⟨rfl, HC2.out.below (Nat.le_refl _) (fun _ _ h => h.elim)⟩
end Go.Proofs.YtcngdngkkglepaaDoor
