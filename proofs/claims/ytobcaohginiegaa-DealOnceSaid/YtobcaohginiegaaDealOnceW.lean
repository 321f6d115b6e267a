/- DealOnce, walked. -/
import Derived.Test.YtobcaohginiegaaDK
namespace Go.Proofs.Ytobcaohginiegaa
open Go.ChangeShapes Go.WideShapes Go.ChangeAt Go.RowKit Go.Deep Go.Shelf
set_option linter.unusedVariables false

def RoundP (w : World) (S N : Nat) (xs K : List Int) (A D : Option Addr) (i : Value) (wr : World) : Prop :=
  ∃ (k : Nat) (cs : Array Value), k ≤ N ∧ i = .int .i64 k ∧ Blk wr S 4 cs ∧ Seen N (xs.take k) cs ∧ Rd wr 1 A N (ints xs) ∧ Rd wr 1 D K.length (ints K) ∧ blk A ≠ some S ∧ blk D ≠ some S ∧ Below w.heap.size w wr ∧ w.heap.size ≤ S

set_option maxRecDepth 100000 in
set_option maxHeartbeats 16000000 in
theorem walk_dealOnce (a0 a1 a2 : Int) (w : World) (w0 : (Lit.int .i64 a0).wf = true) (w1 : (Lit.int .i64 a1).wf = true) (w2 : (Lit.int .i64 a2).wf = true) :
    Calls Try.prog 4 #[.int .i64 a0, .int .i64 a1, .int .i64 a2] w fun e w' => e = .returned (.bool true) ∧ Below w.heap.size w w' := by
  clear w0 w1 w2
  by_cases hn : a0 < 1 ∨ 256 < a0
  · have h1 := Lib.hid (fun W => ways_no a0 W hn)
    have h3 := Lib.hid (fun W => order_no a0 a2 W hn)
    have h5 := Lib.hid (fun W => others_no a0 a1 a2 W hn)
    have hn' : a0 < 1 ∨ (¬ a0 < 1 ∧ 256 < a0) := by omega
    clear hn
    rcases hn' with q1 | ⟨q1, q2⟩
    all_goals (
      go_enter Try.func4, Try.ntmps4
      go_wp2_with (first
        | (go_at_call 7; refine (h1.out _).mono ?_; rintro e w9 ⟨rfl, rfl⟩)
        | (go_at_call 10; refine (h3.out _).mono ?_; rintro e w3 ⟨rfl, hb3⟩; have hz3 := hb3.size)
        | (go_at_call 12; refine (h5.out _).mono ?_; rintro e w5 ⟨rfl, hb5⟩; have hz5 := hb5.size)
        | (go_at_call 6; refine (alive_any _).mono ?_; rintro e w7 ⟨rfl, hb7⟩))
      go_ret
      exact ⟨rfl, (hb3.trans (hb5.mono hz3)).trans (hb7.mono (Nat.le_trans hz3 hz5))⟩)
  · obtain ⟨N, rfl⟩ : ∃ N : Nat, a0 = N := ⟨a0.toNat, by omega⟩
    have n1 : 1 ≤ N := by omega
    have n2 : N ≤ 256 := by omega
    have h3 := Lib.hid (fun W => order_yes N a2 W n1 n2)
    have h5 := Lib.hid (fun W => others_yes N a1 a2 W n1 n2)
    have hmk := Lib.hid (make_bools N (by omega))
    have Hnew := Lib.hid (fun (k : Nat) (hk : k < (orderOf N a2).length) => nodup_take (order_nodup N a2 n1 n2) hk)
    have Hin := Lib.hid (fun (x : Int) (hx : x ∈ orderOf N a2) => orderOf_in N a2 n1 hx)
    have Hkeep := Lib.hid (fun (x : Int) (hx : x ∈ keep a1 (orderOf N a2)) => (List.mem_filter.1 hx))
    have Hkl := Lib.hid (keep_len N a1 a2 n1 n2)
    have hK : (keep a1 (orderOf N a2)).length ≤ 256 := by have := List.length_filter_le (fun x => decide (x ≠ a1)) (orderOf N a2); rw [orderOf_len] at this; rw [keep]; omega
    have hL := orderOf_len N a2
    generalize keep a1 (orderOf N a2) = K at *
    generalize orderOf N a2 = xs at *
    have n3 : (1 : Int) ≤ (N : Int) := by omega
    have n4 : (N : Int) ≤ 256 := by omega
    clear hn
    go_enter Try.func4, Try.ntmps4
    go_wp2_with (first
      | (go_at_call 10; refine (h3.out _).mono ?_; rintro e u3 ⟨A, c, rfl, hr3, hb3⟩; have hz3 := hb3.size)
      | (go_at_call 12; refine (h5.out _).mono ?_; rintro e u5 ⟨D, d, rfl, hr5, hb5⟩; have hz5 := hb5.size; have hm1 := hmk.out u5))
    have hb66 : Below w.heap.size w (u5.alloc (.cells (madeCells #[.bool false] N) 4)) := (hb3.trans (hb5.mono hz3)).alloc (Nat.le_trans hz3 hz5) _
    have hneA : blk A ≠ some u5.heap.size := fun e => by have := (hr3.blk_lt _ e).2; omega
    have hneD : blk D ≠ some u5.heap.size := fun e => by have := (hr5.blk_lt _ e).2; omega
    obtain ⟨S, hSe⟩ : ∃ S, S = u5.heap.size := ⟨_, rfl⟩
    have h0 : RoundP w u5.heap.size N xs K A D (.int .i64 0) (u5.alloc (.cells (madeCells #[.bool false] N) 4)) := ⟨0, _, Nat.zero_le _, rfl, Blk.new _ _ _, Seen.zero N, (hr3.below_ hb5).rd.alloc _, hr5.rd.alloc _, hneA, hneD, hb66, Nat.le_trans hz3 hz5⟩
    rw [← hSe] at h0 ⊢
    have H0 := Lib.hid h0
    clear h0 hb66 hneA hneD hSe hm1 hr3 hr5 hb3 hb5 hz3 hz5 h3 h5 hmk
    go_loopw [10] (fun i wr => RoundP w S N xs K A D i wr) (fun i _ => N - (intOf i).toNat)
    case atStart => exact H0.out
    case round =>
      clear H0
      obtain ⟨k, cs, hk, rfl, hB, hSn, hR, hRD, hneA, hneD, hb, hSw⟩ := hrel
      have hbs := hb.size
      by_cases hlt : k < N
      · obtain ⟨b, o, rfl, hbl, hcc⟩ := hR.at_ (by omega)
        have e1 := hcc k (by omega)
        obtain ⟨hw0, hw1⟩ := Hin.out _ (List.getElem_mem (l := xs) (by omega : k < xs.length))
        have hnew := Hnew.out k (by omega)
        have hsucc : xs.take (k + 1) = xs.take k ++ [xs[k]'(by omega)] := (List.take_append_getElem (by omega)).symm
        generalize xs[k]'(by omega) = x at *
        obtain ⟨v, rfl⟩ : ∃ v : Nat, x = v := ⟨x.toNat, by omega⟩
        have hvN : v < N := by omega
        have e2 := hB.cell v
        rw [hSn.2 v hvN, decide_eq_false hnew] at e2
        have f2 := hB.frozen v
        have kS := hB.lt
        have Hstep := Lib.hid (show Seen N (xs.take (k + 1)) (cs.setIfInBounds v (.bool true)) by rw [hsucc]; exact hSn.step hvN)
        have hne1 : b ≠ S := fun e => hneA (by rw [e]; rfl)
        have hne2 : S ≠ b := fun e => hne1 e.symm
        have hi1 : (0 : Int) ≤ (v : Int) := by omega
        have hi2 : ¬ (v : Int) < 0 := by omega
        have hi3 : ¬ (N : Int) ≤ (v : Int) := by omega
        clear hcc hnew hsucc hw0
        go_wp2
        go_roundw
        case rel => exact ⟨k + 1, _, by omega, by go_num, hB.set_ v (.bool true), Hstep.out, hR.setCell (p := ⟨S, v, none⟩) hneA _, hRD.setCell (p := ⟨S, v, none⟩) hneD _, hneA, hneD, hb.setCell hSw _, hSw⟩
        case measure => simp [intOf]; omega
      · obtain rfl : k = N := by omega
        clear hB hSn hneA hneD hSw
        go_wp2
        go_loop [11] (fun i => ∃ j : Nat, j ≤ K.length ∧ i = .int .i64 j) (fun i => K.length - (intOf i).toNat)
        case atStart => exact ⟨0, Nat.zero_le _, rfl⟩
        case round =>
          obtain ⟨j, hj, rfl⟩ := hrel
          by_cases hlt : j < K.length
          · obtain ⟨b, o, rfl, hbl, hcc⟩ := hRD.at_ (by omega)
            have e1 := hcc j hlt
            obtain ⟨hx1, hx2⟩ := Hkeep.out _ (List.getElem_mem hlt)
            generalize K[j] = x at *
            have hx3 : ¬ x = a1 := of_decide_eq_true hx2
            have hd : decide (x = a1) = false := decide_eq_false hx3
            have hxs := decide_eq_true hx1
            clear hcc hx2 hx1
            go_wp2_with (go_at_call 14; refine (has_any _ _ _ x xs _ hR (by omega)).mono ?_; rintro e w9 ⟨rfl, rfl⟩)
            go_round
            case rel => exact ⟨j + 1, by omega, by go_num⟩
            case measure => simp [intOf]; omega
          · have hkl := Hkl.out
            clear Hkl
            by_cases ha : 0 ≤ a1
            · by_cases hb1 : a1 < (k : Int)
              · rw [if_pos ⟨ha, hb1⟩] at hkl
                have q1 : ((K.length : Int) == (k : Int) - 1) = true := by rw [beq_iff_eq]; omega
                have q2 : decide ((K.length : Int) = (k : Int) - 1) = true := decide_eq_true (by omega)
                clear hkl
                go_wp2_with (go_at_call 6; refine (alive_any _).mono ?_; rintro e w7 ⟨rfl, hb7⟩)
                go_ret
                exact ⟨rfl, hb.trans (hb7.mono hbs)⟩
              · rw [if_neg (fun h => hb1 h.2)] at hkl
                have q1 : ((K.length : Int) == (k : Int)) = true := by rw [beq_iff_eq]; omega
                have q2 : decide ((K.length : Int) = (k : Int)) = true := decide_eq_true (by omega)
                clear hkl
                go_wp2_with (go_at_call 6; refine (alive_any _).mono ?_; rintro e w7 ⟨rfl, hb7⟩)
                go_ret
                exact ⟨rfl, hb.trans (hb7.mono hbs)⟩
            · rw [if_neg (fun h => ha h.1)] at hkl
              have q1 : ((K.length : Int) == (k : Int)) = true := by rw [beq_iff_eq]; omega
              have q2 : decide ((K.length : Int) = (k : Int)) = true := decide_eq_true (by omega)
              clear hkl
              go_wp2_with (go_at_call 6; refine (alive_any _).mono ?_; rintro e w7 ⟨rfl, hb7⟩)
              go_ret
              exact ⟨rfl, hb.trans (hb7.mono hbs)⟩
end Go.Proofs.Ytobcaohginiegaa
