/- The document's Order, and what must come at any rate. -/
import Derived.Test.YtobcaohginiegaaDI
import Derived.Deep.RegionHeld3
namespace Go.Proofs.Ytobcaohginiegaa
open Go.ChangeShapes Go.WideShapes Go.ChangeAt Go.RowKit Go.Deep Go.Shelf
set_option linter.unusedVariables false
attribute [local go_sem] Oper.semAt_some

set_option maxHeartbeats 4000000 in
theorem rorder_yes (N : Nat) (draw : Int) (w : World) (h1 : 1 ≤ N) (h2 : N ≤ 256) :
    Calls Try.prog 11 #[.int .i64 (N : Int), .int .i64 draw] w fun e w' => ∃ A c, e = .returned (.slice A N c) ∧ Row w' w.heap.size 3 1 A N c (ints (orderOf N draw)) ∧ Below w.heap.size w w' := by
  obtain ⟨d1, d2, d3, d4, d5, d6⟩ := draw_in N draw h1 h2
  obtain ⟨s, hs, hs1, hs2, _, hget⟩ := step_is N draw h1 h2
  have hcp := Lib.hid (fun W => rcoprimes_is N W h1 (by omega))
  have hwy := Lib.hid (fun W => rways_yes N W h1 h2)
  have hmd := Lib.hid (fun W => (show Calls Try.prog 17 #[.int .i64 draw, .int .i64 (waysOf N)] W fun e W' => e = .returned (.int .i64 (drawOf N draw)) ∧ W = W' from rmod_any draw (waysOf N) W (by have := (ways_in N h1 h2).2; omega)))
  have hor : orderOf N draw = wlist N (drawOf N draw % N) s N := by rw [orderOf, hs]
  rw [hor]
  generalize hD : drawOf N draw = D at *
  clear hD hs hor
  have hp : 0 < (copr N N).length := by omega
  generalize copr N N = L at *
  have hN1 : (1 : Int) ≤ (N : Int) := by omega
  have hN2 : (N : Int) ≤ 256 := by omega
  have hN3 : (N : Int) ≤ 1024 := by omega
  have hs1' : (1 : Int) ≤ (s : Int) := by omega
  have hs2' : (s : Int) ≤ 1024 := by omega
  have hwk := Lib.hid (fun W => rwalk_yes (N : Int) (D % (N : Int)) (s : Int) W hN1 hN3 hs1' hs2')
  simp only [Int.toNat_natCast] at hwk
  obtain ⟨t, ht⟩ : ∃ t : Nat, D / N = t := ⟨(D / N).toNat, by omega⟩
  rw [ht] at hget d3 d4
  simp only [Int.toNat_natCast] at hget
  have q1 : Int.tdiv D (N : Int) = (t : Int) := by rw [Int.tdiv_eq_ediv_of_nonneg d1]; exact ht
  have q2 : Int.tmod D (N : Int) = D % (N : Int) := Int.tmod_eq_emod_of_nonneg d1
  have q0 : (t : Int) ≤ 65536 := by have := Int.ediv_le_self (N : Int) d1; omega
  have q3 : IntKind.i64.wrap (t : Int) = (t : Int) := IntWalk.i64_in _ (by omega)
  have q4 : IntKind.i64.wrap (D % (N : Int)) = D % (N : Int) := IntWalk.i64_in _ (by omega)
  have hN4 : ¬ (N : Int) < 1 := by omega
  have hN5 : ¬ 256 < (N : Int) := by omega
  go_enter Try.func11, Try.ntmps11
  go_wp2_with (first
    | (go_at_call 8; refine (hwy.out _).mono ?_; rintro e w1 ⟨rfl, hb1⟩)
    | (go_at_call 17; refine (hmd.out _).mono ?_; rintro e w3 ⟨rfl, rfl⟩))
  have hz1 := hb1.size
  go_region_with (first
    | (go_at_call 16; refine (hcp.out _).mono ?_; rintro e w2 ⟨A4, c4, rfl, hr2, hb2⟩; obtain ⟨b4, o4, rfl, hbl4, hc4⟩ := hr2.rd.2 hp; have e4 := hc4 t _ hget; clear hc4; have hz2 := hb2.size)
    | (go_at_call 18; refine (hwk.out _).mono ?_; rintro e w4 ⟨A5, c5, rfl, hr5, hb5⟩; have hz5 := hb5.size))
  all_goals (
    go_wp2
    go_ret
    refine ⟨A5, c5, rfl, hr5.lower (by simp at hz2; omega), (hb1.drew.trans (hb2.mono (by simpa using hz1))).trans (hb5.mono (by simp at hz2; omega))⟩)

/-- What the document's Others has gathered. -/
def RoundO (w1 : World) (xs : List Int) (self : Int) (ov i : Value) (wr : World) : Prop := ∃ (k : Nat) (A : Option Addr) (c : Nat), k ≤ xs.length ∧ i = .int .i64 k ∧ ov = .slice A (keep self (xs.take k)).length c ∧ Row wr w1.heap.size 3 1 A (keep self (xs.take k)).length c (ints (keep self (xs.take k))) ∧ Below w1.heap.size w1 wr
set_option maxHeartbeats 4000000 in
theorem rothers_yes (N : Nat) (self draw : Int) (w : World) (h1 : 1 ≤ N) (h2 : N ≤ 256) :
    Calls Try.prog 13 #[.int .i64 (N : Int), .int .i64 self, .int .i64 draw] w fun e w' => ∃ A c, e = .returned (.slice A (keep self (orderOf N draw)).length c) ∧ Row w' w.heap.size 3 1 A (keep self (orderOf N draw)).length c (ints (keep self (orderOf N draw))) ∧ Below w.heap.size w w' := by
  have ho := Lib.hid (fun W => rorder_yes N draw W h1 h2)
  have hl := orderOf_len N draw
  generalize orderOf N draw = xs at *
  go_enter Try.func13, Try.ntmps13
  go_wp2_with (go_at_call 11; refine (ho.out _).mono ?_; rintro e w1 ⟨A1, c1, rfl, hr1, hb1⟩)
  clear ho
  have hrd := hr1.rd
  have hz1 := hb1.size
  go_loopw [8, 9] (fun ov i wr => RoundO w1 xs self ov i wr) (fun _ i _ => N - (intOf i).toNat)
  case atStart => exact ⟨0, none, 0, Nat.zero_le _, rfl, rfl, Row.nil _ _ _ _, Below.refl _ _⟩
  case round =>
    obtain ⟨k, A, c, hk, rfl, rfl, hrow, hb⟩ := hrel
    have hbs := hb.size
    by_cases hlt : k < N
    · obtain ⟨b, o, rfl, hbl, hc⟩ := hrd.at_ (by omega)
      have e0 := hc k (by omega)
      have e1 := (hb.cell (p := ⟨b, o + k, none⟩) hbl).trans e0
      have htk : xs.take (k + 1) = xs.take k ++ [xs[k]'(by omega)] := (List.take_append_getElem (by omega)).symm
      have hkl : (keep self (xs.take k)).length ≤ 256 := by have := List.length_filter_le (fun x => decide (x ≠ self)) (xs.take k); rw [List.length_take] at this; rw [keep]; omega
      generalize xs[k]'(by omega) = x at *
      by_cases hx : x = self
      · have hks : keep self (xs.take (k + 1)) = keep self (xs.take k) := by rw [htk, keep_snoc, if_pos hx, List.append_nil]
        have hstep := Lib.hid (show RoundO w1 xs self (.slice A (keep self (xs.take k)).length c) (.int .i64 ((k : Int) + 1)) wr from ⟨k + 1, A, c, by omega, by go_num, by rw [hks], by rw [hks]; exact hrow, hb⟩)
        clear htk hks hc e0
        subst hx
        go_wp2
        go_roundw
        case rel => exact hstep.out
        case measure => simp [intOf]; omega
      · have hks : keep self (xs.take (k + 1)) = keep self (xs.take k) ++ [x] := by rw [htk, keep_snoc, if_neg hx]
        have hstep := Lib.hid (fun (A2 : Option Addr) (c2 : Nat) (w2 : World) (r : Row w2 w1.heap.size 3 1 A2 ((keep self (xs.take k)).length + 1) c2 (ints (keep self (xs.take k) ++ [x]))) (hb2 : Below w1.heap.size w1 w2) => (show RoundO w1 xs self (.slice A2 ((keep self (xs.take k)).length + 1) c2) (.int .i64 ((k : Int) + 1)) w2 from ⟨k + 1, A2, c2, by omega, by go_num, by rw [hks]; simp, by rw [hks]; simpa using r, hb2⟩))
        clear htk hks hc e0
        generalize keep self (xs.take k) = kp at *
        have hd : decide (x = self) = false := decide_eq_false hx
        go_wp2_with (at_builtin; refine wpList_app rfl (.tmp 25) (.tmp 30) rfl w1.heap.size A _ _ kp rfl (hrow.alloc _) _ 1 1 [x] rfl (Rd.lit _ _ _) ?c1 ?c2 ?_; (case c1 => omega); (case c2 => (simp; omega)); intro A2 c2 w2 r1 r2 r3)
        go_roundw
        case rel => exact hstep.out _ _ _ r1 ((hb.alloc hbs _).grown r2 (by simp; omega) (fun g hg => (hrow.blk_lt g hg).1))
        case measure => simp [intOf]; omega
    · have ht : xs.take k = xs := List.take_of_length_le (by omega)
      rw [ht] at hrow ⊢
      go_wp2
      go_ret
      exact ⟨A, c, rfl, hrow.lower hz1, hb1.trans (hb.mono hz1)⟩
set_option maxHeartbeats 1000000 in
theorem rothers_no (n self draw : Int) (w : World) (h : n < 1 ∨ 256 < n) :
    Calls Try.prog 13 #[.int .i64 n, .int .i64 self, .int .i64 draw] w fun e w' => e = .returned (.slice none 0 0) ∧ w = w' := by
  have ho := Lib.hid (fun W => rorder_no n draw W h)
  clear h
  go_enter Try.func13, Try.ntmps13
  go_wp2_with (go_at_call 11; refine (ho.out _).mono ?_; rintro e w1 ⟨rfl, rfl⟩)
  go_loopw [8, 9] (fun ov i wr => ov = .slice none 0 0 ∧ i = .int .i64 0 ∧ wr = w) (fun _ i _ => 0)
  case atStart => exact ⟨rfl, rfl, rfl⟩
  case round =>
    obtain ⟨rfl, rfl, rfl⟩ := hrel
    go_wp2
    go_ret
    exact ⟨rfl, rfl⟩

theorem order_ex : orderOf 4 5 = [1, 0, 3, 2] := by decide
theorem ways_ex : waysOf 4 = 8 := by decide
set_option maxHeartbeats 4000000 in
theorem alive_any (w : World) : Calls Try.prog 6 #[] w fun e w' => e = .returned (.bool true) ∧ Below w.heap.size w w' := by
  have ho := fun W => order_yes 4 5 W (by omega) (by omega)
  have hw := fun W => ways_yes 4 W (by omega) (by omega)
  simp only [order_ex, ways_ex] at ho hw
  have ho' := Lib.hid ho
  have hw' := Lib.hid hw
  clear ho hw
  go_enter Try.func6, Try.ntmps6
  go_wp2_with (go_at_call 10; refine (ho'.out _).mono ?_; rintro e w1 ⟨A, c, rfl, hrow, hb⟩)
  refine (same_yes _ _ _ _ _ _ [1, 0, 3, 2] _ (hrow.rd.alloc _) ?_ (by decide)).mono ?_
  · exact Rd.lits _ _ _ _ rfl _ _ (by simp) rfl
  rintro e w2 ⟨rfl, q, rfl⟩
  go_wp2_with (go_at_call 7; refine (hw'.out _).mono ?_; rintro e w9 ⟨rfl, hb9⟩)
  go_ret
  exact ⟨rfl, (belowN (hb.alloc hb.size _) _).trans (hb9.mono (by simp; have := hb.size; omega))⟩
end Go.Proofs.Ytobcaohginiegaa
