/- Coprimes: the program's and the document's; the walk of the law NumDivides. -/
import Derived.Test.YtobcaohginiegaaDE
namespace Go.Proofs.Ytobcaohginiegaa
open Go.ChangeShapes Go.WideShapes Go.ChangeAt Go.RowKit Go.Deep Go.Shelf
set_option linter.unusedVariables false

theorem Row.below_ {w w' : World} {base size n c : Nat} {E : TypeId} {A : Option Addr} {xs : List Value} (h : Row w base E size A n c xs) (hb : Below w.heap.size w w') : Row w' base E size A n c xs := h.heap fun g hg _ => hb.block g hg
def copr (N : Nat) : Nat → List Int
  | 0 => []
  | k + 1 => copr N k ++ (if Nat.gcd (k + 1) N = 1 then [((k : Int) + 1)] else [])
theorem copr_yes {N k : Nat} (h : Nat.gcd (k + 1) N = 1) : copr N (k + 1) = copr N k ++ [(k : Int) + 1] := by rw [copr, if_pos h]
theorem copr_no {N k : Nat} (h : ¬ Nat.gcd (k + 1) N = 1) : copr N (k + 1) = copr N k := by rw [copr, if_neg h, List.append_nil]
theorem copr_len (N : Nat) : ∀ k, (copr N k).length ≤ k
  | 0 => by simp [copr]
  | k + 1 => by
    have := copr_len N k
    by_cases h : Nat.gcd (k + 1) N = 1
    · rw [copr_yes h]; simp; omega
    · rw [copr_no h]; omega

def RoundC (W : World) (N k : Nat) (ov : Value) (wr : World) : Prop := ∃ (A : Option Addr) (c : Nat), ov = .slice A (copr N k).length c ∧ Row wr W.heap.size 3 1 A (copr N k).length c (ints (copr N k)) ∧ Below W.heap.size W wr
theorem RoundC.yes {W w1 w2 : World} {N k c c2 : Nat} {A A2 : Option Addr} {ob : Obj} (h : Nat.gcd (k + 1) N = 1) (hrow : Row w1 W.heap.size 3 1 A (copr N k).length c (ints (copr N k))) (hb : Below W.heap.size W w1) (r1 : Row w2 W.heap.size 3 1 A2 ((copr N k).length + 1) c2 (ints (copr N k ++ [(k : Int) + 1]))) (r2 : (w1.alloc ob).grownBy w2 (blk A)) :
    RoundC W N (k + 1) (.slice A2 ((copr N k).length + 1) c2) w2 := by
  have e : (copr N (k + 1)).length = (copr N k).length + 1 := by rw [copr_yes h]; simp
  exact ⟨A2, c2, by rw [e], by rw [e, copr_yes h]; exact r1, (hb.alloc hb.size ob).grown r2 (by have := hb.size; simp; omega) (fun g hg => (hrow.blk_lt g hg).1)⟩

set_option maxHeartbeats 4000000 in
theorem coprimes_yes (N : Nat) (W : World) (h1 : 1 ≤ N) (h2 : N ≤ 1024) :
    Calls Try.prog 21 #[.int .i64 (N : Int)] W fun e W' => RoundC W N N (match e with | .returned v => v | _ => undef) W' ∧ ∃ v, e = .returned v := by
  have hn1 : (1 : Int) ≤ (N : Int) := by omega
  have hn2 : (N : Int) ≤ 1024 := by omega
  go_enter Try.func21, Try.ntmps21
  go_wp2
  go_loopw [3, 12] (fun ov i wr => ∃ k : Nat, k ≤ N ∧ i = .int .i64 k ∧ RoundC W N k ov wr) (fun _ i _ => N - (intOf i).toNat)
  case atStart => exact ⟨0, Nat.zero_le _, rfl, none, 0, rfl, Row.nil _ _ _ _, Below.refl _ _⟩
  case round =>
    obtain ⟨k, hk, rfl, A, c, rfl, hrow, hb⟩ := hrel
    have hbs := hb.size
    have hcl := copr_len N k
    by_cases hlt : k < N
    · have hg0 : gcdOf ((k : Int) + 1) (N : Int) = ((Nat.gcd (k + 1) N : Nat) : Int) := by
        have := gcdOf_nat (k + 1) N
        simpa using this
      have hg := Lib.hid (fun W => hg0 ▸ gcd_any ((k : Int) + 1) (N : Int) W (by omega) (by omega))
      clear hg0
      by_cases h : Nat.gcd (k + 1) N = 1
      · have hyes := Lib.hid (fun (w1 : World) (hrow1 : Row w1 W.heap.size 3 1 A (copr N k).length c (ints (copr N k))) (hb1 : Below W.heap.size W w1) (A2 : Option Addr) (c2 : Nat) (w2 : World) (ob : Obj) r1 r2 => RoundC.yes (A2 := A2) (c2 := c2) (w2 := w2) (ob := ob) h hrow1 hb1 r1 r2)
        rw [h] at hg
        clear h
        generalize copr N k = L at hrow hyes hcl
        go_wp2_with (first | (go_at_call 25; refine (hg.out _).mono ?_; rintro e w1 ⟨rfl, hbg⟩; have hrow1 := hrow.below_ hbg; have hb1 := hb.trans (hbg.mono hbs); have hbs1 := hb1.size) | (at_builtin; refine wpList_app rfl (.tmp 20) (.tmp 23) rfl W.heap.size A _ _ L rfl (hrow1.alloc _) _ 1 1 [(k : Int) + 1] rfl (Rd.lit _ _ _) ?c1 ?c2 ?_; (case c1 => omega); (case c2 => (simp; omega)); intro A2 c2 w2 r1 r2 r3))
        go_roundw
        case rel => exact ⟨k + 1, by omega, by go_num, hyes.out _ hrow1 hb1 _ _ _ _ r1 r2⟩
        case measure => simp [intOf]; omega
      · have hno := Lib.hid (copr_no h)
        have hne : decide (((Nat.gcd (k + 1) N : Nat) : Int) = 1) = false := by simp; omega
        have hne2 : (((Nat.gcd (k + 1) N : Nat) : Int) == 1) = false := by simp; omega
        generalize ((Nat.gcd (k + 1) N : Nat) : Int) = d at hg hne hne2
        clear h
        go_wp2_with (go_at_call 25; refine (hg.out _).mono ?_; rintro e w1 ⟨rfl, hbg⟩; have hrow1 := hrow.below_ hbg; have hb1 := hb.trans (hbg.mono hbs))
        go_roundw
        case rel => exact ⟨k + 1, by omega, by go_num, A, c, by rw [hno.out], by rw [hno.out]; exact hrow1, hb1⟩
        case measure => simp [intOf]; omega
    · obtain rfl : k = N := by omega
      go_wp2
      go_ret
      exact ⟨⟨A, c, rfl, hrow, hb⟩, _, rfl⟩

set_option maxHeartbeats 4000000 in
theorem coprimes_no (n : Int) (W : World) (h : n < 1 ∨ 1024 < n) : Calls Try.prog 21 #[.int .i64 n] W fun e W' => e = .returned (.slice none 0 0) ∧ W = W' := by
  have hc : n < 1 ∨ (¬ n < 1 ∧ 1024 < n) := by omega
  clear h
  rcases hc with h1 | ⟨h1, h2⟩
  all_goals
    go_enter Try.func21, Try.ntmps21
    go_wp2
    go_ret
    exact ⟨rfl, rfl⟩
set_option maxHeartbeats 4000000 in
theorem rcoprimes_no (n : Int) (W : World) (h : n < 1 ∨ 1024 < n) : Calls Try.prog 16 #[.int .i64 n] W fun e W' => e = .returned (.slice none 0 0) ∧ W = W' := by
  have hc : n < 1 ∨ (¬ n < 1 ∧ 1024 < n) := by omega
  clear h
  rcases hc with h1 | ⟨h1, h2⟩
  all_goals
    go_enter Try.func16, Try.ntmps16
    go_wp2
    go_rounds 1
    go_ret
    exact ⟨rfl, rfl⟩
set_option maxHeartbeats 4000000 in
theorem rcoprimes_yes (N : Nat) (W : World) (h1 : 1 ≤ N) (h2 : N ≤ 1024) :
    Calls Try.prog 16 #[.int .i64 (N : Int)] W fun e W' => RoundC W N N (match e with | .returned v => v | _ => undef) W' ∧ ∃ v, e = .returned v := by
  have hn1 : (1 : Int) ≤ (N : Int) := by omega
  have hn2 : (N : Int) ≤ 1024 := by omega
  go_enter Try.func16, Try.ntmps16
  go_wp2
  go_loopw [3, 4] (fun ov i wr => ∃ k : Nat, k ≤ N ∧ i = .int .i64 ((k : Int) + 1) ∧ RoundC W N k ov wr) (fun _ i _ => N + 1 - (intOf i).toNat)
  case atStart => exact ⟨0, Nat.zero_le _, rfl, none, 0, rfl, Row.nil _ _ _ _, Below.refl _ _⟩
  case round =>
    obtain ⟨k, hk, rfl, A, c, rfl, hrow, hb⟩ := hrel
    have hbs := hb.size
    have hcl := copr_len N k
    by_cases hlt : k < N
    · have hlt1 : (k : Int) + 1 ≤ (N : Int) := by omega
      have hg := Lib.hid (fun W => (by simpa using rgcd_nat N (k + 1) N W (Nat.le_refl _) (by omega) (by omega) : Calls Try.prog 22 #[.int .i64 ((k : Int) + 1), .int .i64 (N : Int)] W fun e W' => e = .returned (.int .i64 ((Nat.gcd (k + 1) N : Nat) : Int)) ∧ W = W'))
      by_cases h : Nat.gcd (k + 1) N = 1
      · have hyes := Lib.hid (fun (w1 : World) (hrow1 : Row w1 W.heap.size 3 1 A (copr N k).length c (ints (copr N k))) (hb1 : Below W.heap.size W w1) (A2 : Option Addr) (c2 : Nat) (w2 : World) (ob : Obj) r1 r2 => RoundC.yes (A2 := A2) (c2 := c2) (w2 := w2) (ob := ob) h hrow1 hb1 r1 r2)
        rw [h] at hg
        clear h
        generalize copr N k = L at hrow hyes hcl
        go_wp2_with (first | (go_at_call 22; refine (hg.out _).mono ?_; rintro e w1 ⟨rfl, rfl⟩) | (at_builtin; refine wpList_app rfl (.tmp 18) (.tmp 20) rfl W.heap.size A _ _ L rfl (hrow.alloc _) _ 1 1 [(k : Int) + 1] rfl (Rd.lit _ _ _) ?c1 ?c2 ?_; (case c1 => omega); (case c2 => (simp; omega)); intro A2 c2 w2 r1 r2 r3))
        go_roundw
        case rel => exact ⟨k + 1, by omega, by go_num, hyes.out _ hrow hb _ _ _ _ r1 r2⟩
        case measure => simp [intOf]; omega
      · have hno := Lib.hid (copr_no h)
        have hne : decide (((Nat.gcd (k + 1) N : Nat) : Int) = 1) = false := by simp; omega
        have hne2 : (((Nat.gcd (k + 1) N : Nat) : Int) == 1) = false := by simp; omega
        generalize ((Nat.gcd (k + 1) N : Nat) : Int) = d at hg hne hne2
        clear h
        go_wp2_with (go_at_call 22; refine (hg.out _).mono ?_; rintro e w1 ⟨rfl, rfl⟩)
        go_roundw
        case rel => exact ⟨k + 1, by omega, by go_num, A, c, by rw [hno.out], by rw [hno.out]; exact hrow, hb⟩
        case measure => simp [intOf]; omega
    · obtain rfl : k = N := by omega
      have hgt : ¬ (k : Int) + 1 ≤ (k : Int) := by omega
      go_wp2
      go_ret
      exact ⟨⟨A, c, rfl, hrow, hb⟩, _, rfl⟩
end Go.Proofs.Ytobcaohginiegaa
