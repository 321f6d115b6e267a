/- The document's walk; the walk of the law NumWalks. -/
import Derived.Test.YtobcaohginiegaaDC
namespace Go.Proofs.Ytobcaohginiegaa
open Go.ChangeShapes Go.WideShapes Go.ChangeAt Go.RowKit Go.Deep Go.Shelf
set_option linter.unusedVariables false

set_option maxHeartbeats 2000000 in
theorem rwalk_no (nn start step : Int) (W : World) (h : nn < 1 ∨ 1024 < nn ∨ step < 1 ∨ 1024 < step) :
    Calls Try.prog 18 #[.int .i64 nn, .int .i64 start, .int .i64 step] W fun e W' => e = .returned (.slice none 0 0) ∧ W = W' := by
  have hc : nn < 1 ∨ (¬ nn < 1 ∧ 1024 < nn) ∨ (¬ nn < 1 ∧ ¬ 1024 < nn ∧ step < 1) ∨ (¬ nn < 1 ∧ ¬ 1024 < nn ∧ ¬ step < 1 ∧ 1024 < step) := by omega
  clear h
  rcases hc with h1 | ⟨h1, h2⟩ | ⟨h1, h2, h3⟩ | ⟨h1, h2, h3, h4⟩
  all_goals
    go_enter Try.func18, Try.ntmps18
    go_wp2
    go_ret
    exact ⟨rfl, rfl⟩

def RoundW (W : World) (N : Nat) (start step : Int) (ov av i : Value) (wr : World) : Prop := ∃ (k : Nat) (A : Option Addr) (c : Nat), k ≤ N ∧ i = .int .i64 k ∧ av = .int .i64 (wat N start step k) ∧ ov = .slice A k c ∧ Row wr W.heap.size 3 1 A k c (ints (wlist N start step k)) ∧ Below W.heap.size W wr
set_option maxHeartbeats 4000000 in
theorem rwalk_yes (nn start step : Int) (W : World) (h1 : 1 ≤ nn) (h2 : nn ≤ 1024) (h3 : 1 ≤ step) (h4 : step ≤ 1024) :
    Calls Try.prog 18 #[.int .i64 nn, .int .i64 start, .int .i64 step] W fun e W' => ∃ A c, e = .returned (.slice A nn.toNat c) ∧ Row W' W.heap.size 3 1 A nn.toNat c (ints (wlist nn start step nn.toNat)) ∧ Below W.heap.size W W' := by
  obtain ⟨N, hN⟩ : ∃ N : Nat, nn = N := ⟨nn.toNat, by omega⟩
  subst hN
  simp only [Int.toNat_natCast]
  have hm := Lib.hid (fun W => rmod_any start (N : Int) W (by omega))
  go_enter Try.func18, Try.ntmps18
  go_wp2_with (go_at_call 17; refine (hm.out _).mono ?_; rintro e w9 ⟨rfl, rfl⟩)
  go_loopw [7, 8, 9] (fun ov av i wr => RoundW W N start step ov av i wr) (fun _ _ i _ => N - (intOf i).toNat)
  case atStart => exact ⟨0, none, 0, Nat.zero_le _, rfl, rfl, rfl, Row.nil _ _ _ _, Below.refl _ _⟩
  case round =>
    obtain ⟨k, A, c, hk, rfl, rfl, rfl, hrow, hb⟩ := hrel
    have hbs := hb.size
    by_cases hlt : k < N
    · obtain ⟨hw0, hw1⟩ := wat_in N start step h1 k
      have hstep := Lib.hid (fun (A2 : Option Addr) (c2 : Nat) (w2 : World) (r : Row w2 W.heap.size 3 1 A2 (k + 1) c2 (ints (wlist N start step k ++ [wat N start step k]))) (hb2 : Below W.heap.size W w2) => (show RoundW W N start step (.slice A2 (k + 1) c2) (.int .i64 ((wat N start step k + step) % N)) (.int .i64 ((k : Int) + 1)) w2 from ⟨k + 1, A2, c2, by omega, by go_num, by rw [wat, modOf, if_neg (by omega)], rfl, by rw [wlist_succ]; exact r, hb2⟩))
      have hl := wlist_len (N : Int) start step k
      generalize wat N start step k = z at hw0 hw1 hstep
      generalize wlist N start step k = L at hrow hstep hl
      clear hl
      go_wp2_with (at_builtin; refine wpList_app rfl (.tmp 32) (.tmp 34) rfl W.heap.size A _ _ L rfl (hrow.alloc _) _ 1 1 [z] rfl (Rd.lit _ _ _) ?c1 ?c2 ?_; (case c1 => omega); (case c2 => (simp; omega)); intro A2 c2 w2 r1 r2 r3)
      go_roundw
      case rel => exact hstep.out _ _ _ r1 ((hb.alloc hbs _).grown r2 (by simp; omega) (fun g hg => (hrow.blk_lt g hg).1))
      case measure => simp [intOf]; omega
    · obtain rfl : k = N := by omega
      go_wp2
      go_ret
      exact ⟨A, c, rfl, hrow, hb⟩

end Go.Proofs.Ytobcaohginiegaa
