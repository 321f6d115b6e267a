/- Contract: the reference's Right. -/
import Derived.Test.YtifflhombjljbaaGlobE
namespace Go.Proofs.Ytifflhombjljbaa
open Go.ChangeShapes Go.WideShapes Go.ChangeAt Go.RowKit Go.Deep
set_option linter.unusedVariables false

def RoundRi (W : World) (xs : List Int) (out i : Value) (wr : World) : Prop := ∃ (k : Nat) (A' : Option Addr) (c' : Nat), k ≤ xs.length ∧ i = .int .i64 k ∧ out = .slice A' (right (xs.take k)).length c' ∧ Row wr W.heap.size 3 1 A' (right (xs.take k)).length c' (ints (right (xs.take k))) ∧ Below W.heap.size W wr
theorem RoundRi.yes {W wr w' : World} {xs : List Int} {k c c' : Nat} {A A' : Option Addr} {o : Obj} (hk : k < xs.length) (hz : 0 < xs[k]) (hrow : Row wr W.heap.size 3 1 A (right (xs.take k)).length c (ints (right (xs.take k)))) (hb : Below W.heap.size W wr)
    (h1 : Row w' W.heap.size 3 1 A' ((right (xs.take k)).length + 1) c' (ints (right (xs.take k) ++ [xs[k]]))) (h2 : (wr.alloc o).grownBy w' (blk A)) : RoundRi W xs (.slice A' ((right (xs.take k)).length + 1) c') (.int .i64 ((k : Int) + 1)) w' := by
  have e : right (xs.take (k + 1)) = right (xs.take k) ++ [xs[k]] := by rw [right_next hk, if_pos hz]
  exact ⟨k + 1, A', c', by omega, by go_num, by rw [e]; simp, by rw [e]; simpa using h1, (hb.alloc hb.size o).grown h2 (by have := hb.size; simp; omega) (fun g hg => (hrow.blk_lt g hg).1)⟩
theorem RoundRi.no {W wr : World} {xs : List Int} {k c : Nat} {A : Option Addr} (hk : k < xs.length) (hz : ¬ 0 < xs[k]) (hrow : Row wr W.heap.size 3 1 A (right (xs.take k)).length c (ints (right (xs.take k)))) (hb : Below W.heap.size W wr) : RoundRi W xs (.slice A (right (xs.take k)).length c) (.int .i64 ((k : Int) + 1)) wr := by
  have e : right (xs.take (k + 1)) = right (xs.take k) := by rw [right_next hk, if_neg hz, List.append_nil]
  exact ⟨k + 1, A, c, by omega, by go_num, by rw [e], by rw [e]; exact hrow, hb⟩
set_option maxHeartbeats 2000000 in
theorem rright_any (A : Option Addr) (n c : Nat) (xs : List Int) (W : World) (hA : Rd W 1 A n (ints xs)) (hm : n ≤ 100000) :
    Calls Try.prog 22 #[.slice A n c] W fun e W' => ∃ A' c', e = .returned (.slice A' (right xs).length c') ∧ Row W' W.heap.size 3 1 A' (right xs).length c' (ints (right xs)) ∧ Below W.heap.size W W' := by
  have hn1 := hA.len
  subst hn1
  go_enter Try.func22, Try.ntmps22
  go_wp2
  go_loopw [3, 4] (fun out i wr => RoundRi W xs out i wr) (fun _ i _ => xs.length - (intOf i).toNat)
  case atStart => exact ⟨0, none, 0, Nat.zero_le _, rfl, rfl, Row.nil _ _ _ _, Below.refl _ _⟩
  case round =>
    obtain ⟨k, A', c', hk, rfl, rfl, hrow, hb⟩ := hrel
    have k0 : (0 : Int) ≤ k := by omega
    by_cases hlt : k < xs.length
    · have k1 : (k : Int) < xs.length := by omega
      obtain ⟨b, o, rfl, hbl, hc⟩ := (hA.below hb (Nat.le_refl _)).at_ (by omega)
      have e0 := hc k hlt
      have hrl := right_le (xs.take k)
      rw [List.length_take] at hrl
      have HSz := Lib.hid (fun ob => show W.heap.size ≤ (wr.alloc ob).heap.size by have := hb.size; simp; omega)
      have HK := Lib.hid (show (right (xs.take k)).length + 1 ≤ 1048576 by omega)
      have HRow := Lib.hid hrow
      by_cases hz : 0 < xs[k]
      · have HN := Lib.hid (fun w' A2 c2 ob h1 h2 => RoundRi.yes (w' := w') (A' := A2) (c' := c2) (o := ob) hlt hz hrow hb h1 h2)
        have hz1 : (1 : Int) ≤ xs[k] := by omega
        generalize xs[k] = z at *
        generalize right (xs.take k) = ys at *
        clear hc hrow hb hrl hz
        go_wp2_with (at_builtin; refine wpList_app rfl (.tmp 16) (.tmp 21) rfl W.heap.size A' ys.length c' ys ?_ ?_ (some ⟨wr.heap.size, 0, none⟩) 1 1 [z] ?_ ?_ ?_ ?_ ?_; (next => rfl); (next => exact HRow.out.alloc _); (next => rfl); (next => exact Rd.lit _ _ _); (next => exact HK.out); (next => exact HSz.out _); intro A2 c2 w2 h1 h2 h3)
        go_roundw
        case measure => simp [intOf]; omega
        case rel => exact HN.out _ _ _ _ h1 h2
      · have HN := Lib.hid (RoundRi.no hlt hz hrow hb)
        have hz1 : ¬ (1 : Int) ≤ xs[k] := by omega
        generalize xs[k] = z at *
        generalize right (xs.take k) = ys at *
        clear hc hrow hb hrl hz
        go_wp2_with fail
        go_roundw
        case measure => simp [intOf]; omega
        case rel => exact HN.out
    · obtain rfl : k = xs.length := by omega
      rw [List.take_length] at hrow ⊢
      go_wp2
      go_ret
      exact ⟨_, _, rfl, hrow, hb⟩
end Go.Proofs.Ytifflhombjljbaa
