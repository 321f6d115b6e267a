/- Contracts: Join, Remove. -/
import Derived.Test.YtifflhombjljbaaRapp
namespace Go.Proofs.Ytifflhombjljbaa
open Go.ChangeShapes Go.WideShapes Go.ChangeAt Go.RowKit Go.Deep
set_option linter.unusedVariables false

theorem take_next {xs : List Int} {k : Nat} (h : k < xs.length) : xs.take k ++ [xs[k]] = xs.take (k + 1) := by rw [List.take_succ_eq_append_getElem h]

def JoinR (W : World) (xs : List Int) (out i : Value) (wr : World) : Prop := ∃ (k : Nat) (A' : Option Addr) (c' : Nat), k ≤ xs.length ∧ i = .int .i64 k ∧ out = .slice A' k c' ∧ Row wr W.heap.size 3 1 A' k c' (ints (xs.take k)) ∧ Below W.heap.size W wr
theorem JoinR.step {W wr w' : World} {xs : List Int} {k c c' : Nat} {A A' : Option Addr} {o : Obj} (hk : k < xs.length) (hrow : Row wr W.heap.size 3 1 A k c (ints (xs.take k))) (hb : Below W.heap.size W wr)
    (h1 : Row w' W.heap.size 3 1 A' (k + 1) c' (ints (xs.take k ++ [xs[k]]))) (h2 : (wr.alloc o).grownBy w' (blk A)) : JoinR W xs (.slice A' (k + 1) c') (.int .i64 ((k : Int) + 1)) w' :=
  ⟨k + 1, A', c', by omega, by go_num, rfl, by rw [← take_next hk]; exact h1, (hb.alloc hb.size o).grown h2 (by have := hb.size; simp; omega) (fun g hg => (hrow.blk_lt g hg).1)⟩
def JoinQ (W : World) (xs ys : List Int) (out i : Value) (wr : World) : Prop := ∃ (k : Nat) (A' : Option Addr) (c' : Nat), k ≤ ys.length ∧ i = .int .i64 k ∧ out = .slice A' (xs.length + k) c' ∧ Row wr W.heap.size 3 1 A' (xs.length + k) c' (ints (xs ++ ys.take k)) ∧ Below W.heap.size W wr
theorem JoinQ.step {W wr w' : World} {xs ys : List Int} {k c c' : Nat} {A A' : Option Addr} {o : Obj} (hk : k < ys.length) (hrow : Row wr W.heap.size 3 1 A (xs.length + k) c (ints (xs ++ ys.take k))) (hb : Below W.heap.size W wr)
    (h1 : Row w' W.heap.size 3 1 A' (xs.length + k + 1) c' (ints ((xs ++ ys.take k) ++ [ys[k]]))) (h2 : (wr.alloc o).grownBy w' (blk A)) : JoinQ W xs ys (.slice A' (xs.length + k + 1) c') (.int .i64 ((k : Int) + 1)) w' :=
  ⟨k + 1, A', c', by omega, by go_num, rfl, by rw [← take_next hk, ← List.append_assoc]; exact h1, (hb.alloc hb.size o).grown h2 (by have := hb.size; simp; omega) (fun g hg => (hrow.blk_lt g hg).1)⟩

set_option maxHeartbeats 1000000 in
theorem join_any (A D : Option Addr) (n m c d : Nat) (xs ys : List Int) (W : World) (hA : Rd W 1 A n (ints xs)) (hD : Rd W 1 D m (ints ys)) (hm : n + m ≤ 100000) :
    Calls Try.prog 21 #[.slice A n c, .slice D m d] W fun e W' => ∃ A' c', e = .returned (.slice A' (n + m) c') ∧ Row W' W.heap.size 3 1 A' (n + m) c' (ints (xs ++ ys)) ∧ Below W.heap.size W W' := by
  have hn1 := hA.len
  have hn2 := hD.len
  subst hn1
  subst hn2
  go_enter Try.func21, Try.ntmps21
  go_wp2
  go_loopw [5, 6] (fun out i wr => JoinR W xs out i wr) (fun _ i _ => xs.length - (intOf i).toNat)
  case atStart => exact ⟨0, none, 0, Nat.zero_le _, rfl, rfl, Row.nil _ _ _ _, Below.refl _ _⟩
  case round =>
    obtain ⟨k, A', c', hk, rfl, rfl, hrow, hb⟩ := hrel
    by_cases hlt : k < xs.length
    · obtain ⟨b, o, rfl, hbl, hc⟩ := (hA.below hb (Nat.le_refl _)).at_ (by omega)
      have e0 := hc k hlt
      clear hc
      have hbs := hb.size
      go_wp2_with (at_builtin; refine wpList_app rfl (.tmp 14) (.tmp 19) rfl W.heap.size A' k c' (xs.take k) rfl (hrow.alloc _) _ 1 1 [xs[k]] rfl (Rd.lit _ _ _) (by omega) (by simp; omega) ?_; intro A2 c2 w2 h1 h2 h3)
      go_roundw
      case rel => exact JoinR.step hlt hrow hb h1 h2
      case measure => simp [intOf]; omega
    · obtain rfl : k = xs.length := by omega
      rw [List.take_length] at hrow
      clear hlt
      go_wp2
      go_loopw [5, 7] (fun out i wr => JoinQ W xs ys out i wr) (fun _ i _ => ys.length - (intOf i).toNat)
      case atStart => exact ⟨0, A', c', Nat.zero_le _, rfl, rfl, by simpa using hrow, hb⟩
      case round =>
        clear hrow hb
        obtain ⟨k, A', c', hk, rfl, rfl, hrow, hb⟩ := hrel
        by_cases hlt : k < ys.length
        · obtain ⟨b, o, rfl, hbl, hc⟩ := (hD.below hb (Nat.le_refl _)).at_ (by omega)
          have e0 := hc k hlt
          clear hc
          have hbs := hb.size
          go_wp2_with (at_builtin; refine wpList_app rfl (.tmp 27) (.tmp 32) rfl W.heap.size A' (xs.length + k) c' (xs ++ ys.take k) rfl (hrow.alloc _) _ 1 1 [ys[k]] rfl (Rd.lit _ _ _) (by omega) (by simp; omega) ?_; intro A2 c2 w2 h1 h2 h3)
          go_roundw
          case rel => exact JoinQ.step hlt hrow hb h1 h2
          case measure => simp [intOf]; omega
        · obtain rfl : k = ys.length := by omega
          rw [List.take_length] at hrow
          go_wp2
          go_ret
          exact ⟨A', c', rfl, hrow, hb⟩
end Go.Proofs.Ytifflhombjljbaa
