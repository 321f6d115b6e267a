/- Order: the document's. -/
import Derived.Test.YtfmjmhnbdceipaaPcB
import Derived.Test.YtfmjmhnbdceipaaRset
namespace Go.Proofs.Ytfmjmhnbdceipaa
open Go.ChangeShapes Go.WideShapes Go.ChangeAt Go.RowKit Go.Deep
set_option linter.unusedVariables false

theorem rorder_no (seed n : Int) (W : World) (h : n < 0 ∨ 64 < n) : Calls Try.prog 18 #[.int .u64 seed, .int .i64 n] W fun e W' => e = .returned (.slice none 0 0) ∧ W' = W := by
  by_cases h0 : n < 0
  · clear h
    go_enter Try.func18, Try.ntmps18
    go_wp2
    go_ret
    exact ⟨rfl, rfl⟩
  · have h2 : 64 < n := by omega
    clear h
    go_enter Try.func18, Try.ntmps18
    go_wp2
    go_ret
    exact ⟨rfl, rfl⟩
def RoundI (W : World) (n : Nat) (out i : Value) (wr : World) : Prop := ∃ (k : Nat) (A : Option Addr) (c : Nat), k ≤ n ∧ i = .int .i64 k ∧ out = .slice A k c ∧ Row wr W.heap.size 3 1 A k c (ints (iota k)) ∧ Below W.heap.size W wr
theorem RoundI.step {W wr w' : World} {n k c c' : Nat} {A A' : Option Addr} {o : Obj} (hk : k < n) (hrow : Row wr W.heap.size 3 1 A k c (ints (iota k))) (hb : Below W.heap.size W wr)
    (h1 : Row w' W.heap.size 3 1 A' (k + 1) c' (ints (iota k ++ [(k : Int)]))) (h2 : (wr.alloc o).grownBy w' (blk A)) : RoundI W n (.slice A' (k + 1) c') (.int .i64 ((k : Int) + 1)) w' :=
  ⟨k + 1, A', c', by omega, by go_num, rfl, by rw [iota_snoc]; exact h1, (hb.alloc hb.size o).grown h2 (by have := hb.size; simp; omega) (fun g hg => (hrow.blk_lt g hg).1)⟩
def RoundT (W : World) (G c n : Nat) (out : List Int) (x i : Value) (wr : World) : Prop := ∃ (j : Nat) (y : Int) (l : List Int), j < n ∧ i = .int .i64 j ∧ x = .int .u64 y ∧ l.length = n ∧ Row wr W.heap.size 3 1 (some ⟨G, 0, none⟩) n c (ints l) ∧ Below W.heap.size W wr ∧ shuf j y l = out
theorem RoundT.step {W wr : World} {G c n j q : Nat} {y : Int} {l out : List Int} (hj : j < n) (h0 : 1 ≤ j) (hl : l.length = n) (h : Row wr W.heap.size 3 1 (some ⟨G, 0, none⟩) n c (ints l)) (hb : Below W.heap.size W wr) (hs : shuf j y l = out) (hq : bel y ((j : Int) + 1) = q) :
    RoundT W G c n out (.int .u64 (nx y)) (.int .i64 ((j : Int) - 1)) ((wr.setCell ⟨G, j, none⟩ (.int .i64 (l.getD q 0))).setCell ⟨G, q, none⟩ (.int .i64 (l.getD j 0))) := by
  have hG := h.blk_lt G rfl
  refine ⟨j - 1, nx y, sw l j q, by omega, ?_, rfl, by simp [hl], (h.set _).set _, (hb.setCell hG.1 _).setCell hG.1 _, ?_⟩
  · congr 1; omega
  · rw [← hs]
    obtain ⟨i, rfl⟩ : ∃ i, j = i + 1 := ⟨j - 1, by omega⟩
    rw [shuf, Nat.add_sub_cancel]
    have e : ((i : Int) + 2) = (((i + 1 : Nat) : Int) + 1) := by omega
    rw [e, hq, Int.toNat_natCast]
theorem RoundT.drewN {W wr : World} {G c n : Nat} {out : List Int} {x i : Value} (h : RoundT W G c n out x i wr) (q : Nat) : RoundT W G c n out x i (wr.drewN q) := by
  obtain ⟨j, y, l, h1, h2, h3, h4, h5, h6, h7⟩ := h
  exact ⟨j, y, l, h1, h2, h3, h4, h5.drewN q, belowN h6 q, h7⟩
set_option maxRecDepth 100000 in
set_option maxHeartbeats 8000000 in
theorem rorder_yes (seed : Int) (n : Nat) (W : World) (hn : n ≤ 64) : Calls Try.prog 18 #[.int .u64 seed, .int .i64 n] W fun e W' => ∃ A c, e = .returned (.slice A n c) ∧ Row W' W.heap.size 3 1 A n c (ints (orderOf seed n)) ∧ Below W.heap.size W W' := by
  have n0 : (0 : Int) ≤ n := by omega
  have n1 : (n : Int) ≤ 64 := by omega
  go_enter Try.func18, Try.ntmps18
  go_wp2
  go_loopw [5, 6] (fun out i wr => RoundI W n out i wr) (fun _ i _ => n - (intOf i).toNat)
  case atStart => exact ⟨0, none, 0, Nat.zero_le _, rfl, rfl, Row.nil _ _ _ _, Below.refl _ _⟩
  case round =>
    obtain ⟨k, A, c, hk, rfl, rfl, hrow, hb⟩ := hrel
    have hbs := hb.size
    have k0 : (0 : Int) ≤ k := by omega
    by_cases hlt : k < n
    · have k1 : (k : Int) < n := by omega
      go_wp2_with (at_builtin; refine wpList_app rfl (.tmp 23) (.tmp 25) rfl W.heap.size A k c (iota k) rfl (hrow.alloc _) _ 1 1 [(k : Int)] rfl (Rd.lit _ _ _) (by omega) (by simp; omega) ?_; intro A2 c2 w2 h1 h2 h3)
      go_roundw
      case measure => simp [intOf]; omega
      case rel => exact RoundI.step hlt hrow hb h1 h2
    · obtain rfl : k = n := by omega
      rcases Nat.eq_zero_or_pos k with hz | hz
      · subst hz
        have HR := Lib.hid hrow
        have HB := Lib.hid hb
        clear hrow hb
        go_wp2
        go_rounds 1
        go_ret
        exact ⟨A, c, rfl, HR.out, HB.out⟩
      · obtain ⟨G, rfl⟩ : ∃ G, A = some ⟨G, 0, none⟩ := by
          rcases hrow.2.2.2 with ⟨_, h, _⟩ | ⟨g, _, h, _⟩
          · omega
          · exact ⟨g, h⟩
        have H0 : Hid (RoundT W G c k (orderOf seed k) (.int .u64 seed) (.int .i64 ((k : Int) - 1)) wr) := ⟨k - 1, seed, iota k, by omega, by congr 1; omega, rfl, by simp, hrow, hb, rfl⟩
        clear hrow hb hbs
        go_wp2
        go_loopw [7, 8] (fun x i wr => RoundT W G c k (orderOf seed k) x i wr) (fun _ i _ => (intOf i).toNat)
        case atStart => exact H0.out
        case round =>
          clear H0
          obtain ⟨j, y, l, hj, rfl, rfl, hl, hR, hb, hs⟩ := hrel
          have HR := Lib.hid hR
          have HB := Lib.hid hb
          have HS := Lib.hid hs
          clear hb hs
          by_cases h1 : 1 ≤ j
          · have j1 : (1 : Int) ≤ j := by omega
            have j2 : (j : Int) < 64 := by omega
            have j3 : (0 : Int) ≤ j := by omega
            have j4 : (j : Int) < k := by omega
            obtain ⟨b0, b1⟩ := bel_in y ((j : Int) + 1) (by omega)
            obtain ⟨q, hq⟩ : ∃ q : Nat, bel y ((j : Int) + 1) = q := ⟨(bel y ((j : Int) + 1)).toNat, by omega⟩
            have hbel := rbelow_yes y ((j : Int) + 1) wr (by omega) (by omega)
            rw [hq] at hbel b1
            have HQ := Lib.hid hq
            have HBel := Lib.hid hbel
            have q0 : (0 : Int) ≤ q := by omega
            have q1 : (q : Int) < k := by omega
            have e0 := hR.at_ j (by omega)
            have e1 := hR.at_ q (by omega)
            have f0 := hR.frozenAt j
            have f1 := hR.frozenAt q
            have HL := Lib.hid hl
            have ev : Hid (∀ v, (wr.setCell ⟨G, j, none⟩ v).frozen? ⟨G, q, none⟩ = false) := fun v => by simpa [go_sem] using f1
            have H9 := Lib.hid (RoundT.step hj h1 hl hR HB.out HS.out hq)
            generalize l.getD j 0 = a at *
            generalize l.getD q 0 = z at *
            obtain ⟨z2, e2⟩ : ∃ z2, (wr.setCell ⟨G, j, none⟩ (.int .i64 z)).cell? ⟨G, q, none⟩ = some (.int .i64 z2) := ⟨_, (hR.set z).at_ q (by simp; omega)⟩
            clear hq hbel b0 b1 hR hl
            go_wp2_with (go_at_call 29; refine HBel.out.mono ?_; rintro e w1 ⟨rfl, m, rfl⟩)
            go_roundw
            case measure => simp [intOf]; omega
            case rel => exact H9.out.drewN m
          · obtain rfl : j = 0 := by omega
            clear hR
            go_wp2
            go_ret
            have h10 : l = orderOf seed k := HS.out
            exact ⟨_, _, rfl, h10 ▸ HR.out, HB.out⟩
end Go.Proofs.Ytfmjmhnbdceipaa
