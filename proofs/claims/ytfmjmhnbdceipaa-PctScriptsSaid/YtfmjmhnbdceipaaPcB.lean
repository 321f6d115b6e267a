/- Order: the program's. -/
import Derived.Test.YtfmjmhnbdceipaaPcA
namespace Go.Proofs.Ytfmjmhnbdceipaa
open Go.ChangeShapes Go.WideShapes Go.ChangeAt Go.RowKit Go.Deep
set_option linter.unusedVariables false

theorem order_no (seed n : Int) (W : World) (h : n < 0 ∨ 64 < n) : Calls Try.prog 17 #[.int .u64 seed, .int .i64 n] W fun e W' => e = .returned (.slice none 0 0) ∧ W' = W := by
  by_cases h0 : n < 0
  · have h1 : ¬ 0 ≤ n := by omega
    clear h
    go_enter Try.func17, Try.ntmps17
    go_wp2
    go_ret
    exact ⟨rfl, rfl⟩
  · have h1 : 0 ≤ n := by omega
    have h2 : ¬ n ≤ 64 := by omega
    clear h
    go_enter Try.func17, Try.ntmps17
    go_wp2
    go_ret
    exact ⟨rfl, rfl⟩
theorem made_zero (n : Nat) : madeCells #[.int .i64 0] n = (ints (iota 0 ++ List.replicate (n - 0) 0)).toArray := by
  apply Array.ext'
  rw [toList_madeCells_one]
  simp [ints, iota]
theorem fill_step {n k : Nat} (hk : k < n) : (iota k ++ List.replicate (n - k) (0 : Int)).set k (k : Int) = iota (k + 1) ++ List.replicate (n - (k + 1)) 0 := by
  rw [List.set_append_right _ _ (by simp), iota_snoc, show n - k = (n - (k + 1)) + 1 by omega, List.replicate_succ]
  simp
structure Ord (W wr : World) (n : Nat) (l : List Int) : Prop where
  row : Blk wr W.heap.size 3 (ints l).toArray
  cell : Blk wr (W.heap.size + 1) 37 #[.slice (some ⟨W.heap.size, 0, none⟩) n n]
  len : l.length = n
  below : Below W.heap.size W wr
def RoundF (W : World) (n : Nat) (i : Value) (wr : World) : Prop := ∃ k : Nat, k ≤ n ∧ i = .int .i64 k ∧ Ord W wr n (iota k ++ List.replicate (n - k) 0)
theorem RoundF.step {W wr : World} {n k : Nat} (hk : k < n) (h : Ord W wr n (iota k ++ List.replicate (n - k) 0)) : RoundF W n (.int .i64 ((k : Int) + 1)) (wr.setCell ⟨W.heap.size, k, none⟩ (.int .i64 k)) :=
  ⟨k + 1, by omega, by go_num, by
    have := blk_set h.row k k
    rw [fill_step hk] at this
    exact ⟨this, h.cell.far (p := ⟨W.heap.size, k, none⟩) (by simp) _, by simp; omega, h.below.setCell (p := ⟨W.heap.size, k, none⟩) (Nat.le_refl _) _⟩⟩
def RoundS (W : World) (D n : Nat) (out : List Int) (i : Value) (wr : World) : Prop := ∃ (j : Nat) (x : Int) (l : List Int), j < n ∧ i = .int .i64 j ∧ Ord W wr n l ∧ Blk wr D 60 #[.int .u64 x] ∧ shuf j x l = out
theorem RoundS.step {W wr w1 : World} {D n j q : Nat} {x : Int} {l out : List Int} (hj : j < n) (h0 : 1 ≤ j) (hD1 : W.heap.size + 2 ≤ D) (h : Ord W wr n l) (hD : Blk wr D 60 #[.int .u64 x]) (hs : shuf j x l = out) (hq : bel x ((j : Int) + 1) = q)
    (hB : Blk w1 W.heap.size 3 (ints (sw l j q)).toArray) (hc : Chg (fun g => g = W.heap.size) (wr.setCell ⟨D, 0, none⟩ (.int .u64 (nx x))) w1) : RoundS W D n out (.int .i64 ((j : Int) - 1)) w1 := by
  have hC : Blk (wr.setCell ⟨D, 0, none⟩ (.int .u64 (nx x))) (W.heap.size + 1) 37 #[.slice (some ⟨W.heap.size, 0, none⟩) n n] := h.cell.far (p := ⟨D, 0, none⟩) (show W.heap.size + 1 ≠ D by omega) _
  have hD2 : Blk (wr.setCell ⟨D, 0, none⟩ (.int .u64 (nx x))) D 60 #[.int .u64 (nx x)] := by simpa using hD.set_ 0 (.int .u64 (nx x))
  have hb := h.below.setCell (p := ⟨D, 0, none⟩) (show W.heap.size ≤ D by omega) (.int .u64 (nx x))
  refine ⟨j - 1, nx x, _, by omega, ?_, ⟨hB, hC.kept hc (by omega), by simp [h.len], hb.trans (hc.below hb.size (by rintro k _ rfl; exact Nat.le_refl _))⟩, hD2.kept hc (by omega), ?_⟩
  · congr 1; omega
  · rw [← hs]
    obtain ⟨i, rfl⟩ : ∃ i, j = i + 1 := ⟨j - 1, by omega⟩
    rw [shuf, Nat.add_sub_cancel]
    have e : ((i : Int) + 2) = (((i + 1 : Nat) : Int) + 1) := by omega
    rw [e, hq, Int.toNat_natCast]
set_option maxRecDepth 100000 in
set_option maxHeartbeats 8000000 in
theorem order_yes (seed : Int) (n : Nat) (W : World) (hn : n ≤ 64) : Calls Try.prog 17 #[.int .u64 seed, .int .i64 n] W fun e W' => e = .returned (.slice (some ⟨W.heap.size, 0, none⟩) n n) ∧ Row W' W.heap.size 3 1 (some ⟨W.heap.size, 0, none⟩) n n (ints (orderOf seed n)) ∧ Below W.heap.size W W' := by
  have hmf : ∀ (fn : Fn) (first cap : Array Value) (W : World), (Instr.makeFunc fn first cap).run Try.prog W = .ok (.func fn first cap) W := fun _ _ _ _ => rfl
  have hmk := run_make_row' (P := Try.prog) 37 3 (.int .i64 0) 8 Try.underlying37 int_info rfl .i64 .i64 n (by omega) (by omega)
  have n0 : (0 : Int) ≤ n := by omega
  have n1 : (n : Int) ≤ 64 := by omega
  have fin : ∀ {wr : World} {l : List Int}, Ord W wr n l → Row wr W.heap.size 3 1 (some ⟨W.heap.size, 0, none⟩) n n (ints l) := fun {wr l} h =>
    ⟨by simp [h.len], Nat.le_refl _, by unfold maxLen; omega, .inr ⟨W.heap.size, _, rfl, Nat.le_refl _, h.row, by simp [h.len], by simp; rw [List.take_of_length_le (by simp [h.len])]⟩⟩
  have FIN := Lib.hid (fun (wr : World) (l : List Int) (h : Ord W wr n l) => fin h)
  clear fin
  go_enter Try.func17, Try.ntmps17
  go_wp2
  go_loopw [17] (fun i wr => RoundF W n i wr) (fun i _ => n - (intOf i).toNat)
  case atStart => exact ⟨0, Nat.zero_le _, rfl, ⟨by rw [← made_zero]; exact (Blk.new W _ _).alloc _, by have := Blk.new (W.alloc (.cells (madeCells #[.int .i64 0] n) 3)) 37 #[.slice (some ⟨W.heap.size, 0, none⟩) n n]; simpa using this, by simp, ((Below.refl _ _).alloc (Nat.le_refl _) _).alloc (by simp) _⟩⟩
  case round =>
    clear hmk
    obtain ⟨k, hk, rfl, hO⟩ := hrel
    have HO := Lib.hid hO
    have c0 := hO.cell.cell 0
    simp at c0
    have k0 : (0 : Int) ≤ k := by omega
    by_cases hlt : k < n
    · have k1 : (k : Int) < n := by omega
      have e0 := blk_int hO.row k (by rw [hO.len]; exact hlt)
      have f0 := hO.row.frozen k
      generalize (iota k ++ List.replicate (n - k) (0 : Int)).getD k 0 = z at e0
      clear hO
      go_wp2
      go_roundw
      case measure => simp [intOf]; omega
      case rel => exact RoundF.step hlt HO.out
    · obtain rfl : k = n := by omega
      rw [Nat.sub_self, List.replicate_zero, List.append_nil] at HO
      clear hO
      go_wp2_with (go_at_call 26; refine (dnew_any _ _).mono ?_; rintro e w1 ⟨rfl, rfl⟩)
      rcases Nat.eq_zero_or_pos k with hz | hz
      · subst hz
        have q1 := HO.out.cell.lt
        have q2 : W.heap.size + 1 ≠ wr.heap.size := by omega
        go_rounds 1
        go_ret
        have h9 := FIN.out _ _ HO.out
        exact ⟨rfl, by simpa [orderOf, shuf] using h9.alloc _, HO.out.below.alloc HO.out.below.size _⟩
      · have hD := Blk.new wr 60 #[.int .u64 seed]
        have hD1 : W.heap.size + 2 ≤ wr.heap.size := by have := HO.out.cell.lt; omega
        have H0 : Hid (RoundS W wr.heap.size k (orderOf seed k) (.int .i64 ((k : Int) - 1)) (wr.alloc (.cells #[.int .u64 seed] 60))) :=
          ⟨k - 1, seed, iota k, by omega, by congr 1; omega, ⟨HO.out.row.alloc _, HO.out.cell.alloc _, HO.out.len, HO.out.below.alloc HO.out.below.size _⟩, hD, rfl⟩
        obtain ⟨D, hDe⟩ : ∃ D, D = wr.heap.size := ⟨_, rfl⟩
        rw [← hDe] at hD1 H0 ⊢
        clear c0 HO hD hDe
        go_loopw [9] (fun i wr => RoundS W D k (orderOf seed k) i wr) (fun i _ => (intOf i).toNat)
        case atStart => exact H0.out
        case round =>
          clear H0
          obtain ⟨j, x, l, hj, rfl, hO, hD, hs⟩ := hrel
          have c0 := hO.cell.cell 0
          simp at c0
          have HO := Lib.hid hO
          have HD := Lib.hid hD
          have HS := Lib.hid hs
          clear hO hD hs
          by_cases h1 : 1 ≤ j
          · have j1 : (1 : Int) ≤ j := by omega
            have j2 : (j : Int) < 64 := by omega
            obtain ⟨b0, b1⟩ := bel_in x ((j : Int) + 1) (by omega)
            obtain ⟨q, hq⟩ : ∃ q : Nat, bel x ((j : Int) + 1) = q := ⟨(bel x ((j : Int) + 1)).toNat, by omega⟩
            have hbel := below_yes x ((j : Int) + 1) D _ HD.out (by omega) (by omega)
            rw [hq] at hbel b1
            have HQ := Lib.hid hq
            have HBel := Lib.hid hbel
            have hchg := change_any j q (W.heap.size + 1) W.heap.size k l (wr.setCell ⟨D, 0, none⟩ (.int .u64 (nx x))) (by have := (HO.out.cell.far (p := ⟨D, 0, none⟩) (show W.heap.size + 1 ≠ D by omega) (.int .u64 (nx x))).cell 0; simpa using this) (HO.out.row.far (p := ⟨D, 0, none⟩) (show W.heap.size ≠ D by omega) _) HO.out.len hj (by omega) (by omega) (by omega)
            have HCh := Lib.hid hchg
            clear hq hbel hchg b0 b1
            go_wp2_with (first
              | (go_at_call 27; refine HBel.out.mono ?_; rintro e w1 ⟨rfl, rfl⟩)
              | (go_at_call 28; refine HCh.out.mono ?_; rintro e w2 ⟨rfl, hB2, hc2⟩; have HB2 := Lib.hid hB2; have HC2 := Lib.hid hc2; clear hB2 hc2))
            go_roundw
            case measure => simp [intOf]; omega
            case rel => exact RoundS.step hj h1 hD1 HO.out HD.out HS.out HQ.out HB2.out HC2.out
          · obtain rfl : j = 0 := by omega
            go_wp2
            go_ret
            have h9 := FIN.out _ _ HO.out
            have h10 : l = orderOf seed k := HS.out
            exact ⟨rfl, h10 ▸ h9, HO.out.below⟩
end Go.Proofs.Ytfmjmhnbdceipaa
