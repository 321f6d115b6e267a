/- The walk of the law PctOrders. -/
import Derived.Test.YtfmjmhnbdceipaaPcI
namespace Go.Proofs.Ytfmjmhnbdceipaa
open Go.ChangeShapes Go.WideShapes Go.ChangeAt Go.RowKit Go.Deep
set_option linter.unusedVariables false

def orderL (seed n : Int) : List Int := if 0 ≤ n ∧ n ≤ 64 then orderOf seed n.toNat else []
def pointsL (seed s c : Int) : List Int := if 0 ≤ s ∧ s ≤ 65536 ∧ 0 ≤ c ∧ c ≤ 100 then pointsOf seed s c.toNat else []
theorem orderL_le (seed n : Int) : (orderL seed n).length ≤ 64 := by
  unfold orderL
  split
  · simp; omega
  · simp
theorem pointsL_le (seed s c : Int) : (pointsL seed s c).length ≤ 100 := by
  unfold pointsL
  split
  · have := pointsOf_le seed s c.toNat; omega
  · simp
def Got (W W' : World) (l : List Int) (e : Ending) : Prop := ∃ A c, e = .returned (.slice A l.length c) ∧ Rd W' 1 A l.length (ints l) ∧ (∀ g, blk A = some g → W.heap.size ≤ g ∧ g < W'.heap.size) ∧ Below W.heap.size W W'
theorem Got.nil_ (W : World) : Got W W [] (.returned (.slice none 0 0)) := ⟨none, 0, rfl, (show Rd W 1 none 0 [] from Rd.nil _ _ _), fun g hg => (by cases hg), Below.refl _ _⟩
theorem order_all (seed n : Int) (W : World) : Calls Try.prog 17 #[.int .u64 seed, .int .i64 n] W fun e W' => Got W W' (orderL seed n) e := by
  by_cases h : 0 ≤ n ∧ n ≤ 64
  · obtain ⟨k, rfl⟩ : ∃ k : Nat, n = k := ⟨n.toNat, by omega⟩
    refine (order_yes seed k W (by omega)).mono ?_
    rintro e W' ⟨rfl, hr, hb⟩
    rw [orderL, if_pos h, Int.toNat_natCast]
    exact ⟨_, _, by rw [orderOf_len], by rw [orderOf_len]; exact hr.rd, hr.blk_lt, hb⟩
  · refine (order_no seed n W (by omega)).mono ?_
    rintro e W' ⟨rfl, rfl⟩
    rw [orderL, if_neg h]
    exact Got.nil_ _
theorem rorder_all (seed n : Int) (W : World) : Calls Try.prog 18 #[.int .u64 seed, .int .i64 n] W fun e W' => Got W W' (orderL seed n) e := by
  by_cases h : 0 ≤ n ∧ n ≤ 64
  · obtain ⟨k, rfl⟩ : ∃ k : Nat, n = k := ⟨n.toNat, by omega⟩
    refine (rorder_yes seed k W (by omega)).mono ?_
    rintro e W' ⟨A, c, rfl, hr, hb⟩
    rw [orderL, if_pos h, Int.toNat_natCast]
    exact ⟨_, _, by rw [orderOf_len], by rw [orderOf_len]; exact hr.rd, hr.blk_lt, hb⟩
  · refine (rorder_no seed n W (by omega)).mono ?_
    rintro e W' ⟨rfl, rfl⟩
    rw [orderL, if_neg h]
    exact Got.nil_ _
theorem points_all (seed s c : Int) (W : World) : Calls Try.prog 19 #[.int .u64 seed, .int .i64 s, .int .i64 c] W fun e W' => Got W W' (pointsL seed s c) e := by
  by_cases h : 0 ≤ s ∧ s ≤ 65536 ∧ 0 ≤ c ∧ c ≤ 100
  · obtain ⟨k, rfl⟩ : ∃ k : Nat, c = k := ⟨c.toNat, by omega⟩
    refine (points_yes seed s k W h.1 h.2.1 (by omega)).mono ?_
    rintro e W' ⟨A, d, rfl, hr, hb⟩
    rw [pointsL, if_pos h, Int.toNat_natCast]
    exact ⟨_, _, rfl, hr.rd, hr.blk_lt, hb⟩
  · refine (points_no seed s c W (by omega)).mono ?_
    rintro e W' ⟨rfl, rfl⟩
    rw [pointsL, if_neg h]
    exact Got.nil_ _
theorem rpoints_all (seed s c : Int) (W : World) : Calls Try.prog 20 #[.int .u64 seed, .int .i64 s, .int .i64 c] W fun e W' => Got W W' (pointsL seed s c) e := by
  by_cases h : 0 ≤ s ∧ s ≤ 65536 ∧ 0 ≤ c ∧ c ≤ 100
  · obtain ⟨k, rfl⟩ : ∃ k : Nat, c = k := ⟨c.toNat, by omega⟩
    refine (rpoints_yes seed s k W h.1 h.2.1 (by omega)).mono ?_
    rintro e W' ⟨A, d, rfl, hr, hb⟩
    rw [pointsL, if_pos h, Int.toNat_natCast]
    exact ⟨_, _, rfl, hr.rd, hr.blk_lt, hb⟩
  · refine (rpoints_no seed s c W (by omega)).mono ?_
    rintro e W' ⟨rfl, rfl⟩
    rw [pointsL, if_neg h]
    exact Got.nil_ _
set_option maxHeartbeats 8000000 in
theorem walk_pctOrders (a0 a1 a2 a3 : Int) (w : World) (w0 : (Lit.int .u64 a0).wf = true) (w1 : (Lit.int .i64 a1).wf = true) (w2 : (Lit.int .i64 a2).wf = true) (w3 : (Lit.int .i64 a3).wf = true) :
    Calls Try.prog 4 #[.int .u64 a0, .int .i64 a1, .int .i64 a2, .int .i64 a3] w fun e w' => e = .returned (.bool true) ∧ Below w.heap.size w w' := by
  clear w0 w1 w2 w3
  have l1 := orderL_le a0 a1
  have l2 := pointsL_le a0 a2 a3
  have h1 := order_all a0 a1
  have h2 := rorder_all a0 a1
  have h3 := points_all a0 a2 a3
  have h4 := rpoints_all a0 a2 a3
  generalize orderL a0 a1 = o at *
  generalize pointsL a0 a2 a3 = p at *
  have H1 := Lib.hid h1
  have H2 := Lib.hid h2
  have H3 := Lib.hid h3
  have H4 := Lib.hid h4
  clear h1 h2 h3 h4
  go_enter Try.func4, Try.ntmps4
  go_wp2_with fail
  refine (H1.out _).mono ?_
  rintro e u1 ⟨A1, c1, rfl, r1, q1, b1⟩
  have R1 := Lib.hid r1
  have B1 := Lib.hid b1
  clear r1 q1 b1
  go_wp2_with fail
  refine (H2.out _).mono ?_
  rintro e u2 ⟨A2, c2, rfl, r2, q2, b2⟩
  have R2 := Lib.hid r2
  have B2 := Lib.hid (B1.out.trans (b2.mono B1.out.size))
  have R12 := Lib.hid (R1.out.below b2 (Nat.le_refl _))
  clear r2 q2 b2
  go_wp2_with fail
  refine (same_yes _ _ _ _ _ _ o _ R12.out R2.out (by omega)).mono ?_
  rintro e u3 ⟨rfl, q3, rfl⟩
  go_wp2_with fail
  refine (H3.out _).mono ?_
  rintro e u4 ⟨A4, c4, rfl, r4, q4, b4⟩
  have R4 := Lib.hid r4
  have B4 := Lib.hid ((belowN B2.out q3).trans (b4.mono B2.out.size))
  clear r4 q4 b4
  go_wp2_with fail
  refine (H4.out _).mono ?_
  rintro e u5 ⟨A5, c5, rfl, r5, q5, b5⟩
  have R5 := Lib.hid r5
  have R45 := Lib.hid (R4.out.below b5 (Nat.le_refl _))
  have B5 := Lib.hid (B4.out.trans (b5.mono B4.out.size))
  clear r5 q5 b5
  go_wp2_with fail
  refine (same_yes _ _ _ _ _ _ p _ R45.out R5.out (by omega)).mono ?_
  rintro e u6 ⟨rfl, q6, rfl⟩
  go_wp2_with (go_at_call 7; refine (alive_any _).mono ?_; rintro e w' ⟨rfl, hb⟩)
  go_ret
  exact ⟨rfl, (belowN B5.out q6).trans (hb.mono B5.out.size)⟩
end Go.Proofs.Ytfmjmhnbdceipaa
