/- What is wrong with an instruction, by the document. -/
import Derived.Test.YthdkbofnplnidaaDoorIsaDc
namespace Go.Proofs.YthdkbofnplnidaaDoor
open Go.ChangeShapes Go.WideShapes Go.ChangeAt Go.RowKit Go.Deep
set_option linter.unusedVariables false
set_option linter.unusedSimpArgs false

set_option maxHeartbeats 8000000 in
theorem rcheck_00f (k : Nat) (hk : k < 24) (hr : rg k = 0) (ht : tg k = 0) (hn : nb k = false) (A B C N p f : Int) (W : World) :
    Calls Tryd.prog 36 #[.agg #[.int .i64 k, .int .i64 A, .int .i64 B, .int .i64 C, .int .i64 N], .int .i64 p, .int .i64 f] W fun e W' => e = .returned (.int .i64 (chk 0 0 false A B C N p f)) ∧ Below W.heap.size W W' := by
  have hs := (Blk.new W 32 #[.int .i64 k, .int .i64 A, .int .i64 B, .int .i64 C, .int .i64 N])
  have n1 : ((k : Int) == 1) = false := (nb_in k hk).trans hn
  have n2 : ((k : Int) != 1) = true := by simp [bne, n1]
  have HS := Lib.hid hs
  clear hs hn
  have HR := Lib.hid hr
  have HT := Lib.hid ht
  clear hr ht
  go_enter Tryd.func36, Tryd.ntmps36
  go_wp2_with fail
  refine (is_in k hk _).mono ?_
  rintro e w1 ⟨rfl, hb1⟩
  have hB1 := HS.out.kept (Chg.ofBelow hb1) (by simp)
  have hz : W.heap.size < w1.heap.size := hB1.lt
  have hbw : Below W.heap.size W w1 := ((Below.refl _ _).alloc (Nat.le_refl _) _).trans (hb1.mono (by simp))
  have q0 := hB1.cell 0
  have q1 := hB1.cell 1
  have q2 := hB1.cell 2
  have q3 := hB1.cell 3
  have q4 := hB1.cell 4
  simp at q0 q1 q2 q3 q4
  have HBW := Lib.hid hbw
  clear hb1 hB1 hbw HS
  go_wp2_with (first | (go_at_call 48; refine (rregs_v k hk _ HR.out _).mono ?_; rintro e w2 ⟨rfl, rfl⟩) | (go_at_call 49; refine (rtarget_v k hk _ HT.out _).mono ?_; rintro e w2 ⟨rfl, rfl⟩))
  all_goals try (refine wp_loop_rounds 1 ?_; repeat any_goals (rw [rounds_succ]; (go_wp2_with (go_at_call 49; refine (rtarget_v k hk _ HT.out _).mono ?_; rintro e w2 ⟨rfl, rfl⟩))))
  all_goals try (refine wp_loop_rounds 4 ?_; repeat any_goals (rw [rounds_succ]; (go_wp2_with (go_at_call 49; refine (rtarget_v k hk _ HT.out _).mono ?_; rintro e w2 ⟨rfl, rfl⟩))))
  all_goals go_ret
  all_goals refine ⟨ret_int ?_, by repeat (first | exact HBW.out | refine Below.alloc ?_ (by first | omega | (simp; omega)) _)⟩
  all_goals (go_light; unfold chk; simp only [bne_iff_ne, ne_eq, bne_eq_false_iff_eq] at *; repeat (first | rfl | rw [if_pos (by first | omega | decide)] | rw [if_neg (by first | omega | decide)]); try (simp [*]; done))

set_option maxHeartbeats 8000000 in
theorem rcheck_10t (k : Nat) (hk : k < 24) (hr : rg k = 1) (ht : tg k = 0) (hn : nb k = true) (A B C N p f : Int) (W : World) :
    Calls Tryd.prog 36 #[.agg #[.int .i64 k, .int .i64 A, .int .i64 B, .int .i64 C, .int .i64 N], .int .i64 p, .int .i64 f] W fun e W' => e = .returned (.int .i64 (chk 1 0 true A B C N p f)) ∧ Below W.heap.size W W' := by
  have hs := (Blk.new W 32 #[.int .i64 k, .int .i64 A, .int .i64 B, .int .i64 C, .int .i64 N])
  have n1 : ((k : Int) == 1) = true := (nb_in k hk).trans hn
  have n2 : ((k : Int) != 1) = false := by simp [bne, n1]
  have HS := Lib.hid hs
  clear hs hn
  have HR := Lib.hid hr
  have HT := Lib.hid ht
  clear hr ht
  go_enter Tryd.func36, Tryd.ntmps36
  go_wp2_with fail
  refine (is_in k hk _).mono ?_
  rintro e w1 ⟨rfl, hb1⟩
  have hB1 := HS.out.kept (Chg.ofBelow hb1) (by simp)
  have hz : W.heap.size < w1.heap.size := hB1.lt
  have hbw : Below W.heap.size W w1 := ((Below.refl _ _).alloc (Nat.le_refl _) _).trans (hb1.mono (by simp))
  have q0 := hB1.cell 0
  have q1 := hB1.cell 1
  have q2 := hB1.cell 2
  have q3 := hB1.cell 3
  have q4 := hB1.cell 4
  simp at q0 q1 q2 q3 q4
  have HBW := Lib.hid hbw
  clear hb1 hB1 hbw HS
  go_wp2_with (first | (go_at_call 48; refine (rregs_v k hk _ HR.out _).mono ?_; rintro e w2 ⟨rfl, rfl⟩) | (go_at_call 49; refine (rtarget_v k hk _ HT.out _).mono ?_; rintro e w2 ⟨rfl, rfl⟩))
  all_goals try (refine wp_loop_rounds 2 ?_; repeat any_goals (rw [rounds_succ]; (go_wp2_with (go_at_call 49; refine (rtarget_v k hk _ HT.out _).mono ?_; rintro e w2 ⟨rfl, rfl⟩))))
  all_goals try (refine wp_loop_rounds 3 ?_; repeat any_goals (rw [rounds_succ]; (go_wp2_with (go_at_call 49; refine (rtarget_v k hk _ HT.out _).mono ?_; rintro e w2 ⟨rfl, rfl⟩))))
  all_goals go_ret
  all_goals refine ⟨ret_int ?_, by repeat (first | exact HBW.out | refine Below.alloc ?_ (by first | omega | (simp; omega)) _)⟩
  all_goals (go_light; unfold chk; simp only [bne_iff_ne, ne_eq, bne_eq_false_iff_eq] at *; repeat (first | rfl | rw [if_pos (by first | omega | decide)] | rw [if_neg (by first | omega | decide)]); try (simp [*]; done))

set_option maxHeartbeats 8000000 in
theorem rcheck_30f (k : Nat) (hk : k < 24) (hr : rg k = 3) (ht : tg k = 0) (hn : nb k = false) (A B C N p f : Int) (W : World) :
    Calls Tryd.prog 36 #[.agg #[.int .i64 k, .int .i64 A, .int .i64 B, .int .i64 C, .int .i64 N], .int .i64 p, .int .i64 f] W fun e W' => e = .returned (.int .i64 (chk 3 0 false A B C N p f)) ∧ Below W.heap.size W W' := by
  have hs := (Blk.new W 32 #[.int .i64 k, .int .i64 A, .int .i64 B, .int .i64 C, .int .i64 N])
  have n1 : ((k : Int) == 1) = false := (nb_in k hk).trans hn
  have n2 : ((k : Int) != 1) = true := by simp [bne, n1]
  have HS := Lib.hid hs
  clear hs hn
  have HR := Lib.hid hr
  have HT := Lib.hid ht
  clear hr ht
  go_enter Tryd.func36, Tryd.ntmps36
  go_wp2_with fail
  refine (is_in k hk _).mono ?_
  rintro e w1 ⟨rfl, hb1⟩
  have hB1 := HS.out.kept (Chg.ofBelow hb1) (by simp)
  have hz : W.heap.size < w1.heap.size := hB1.lt
  have hbw : Below W.heap.size W w1 := ((Below.refl _ _).alloc (Nat.le_refl _) _).trans (hb1.mono (by simp))
  have q0 := hB1.cell 0
  have q1 := hB1.cell 1
  have q2 := hB1.cell 2
  have q3 := hB1.cell 3
  have q4 := hB1.cell 4
  simp at q0 q1 q2 q3 q4
  have HBW := Lib.hid hbw
  clear hb1 hB1 hbw HS
  go_wp2_with (first | (go_at_call 48; refine (rregs_v k hk _ HR.out _).mono ?_; rintro e w2 ⟨rfl, rfl⟩) | (go_at_call 49; refine (rtarget_v k hk _ HT.out _).mono ?_; rintro e w2 ⟨rfl, rfl⟩))
  all_goals try (refine wp_loop_rounds 4 ?_; repeat any_goals (rw [rounds_succ]; (go_wp2_with (go_at_call 49; refine (rtarget_v k hk _ HT.out _).mono ?_; rintro e w2 ⟨rfl, rfl⟩))))
  all_goals try (refine wp_loop_rounds 1 ?_; repeat any_goals (rw [rounds_succ]; (go_wp2_with (go_at_call 49; refine (rtarget_v k hk _ HT.out _).mono ?_; rintro e w2 ⟨rfl, rfl⟩))))
  all_goals go_ret
  all_goals refine ⟨ret_int ?_, by repeat (first | exact HBW.out | refine Below.alloc ?_ (by first | omega | (simp; omega)) _)⟩
  all_goals (go_light; unfold chk; simp only [bne_iff_ne, ne_eq, bne_eq_false_iff_eq] at *; repeat (first | rfl | rw [if_pos (by first | omega | decide)] | rw [if_neg (by first | omega | decide)]); try (simp [*]; done))

set_option maxHeartbeats 8000000 in
theorem rcheck_01f (k : Nat) (hk : k < 24) (hr : rg k = 0) (ht : tg k = 1) (hn : nb k = false) (A B C N p f : Int) (W : World) :
    Calls Tryd.prog 36 #[.agg #[.int .i64 k, .int .i64 A, .int .i64 B, .int .i64 C, .int .i64 N], .int .i64 p, .int .i64 f] W fun e W' => e = .returned (.int .i64 (chk 0 1 false A B C N p f)) ∧ Below W.heap.size W W' := by
  have hs := (Blk.new W 32 #[.int .i64 k, .int .i64 A, .int .i64 B, .int .i64 C, .int .i64 N])
  have n1 : ((k : Int) == 1) = false := (nb_in k hk).trans hn
  have n2 : ((k : Int) != 1) = true := by simp [bne, n1]
  have HS := Lib.hid hs
  clear hs hn
  have HR := Lib.hid hr
  have HT := Lib.hid ht
  clear hr ht
  go_enter Tryd.func36, Tryd.ntmps36
  go_wp2_with fail
  refine (is_in k hk _).mono ?_
  rintro e w1 ⟨rfl, hb1⟩
  have hB1 := HS.out.kept (Chg.ofBelow hb1) (by simp)
  have hz : W.heap.size < w1.heap.size := hB1.lt
  have hbw : Below W.heap.size W w1 := ((Below.refl _ _).alloc (Nat.le_refl _) _).trans (hb1.mono (by simp))
  have q0 := hB1.cell 0
  have q1 := hB1.cell 1
  have q2 := hB1.cell 2
  have q3 := hB1.cell 3
  have q4 := hB1.cell 4
  simp at q0 q1 q2 q3 q4
  have HBW := Lib.hid hbw
  clear hb1 hB1 hbw HS
  go_wp2_with (first | (go_at_call 48; refine (rregs_v k hk _ HR.out _).mono ?_; rintro e w2 ⟨rfl, rfl⟩) | (go_at_call 49; refine (rtarget_v k hk _ HT.out _).mono ?_; rintro e w2 ⟨rfl, rfl⟩))
  all_goals try (refine wp_loop_rounds 1 ?_; repeat any_goals (rw [rounds_succ]; (go_wp2_with (go_at_call 49; refine (rtarget_v k hk _ HT.out _).mono ?_; rintro e w2 ⟨rfl, rfl⟩))))
  all_goals try (refine wp_loop_rounds 4 ?_; repeat any_goals (rw [rounds_succ]; (go_wp2_with (go_at_call 49; refine (rtarget_v k hk _ HT.out _).mono ?_; rintro e w2 ⟨rfl, rfl⟩))))
  all_goals go_ret
  all_goals refine ⟨ret_int ?_, by repeat (first | exact HBW.out | refine Below.alloc ?_ (by first | omega | (simp; omega)) _)⟩
  all_goals (go_light; unfold chk; simp only [bne_iff_ne, ne_eq, bne_eq_false_iff_eq] at *; repeat (first | rfl | rw [if_pos (by first | omega | decide)] | rw [if_neg (by first | omega | decide)]); try (simp [*]; done))

set_option maxHeartbeats 8000000 in
theorem rcheck_11f (k : Nat) (hk : k < 24) (hr : rg k = 1) (ht : tg k = 1) (hn : nb k = false) (A B C N p f : Int) (W : World) :
    Calls Tryd.prog 36 #[.agg #[.int .i64 k, .int .i64 A, .int .i64 B, .int .i64 C, .int .i64 N], .int .i64 p, .int .i64 f] W fun e W' => e = .returned (.int .i64 (chk 1 1 false A B C N p f)) ∧ Below W.heap.size W W' := by
  have hs := (Blk.new W 32 #[.int .i64 k, .int .i64 A, .int .i64 B, .int .i64 C, .int .i64 N])
  have n1 : ((k : Int) == 1) = false := (nb_in k hk).trans hn
  have n2 : ((k : Int) != 1) = true := by simp [bne, n1]
  have HS := Lib.hid hs
  clear hs hn
  have HR := Lib.hid hr
  have HT := Lib.hid ht
  clear hr ht
  go_enter Tryd.func36, Tryd.ntmps36
  go_wp2_with fail
  refine (is_in k hk _).mono ?_
  rintro e w1 ⟨rfl, hb1⟩
  have hB1 := HS.out.kept (Chg.ofBelow hb1) (by simp)
  have hz : W.heap.size < w1.heap.size := hB1.lt
  have hbw : Below W.heap.size W w1 := ((Below.refl _ _).alloc (Nat.le_refl _) _).trans (hb1.mono (by simp))
  have q0 := hB1.cell 0
  have q1 := hB1.cell 1
  have q2 := hB1.cell 2
  have q3 := hB1.cell 3
  have q4 := hB1.cell 4
  simp at q0 q1 q2 q3 q4
  have HBW := Lib.hid hbw
  clear hb1 hB1 hbw HS
  go_wp2_with (first | (go_at_call 48; refine (rregs_v k hk _ HR.out _).mono ?_; rintro e w2 ⟨rfl, rfl⟩) | (go_at_call 49; refine (rtarget_v k hk _ HT.out _).mono ?_; rintro e w2 ⟨rfl, rfl⟩))
  all_goals try (refine wp_loop_rounds 2 ?_; repeat any_goals (rw [rounds_succ]; (go_wp2_with (go_at_call 49; refine (rtarget_v k hk _ HT.out _).mono ?_; rintro e w2 ⟨rfl, rfl⟩))))
  all_goals try (refine wp_loop_rounds 3 ?_; repeat any_goals (rw [rounds_succ]; (go_wp2_with (go_at_call 49; refine (rtarget_v k hk _ HT.out _).mono ?_; rintro e w2 ⟨rfl, rfl⟩))))
  all_goals go_ret
  all_goals refine ⟨ret_int ?_, by repeat (first | exact HBW.out | refine Below.alloc ?_ (by first | omega | (simp; omega)) _)⟩
  all_goals (go_light; unfold chk; simp only [bne_iff_ne, ne_eq, bne_eq_false_iff_eq] at *; repeat (first | rfl | rw [if_pos (by first | omega | decide)] | rw [if_neg (by first | omega | decide)]); try (simp [*]; done))

set_option maxHeartbeats 8000000 in
theorem rcheck_02f (k : Nat) (hk : k < 24) (hr : rg k = 0) (ht : tg k = 2) (hn : nb k = false) (A B C N p f : Int) (W : World) :
    Calls Tryd.prog 36 #[.agg #[.int .i64 k, .int .i64 A, .int .i64 B, .int .i64 C, .int .i64 N], .int .i64 p, .int .i64 f] W fun e W' => e = .returned (.int .i64 (chk 0 2 false A B C N p f)) ∧ Below W.heap.size W W' := by
  have hs := (Blk.new W 32 #[.int .i64 k, .int .i64 A, .int .i64 B, .int .i64 C, .int .i64 N])
  have n1 : ((k : Int) == 1) = false := (nb_in k hk).trans hn
  have n2 : ((k : Int) != 1) = true := by simp [bne, n1]
  have HS := Lib.hid hs
  clear hs hn
  have HR := Lib.hid hr
  have HT := Lib.hid ht
  clear hr ht
  go_enter Tryd.func36, Tryd.ntmps36
  go_wp2_with fail
  refine (is_in k hk _).mono ?_
  rintro e w1 ⟨rfl, hb1⟩
  have hB1 := HS.out.kept (Chg.ofBelow hb1) (by simp)
  have hz : W.heap.size < w1.heap.size := hB1.lt
  have hbw : Below W.heap.size W w1 := ((Below.refl _ _).alloc (Nat.le_refl _) _).trans (hb1.mono (by simp))
  have q0 := hB1.cell 0
  have q1 := hB1.cell 1
  have q2 := hB1.cell 2
  have q3 := hB1.cell 3
  have q4 := hB1.cell 4
  simp at q0 q1 q2 q3 q4
  have HBW := Lib.hid hbw
  clear hb1 hB1 hbw HS
  go_wp2_with (first | (go_at_call 48; refine (rregs_v k hk _ HR.out _).mono ?_; rintro e w2 ⟨rfl, rfl⟩) | (go_at_call 49; refine (rtarget_v k hk _ HT.out _).mono ?_; rintro e w2 ⟨rfl, rfl⟩))
  all_goals try (refine wp_loop_rounds 1 ?_; repeat any_goals (rw [rounds_succ]; (go_wp2_with (go_at_call 49; refine (rtarget_v k hk _ HT.out _).mono ?_; rintro e w2 ⟨rfl, rfl⟩))))
  all_goals try (refine wp_loop_rounds 4 ?_; repeat any_goals (rw [rounds_succ]; (go_wp2_with (go_at_call 49; refine (rtarget_v k hk _ HT.out _).mono ?_; rintro e w2 ⟨rfl, rfl⟩))))
  all_goals go_ret
  all_goals refine ⟨ret_int ?_, by repeat (first | exact HBW.out | refine Below.alloc ?_ (by first | omega | (simp; omega)) _)⟩
  all_goals (go_light; unfold chk; simp only [bne_iff_ne, ne_eq, bne_eq_false_iff_eq] at *; repeat (first | rfl | rw [if_pos (by first | omega | decide)] | rw [if_neg (by first | omega | decide)]); try (simp [*]; done))

set_option maxHeartbeats 8000000 in
theorem rcheck_12f (k : Nat) (hk : k < 24) (hr : rg k = 1) (ht : tg k = 2) (hn : nb k = false) (A B C N p f : Int) (W : World) :
    Calls Tryd.prog 36 #[.agg #[.int .i64 k, .int .i64 A, .int .i64 B, .int .i64 C, .int .i64 N], .int .i64 p, .int .i64 f] W fun e W' => e = .returned (.int .i64 (chk 1 2 false A B C N p f)) ∧ Below W.heap.size W W' := by
  have hs := (Blk.new W 32 #[.int .i64 k, .int .i64 A, .int .i64 B, .int .i64 C, .int .i64 N])
  have n1 : ((k : Int) == 1) = false := (nb_in k hk).trans hn
  have n2 : ((k : Int) != 1) = true := by simp [bne, n1]
  have HS := Lib.hid hs
  clear hs hn
  have HR := Lib.hid hr
  have HT := Lib.hid ht
  clear hr ht
  go_enter Tryd.func36, Tryd.ntmps36
  go_wp2_with fail
  refine (is_in k hk _).mono ?_
  rintro e w1 ⟨rfl, hb1⟩
  have hB1 := HS.out.kept (Chg.ofBelow hb1) (by simp)
  have hz : W.heap.size < w1.heap.size := hB1.lt
  have hbw : Below W.heap.size W w1 := ((Below.refl _ _).alloc (Nat.le_refl _) _).trans (hb1.mono (by simp))
  have q0 := hB1.cell 0
  have q1 := hB1.cell 1
  have q2 := hB1.cell 2
  have q3 := hB1.cell 3
  have q4 := hB1.cell 4
  simp at q0 q1 q2 q3 q4
  have HBW := Lib.hid hbw
  clear hb1 hB1 hbw HS
  go_wp2_with (first | (go_at_call 48; refine (rregs_v k hk _ HR.out _).mono ?_; rintro e w2 ⟨rfl, rfl⟩) | (go_at_call 49; refine (rtarget_v k hk _ HT.out _).mono ?_; rintro e w2 ⟨rfl, rfl⟩))
  all_goals try (refine wp_loop_rounds 2 ?_; repeat any_goals (rw [rounds_succ]; (go_wp2_with (go_at_call 49; refine (rtarget_v k hk _ HT.out _).mono ?_; rintro e w2 ⟨rfl, rfl⟩))))
  all_goals try (refine wp_loop_rounds 3 ?_; repeat any_goals (rw [rounds_succ]; (go_wp2_with (go_at_call 49; refine (rtarget_v k hk _ HT.out _).mono ?_; rintro e w2 ⟨rfl, rfl⟩))))
  all_goals go_ret
  all_goals refine ⟨ret_int ?_, by repeat (first | exact HBW.out | refine Below.alloc ?_ (by first | omega | (simp; omega)) _)⟩
  all_goals (go_light; unfold chk; simp only [bne_iff_ne, ne_eq, bne_eq_false_iff_eq] at *; repeat (first | rfl | rw [if_pos (by first | omega | decide)] | rw [if_neg (by first | omega | decide)]); try (simp [*]; done))

set_option maxHeartbeats 8000000 in
theorem rcheck_10f (k : Nat) (hk : k < 24) (hr : rg k = 1) (ht : tg k = 0) (hn : nb k = false) (A B C N p f : Int) (W : World) :
    Calls Tryd.prog 36 #[.agg #[.int .i64 k, .int .i64 A, .int .i64 B, .int .i64 C, .int .i64 N], .int .i64 p, .int .i64 f] W fun e W' => e = .returned (.int .i64 (chk 1 0 false A B C N p f)) ∧ Below W.heap.size W W' := by
  have hs := (Blk.new W 32 #[.int .i64 k, .int .i64 A, .int .i64 B, .int .i64 C, .int .i64 N])
  have n1 : ((k : Int) == 1) = false := (nb_in k hk).trans hn
  have n2 : ((k : Int) != 1) = true := by simp [bne, n1]
  have HS := Lib.hid hs
  clear hs hn
  have HR := Lib.hid hr
  have HT := Lib.hid ht
  clear hr ht
  go_enter Tryd.func36, Tryd.ntmps36
  go_wp2_with fail
  refine (is_in k hk _).mono ?_
  rintro e w1 ⟨rfl, hb1⟩
  have hB1 := HS.out.kept (Chg.ofBelow hb1) (by simp)
  have hz : W.heap.size < w1.heap.size := hB1.lt
  have hbw : Below W.heap.size W w1 := ((Below.refl _ _).alloc (Nat.le_refl _) _).trans (hb1.mono (by simp))
  have q0 := hB1.cell 0
  have q1 := hB1.cell 1
  have q2 := hB1.cell 2
  have q3 := hB1.cell 3
  have q4 := hB1.cell 4
  simp at q0 q1 q2 q3 q4
  have HBW := Lib.hid hbw
  clear hb1 hB1 hbw HS
  go_wp2_with (first | (go_at_call 48; refine (rregs_v k hk _ HR.out _).mono ?_; rintro e w2 ⟨rfl, rfl⟩) | (go_at_call 49; refine (rtarget_v k hk _ HT.out _).mono ?_; rintro e w2 ⟨rfl, rfl⟩))
  all_goals try (refine wp_loop_rounds 2 ?_; repeat any_goals (rw [rounds_succ]; (go_wp2_with (go_at_call 49; refine (rtarget_v k hk _ HT.out _).mono ?_; rintro e w2 ⟨rfl, rfl⟩))))
  all_goals try (refine wp_loop_rounds 3 ?_; repeat any_goals (rw [rounds_succ]; (go_wp2_with (go_at_call 49; refine (rtarget_v k hk _ HT.out _).mono ?_; rintro e w2 ⟨rfl, rfl⟩))))
  all_goals go_ret
  all_goals refine ⟨ret_int ?_, by repeat (first | exact HBW.out | refine Below.alloc ?_ (by first | omega | (simp; omega)) _)⟩
  all_goals (go_light; unfold chk; simp only [bne_iff_ne, ne_eq, bne_eq_false_iff_eq] at *; repeat (first | rfl | rw [if_pos (by first | omega | decide)] | rw [if_neg (by first | omega | decide)]); try (simp [*]; done))
end Go.Proofs.YthdkbofnplnidaaDoor
