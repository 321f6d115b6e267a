/- The walks of the laws IsaLooks, IsaChecks. -/
import Derived.Test.YthdhngefilebgaaDoorIsaF
namespace Go.Proofs.YthdhngefilebgaaDoor
open Go.ChangeShapes Go.WideShapes Go.ChangeAt Go.RowKit Go.Deep
set_option linter.unusedVariables false

theorem rwaits_v (k : Nat) (hk : k < 24) (W : World) : Calls Tryd.prog 19 #[.int .i64 k] W fun e W' => e = .returned (.bool (wt k)) ∧ W = W' := by rw [← wt_in k hk]; exact rwaits_any k W
theorem rends_v (k : Nat) (hk : k < 24) (W : World) : Calls Tryd.prog 21 #[.int .i64 k] W fun e W' => e = .returned (.bool (en k)) ∧ W = W' := by rw [← en_in k hk]; exact rends_any k W
theorem rasks_v (k : Nat) (hk : k < 24) (W : World) : Calls Tryd.prog 23 #[.int .i64 k] W fun e W' => e = .returned (.bool (ak k)) ∧ W = W' := by rw [← ak_in k hk]; exact rasks_any k W
theorem rgF_out {op : Int} (h : op < 0 ∨ 24 ≤ op) : rgF op = 0 := by unfold rgF; rw [if_neg (by omega), if_neg (by omega)]
theorem tgF_out {op : Int} (h : op < 0 ∨ 24 ≤ op) : tgF op = 0 := by unfold tgF; rw [if_neg (by omega), if_neg (by omega)]
theorem rregs_o (op : Int) (h : op < 0 ∨ 24 ≤ op) (W : World) : Calls Tryd.prog 14 #[.int .i64 op] W fun e W' => e = .returned (.int .i64 0) ∧ W = W' := by rw [← rgF_out h]; exact rregs_any op W
theorem rtarget_o (op : Int) (h : op < 0 ∨ 24 ≤ op) (W : World) : Calls Tryd.prog 16 #[.int .i64 op] W fun e W' => e = .returned (.int .i64 0) ∧ W = W' := by rw [← tgF_out h]; exact rtarget_any op W

set_option maxHeartbeats 4000000 in
theorem looks_in (k : Nat) (hk : k < 24) (W : World) (hT : Tab W) : Calls Tryd.prog 4 #[.int .i64 k] W fun e W' => e = .returned (.bool true) ∧ Below W.heap.size W W' := by
  have n1 : ((k : Int) == 1) = nb k := nb_in k hk
  have HT0 := Lib.hid hT
  have HB0 := Lib.hid (Below.refl W.heap.size W)
  have HN := Lib.hid n1
  clear hT n1
  go_enter Tryd.func4, Tryd.ntmps4
  go_wp2_with fail
  refine (is_in k hk _).mono ?_
  rintro e w1 ⟨rfl, hb1⟩
  have HT1 := Lib.hid (HT0.out.below hb1)
  have HB1 := Lib.hid (HB0.out.trans (hb1.mono HB0.out.size))
  clear hb1 HT0 HB0
  go_wp2_with fail
  refine (regs_in k hk _ HT1.out).mono ?_
  rintro e w2 ⟨rfl, hb2⟩
  have HT2 := Lib.hid (HT1.out.below hb2)
  have HB2 := Lib.hid (HB1.out.trans (hb2.mono HB1.out.size))
  clear hb2 HT1 HB1
  go_wp2_with fail
  refine (rregs_v k hk _ rfl _).mono ?_
  rintro e w' ⟨rfl, rfl⟩
  go_wp2_with fail
  refine (target_in k hk _ HT2.out).mono ?_
  rintro e w3 ⟨rfl, hb3⟩
  have HT3 := Lib.hid (HT2.out.below hb3)
  have HB3 := Lib.hid (HB2.out.trans (hb3.mono HB2.out.size))
  clear hb3 HT2 HB2
  go_wp2_with fail
  refine (rtarget_v k hk _ rfl _).mono ?_
  rintro e w' ⟨rfl, rfl⟩
  go_wp2_with fail
  refine (number_in k hk _ HT3.out).mono ?_
  rintro e w4 ⟨rfl, hb4⟩
  have HT4 := Lib.hid (HT3.out.below hb4)
  have HB4 := Lib.hid (HB3.out.trans (hb4.mono HB3.out.size))
  clear hb4 HT3 HB3
  have n1 := HN.out
  go_wp2_with fail
  refine (waits_in k hk _ HT4.out).mono ?_
  rintro e w5 ⟨rfl, hb5⟩
  have HT5 := Lib.hid (HT4.out.below hb5)
  have HB5 := Lib.hid (HB4.out.trans (hb5.mono HB4.out.size))
  clear hb5 HT4 HB4
  go_wp2_with fail
  refine (rwaits_v k hk _).mono ?_
  rintro e w' ⟨rfl, rfl⟩
  go_wp2_with fail
  refine (ends_in k hk _ HT5.out).mono ?_
  rintro e w6 ⟨rfl, hb6⟩
  have HT6 := Lib.hid (HT5.out.below hb6)
  have HB6 := Lib.hid (HB5.out.trans (hb6.mono HB5.out.size))
  clear hb6 HT5 HB5
  go_wp2_with fail
  refine (rends_v k hk _).mono ?_
  rintro e w' ⟨rfl, rfl⟩
  go_wp2_with fail
  refine (asks_in k hk _ HT6.out).mono ?_
  rintro e w7 ⟨rfl, hb7⟩
  have HT7 := Lib.hid (HT6.out.below hb7)
  have HB7 := Lib.hid (HB6.out.trans (hb7.mono HB6.out.size))
  clear hb7 HT6 HB6
  go_wp2_with fail
  refine (rasks_v k hk _).mono ?_
  rintro e w' ⟨rfl, rfl⟩
  go_wp2_with fail
  refine (alive_any _ HT7.out).mono ?_
  rintro e w8 ⟨rfl, hb8⟩
  go_wp2
  go_ret
  exact ⟨rfl, HB7.out.trans (hb8.mono HB7.out.size)⟩

set_option maxHeartbeats 4000000 in
theorem looks_out (op : Int) (h : op < 0 ∨ 24 ≤ op) (W : World) (hT : Tab W) : Calls Tryd.prog 4 #[.int .i64 op] W fun e W' => e = .returned (.bool true) ∧ Below W.heap.size W W' := by
  have n1 : (op == 1) = false := by simp; omega
  have HT0 := Lib.hid hT
  have HB0 := Lib.hid (Below.refl W.heap.size W)
  have H := Lib.hid h
  clear hT h
  go_enter Tryd.func4, Tryd.ntmps4
  go_wp2_with fail
  refine (is_out op H.out _).mono ?_
  rintro e w1 ⟨rfl, hb1⟩
  have HT1 := Lib.hid (HT0.out.below hb1)
  have HB1 := Lib.hid (HB0.out.trans (hb1.mono HB0.out.size))
  clear hb1 HT0 HB0
  go_wp2_with fail
  refine (regs_out op H.out _).mono ?_
  rintro e w2 ⟨rfl, hb2⟩
  have HT2 := Lib.hid (HT1.out.below hb2)
  have HB2 := Lib.hid (HB1.out.trans (hb2.mono HB1.out.size))
  clear hb2 HT1 HB1
  go_wp2_with fail
  refine (rregs_o op H.out _).mono ?_
  rintro e w' ⟨rfl, rfl⟩
  go_wp2_with fail
  refine (target_out op H.out _).mono ?_
  rintro e w3 ⟨rfl, hb3⟩
  have HT3 := Lib.hid (HT2.out.below hb3)
  have HB3 := Lib.hid (HB2.out.trans (hb3.mono HB2.out.size))
  clear hb3 HT2 HB2
  go_wp2_with fail
  refine (rtarget_o op H.out _).mono ?_
  rintro e w' ⟨rfl, rfl⟩
  go_wp2_with fail
  refine (number_out op H.out _).mono ?_
  rintro e w4 ⟨rfl, hb4⟩
  have HT4 := Lib.hid (HT3.out.below hb4)
  have HB4 := Lib.hid (HB3.out.trans (hb4.mono HB3.out.size))
  clear hb4 HT3 HB3
  go_wp2_with fail
  refine (waits_out op H.out _).mono ?_
  rintro e w5 ⟨rfl, hb5⟩
  have HT5 := Lib.hid (HT4.out.below hb5)
  have HB5 := Lib.hid (HB4.out.trans (hb5.mono HB4.out.size))
  clear hb5 HT4 HB4
  go_wp2_with fail
  refine (ends_out op H.out _).mono ?_
  rintro e w6 ⟨rfl, hb6⟩
  have HT6 := Lib.hid (HT5.out.below hb6)
  have HB6 := Lib.hid (HB5.out.trans (hb6.mono HB5.out.size))
  clear hb6 HT5 HB5
  go_wp2_with fail
  refine (asks_out op H.out _).mono ?_
  rintro e w7 ⟨rfl, hb7⟩
  have HT7 := Lib.hid (HT6.out.below hb7)
  have HB7 := Lib.hid (HB6.out.trans (hb7.mono HB6.out.size))
  clear hb7 HT6 HB6
  go_wp2_with fail
  refine (alive_any _ HT7.out).mono ?_
  rintro e w8 ⟨rfl, hb8⟩
  go_wp2
  go_ret
  exact ⟨rfl, HB7.out.trans (hb8.mono HB7.out.size)⟩

theorem walk_isaLooks (a0 : Int) (w : World) (w0 : (Lit.int .i64 a0).wf = true) (hL : laidMetH Tryd.prog Rows.isaLooksRow.laid w) :
    Calls Tryd.prog 4 #[.int .i64 a0] w fun e w' => e = .returned (.bool true) ∧ Below w.heap.size w w' := by
  have hT : Tab w := tab_of_laid hL
  rcases in_out a0 with ⟨k, rfl, hk⟩ | h
  · exact looks_in k hk w hT
  · exact looks_out a0 h w hT
end Go.Proofs.YthdhngefilebgaaDoor
