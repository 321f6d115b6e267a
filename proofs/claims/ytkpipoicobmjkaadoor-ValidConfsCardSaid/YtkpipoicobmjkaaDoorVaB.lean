/- Contracts: what is wrong with the example's program. -/
import Derived.Test.YtkpipoicobmjkaaDoorIsaV
namespace Go.Proofs.YtkpipoicobmjkaaDoor
open Go.ChangeShapes Go.WideShapes Go.ChangeAt Go.RowKit Go.Deep
set_option linter.unusedVariables false

theorem Chg.ofB {W W' : World} (h : Below W.heap.size W W') : Chg (fun _ => False) W W' := (Chg.ofBelow h).mono (fun k hk h => absurd (show W.heap.size ≤ k from h) (by omega))
theorem Chg.toB {W W' : World} (h : Chg (fun _ => False) W W') : Below W.heap.size W W' := h.below (Nat.le_refl _) (fun _ _ h => h.elim)
theorem Tab.chg {W W' : World} (h : Tab W) (hc : Chg (fun _ => False) W W') : Tab W' := h.below hc.toB
abbrev codeB : Array Value := #[.int .i64 11, .int .i64 0, .int .i64 0, .int .i64 0, .int .i64 0, .int .i64 14, .int .i64 0, .int .i64 0, .int .i64 0, .int .i64 0]
set_option maxHeartbeats 1000000 in
theorem wait0 (C S B : Nat) (W : World) (hT : Tab W) (hC : Blk W C 43 codeB) (hB : Blk W B 33 #[.slice (some ⟨C, 0, none⟩) 2 2, .slice (some ⟨S, 0, none⟩) 2 2]) :
    Calls Tryd.prog 30 (#[.int .i64 0] ++ #[.pointer (some ⟨B, 0, none⟩)]) W fun e W' => e = .returned (.bool true) ∧ Chg (fun _ => False) W W' := by
  have b0 := hB.cell 0
  have c0 := hC.cell 0
  simp at b0 c0
  have HW := Lib.hid (waits_in 11 (by decide) W hT)
  rw [show ((11 : Nat) : Int) = 11 from rfl, show wt 11 = true from rfl] at HW
  clear hT
  go_enter Tryd.func30, Tryd.ntmps30
  go_wp2_with (go_at_call 31; refine HW.out.mono ?_; rintro e w1 ⟨rfl, hb⟩)
  go_ret
  exact ⟨rfl, Chg.ofB hb⟩
set_option maxHeartbeats 1000000 in
theorem wait1 (C S B : Nat) (W : World) (hT : Tab W) (hC : Blk W C 43 codeB) (hB : Blk W B 33 #[.slice (some ⟨C, 0, none⟩) 2 2, .slice (some ⟨S, 0, none⟩) 2 2]) :
    Calls Tryd.prog 30 (#[.int .i64 1] ++ #[.pointer (some ⟨B, 0, none⟩)]) W fun e W' => e = .returned (.bool false) ∧ Chg (fun _ => False) W W' := by
  have b0 := hB.cell 0
  have c5 := hC.cell 5
  simp at b0 c5
  have HW := Lib.hid (waits_in 14 (by decide) W hT)
  rw [show ((14 : Nat) : Int) = 14 from rfl, show wt 14 = false from rfl] at HW
  clear hT
  go_enter Tryd.func30, Tryd.ntmps30
  go_wp2_with (go_at_call 31; refine HW.out.mono ?_; rintro e w1 ⟨rfl, hb⟩)
  go_ret
  exact ⟨rfl, Chg.ofB hb⟩
theorem chk0 : chk 0 0 false 0 0 0 0 2 1 = 0 := by decide
theorem isa0 (W : World) (hT : Tab W) : Calls Tryd.prog 26 #[.agg #[.int .i64 11, .int .i64 0, .int .i64 0, .int .i64 0, .int .i64 0], .int .i64 2, .int .i64 1] W fun e W' => e = .returned (.int .i64 0) ∧ Chg (fun _ => False) W W' := by
  have h := check_00f 11 (by decide) rfl rfl rfl 0 0 0 0 2 1 W hT
  rw [chk0] at h
  exact h.mono fun e W' h => ⟨h.1, Chg.ofB h.2⟩
theorem isa1 (W : World) (hT : Tab W) : Calls Tryd.prog 26 #[.agg #[.int .i64 14, .int .i64 0, .int .i64 0, .int .i64 0, .int .i64 0], .int .i64 2, .int .i64 1] W fun e W' => e = .returned (.int .i64 0) ∧ Chg (fun _ => False) W W' := by
  have h := check_00f 14 (by decide) rfl rfl rfl 0 0 0 0 2 1 W hT
  rw [chk0] at h
  exact h.mono fun e W' h => ⟨h.1, Chg.ofB h.2⟩
theorem ends1 (W : World) (hT : Tab W) : Calls Tryd.prog 27 #[.int .i64 14] W fun e W' => e = .returned (.bool true) ∧ Chg (fun _ => False) W W' :=
  (ends_in 14 (by decide) W hT).mono fun e W' h => ⟨h.1, Chg.ofB h.2⟩
end Go.Proofs.YtkpipoicobmjkaaDoor
