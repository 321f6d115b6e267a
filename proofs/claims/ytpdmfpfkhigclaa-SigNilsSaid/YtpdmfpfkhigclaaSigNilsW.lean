/- The chapter's example; the walk of the law SigNils. -/
import Derived.Test.YtpdmfpfkhigclaaSigB
namespace Go.Proofs.Ytpdmfpfkhigclaa
open Go.ChangeShapes Go.WideShapes Go.ChangeAt Go.RowKit Go.Deep
set_option linter.unusedVariables false

set_option maxRecDepth 100000 in
set_option maxHeartbeats 4000000 in
theorem next_one (W : World) (b L : Nat) (c : Nat) (x y : Int) (h0 : W.cell? ⟨b, 0, none⟩ = some (.slice (some ⟨L, 0, none⟩) 1 c)) (hb : b < W.heap.size) (hL : L < W.heap.size) (hx : W.cell? ⟨L, 0, none⟩ = some (.int .i64 x)) (hy : W.cell? ⟨L, 1, none⟩ = some (.int .i64 y)) :
    Calls Try.prog 12 #[.pointer (some ⟨b, 0, none⟩)] W fun e W' => e = .returned (.tuple #[.int .i64 x, .int .i64 y, .bool true]) ∧ ∃ q, W' = (W.alloc (.cells #[.int .i64 x, .int .i64 y] 52)).drewN q := by
  go_enter Try.func12, Try.ntmps12
  go_wp2_with (first
    | (go_at_call 13; go_in)
    | (go_at_call 24; go_in))
  go_quiet (fail)
  go_wp2_with fail
  refine bodyPost_ret (v := .tuple #[.int .i64 x, .int .i64 y, .bool true]) (by simp [results, Try.results12, go_sem]) rfl ⟨rfl, _, rfl⟩
set_option maxRecDepth 100000 in
set_option maxHeartbeats 4000000 in
theorem send_again (W : World) (b L c : Nat) (h0 : W.cell? ⟨b, 0, none⟩ = some (.slice (some ⟨L, 0, none⟩) 1 c)) (h2 : W.cell? ⟨b, 2, none⟩ = some (.int .i64 1)) (hb : b < W.heap.size) (hL : L < W.heap.size) (hbL : b ≠ L) (hf : W.frozen? ⟨L, 1, none⟩ = false) (hy : W.cell? ⟨L, 1, none⟩ = some (.int .i64 5)) :
    Calls Try.prog 10 #[.pointer (some ⟨b, 0, none⟩), .int .i64 1, .int .i64 3] W fun e W' => e = .returned (.bool false) ∧ W' = W.setCell ⟨L, 1, none⟩ (.int .i64 3) := by
  have hx := Lib.hid (fix_one (W.setCell ⟨L, 1, none⟩ (.int .i64 3)) b (some ⟨L, 0, none⟩) c (by rw [World.cell?_setCell_other _ _ _ _ (by simp [hbL])]; exact h0) (by simpa [World.setCell] using hb))
  go_enter Try.func10, Try.ntmps10
  go_wp2_with (first
    | (go_at_call 20; go_in)
    | (go_at_call 22; refine hx.out.mono ?_; rintro e w1 ⟨rfl, rfl⟩))
  go_ret
  exact ⟨rfl, rfl⟩
set_option maxRecDepth 100000 in
set_option maxHeartbeats 4000000 in
theorem alive_any (w : World) : Calls Try.prog 6 #[] w fun e w' => e = .returned (.bool true) ∧ Below w.heap.size w w' := by
  have hs1 := Lib.hid (send_first (w.alloc (.cells Try.zeroCells46 46)) (w.heap.size + 1) w.heap.size Try.zeroCells46 1 5 (Blk.new _ _ _) zc_size zc_0 zc_2 (by omega) (by simp))
  go_enter Try.func6, Try.ntmps6
  go_wp2_with (go_at_call 7; refine (new_any _).mono ?_; rintro e w1 ⟨rfl, rfl⟩)
  refine hs1.out.mono ?_
  rintro e w1 ⟨rfl, A, c, hB, hR, hc⟩
  obtain ⟨L, cur, rfl, hL, hLb, hLB, c0, c1⟩ := pair_cells hR
  have hb := hB.lt
  have e0 := (hB.cell 0).trans (at0 zc_size)
  have e1 := (hB.cell (1 + 1)).trans (atm zc_size (by omega))
  have hf := hLB.frozen 1
  have hbL : w.heap.size ≠ L := by omega
  have hLb2 : ¬ L = w.heap.size := by omega
  have hb1 : Below w.heap.size w w1 := ((Below.refl _ _).alloc (Nat.le_refl _) _).trans (hc.below (by simp) (fun k _ h => by rw [h]; exact Nat.le_refl _))
  have HB := Lib.hid hb1
  clear hB hR hc hLB hb1 hs1
  go_wp2_with fail
  refine (send_again w1 w.heap.size L c e0 e1 hb hL hbL hf c1).mono ?_
  rintro e w2 ⟨rfl, rfl⟩
  have hl2 : L < (w1.setCell ⟨L, 1, none⟩ (.int .i64 3)).heap.size := by simpa [World.setCell] using hL
  have hb2 : w.heap.size < (w1.setCell ⟨L, 1, none⟩ (.int .i64 3)).heap.size := by simpa [World.setCell] using hb
  have d0 : (w1.setCell ⟨L, 1, none⟩ (.int .i64 3)).cell? ⟨w.heap.size, 0, none⟩ = some (.slice (some ⟨L, 0, none⟩) 1 c) := by rw [World.cell?_setCell_other _ _ _ _ (by simp [hbL])]; exact e0
  have d1 : (w1.setCell ⟨L, 1, none⟩ (.int .i64 3)).cell? ⟨L, 0, none⟩ = some (.int .i64 1) := by rw [World.cell?_setCell_other _ _ _ _ (by simp)]; exact c0
  have d2 : (w1.setCell ⟨L, 1, none⟩ (.int .i64 3)).cell? ⟨L, 1, none⟩ = some (.int .i64 3) := World.cell?_setCell_same' _ _ _ (by rw [c1]; rfl)
  have HB2 := Lib.hid (HB.out.setCell (p := ⟨L, 1, none⟩) (by show w.heap.size ≤ L; omega) (.int .i64 3))
  obtain ⟨V, hV⟩ : ∃ V, V = w1.setCell ⟨L, 1, none⟩ (.int .i64 3) := ⟨_, rfl⟩
  rw [← hV] at hl2 hb2 d0 d1 d2 HB2 ⊢
  clear hV e0 e1 c0 c1 hf hL hb HB
  go_wp2_with (first
    | (go_at_call 12; refine (next_one V w.heap.size L c 1 3 d0 hb2 hl2 d1 d2).mono ?_; rintro e w3 ⟨rfl, q, rfl⟩)
    | (go_at_call 13; go_in)
    | (go_at_call 24; go_in))
  go_ret
  exact ⟨rfl, belowN (HB2.out.alloc (Nat.le_of_lt hb2) _) _⟩
set_option maxHeartbeats 4000000 in
theorem take_nil (n : Int) (w : World) : Calls Try.prog 14 #[.pointer none, .int .i64 n] w fun e w' => e = .returned (.slice none 0 0) ∧ Below w.heap.size w w' := by
  have hmf : ∀ (fn : Fn) (first cap : Array Value) (W : World), (Instr.makeFunc fn first cap).run Try.prog W = .ok (.func fn first cap) W := fun _ _ _ _ => rfl
  go_enter Try.func14, Try.ntmps14
  go_wp2
  go_step3
  go_wp2
  go_step3
  go_wp2
  refine wp_loop_rounds 1 ?_
  rw [rounds_succ]
  go_wp2_with (first
    | (go_at_call 12; go_in)
    | (go_at_call 13; go_in))
  all_goals (first | (rw [Exit.noGoto_ret]; go_ret; exact ⟨rfl, Below.refl _ _⟩) | trace_state)
set_option maxHeartbeats 4000000 in
theorem walk_sigNils (a0 a1 : Int) (w : World) (w0 : (Lit.int .i64 a0).wf = true) (w1 : (Lit.int .i64 a1).wf = true) :
    Calls Try.prog 5 #[.int .i64 a0, .int .i64 a1] w fun e w' => e = .returned (.bool true) ∧ Below w.heap.size w w' := by
  clear w0 w1
  go_enter Try.func5, Try.ntmps5
  go_wp2_with (first
    | (go_at_call 6; refine (alive_any _).mono ?_; rintro e w' ⟨rfl, hb⟩)
    | (go_at_call 12; go_in)
    | (go_at_call 13; go_in)
    | (go_at_call 10; go_in)
    | (go_at_call 11; go_in)
    | (go_at_call 20; go_in)
    | (go_at_call 14; refine (take_nil _ _).mono ?_; rintro e w2 ⟨rfl, hb0⟩; have HB0 := Lib.hid hb0; clear hb0)
    | (go_at_call 15; go_in))
  go_ret
  exact ⟨rfl, HB0.out.trans (hb.mono HB0.out.size)⟩
end Go.Proofs.Ytpdmfpfkhigclaa
