/- The chapter's example of shared cells; what nil cells say; the walk of the law CellsNils. -/
import Derived.Test.YthhhphmjohekgaaAcc
namespace Go.Proofs.Ythhhphmjohekgaa
open Go.ChangeShapes Go.WideShapes Go.ChangeAt Go.RowKit
set_option linter.unusedVariables false

theorem belowN {B : Nat} {a w : World} (h : Below B a w) (n : Nat) : Below B a (w.drewN n) := ⟨h.os, h.tape, h.output, h.size, h.block⟩
theorem Cel.farG {W : World} {L R g : Nat} {v n : Int} (h : Cel W L R v n) (h1 : g ≠ L) (h2 : g ≠ R) (i : Nat) (u : Value) : Cel (W.setCell ⟨g, i, none⟩ u) L R v n := h.far h1 h2 u

theorem new_1 (W : World) : Calls Try.prog 7 #[.int .i64 1] W fun e W' => e = .returned (.pointer (some ⟨W.heap.size + 1, 0, none⟩)) ∧ W' = (W.alloc (.cells #[.int .i64 0] 2)).alloc (.cells #[.slice (some ⟨W.heap.size, 0, none⟩) 1 1, .int .i64 0] 44) := by
  have hmk : ∀ W : World, (Instr.makeSlice 26 (.int .i64 1) (.int .i64 1)).run Try.prog W = .ok (.slice (some ⟨W.heap.size, 0, none⟩) 1 1) (W.alloc (.cells #[.int .i64 0] 2)) := fun _ => by kernel_rfl
  go_enter Try.func7, Try.ntmps7
  go_wp2
  go_ret
  exact ⟨rfl, rfl⟩

/-- What a call on the cell at L leaves. -/
def After (W W' : World) (B L R : Nat) (v n : Int) : Prop := Cel W' L R v n ∧ Below B W W'

set_option maxHeartbeats 1000000 in
theorem cas_hit (B L R : Nat) (v x n : Int) (W : World) (hC : Cel W L R v n) (hB : B ≤ L) (hB2 : B ≤ R) (hn0 : 0 ≤ n) (hn1 : n < 1000) :
    Calls Try.prog 16 #[.pointer (some ⟨L, 0, none⟩), .int .i64 0, .int .i64 v, .int .i64 x] W fun e W' => e = .returned (.bool true) ∧ After W W' B L R x (n + 1) := by
  have hmf : ∀ (fn : Fn) (first cap : Array Value) (W : World), (Instr.makeFunc fn first cap).run Try.prog W = .ok (.func fn first cap) W := fun _ _ _ _ => rfl
  have hlt := hC.lt
  have n1 : W.heap.size + 2 ≠ R := by omega
  have n2 : W.heap.size + 1 ≠ R := by omega
  have n3 : W.heap.size + 2 ≠ L := by omega
  have hC3 := ((hC.alloc (.cells #[.int .i64 v] 2)).alloc (.cells #[.int .i64 x] 2)).alloc (.cells #[.bool false] 4)
  go_enter Try.func16, Try.ntmps16
  go_wp2_with (go_at_call 20; refine (access_hit L R (W.heap.size) (W.heap.size + 1) (W.heap.size + 2) v x n _ hC3 ?_ ?_ ?_ ?_ n1 n2 n3 hn0 hn1).mono ?_; (simp [go_sem]); (simp [go_sem]); (simp [go_sem]); (simp [go_sem]); rintro e w1 ⟨rfl, k, rfl⟩)
  go_ret
  exact ⟨rfl, by (repeat (with_reducible first | exact hC | apply Cel.alloc | apply Cel.drewN | apply Cel.setN | apply Cel.setR | apply Cel.farG (h1 := n3) (h2 := n1))), by (repeat' (first | (with_reducible exact Below.refl _ _) | (with_reducible refine belowN ?_ _) | (with_reducible refine Below.setCell ?_ ?_ _) | (with_reducible refine Below.alloc ?_ ?_ _) | (with_reducible refine Below.drew ?_) | omega | (simp; done) | (simp; omega)))⟩
set_option maxHeartbeats 1000000 in
theorem cas_miss (B L R : Nat) (v y x n : Int) (W : World) (hC : Cel W L R v n) (hvy : (v == y) = false) (hB : B ≤ L) (hB2 : B ≤ R) (hn0 : 0 ≤ n) (hn1 : n < 1000) :
    Calls Try.prog 16 #[.pointer (some ⟨L, 0, none⟩), .int .i64 0, .int .i64 y, .int .i64 x] W fun e W' => e = .returned (.bool false) ∧ After W W' B L R v (n + 1) := by
  have hmf : ∀ (fn : Fn) (first cap : Array Value) (W : World), (Instr.makeFunc fn first cap).run Try.prog W = .ok (.func fn first cap) W := fun _ _ _ _ => rfl
  have hlt := hC.lt
  have n1 : W.heap.size + 2 ≠ R := by omega
  have n3 : W.heap.size + 2 ≠ L := by omega
  have m1 : L ≠ W.heap.size + 2 := by omega
  have m2 : L ≠ W.heap.size + 1 + 1 := by omega
  have hC3 := ((hC.alloc (.cells #[.int .i64 y] 2)).alloc (.cells #[.int .i64 x] 2)).alloc (.cells #[.bool false] 4)
  go_enter Try.func16, Try.ntmps16
  go_wp2_with (go_at_call 20; refine (access_miss L R (W.heap.size) (W.heap.size + 1) (W.heap.size + 2) v y n _ hC3 ?_ hvy hn0 hn1).mono ?_; (simp [go_sem]); rintro e w1 ⟨rfl, k, rfl⟩)
  go_ret
  exact ⟨rfl, by (repeat (with_reducible first | exact hC | apply Cel.alloc | apply Cel.drewN | apply Cel.setN | apply Cel.setR | apply Cel.farG (h1 := n3) (h2 := n1))), by (repeat' (first | (with_reducible exact Below.refl _ _) | (with_reducible refine belowN ?_ _) | (with_reducible refine Below.setCell ?_ ?_ _) | (with_reducible refine Below.alloc ?_ ?_ _) | (with_reducible refine Below.drew ?_) | omega | (simp; done) | (simp; omega)))⟩
set_option maxHeartbeats 1000000 in
theorem load_0 (B L R : Nat) (v n : Int) (W : World) (hC : Cel W L R v n) (hB : B ≤ L) (hB2 : B ≤ R) (hn0 : 0 ≤ n) (hn1 : n < 1000) :
    Calls Try.prog 12 #[.pointer (some ⟨L, 0, none⟩), .int .i64 0] W fun e W' => e = .returned (.int .i64 v) ∧ After W W' B L R v (n + 1) := by
  have hmf : ∀ (fn : Fn) (first cap : Array Value) (W : World), (Instr.makeFunc fn first cap).run Try.prog W = .ok (.func fn first cap) W := fun _ _ _ _ => rfl
  have hlt := hC.lt
  have n1 : W.heap.size ≠ R := by omega
  have n3 : W.heap.size ≠ L := by omega
  have m1 : L ≠ W.heap.size := by omega
  have hC3 := hC.alloc (.cells #[.int .i64 0] 2)
  go_enter Try.func12, Try.ntmps12
  go_wp2_with (go_at_call 20; refine (access_load L R (W.heap.size) v n _ hC3 ?_ ?_ hn0 hn1).mono ?_; (simp [go_sem]); (simp [go_sem]); rintro e w1 ⟨rfl, rfl⟩)
  go_ret
  exact ⟨rfl, by (repeat (with_reducible first | exact hC | apply Cel.alloc | apply Cel.drewN | apply Cel.setN | apply Cel.setR | apply Cel.farG (h1 := n3) (h2 := n1))), by (repeat' (first | (with_reducible exact Below.refl _ _) | (with_reducible refine belowN ?_ _) | (with_reducible refine Below.setCell ?_ ?_ _) | (with_reducible refine Below.alloc ?_ ?_ _) | (with_reducible refine Below.drew ?_) | omega | (simp; done) | (simp; omega)))⟩

set_option maxHeartbeats 1000000 in
theorem alive_any (w : World) : Calls Try.prog 6 #[] w fun e w' => e = .returned (.bool true) ∧ Below w.heap.size w w' := by
  have hC0 : Cel ((w.alloc (.cells #[.int .i64 0] 2)).alloc (.cells #[.slice (some ⟨w.heap.size, 0, none⟩) 1 1, .int .i64 0] 44)) (w.heap.size + 1) w.heap.size 0 0 := ⟨by simp [go_sem], by simp [go_sem], by simp [go_sem], by simp [go_sem], by simp [go_sem], by omega⟩
  have hB0 : Below w.heap.size w ((w.alloc (.cells #[.int .i64 0] 2)).alloc (.cells #[.slice (some ⟨w.heap.size, 0, none⟩) 1 1, .int .i64 0] 44)) := ((Below.refl _ _).alloc (Nat.le_refl _) _).alloc (by simp) _
  go_enter Try.func6, Try.ntmps6
  go_wp2_with (go_at_call 7; refine (new_1 _).mono ?_; rintro e w1 ⟨rfl, rfl⟩)
  go_wp2_with fail
  refine (cas_hit w.heap.size _ _ 0 5 0 _ hC0 (by omega) (by omega) (by omega) (by omega)).mono ?_
  rintro e w1 ⟨rfl, hC1, hb1⟩
  go_wp2_with fail
  refine (cas_miss w.heap.size _ _ 5 0 6 _ _ hC1 (by decide) (by omega) (by omega) (by omega) (by omega)).mono ?_
  rintro e w2 ⟨rfl, hC2, hb2⟩
  go_wp2_with fail
  refine (load_0 w.heap.size _ _ 5 _ _ hC2 (by omega) (by omega) (by omega) (by omega)).mono ?_
  rintro e w3 ⟨rfl, hC3, hb3⟩
  have hc3 := hC3.2.1
  go_wp2
  go_ret
  exact ⟨rfl, ((hB0.trans hb1).trans hb2).trans hb3⟩

theorem store_nil (i v : Int) (W : World) : Calls Try.prog 14 #[.pointer none, .int .i64 i, .int .i64 v] W fun e W' => e = .returned (.tuple #[]) ∧ Below W.heap.size W W' := by
  have hmf : ∀ (fn : Fn) (first cap : Array Value) (W : World), (Instr.makeFunc fn first cap).run Try.prog W = .ok (.func fn first cap) W := fun _ _ _ _ => rfl
  go_enter Try.func14, Try.ntmps14
  go_wp2_with (go_at_call 20; refine (access_nil _ _ _).mono ?_; rintro e w1 ⟨rfl, rfl⟩)
  go_end0
  exact ⟨rfl, by go_grown⟩
theorem load_nil (i : Int) (W : World) : Calls Try.prog 12 #[.pointer none, .int .i64 i] W fun e W' => e = .returned (.int .i64 0) ∧ Below W.heap.size W W' := by
  have hmf : ∀ (fn : Fn) (first cap : Array Value) (W : World), (Instr.makeFunc fn first cap).run Try.prog W = .ok (.func fn first cap) W := fun _ _ _ _ => rfl
  go_enter Try.func12, Try.ntmps12
  go_wp2_with (go_at_call 20; refine (access_nil _ _ _).mono ?_; rintro e w1 ⟨rfl, rfl⟩)
  go_ret
  exact ⟨rfl, by go_grown⟩
theorem cas_nil (i v : Int) (W : World) : Calls Try.prog 16 #[.pointer none, .int .i64 i, .int .i64 0, .int .i64 v] W fun e W' => e = .returned (.bool false) ∧ Below W.heap.size W W' := by
  have hmf : ∀ (fn : Fn) (first cap : Array Value) (W : World), (Instr.makeFunc fn first cap).run Try.prog W = .ok (.func fn first cap) W := fun _ _ _ _ => rfl
  go_enter Try.func16, Try.ntmps16
  go_wp2_with (go_at_call 20; refine (access_nil _ _ _).mono ?_; rintro e w1 ⟨rfl, rfl⟩)
  go_ret
  exact ⟨rfl, by go_grown⟩
theorem add_nil (i v : Int) (W : World) : Calls Try.prog 17 #[.pointer none, .int .i64 i, .int .i64 v] W fun e W' => e = .returned (.int .i64 0) ∧ Below W.heap.size W W' := by
  have hmf : ∀ (fn : Fn) (first cap : Array Value) (W : World), (Instr.makeFunc fn first cap).run Try.prog W = .ok (.func fn first cap) W := fun _ _ _ _ => rfl
  go_enter Try.func17, Try.ntmps17
  go_wp2_with (go_at_call 20; refine (access_nil _ _ _).mono ?_; rintro e w1 ⟨rfl, rfl⟩)
  go_ret
  exact ⟨rfl, by go_grown⟩
theorem swap_nil (i v : Int) (W : World) : Calls Try.prog 18 #[.pointer none, .int .i64 i, .int .i64 v] W fun e W' => e = .returned (.int .i64 0) ∧ Below W.heap.size W W' := by
  have hmf : ∀ (fn : Fn) (first cap : Array Value) (W : World), (Instr.makeFunc fn first cap).run Try.prog W = .ok (.func fn first cap) W := fun _ _ _ _ => rfl
  go_enter Try.func18, Try.ntmps18
  go_wp2_with (go_at_call 20; refine (access_nil _ _ _).mono ?_; rintro e w1 ⟨rfl, rfl⟩)
  go_ret
  exact ⟨rfl, by go_grown⟩
theorem mask_nil (i v x : Int) (W : World) : Calls Try.prog 19 #[.pointer none, .int .i64 i, .int .i64 v, .int .i64 x] W fun e W' => e = .returned (.int .i64 0) ∧ Below W.heap.size W W' := by
  have hmf : ∀ (fn : Fn) (first cap : Array Value) (W : World), (Instr.makeFunc fn first cap).run Try.prog W = .ok (.func fn first cap) W := fun _ _ _ _ => rfl
  go_enter Try.func19, Try.ntmps19
  go_wp2_with (go_at_call 20; refine (access_nil _ _ _).mono ?_; rintro e w1 ⟨rfl, rfl⟩)
  go_ret
  exact ⟨rfl, by go_grown⟩
set_option maxHeartbeats 1000000 in
theorem walk_cellsNils (a0 : Int) (a1 : Int) (w : World) (w0 : (Lit.int .i64 a0).wf = true) (w1 : (Lit.int .i64 a1).wf = true) :
    Calls Try.prog 5 #[.int .i64 a0, .int .i64 a1] w fun e w' => e = .returned (.bool true) ∧ Below w.heap.size w w' := by
  go_enter Try.func5, Try.ntmps5
  go_wp2_with (first
    | (go_at_call 14; refine (store_nil _ _ _).mono ?_; rintro e u1 ⟨rfl, hb1⟩)
    | (go_at_call 12; refine (load_nil _ _).mono ?_; rintro e u2 ⟨rfl, hb2⟩)
    | (go_at_call 16; refine (cas_nil _ _ _).mono ?_; rintro e u3 ⟨rfl, hb3⟩)
    | (go_at_call 17; refine (add_nil _ _ _).mono ?_; rintro e u4 ⟨rfl, hb4⟩)
    | (go_at_call 18; refine (swap_nil _ _ _).mono ?_; rintro e u5 ⟨rfl, hb5⟩)
    | (go_at_call 19; refine (mask_nil _ _ _ _).mono ?_; rintro e u6 ⟨rfl, hb6⟩)
    | (go_at_call 6; refine (alive_any _).mono ?_; rintro e u7 ⟨rfl, hb7⟩)
    | (go_at_call 15; go_in) | (go_at_call 10; go_in) | (go_at_call 13; go_in))
  go_ret
  have z1 := hb1.size
  have z2 := hb2.size
  have z3 := hb3.size
  have z4 := hb4.size
  have z5 := hb5.size
  have z6 := hb6.size
  exact ⟨rfl, (((((hb1.trans (hb2.mono (by omega))).trans (hb3.mono (by omega))).trans (hb4.mono (by omega))).trans (hb5.mono (by omega))).trans (hb6.mono (by omega))).trans (hb7.mono (by omega))⟩
end Go.Proofs.Ythhhphmjohekgaa
