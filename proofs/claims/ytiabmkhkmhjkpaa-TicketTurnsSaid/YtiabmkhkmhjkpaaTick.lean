/- Contracts of a lock by tickets; the chapter's example; the walk of the law TicketNils. -/
import Derived.Test.YtiabmkhkmhjkpaaAcc
namespace Go.Proofs.Ytiabmkhkmhjkpaa
open Go.ChangeShapes Go.WideShapes Go.ChangeAt Go.RowKit
set_option linter.unusedVariables false

theorem belowN {B : Nat} {a w : World} (h : Below B a w) (n : Nat) : Below B a (w.drewN n) := ⟨h.os, h.tape, h.output, h.size, h.block⟩
/-- Of the old blocks only L and R may have turned. -/
def Far (W W' : World) (L R : Nat) : Prop := W.heap.size ≤ W'.heap.size ∧ ∀ p : Addr, p.block < W.heap.size → p.block ≠ L → p.block ≠ R → W'.cell? p = W.cell? p
theorem Far.refl (W : World) (L R : Nat) : Far W W L R := ⟨Nat.le_refl _, fun _ _ _ _ => rfl⟩
theorem Far.alloc {W X : World} {L R : Nat} (h : Far W X L R) (o : Obj) : Far W (X.alloc o) L R := ⟨by have := h.1; simp; omega, fun p hp h1 h2 => (World.cell?_alloc_lt X o p (by have := h.1; omega)).trans (h.2 p hp h1 h2)⟩
theorem Far.drewN {W X : World} {L R : Nat} (h : Far W X L R) (k : Nat) : Far W (X.drewN k) L R := h
theorem Far.set {W X : World} {L R g : Nat} (h : Far W X L R) (hg : g = L ∨ g = R ∨ W.heap.size ≤ g) (i : Nat) (u : Value) : Far W (X.setCell ⟨g, i, none⟩ u) L R :=
  ⟨by simpa [World.setCell] using h.1, fun p hp h1 h2 => (World.cell?_setCell_other _ _ _ _ (by intro e; subst e; simp at hp h1 h2; omega)).trans (h.2 p hp h1 h2)⟩
theorem Far.trans {W X Y : World} {L R : Nat} (h : Far W X L R) (k : Far X Y L R) : Far W Y L R := ⟨Nat.le_trans h.1 k.1, fun p hp h1 h2 => (k.2 p (Nat.lt_of_lt_of_le hp h.1) h1 h2).trans (h.2 p hp h1 h2)⟩
/-- What a call leaves. -/
def Aft (W W' : World) (B L R : Nat) (v0 v1 n : Int) : Prop := Cel W' L R v0 v1 n ∧ Below B W W' ∧ Far W W' L R

set_option maxHeartbeats 1000000 in
theorem add_0 (B L R : Nat) (v0 v1 n : Int) (W : World) (hC : Cel W L R v0 v1 n) (hB : B ≤ L) (hB2 : B ≤ R) (hv0 : 0 ≤ v0) (hv1 : v0 < 1000) (hn0 : 0 ≤ n) (hn1 : n < 1000) :
    Calls Try.prog 27 #[.pointer (some ⟨L, 0, none⟩), .int .i64 0, .int .i64 1] W fun e W' => e = .returned (.int .i64 (v0 + 1)) ∧ Aft W W' B L R (v0 + 1) v1 (n + 1) := by
  have hmf : ∀ (fn : Fn) (first cap : Array Value) (W : World), (Instr.makeFunc fn first cap).run Try.prog W = .ok (.func fn first cap) W := fun _ _ _ _ => rfl
  have hlt := hC.lt
  have n1 : W.heap.size + 1 ≠ R := by omega
  have n3 : W.heap.size + 1 ≠ L := by omega
  have m1 : L ≠ W.heap.size + 1 := by omega
  have hC3 := (hC.alloc (.cells #[.int .i64 1] 2)).alloc (.cells #[.int .i64 0] 2)
  go_enter Try.func27, Try.ntmps27
  go_wp2_with (go_at_call 18; refine (access_add L R (W.heap.size) (W.heap.size + 1) v0 v1 n _ hC3 ?_ ?_ ?_ n1 hv0 hv1 hn0 hn1).mono ?_; (simp [go_sem]); (simp [go_sem]); (simp [go_sem]); rintro e w1 ⟨rfl, k, rfl⟩)
  go_ret
  exact ⟨rfl, by (repeat (with_reducible first | exact hC | apply Cel.alloc | apply Cel.drewN | apply Cel.setN | apply Cel.set0 | apply Cel.set1 | apply Cel.farG (h1 := n3) (h2 := n1))), by (repeat' (first | (with_reducible exact Below.refl _ _) | (with_reducible refine belowN ?_ _) | (with_reducible refine Below.setCell ?_ ?_ _) | (with_reducible refine Below.alloc ?_ ?_ _) | (with_reducible refine Below.drew ?_) | omega | (simp; done) | (simp; omega))), by (repeat' (first | (with_reducible exact Far.refl _ _ _) | (with_reducible refine Far.drewN ?_ _) | (with_reducible refine Far.alloc ?_ _) | (with_reducible refine Far.set ?_ ?_ _ _) | omega))⟩

set_option maxHeartbeats 1000000 in
theorem load_0 (B L R : Nat) (v0 v1 n : Int) (W : World) (hC : Cel W L R v0 v1 n) (hB : B ≤ L) (hB2 : B ≤ R) (hn0 : 0 ≤ n) (hn1 : n < 1000) :
    Calls Try.prog 13 #[.pointer (some ⟨L, 0, none⟩), .int .i64 0] W fun e W' => e = .returned (.int .i64 v0) ∧ Aft W W' B L R v0 v1 (n + 1) := by
  have hmf : ∀ (fn : Fn) (first cap : Array Value) (W : World), (Instr.makeFunc fn first cap).run Try.prog W = .ok (.func fn first cap) W := fun _ _ _ _ => rfl
  have hlt := hC.lt
  have n1 : W.heap.size ≠ R := by omega
  have n3 : W.heap.size ≠ L := by omega
  have m1 : L ≠ W.heap.size := by omega
  have hC3 := hC.alloc (.cells #[.int .i64 0] 2)
  go_enter Try.func13, Try.ntmps13
  go_wp2_with (go_at_call 18; refine (access_load0 L R (W.heap.size) v0 v1 n _ hC3 ?_ ?_ hn0 hn1).mono ?_; (simp [go_sem]); (simp [go_sem]); rintro e w1 ⟨rfl, rfl⟩)
  go_ret
  exact ⟨rfl, by (repeat (with_reducible first | exact hC | apply Cel.alloc | apply Cel.drewN | apply Cel.setN | apply Cel.set0 | apply Cel.set1 | apply Cel.farG (h1 := n3) (h2 := n1))), by (repeat' (first | (with_reducible exact Below.refl _ _) | (with_reducible refine belowN ?_ _) | (with_reducible refine Below.setCell ?_ ?_ _) | (with_reducible refine Below.alloc ?_ ?_ _) | (with_reducible refine Below.drew ?_) | omega | (simp; done) | (simp; omega))), by (repeat' (first | (with_reducible exact Far.refl _ _ _) | (with_reducible refine Far.drewN ?_ _) | (with_reducible refine Far.alloc ?_ _) | (with_reducible refine Far.set ?_ ?_ _ _) | omega))⟩

set_option maxHeartbeats 1000000 in
theorem load_1 (B L R : Nat) (v0 v1 n : Int) (W : World) (hC : Cel W L R v0 v1 n) (hB : B ≤ L) (hB2 : B ≤ R) (hn0 : 0 ≤ n) (hn1 : n < 1000) :
    Calls Try.prog 13 #[.pointer (some ⟨L, 0, none⟩), .int .i64 1] W fun e W' => e = .returned (.int .i64 v1) ∧ Aft W W' B L R v0 v1 (n + 1) := by
  have hmf : ∀ (fn : Fn) (first cap : Array Value) (W : World), (Instr.makeFunc fn first cap).run Try.prog W = .ok (.func fn first cap) W := fun _ _ _ _ => rfl
  have hlt := hC.lt
  have n1 : W.heap.size ≠ R := by omega
  have n3 : W.heap.size ≠ L := by omega
  have m1 : L ≠ W.heap.size := by omega
  have hC3 := hC.alloc (.cells #[.int .i64 0] 2)
  go_enter Try.func13, Try.ntmps13
  go_wp2_with (go_at_call 18; refine (access_load1 L R (W.heap.size) v0 v1 n _ hC3 ?_ ?_ hn0 hn1).mono ?_; (simp [go_sem]); (simp [go_sem]); rintro e w1 ⟨rfl, rfl⟩)
  go_ret
  exact ⟨rfl, by (repeat (with_reducible first | exact hC | apply Cel.alloc | apply Cel.drewN | apply Cel.setN | apply Cel.set0 | apply Cel.set1 | apply Cel.farG (h1 := n3) (h2 := n1))), by (repeat' (first | (with_reducible exact Below.refl _ _) | (with_reducible refine belowN ?_ _) | (with_reducible refine Below.setCell ?_ ?_ _) | (with_reducible refine Below.alloc ?_ ?_ _) | (with_reducible refine Below.drew ?_) | omega | (simp; done) | (simp; omega))), by (repeat' (first | (with_reducible exact Far.refl _ _ _) | (with_reducible refine Far.drewN ?_ _) | (with_reducible refine Far.alloc ?_ _) | (with_reducible refine Far.set ?_ ?_ _ _) | omega))⟩

set_option maxHeartbeats 1000000 in
theorem store_1 (B L R : Nat) (v0 v1 x n : Int) (W : World) (hC : Cel W L R v0 v1 n) (hB : B ≤ L) (hB2 : B ≤ R) (hn0 : 0 ≤ n) (hn1 : n < 1000) :
    Calls Try.prog 8 #[.pointer (some ⟨L, 0, none⟩), .int .i64 1, .int .i64 x] W fun e W' => e = .returned (.tuple #[]) ∧ Aft W W' B L R v0 x (n + 1) := by
  have hmf : ∀ (fn : Fn) (first cap : Array Value) (W : World), (Instr.makeFunc fn first cap).run Try.prog W = .ok (.func fn first cap) W := fun _ _ _ _ => rfl
  have hlt := hC.lt
  have n1 : W.heap.size ≠ R := by omega
  have n3 : W.heap.size ≠ L := by omega
  have hC3 := hC.alloc (.cells #[.int .i64 x] 2)
  go_enter Try.func8, Try.ntmps8
  go_wp2_with (go_at_call 18; refine (access_store1 L R (W.heap.size) v0 v1 x n _ hC3 ?_ hn0 hn1).mono ?_; (simp [go_sem]); rintro e w1 ⟨rfl, rfl⟩)
  go_end0
  exact ⟨rfl, by (repeat (with_reducible first | exact hC | apply Cel.alloc | apply Cel.drewN | apply Cel.setN | apply Cel.set0 | apply Cel.set1 | apply Cel.farG (h1 := n3) (h2 := n1))), by (repeat' (first | (with_reducible exact Below.refl _ _) | (with_reducible refine belowN ?_ _) | (with_reducible refine Below.setCell ?_ ?_ _) | (with_reducible refine Below.alloc ?_ ?_ _) | (with_reducible refine Below.drew ?_) | omega | (simp; done) | (simp; omega))), by (repeat' (first | (with_reducible exact Far.refl _ _ _) | (with_reducible refine Far.drewN ?_ _) | (with_reducible refine Far.alloc ?_ _) | (with_reducible refine Far.set ?_ ?_ _ _) | omega))⟩

/-- The lock lies in block K: the cells at L, the place 0. -/
def Loc (W : World) (K L R : Nat) : Prop := W.cell? ⟨K, 0, none⟩ = some (.pointer (some ⟨L, 0, none⟩)) ∧ W.cell? ⟨K, 1, none⟩ = some (.int .i64 0) ∧ K ≠ L ∧ K ≠ R
theorem Loc.far {W W' : World} {K L R : Nat} (h : Loc W K L R) (hf : Far W W' L R) : Loc W' K L R := by
  obtain ⟨k0, k1, h1, h2⟩ := h
  have hK : K < W.heap.size := World.block_lt_of_cell? W _ k0
  exact ⟨(hf.2 ⟨K, 0, none⟩ hK h1 h2).trans k0, (hf.2 ⟨K, 1, none⟩ hK h1 h2).trans k1, h1, h2⟩

set_option maxHeartbeats 1000000 in
theorem take_any (B K L R : Nat) (v0 v1 n : Int) (W : World) (hC : Cel W L R v0 v1 n) (hK : Loc W K L R) (hB : B ≤ L) (hB2 : B ≤ R) (hv0 : 0 ≤ v0) (hv1 : v0 < 1000) (hn0 : 0 ≤ n) (hn1 : n < 1000) :
    Calls Try.prog 14 #[.pointer (some ⟨K, 0, none⟩)] W fun e W' => e = .returned (.tuple #[.int .i64 v0, .int .i64 0]) ∧ Aft W W' B L R (v0 + 1) v1 (n + 1) := by
  have hmf : ∀ (fn : Fn) (first cap : Array Value) (W : World), (Instr.makeFunc fn first cap).run Try.prog W = .ok (.func fn first cap) W := fun _ _ _ _ => rfl
  obtain ⟨k0, k1, hk1, hk2⟩ := hK
  go_enter Try.func14, Try.ntmps14
  go_wp2_with (first | (go_at_call 26; go_in) | (go_at_call 27; refine (add_0 B L R v0 v1 n _ hC hB hB2 hv0 hv1 hn0 hn1).mono ?_; rintro e w1 ⟨rfl, ha⟩))
  go_ret2
  exact ⟨rfl, ha⟩
set_option maxHeartbeats 1000000 in
theorem mine_any (B K L R : Nat) (v0 v1 n t : Int) (W : World) (hC : Cel W L R v0 v1 n) (hK : Loc W K L R) (hB : B ≤ L) (hB2 : B ≤ R) (hn0 : 0 ≤ n) (hn1 : n < 1000) :
    Calls Try.prog 15 #[.pointer (some ⟨K, 0, none⟩), .int .i64 t] W fun e W' => e = .returned (.tuple #[.bool (v1 == t), .int .i64 0]) ∧ Aft W W' B L R v0 v1 (n + 1) := by
  have hmf : ∀ (fn : Fn) (first cap : Array Value) (W : World), (Instr.makeFunc fn first cap).run Try.prog W = .ok (.func fn first cap) W := fun _ _ _ _ => rfl
  obtain ⟨k0, k1, hk1, hk2⟩ := hK
  go_enter Try.func15, Try.ntmps15
  go_wp2_with (first | (go_at_call 26; go_in) | (go_at_call 13; refine (load_1 B L R v0 v1 n _ hC hB hB2 hn0 hn1).mono ?_; rintro e w1 ⟨rfl, ha⟩))
  go_ret2
  exact ⟨rfl, ha⟩
set_option maxHeartbeats 1000000 in
theorem leave_0 (B K L R : Nat) (v0 n : Int) (W : World) (hC : Cel W L R v0 0 n) (hK : Loc W K L R) (hB : B ≤ L) (hB2 : B ≤ R) (hn0 : 0 ≤ n) (hn1 : n < 900) :
    Calls Try.prog 16 #[.pointer (some ⟨K, 0, none⟩), .int .i64 0] W fun e W' => e = .returned (.int .i64 0) ∧ Aft W W' B L R v0 1 (n + 1 + 1) := by
  have hmf : ∀ (fn : Fn) (first cap : Array Value) (W : World), (Instr.makeFunc fn first cap).run Try.prog W = .ok (.func fn first cap) W := fun _ _ _ _ => rfl
  go_enter Try.func16, Try.ntmps16
  go_wp2_with fail
  refine (mine_any B K L R v0 0 n 0 _ hC hK hB hB2 hn0 (by omega)).mono ?_
  rintro e w1 ⟨rfl, hC1, hb1, hf1⟩
  obtain ⟨k0, k1, hk1, hk2⟩ := hK.far hf1
  go_wp2_with (go_at_call 8; refine (store_1 B L R v0 0 1 (n + 1) _ hC1 hB hB2 (by omega) (by omega)).mono ?_; rintro e w2 ⟨rfl, hC2, hb2, hf2⟩)
  go_ret
  exact ⟨rfl, hC2, hb1.trans hb2, hf1.trans hf2⟩
set_option maxHeartbeats 1000000 in
theorem waits_any (B K L R : Nat) (v0 v1 n : Int) (W : World) (hC : Cel W L R v0 v1 n) (hK : Loc W K L R) (hB : B ≤ L) (hB2 : B ≤ R) (hv0 : 0 ≤ v1) (hv1 : v1 ≤ v0) (hv2 : v0 < 1000) (hn0 : 0 ≤ n) (hn1 : n < 900) :
    Calls Try.prog 17 #[.pointer (some ⟨K, 0, none⟩)] W fun e W' => e = .returned (.int .i64 (v0 - v1)) ∧ Below B W W' := by
  have hmf : ∀ (fn : Fn) (first cap : Array Value) (W : World), (Instr.makeFunc fn first cap).run Try.prog W = .ok (.func fn first cap) W := fun _ _ _ _ => rfl
  obtain ⟨k0, k1, hk1, hk2⟩ := hK
  go_enter Try.func17, Try.ntmps17
  go_wp2_with (go_at_call 26; go_in)
  refine (load_0 B L R v0 v1 n _ hC hB hB2 hn0 (by omega)).mono ?_
  rintro e w1 ⟨rfl, hC1, hb1, hf1⟩
  obtain ⟨q0, q1, q2, q3⟩ := Loc.far ⟨k0, k1, hk1, hk2⟩ hf1
  go_wp2_with fail
  refine (load_1 B L R v0 v1 (n + 1) _ hC1 hB hB2 (by omega) (by omega)).mono ?_
  rintro e w2 ⟨rfl, hC2, hb2, hf2⟩
  go_wp2
  go_ret
  exact ⟨rfl, hb1.trans hb2⟩

theorem new_2 (W : World) : Calls Try.prog 7 #[.int .i64 2] W fun e W' => e = .returned (.pointer (some ⟨W.heap.size + 1, 0, none⟩)) ∧ W' = (W.alloc (.cells #[.int .i64 0, .int .i64 0] 2)).alloc (.cells #[.slice (some ⟨W.heap.size, 0, none⟩) 2 2, .int .i64 0] 50) := by
  have hmk : ∀ W : World, (Instr.makeSlice 48 (.int .i64 2) (.int .i64 2)).run Try.prog W = .ok (.slice (some ⟨W.heap.size, 0, none⟩) 2 2) (W.alloc (.cells #[.int .i64 0, .int .i64 0] 2)) := fun _ => by kernel_rfl
  go_enter Try.func7, Try.ntmps7
  go_wp2
  go_ret
  exact ⟨rfl, rfl⟩

set_option maxHeartbeats 2000000 in
theorem alive_any (w : World) : Calls Try.prog 6 #[] w fun e w' => e = .returned (.bool true) ∧ Below w.heap.size w w' := by
  have hC0 : Cel (((w.alloc (.cells #[.int .i64 0, .int .i64 0] 2)).alloc (.cells #[.slice (some ⟨w.heap.size, 0, none⟩) 2 2, .int .i64 0] 50)).alloc (.cells #[.pointer (some ⟨w.heap.size + 1, 0, none⟩), .int .i64 0] 55)) (w.heap.size + 1) w.heap.size 0 0 0 := ⟨by simp [go_sem], by simp [go_sem], by simp [go_sem], by simp [go_sem], by simp [go_sem], by simp [go_sem], by simp [go_sem], by omega⟩
  have hK0 : Loc (((w.alloc (.cells #[.int .i64 0, .int .i64 0] 2)).alloc (.cells #[.slice (some ⟨w.heap.size, 0, none⟩) 2 2, .int .i64 0] 50)).alloc (.cells #[.pointer (some ⟨w.heap.size + 1, 0, none⟩), .int .i64 0] 55)) (w.heap.size + 1 + 1) (w.heap.size + 1) w.heap.size := ⟨by simp [go_sem], by simp [go_sem], by omega, by omega⟩
  have hB0 : Below w.heap.size w (((w.alloc (.cells #[.int .i64 0, .int .i64 0] 2)).alloc (.cells #[.slice (some ⟨w.heap.size, 0, none⟩) 2 2, .int .i64 0] 50)).alloc (.cells #[.pointer (some ⟨w.heap.size + 1, 0, none⟩), .int .i64 0] 55)) := by (repeat' (first | (with_reducible exact Below.refl _ _) | (with_reducible refine belowN ?_ _) | (with_reducible refine Below.setCell ?_ ?_ _) | (with_reducible refine Below.alloc ?_ ?_ _) | (with_reducible refine Below.drew ?_) | omega | (simp; done) | (simp; omega)))
  go_enter Try.func6, Try.ntmps6
  go_wp2_with (first | (go_at_call 7; refine (new_2 _).mono ?_; rintro e w1 ⟨rfl, rfl⟩) | (go_at_call 9; go_in) | (go_at_call 20; go_in))
  refine (take_any w.heap.size _ _ _ 0 0 0 _ hC0 hK0 (by omega) (by omega) (by omega) (by omega) (by omega) (by omega)).mono ?_
  rintro e w1 ⟨rfl, hC1, hb1, hf1⟩
  have hK1 := hK0.far hf1
  go_wp2_with fail
  refine (take_any w.heap.size _ _ _ _ _ _ _ hC1 hK1 (by omega) (by omega) (by omega) (by omega) (by omega) (by omega)).mono ?_
  rintro e w2 ⟨rfl, hC2, hb2, hf2⟩
  have hK2 := hK1.far hf2
  go_wp2_with fail
  refine (mine_any w.heap.size _ _ _ _ _ _ _ _ hC2 hK2 (by omega) (by omega) (by omega) (by omega)).mono ?_
  rintro e w3 ⟨rfl, hC3, hb3, hf3⟩
  have hK3 := hK2.far hf3
  go_wp2_with fail
  refine (leave_0 w.heap.size _ _ _ _ _ _ hC3 hK3 (by omega) (by omega) (by omega) (by omega)).mono ?_
  rintro e w4 ⟨rfl, hC4, hb4, hf4⟩
  have hK4 := hK3.far hf4
  go_wp2_with fail
  refine (mine_any w.heap.size _ _ _ _ _ _ _ _ hC4 hK4 (by omega) (by omega) (by omega) (by omega)).mono ?_
  rintro e w5 ⟨rfl, hC5, hb5, hf5⟩
  have hK5 := hK4.far hf5
  go_wp2_with fail
  refine (waits_any w.heap.size _ _ _ _ _ _ _ hC5 hK5 (by omega) (by omega) (by omega) (by omega) (by omega) (by omega) (by omega)).mono ?_
  rintro e w6 ⟨rfl, hb6⟩
  go_wp2
  go_ret
  exact ⟨rfl, (((((hB0.trans hb1).trans hb2).trans hb3).trans hb4).trans hb5).trans hb6⟩

theorem leave_nil (t : Int) (W : World) : Calls Try.prog 16 #[.pointer none, .int .i64 t] W fun e W' => e = .returned (.int .i64 1) ∧ W = W' := by
  go_enter Try.func16, Try.ntmps16
  go_wp2
  go_ret
  exact ⟨rfl, rfl⟩
theorem new_nil (i : Int) (W : World) : Calls Try.prog 9 #[.pointer none, .int .i64 i] W fun e W' => e = .returned (.pointer none) ∧ W = W' := by
  by_cases h : i < 0
  · go_enter Try.func9, Try.ntmps9
    go_wp2
    go_ret
    exact ⟨rfl, rfl⟩
  · have d : decide (-1 ≤ i) = true := decide_eq_true (by omega)
    go_enter Try.func9, Try.ntmps9
    go_wp2
    go_ret
    exact ⟨rfl, rfl⟩
set_option maxHeartbeats 1000000 in
theorem walk_ticketNils (a0 : Int) (a1 : Int) (w : World) (w0 : (Lit.int .i64 a0).wf = true) (w1 : (Lit.int .i64 a1).wf = true) :
    Calls Try.prog 5 #[.int .i64 a0, .int .i64 a1] w fun e w' => e = .returned (.bool true) ∧ Below w.heap.size w w' := by
  go_enter Try.func5, Try.ntmps5
  go_wp2_with (first
    | (go_at_call 16; refine (leave_nil _ _).mono ?_; rintro e w' ⟨rfl, rfl⟩)
    | (go_at_call 9; refine (new_nil _ _).mono ?_; rintro e w' ⟨rfl, rfl⟩)
    | (go_at_call 6; refine (alive_any _).mono ?_; rintro e u7 ⟨rfl, hb7⟩)
    | (go_at_call 14; go_in) | (go_at_call 15; go_in) | (go_at_call 17; go_in) | (go_at_call 26; go_in))
  go_ret
  exact ⟨rfl, hb7⟩
end Go.Proofs.Ytiabmkhkmhjkpaa
