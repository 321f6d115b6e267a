/- Contracts of access: with no cells, and with one cell. -/
import Derived.Test.YthhhphmjohekgaaBase
import Derived.Handy
import Derived.RegionTactic
import Derived.ChangeAlike
import Derived.Defers
import Derived.Deep.QuietTactic
import Derived.BigQuiet
namespace Go.Proofs.Ythhhphmjohekgaa
open Go.ChangeShapes Go.WideShapes Go.ChangeAt Go.RowKit
set_option linter.unusedVariables false
theorem access_nil (i : Int) (f : Value) (W : World) : Calls Try.prog 20 #[.pointer none, .int .i64 i, f] W fun e W' => e = .returned (.tuple #[]) ∧ W' = W := by
  by_cases h : i < 0
  · go_enter_defers Try.func20, Try.ntmps20
    go_wp2
    exact ⟨_, results_none rfl _ _ _, rfl, rfl⟩
  · have d : decide (0 ≤ i) = true := decide_eq_true (by omega)
    go_enter_defers Try.func20, Try.ntmps20
    go_wp2
    exact ⟨_, results_none rfl _ _ _, rfl, rfl⟩
theorem tick_d (b : Nat) (n : Int) (u : FrameMode) (W : World) (hc : W.cell? ⟨b, 1, none⟩ = some (.int .i64 n)) (hf : W.frozen? ⟨b, 1, none⟩ = false) (h0 : 0 ≤ n) (h1 : n < 1000) :
    CallsD Try.prog 27 #[.pointer (some ⟨b, 0, none⟩)] u W fun e u' W' => u' = u ∧ e = .returned (.tuple #[]) ∧ W' = W.setCell ⟨b, 1, none⟩ (.int .i64 (n + 1)) := by
  go_enter_d Try.func27, Try.ntmps27
  go_wp2
  go_end0
  exact ⟨rfl, rfl⟩
theorem cas1_hit (r o f d : Nat) (v x : Int) (W : World) (hr : W.cell? ⟨r, 0, none⟩ = some (.int .i64 v)) (ho : W.cell? ⟨o, 0, none⟩ = some (.int .i64 v)) (hx : W.cell? ⟨f, 0, none⟩ = some (.int .i64 x)) (hd : W.cell? ⟨d, 0, none⟩ = some (.bool false))
    (hfr : W.frozen? ⟨r, 0, none⟩ = false) (hfd : W.frozen? ⟨d, 0, none⟩ = false) (hne : d ≠ r) (hfo : f ≠ r) :
    Calls Try.prog 23 #[.pointer (some ⟨r, 0, none⟩), .pointer (some ⟨o, 0, none⟩), .pointer (some ⟨f, 0, none⟩), .pointer (some ⟨d, 0, none⟩)] W fun e W' => e = .returned (.tuple #[]) ∧ ∃ k, W' = ((W.setCell ⟨r, 0, none⟩ (.int .i64 x)).setCell ⟨d, 0, none⟩ (.bool true)).drewN k := by
  go_enter Try.func23, Try.ntmps23
  go_wp2
  go_quiet (fail)
  go_wp2
  go_end0
  exact ⟨rfl, _, rfl⟩
theorem cas1_miss (r o f d : Nat) (v y : Int) (W : World) (hr : W.cell? ⟨r, 0, none⟩ = some (.int .i64 v)) (ho : W.cell? ⟨o, 0, none⟩ = some (.int .i64 y)) (hvy : (v == y) = false) :
    Calls Try.prog 23 #[.pointer (some ⟨r, 0, none⟩), .pointer (some ⟨o, 0, none⟩), .pointer (some ⟨f, 0, none⟩), .pointer (some ⟨d, 0, none⟩)] W fun e W' => e = .returned (.tuple #[]) ∧ ∃ k, W' = W.drewN k := by
  go_enter Try.func23, Try.ntmps23
  go_wp2
  go_quiet (fail)
  go_wp2
  go_end0
  exact ⟨rfl, _, rfl⟩
theorem load1 (r d : Nat) (v : Int) (W : World) (hr : W.cell? ⟨r, 0, none⟩ = some (.int .i64 v)) (hd : W.cell? ⟨d, 0, none⟩ = some (.int .i64 0)) (hfd : W.frozen? ⟨d, 0, none⟩ = false) :
    Calls Try.prog 21 #[.pointer (some ⟨r, 0, none⟩), .pointer (some ⟨d, 0, none⟩)] W fun e W' => e = .returned (.tuple #[]) ∧ W' = W.setCell ⟨d, 0, none⟩ (.int .i64 v) := by
  go_enter Try.func21, Try.ntmps21
  go_wp2
  go_end0
  exact ⟨rfl, rfl⟩

/-- One cell: the struct in block L, its row in block R. -/
def Cel (W : World) (L R : Nat) (v n : Int) : Prop :=
  W.cell? ⟨L, 0, none⟩ = some (.slice (some ⟨R, 0, none⟩) 1 1) ∧ W.cell? ⟨L, 1, none⟩ = some (.int .i64 n) ∧ W.cell? ⟨R, 0, none⟩ = some (.int .i64 v) ∧ W.frozen? ⟨L, 1, none⟩ = false ∧ W.frozen? ⟨R, 0, none⟩ = false ∧ L ≠ R

set_option maxHeartbeats 1000000 in
theorem access_hit (L R o f d : Nat) (v x n : Int) (W : World) (hC : Cel W L R v n) (ho : W.cell? ⟨o, 0, none⟩ = some (.int .i64 v)) (hx : W.cell? ⟨f, 0, none⟩ = some (.int .i64 x)) (hd : W.cell? ⟨d, 0, none⟩ = some (.bool false)) (hfd : W.frozen? ⟨d, 0, none⟩ = false)
    (h1 : d ≠ R) (h2 : f ≠ R) (h3 : d ≠ L) (hn0 : 0 ≤ n) (hn1 : n < 1000) :
    Calls Try.prog 20 #[.pointer (some ⟨L, 0, none⟩), .int .i64 0, .func (.func 23) #[] #[.pointer (some ⟨o, 0, none⟩), .pointer (some ⟨f, 0, none⟩), .pointer (some ⟨d, 0, none⟩)]] W fun e W' => e = .returned (.tuple #[]) ∧ ∃ k, W' = (((W.setCell ⟨R, 0, none⟩ (.int .i64 x)).setCell ⟨d, 0, none⟩ (.bool true)).drewN k).setCell ⟨L, 1, none⟩ (.int .i64 (n + 1)) := by
  obtain ⟨c0, c1, c2, f1, f2, hLR⟩ := hC
  have hmf : ∀ (fn : Fn) (first cap : Array Value) (W : World), (Instr.makeFunc fn first cap).run Try.prog W = .ok (.func fn first cap) W := fun _ _ _ _ => rfl
  go_enter_defers Try.func20, Try.ntmps20
  go_wp2_with (first | (go_at_call 15; go_in) | (go_at_call 23; refine (cas1_hit R o f d v x _ c2 ho hx hd f2 hfd h1 h2).mono ?_; rintro e w1 ⟨rfl, k, rfl⟩))
  refine leaves_cons (f := 27) (args := #[.pointer (some ⟨L, 0, none⟩)]) (by simp) (by simp [go_sem]) ?_
  refine (tick_d L n .returning _ ?_ ?_ hn0 hn1).mono ?_
  · exact (World.cell?_setCell_other _ ⟨d, 0, none⟩ ⟨L, 1, none⟩ _ (by simp)).trans ((World.cell?_setCell_other _ ⟨R, 0, none⟩ ⟨L, 1, none⟩ _ (by simp)).trans c1)
  · show ((W.setCell ⟨R, 0, none⟩ (.int .i64 x)).setCell ⟨d, 0, none⟩ (.bool true)).frozen? _ = false
    rw [World.frozen?_setCell, World.frozen?_setCell]
    exact f1
  rintro e u' w'' ⟨rfl, rfl, rfl⟩
  exact ⟨_, results_none rfl _ _ _, rfl, _, rfl⟩

set_option maxHeartbeats 1000000 in
theorem access_miss (L R o f d : Nat) (v y n : Int) (W : World) (hC : Cel W L R v n) (ho : W.cell? ⟨o, 0, none⟩ = some (.int .i64 y)) (hvy : (v == y) = false) (hn0 : 0 ≤ n) (hn1 : n < 1000) :
    Calls Try.prog 20 #[.pointer (some ⟨L, 0, none⟩), .int .i64 0, .func (.func 23) #[] #[.pointer (some ⟨o, 0, none⟩), .pointer (some ⟨f, 0, none⟩), .pointer (some ⟨d, 0, none⟩)]] W fun e W' => e = .returned (.tuple #[]) ∧ ∃ k, W' = (W.drewN k).setCell ⟨L, 1, none⟩ (.int .i64 (n + 1)) := by
  obtain ⟨c0, c1, c2, f1, f2, hLR⟩ := hC
  have hmf : ∀ (fn : Fn) (first cap : Array Value) (W : World), (Instr.makeFunc fn first cap).run Try.prog W = .ok (.func fn first cap) W := fun _ _ _ _ => rfl
  go_enter_defers Try.func20, Try.ntmps20
  go_wp2_with (first | (go_at_call 15; go_in) | (go_at_call 23; refine (cas1_miss R o f d v y _ c2 ho hvy).mono ?_; rintro e w1 ⟨rfl, k, rfl⟩))
  refine leaves_cons (f := 27) (args := #[.pointer (some ⟨L, 0, none⟩)]) (by simp) (by simp [go_sem]) ?_
  refine (tick_d L n .returning (W.drewN k) c1 f1 hn0 hn1).mono ?_
  rintro e u' w'' ⟨rfl, rfl, rfl⟩
  exact ⟨_, results_none rfl _ _ _, rfl, _, rfl⟩
set_option maxHeartbeats 1000000 in
theorem access_load (L R d : Nat) (v n : Int) (W : World) (hC : Cel W L R v n) (hd : W.cell? ⟨d, 0, none⟩ = some (.int .i64 0)) (hfd : W.frozen? ⟨d, 0, none⟩ = false) (hn0 : 0 ≤ n) (hn1 : n < 1000) :
    Calls Try.prog 20 #[.pointer (some ⟨L, 0, none⟩), .int .i64 0, .func (.func 21) #[] #[.pointer (some ⟨d, 0, none⟩)]] W fun e W' => e = .returned (.tuple #[]) ∧ W' = (W.setCell ⟨d, 0, none⟩ (.int .i64 v)).setCell ⟨L, 1, none⟩ (.int .i64 (n + 1)) := by
  obtain ⟨c0, c1, c2, f1, f2, hLR⟩ := hC
  have hmf : ∀ (fn : Fn) (first cap : Array Value) (W : World), (Instr.makeFunc fn first cap).run Try.prog W = .ok (.func fn first cap) W := fun _ _ _ _ => rfl
  go_enter_defers Try.func20, Try.ntmps20
  go_wp2_with (first | (go_at_call 15; go_in) | (go_at_call 21; refine (load1 R d v _ c2 hd hfd).mono ?_; rintro e w1 ⟨rfl, rfl⟩))
  refine leaves_cons (f := 27) (args := #[.pointer (some ⟨L, 0, none⟩)]) (by simp) (by simp [go_sem]) ?_
  refine (tick_d L n .returning _ ?_ ?_ hn0 hn1).mono ?_
  · exact (World.cell?_setCell_other _ ⟨d, 0, none⟩ ⟨L, 1, none⟩ _ (by simp)).trans c1
  · rw [World.frozen?_setCell]
    exact f1
  rintro e u' w'' ⟨rfl, rfl, rfl⟩
  exact ⟨_, results_none rfl _ _ _, rfl, rfl⟩

theorem Cel.alloc {W : World} {L R : Nat} {v n : Int} (h : Cel W L R v n) (o : Obj) : Cel (W.alloc o) L R v n := by
  obtain ⟨c0, c1, c2, f1, f2, hLR⟩ := h
  have hL : L < W.heap.size := World.block_lt_of_cell? W _ c0
  have hR : R < W.heap.size := World.block_lt_of_cell? W _ c2
  have hb : Below W.heap.size W (W.alloc o) := (Below.refl _ _).alloc (Nat.le_refl _) o
  exact ⟨(hb.cell hL).trans c0, (hb.cell hL).trans c1, (hb.cell hR).trans c2, (hb.frozen hL).trans f1, (hb.frozen hR).trans f2, hLR⟩
theorem Cel.lt {W : World} {L R : Nat} {v n : Int} (h : Cel W L R v n) : L < W.heap.size ∧ R < W.heap.size := ⟨World.block_lt_of_cell? W _ h.1, World.block_lt_of_cell? W _ h.2.2.1⟩
theorem Cel.drewN {W : World} {L R : Nat} {v n : Int} (h : Cel W L R v n) (k : Nat) : Cel (W.drewN k) L R v n := h
theorem Cel.far {W : World} {L R : Nat} {v n : Int} (h : Cel W L R v n) {p : Addr} (h1 : p.block ≠ L) (h2 : p.block ≠ R) (u : Value) : Cel (W.setCell p u) L R v n := by
  obtain ⟨c0, c1, c2, f1, f2, hLR⟩ := h
  refine ⟨?_, ?_, ?_, by rw [World.frozen?_setCell]; exact f1, by rw [World.frozen?_setCell]; exact f2, hLR⟩
  · rw [World.cell?_setCell_other _ _ _ _ (by intro e; subst e; exact h1 rfl)]; exact c0
  · rw [World.cell?_setCell_other _ _ _ _ (by intro e; subst e; exact h1 rfl)]; exact c1
  · rw [World.cell?_setCell_other _ _ _ _ (by intro e; subst e; exact h2 rfl)]; exact c2
theorem Cel.setR {W : World} {L R : Nat} {v n : Int} (h : Cel W L R v n) (x : Int) : Cel (W.setCell ⟨R, 0, none⟩ (.int .i64 x)) L R x n := by
  obtain ⟨c0, c1, c2, f1, f2, hLR⟩ := h
  refine ⟨?_, ?_, World.cell?_setCell_same' _ _ _ (by rw [c2]; rfl), by rw [World.frozen?_setCell]; exact f1, by rw [World.frozen?_setCell]; exact f2, hLR⟩
  · rw [World.cell?_setCell_other _ _ _ _ (by first | (simp; done) | (simp; exact fun e => hLR e.symm))]; exact c0
  · rw [World.cell?_setCell_other _ _ _ _ (by simp)]; exact c1
theorem Cel.setN {W : World} {L R : Nat} {v n : Int} (h : Cel W L R v n) (x : Int) : Cel (W.setCell ⟨L, 1, none⟩ (.int .i64 x)) L R v x := by
  obtain ⟨c0, c1, c2, f1, f2, hLR⟩ := h
  refine ⟨?_, World.cell?_setCell_same' _ _ _ (by rw [c1]; rfl), ?_, by rw [World.frozen?_setCell]; exact f1, by rw [World.frozen?_setCell]; exact f2, hLR⟩
  · rw [World.cell?_setCell_other _ _ _ _ (by simp)]; exact c0
  · rw [World.cell?_setCell_other _ _ _ _ (by simp)]; exact c2
end Go.Proofs.Ythhhphmjohekgaa
