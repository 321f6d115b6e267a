/- Contracts of access on two cells. -/
import Derived.Test.YtiabmkhkmhjkpaaBase
import Derived.Handy
import Derived.RegionTactic
import Derived.ChangeAlike
import Derived.Defers
import Derived.Deep.QuietTactic
import Derived.BigQuiet
namespace Go.Proofs.Ytiabmkhkmhjkpaa
open Go.ChangeShapes Go.WideShapes Go.ChangeAt Go.RowKit
set_option linter.unusedVariables false
theorem access_nil (i : Int) (f : Value) (W : World) : Calls Try.prog 18 #[.pointer none, .int .i64 i, f] W fun e W' => e = .returned (.tuple #[]) ∧ W' = W := by
  by_cases h : i < 0
  · go_enter_defers Try.func18, Try.ntmps18
    go_wp2
    exact ⟨_, results_none rfl _ _ _, rfl, rfl⟩
  · have d : decide (0 ≤ i) = true := decide_eq_true (by omega)
    go_enter_defers Try.func18, Try.ntmps18
    go_wp2
    exact ⟨_, results_none rfl _ _ _, rfl, rfl⟩
theorem tick_d (b : Nat) (n : Int) (u : FrameMode) (W : World) (hc : W.cell? ⟨b, 1, none⟩ = some (.int .i64 n)) (hf : W.frozen? ⟨b, 1, none⟩ = false) (h0 : 0 ≤ n) (h1 : n < 1000) :
    CallsD Try.prog 28 #[.pointer (some ⟨b, 0, none⟩)] u W fun e u' W' => u' = u ∧ e = .returned (.tuple #[]) ∧ W' = W.setCell ⟨b, 1, none⟩ (.int .i64 (n + 1)) := by
  go_enter_d Try.func28, Try.ntmps28
  go_wp2
  go_end0
  exact ⟨rfl, rfl⟩
theorem load1 (r i d : Nat) (v : Int) (W : World) (hr : W.cell? ⟨r, i, none⟩ = some (.int .i64 v)) (hd : W.cell? ⟨d, 0, none⟩ = some (.int .i64 0)) (hfd : W.frozen? ⟨d, 0, none⟩ = false) :
    Calls Try.prog 25 #[.pointer (some ⟨r, i, none⟩), .pointer (some ⟨d, 0, none⟩)] W fun e W' => e = .returned (.tuple #[]) ∧ W' = W.setCell ⟨d, 0, none⟩ (.int .i64 v) := by
  go_enter Try.func25, Try.ntmps25
  go_wp2
  go_end0
  exact ⟨rfl, rfl⟩
theorem store1 (r i d : Nat) (v x : Int) (W : World) (hr : W.cell? ⟨r, i, none⟩ = some (.int .i64 v)) (hfr : W.frozen? ⟨r, i, none⟩ = false) (hd : W.cell? ⟨d, 0, none⟩ = some (.int .i64 x)) :
    Calls Try.prog 19 #[.pointer (some ⟨r, i, none⟩), .pointer (some ⟨d, 0, none⟩)] W fun e W' => e = .returned (.tuple #[]) ∧ W' = W.setCell ⟨r, i, none⟩ (.int .i64 x) := by
  go_enter Try.func19, Try.ntmps19
  go_wp2
  go_end0
  exact ⟨rfl, rfl⟩
theorem add1 (r b d : Nat) (v : Int) (W : World) (hr : W.cell? ⟨r, 0, none⟩ = some (.int .i64 v)) (hfr : W.frozen? ⟨r, 0, none⟩ = false) (hb : W.cell? ⟨b, 0, none⟩ = some (.int .i64 1)) (hd : W.cell? ⟨d, 0, none⟩ = some (.int .i64 0)) (hfd : W.frozen? ⟨d, 0, none⟩ = false) (hdr : d ≠ r) (hv0 : 0 ≤ v) (hv1 : v < 1000) :
    Calls Try.prog 29 #[.pointer (some ⟨r, 0, none⟩), .pointer (some ⟨b, 0, none⟩), .pointer (some ⟨d, 0, none⟩)] W fun e W' => e = .returned (.tuple #[]) ∧ ∃ k, W' = ((W.setCell ⟨r, 0, none⟩ (.int .i64 (v + 1))).setCell ⟨d, 0, none⟩ (.int .i64 (v + 1))).drewN k := by
  have s1 : (W.setCell ⟨r, 0, none⟩ (.int .i64 (v + 1))).cell? ⟨r, 0, none⟩ = some (.int .i64 (v + 1)) := World.cell?_setCell_same' _ _ _ (by rw [hr]; rfl)
  go_enter Try.func29, Try.ntmps29
  go_wp2
  go_region
  all_goals go_wp2
  all_goals go_end0
  all_goals exact ⟨rfl, 1, rfl⟩

/-- Two cells: the struct in block L, their row in block R. -/
def Cel (W : World) (L R : Nat) (v0 v1 n : Int) : Prop :=
  W.cell? ⟨L, 0, none⟩ = some (.slice (some ⟨R, 0, none⟩) 2 2) ∧ W.cell? ⟨L, 1, none⟩ = some (.int .i64 n) ∧ W.cell? ⟨R, 0, none⟩ = some (.int .i64 v0) ∧ W.cell? ⟨R, 1, none⟩ = some (.int .i64 v1) ∧ W.frozen? ⟨L, 1, none⟩ = false ∧ W.frozen? ⟨R, 0, none⟩ = false ∧ W.frozen? ⟨R, 1, none⟩ = false ∧ L ≠ R

set_option maxHeartbeats 1000000 in
theorem access_add (L R b d : Nat) (v v1 n : Int) (W : World) (hC : Cel W L R v v1 n) (ho : W.cell? ⟨b, 0, none⟩ = some (.int .i64 1)) (hd : W.cell? ⟨d, 0, none⟩ = some (.int .i64 0)) (hfd : W.frozen? ⟨d, 0, none⟩ = false) (h1 : d ≠ R) (hv0 : 0 ≤ v) (hv1 : v < 1000) (hn0 : 0 ≤ n) (hn1 : n < 1000) :
    Calls Try.prog 18 #[.pointer (some ⟨L, 0, none⟩), .int .i64 0, .func (.func 29) #[] #[.pointer (some ⟨b, 0, none⟩), .pointer (some ⟨d, 0, none⟩)]] W fun e W' => e = .returned (.tuple #[]) ∧ ∃ k, W' = (((W.setCell ⟨R, 0, none⟩ (.int .i64 (v + 1))).setCell ⟨d, 0, none⟩ (.int .i64 (v + 1))).drewN k).setCell ⟨L, 1, none⟩ (.int .i64 (n + 1)) := by
  obtain ⟨c0, c1, c2, c3, f1, f2, f3, hLR⟩ := hC
  have hmf : ∀ (fn : Fn) (first cap : Array Value) (W : World), (Instr.makeFunc fn first cap).run Try.prog W = .ok (.func fn first cap) W := fun _ _ _ _ => rfl
  go_enter_defers Try.func18, Try.ntmps18
  go_wp2_with (first | (go_at_call 20; go_in) | (go_at_call 29; refine (add1 R b d v _ c2 f2 ho hd hfd h1 hv0 hv1).mono ?_; rintro e w1 ⟨rfl, k, rfl⟩))
  refine leaves_cons (f := 28) (args := #[.pointer (some ⟨L, 0, none⟩)]) (by simp) (by simp [go_sem]) ?_
  refine (tick_d L n .returning (((W.setCell ⟨R, 0, none⟩ (.int .i64 (v + 1))).setCell ⟨d, 0, none⟩ (.int .i64 (v + 1))).drewN k) ?_ ?_ hn0 hn1).mono ?_
  · exact (World.cell?_setCell_other _ ⟨d, 0, none⟩ ⟨L, 1, none⟩ _ (by simp)).trans ((World.cell?_setCell_other _ ⟨R, 0, none⟩ ⟨L, 1, none⟩ _ (by simp)).trans c1)
  · show ((W.setCell ⟨R, 0, none⟩ (.int .i64 (v + 1))).setCell ⟨d, 0, none⟩ (.int .i64 (v + 1))).frozen? _ = false
    rw [World.frozen?_setCell, World.frozen?_setCell]
    exact f1
  rintro e u' w'' ⟨rfl, rfl, rfl⟩
  exact ⟨_, results_none rfl _ _ _, rfl, _, rfl⟩

set_option maxHeartbeats 1000000 in
theorem access_load0 (L R d : Nat) (v0 v1 n : Int) (W : World) (hC : Cel W L R v0 v1 n) (hd : W.cell? ⟨d, 0, none⟩ = some (.int .i64 0)) (hfd : W.frozen? ⟨d, 0, none⟩ = false) (hn0 : 0 ≤ n) (hn1 : n < 1000) :
    Calls Try.prog 18 #[.pointer (some ⟨L, 0, none⟩), .int .i64 0, .func (.func 25) #[] #[.pointer (some ⟨d, 0, none⟩)]] W fun e W' => e = .returned (.tuple #[]) ∧ W' = (W.setCell ⟨d, 0, none⟩ (.int .i64 v0)).setCell ⟨L, 1, none⟩ (.int .i64 (n + 1)) := by
  obtain ⟨c0, c1, c2, c3, f1, f2, f3, hLR⟩ := hC
  have hmf : ∀ (fn : Fn) (first cap : Array Value) (W : World), (Instr.makeFunc fn first cap).run Try.prog W = .ok (.func fn first cap) W := fun _ _ _ _ => rfl
  go_enter_defers Try.func18, Try.ntmps18
  go_wp2_with (first | (go_at_call 20; go_in) | (go_at_call 25; refine (load1 R 0 d v0 _ c2 hd hfd).mono ?_; rintro e w1 ⟨rfl, rfl⟩))
  refine leaves_cons (f := 28) (args := #[.pointer (some ⟨L, 0, none⟩)]) (by simp) (by simp [go_sem]) ?_
  refine (tick_d L n .returning _ ?_ ?_ hn0 hn1).mono ?_
  · exact (World.cell?_setCell_other _ ⟨d, 0, none⟩ ⟨L, 1, none⟩ _ (by simp)).trans c1
  · rw [World.frozen?_setCell]
    exact f1
  rintro e u' w'' ⟨rfl, rfl, rfl⟩
  exact ⟨_, results_none rfl _ _ _, rfl, rfl⟩

set_option maxHeartbeats 1000000 in
theorem access_load1 (L R d : Nat) (v0 v1 n : Int) (W : World) (hC : Cel W L R v0 v1 n) (hd : W.cell? ⟨d, 0, none⟩ = some (.int .i64 0)) (hfd : W.frozen? ⟨d, 0, none⟩ = false) (hn0 : 0 ≤ n) (hn1 : n < 1000) :
    Calls Try.prog 18 #[.pointer (some ⟨L, 0, none⟩), .int .i64 1, .func (.func 25) #[] #[.pointer (some ⟨d, 0, none⟩)]] W fun e W' => e = .returned (.tuple #[]) ∧ W' = (W.setCell ⟨d, 0, none⟩ (.int .i64 v1)).setCell ⟨L, 1, none⟩ (.int .i64 (n + 1)) := by
  obtain ⟨c0, c1, c2, c3, f1, f2, f3, hLR⟩ := hC
  have hmf : ∀ (fn : Fn) (first cap : Array Value) (W : World), (Instr.makeFunc fn first cap).run Try.prog W = .ok (.func fn first cap) W := fun _ _ _ _ => rfl
  go_enter_defers Try.func18, Try.ntmps18
  go_wp2_with (first | (go_at_call 20; go_in) | (go_at_call 25; refine (load1 R 1 d v1 _ c3 hd hfd).mono ?_; rintro e w1 ⟨rfl, rfl⟩))
  refine leaves_cons (f := 28) (args := #[.pointer (some ⟨L, 0, none⟩)]) (by simp) (by simp [go_sem]) ?_
  refine (tick_d L n .returning _ ?_ ?_ hn0 hn1).mono ?_
  · exact (World.cell?_setCell_other _ ⟨d, 0, none⟩ ⟨L, 1, none⟩ _ (by simp)).trans c1
  · rw [World.frozen?_setCell]
    exact f1
  rintro e u' w'' ⟨rfl, rfl, rfl⟩
  exact ⟨_, results_none rfl _ _ _, rfl, rfl⟩

set_option maxHeartbeats 1000000 in
theorem access_store1 (L R d : Nat) (v0 v1 x n : Int) (W : World) (hC : Cel W L R v0 v1 n) (hd : W.cell? ⟨d, 0, none⟩ = some (.int .i64 x)) (hn0 : 0 ≤ n) (hn1 : n < 1000) :
    Calls Try.prog 18 #[.pointer (some ⟨L, 0, none⟩), .int .i64 1, .func (.func 19) #[] #[.pointer (some ⟨d, 0, none⟩)]] W fun e W' => e = .returned (.tuple #[]) ∧ W' = (W.setCell ⟨R, 1, none⟩ (.int .i64 x)).setCell ⟨L, 1, none⟩ (.int .i64 (n + 1)) := by
  obtain ⟨c0, c1, c2, c3, f1, f2, f3, hLR⟩ := hC
  have hmf : ∀ (fn : Fn) (first cap : Array Value) (W : World), (Instr.makeFunc fn first cap).run Try.prog W = .ok (.func fn first cap) W := fun _ _ _ _ => rfl
  go_enter_defers Try.func18, Try.ntmps18
  go_wp2_with (first | (go_at_call 20; go_in) | (go_at_call 19; refine (store1 R 1 d v1 x _ c3 f3 hd).mono ?_; rintro e w1 ⟨rfl, rfl⟩))
  refine leaves_cons (f := 28) (args := #[.pointer (some ⟨L, 0, none⟩)]) (by simp) (by simp [go_sem]) ?_
  refine (tick_d L n .returning _ ?_ ?_ hn0 hn1).mono ?_
  · exact (World.cell?_setCell_other _ ⟨R, 1, none⟩ ⟨L, 1, none⟩ _ (by intro e; injection e; omega)).trans c1
  · rw [World.frozen?_setCell]
    exact f1
  rintro e u' w'' ⟨rfl, rfl, rfl⟩
  exact ⟨_, results_none rfl _ _ _, rfl, rfl⟩

theorem Cel.lt {W : World} {L R : Nat} {v0 v1 n : Int} (h : Cel W L R v0 v1 n) : L < W.heap.size ∧ R < W.heap.size := ⟨World.block_lt_of_cell? W _ h.1, World.block_lt_of_cell? W _ h.2.2.1⟩
theorem Cel.alloc {W : World} {L R : Nat} {v0 v1 n : Int} (h : Cel W L R v0 v1 n) (o : Obj) : Cel (W.alloc o) L R v0 v1 n := by
  obtain ⟨hL, hR⟩ := h.lt
  obtain ⟨c0, c1, c2, c3, f1, f2, f3, hLR⟩ := h
  have hb : Below W.heap.size W (W.alloc o) := (Below.refl _ _).alloc (Nat.le_refl _) o
  exact ⟨(hb.cell hL).trans c0, (hb.cell hL).trans c1, (hb.cell hR).trans c2, (hb.cell hR).trans c3, (hb.frozen hL).trans f1, (hb.frozen hR).trans f2, (hb.frozen hR).trans f3, hLR⟩
theorem Cel.drewN {W : World} {L R : Nat} {v0 v1 n : Int} (h : Cel W L R v0 v1 n) (k : Nat) : Cel (W.drewN k) L R v0 v1 n := h
theorem Cel.farG {W : World} {L R g : Nat} {v0 v1 n : Int} (h : Cel W L R v0 v1 n) (h1 : g ≠ L) (h2 : g ≠ R) (i : Nat) (u : Value) : Cel (W.setCell ⟨g, i, none⟩ u) L R v0 v1 n := by
  obtain ⟨c0, c1, c2, c3, f1, f2, f3, hLR⟩ := h
  refine ⟨?_, ?_, ?_, ?_, by rw [World.frozen?_setCell]; exact f1, by rw [World.frozen?_setCell]; exact f2, by rw [World.frozen?_setCell]; exact f3, hLR⟩
  · rw [World.cell?_setCell_other _ _ _ _ (by intro e; injection e; omega)]; exact c0
  · rw [World.cell?_setCell_other _ _ _ _ (by intro e; injection e; omega)]; exact c1
  · rw [World.cell?_setCell_other _ _ _ _ (by intro e; injection e; omega)]; exact c2
  · rw [World.cell?_setCell_other _ _ _ _ (by intro e; injection e; omega)]; exact c3
theorem Cel.set0 {W : World} {L R : Nat} {v0 v1 n : Int} (h : Cel W L R v0 v1 n) (x : Int) : Cel (W.setCell ⟨R, 0, none⟩ (.int .i64 x)) L R x v1 n := by
  obtain ⟨c0, c1, c2, c3, f1, f2, f3, hLR⟩ := h
  refine ⟨?_, ?_, World.cell?_setCell_same' _ _ _ (by rw [c2]; rfl), ?_, by rw [World.frozen?_setCell]; exact f1, by rw [World.frozen?_setCell]; exact f2, by rw [World.frozen?_setCell]; exact f3, hLR⟩
  · rw [World.cell?_setCell_other _ _ _ _ (by intro e; injection e; omega)]; exact c0
  · rw [World.cell?_setCell_other _ _ _ _ (by intro e; injection e; omega)]; exact c1
  · rw [World.cell?_setCell_other _ _ _ _ (by intro e; injection e; omega)]; exact c3
theorem Cel.set1 {W : World} {L R : Nat} {v0 v1 n : Int} (h : Cel W L R v0 v1 n) (x : Int) : Cel (W.setCell ⟨R, 1, none⟩ (.int .i64 x)) L R v0 x n := by
  obtain ⟨c0, c1, c2, c3, f1, f2, f3, hLR⟩ := h
  refine ⟨?_, ?_, ?_, World.cell?_setCell_same' _ _ _ (by rw [c3]; rfl), by rw [World.frozen?_setCell]; exact f1, by rw [World.frozen?_setCell]; exact f2, by rw [World.frozen?_setCell]; exact f3, hLR⟩
  · rw [World.cell?_setCell_other _ _ _ _ (by intro e; injection e; omega)]; exact c0
  · rw [World.cell?_setCell_other _ _ _ _ (by intro e; injection e; omega)]; exact c1
  · rw [World.cell?_setCell_other _ _ _ _ (by intro e; injection e; omega)]; exact c2
theorem Cel.setN {W : World} {L R : Nat} {v0 v1 n : Int} (h : Cel W L R v0 v1 n) (x : Int) : Cel (W.setCell ⟨L, 1, none⟩ (.int .i64 x)) L R v0 v1 x := by
  obtain ⟨c0, c1, c2, c3, f1, f2, f3, hLR⟩ := h
  refine ⟨?_, World.cell?_setCell_same' _ _ _ (by rw [c1]; rfl), ?_, ?_, by rw [World.frozen?_setCell]; exact f1, by rw [World.frozen?_setCell]; exact f2, by rw [World.frozen?_setCell]; exact f3, hLR⟩
  · rw [World.cell?_setCell_other _ _ _ _ (by intro e; injection e; omega)]; exact c0
  · rw [World.cell?_setCell_other _ _ _ _ (by intro e; injection e; omega)]; exact c2
  · rw [World.cell?_setCell_other _ _ _ _ (by intro e; injection e; omega)]; exact c3
end Go.Proofs.Ytiabmkhkmhjkpaa
