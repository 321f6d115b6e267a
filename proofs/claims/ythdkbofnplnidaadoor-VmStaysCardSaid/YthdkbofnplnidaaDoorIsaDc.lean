/- What is wrong with an instruction, by the program and by the document. -/
import Derived.Test.YthdkbofnplnidaaDoorIsaCc
import Derived.Deep.Light
namespace Go.Proofs.YthdkbofnplnidaaDoor
open Go.ChangeShapes Go.WideShapes Go.ChangeAt Go.RowKit Go.Deep
set_option linter.unusedVariables false
set_option linter.unusedSimpArgs false

def chk (rg tg : Int) (nb : Bool) (A B C N p f : Int) : Int :=
  if 1 ≤ rg ∧ (A < 0 ∨ 8 ≤ A) ∨ 2 ≤ rg ∧ (B < 0 ∨ 8 ≤ B) ∨ 3 ≤ rg ∧ (C < 0 ∨ 8 ≤ C) then 2
  else if rg < 1 ∧ A ≠ 0 ∨ rg < 2 ∧ B ≠ 0 ∨ rg < 3 ∧ C ≠ 0 then 9
  else if tg = 0 then (if N ≠ 0 ∧ nb = false then 9 else 0)
  else if tg = 1 then (if N < 0 ∨ p ≤ N then 2 else 0)
  else (if N < 0 ∨ f ≤ N then 2 else 0)
theorem rregs_v (k : Nat) (hk : k < 24) (v : Int) (hv : rg k = v) (W : World) : Calls Tryd.prog 48 #[.int .i64 k] W fun e W' => e = .returned (.int .i64 v) ∧ W = W' := by
  rw [← hv, ← rgF_in k hk]; exact rregs_any k W
theorem rtarget_v (k : Nat) (hk : k < 24) (v : Int) (hv : tg k = v) (W : World) : Calls Tryd.prog 49 #[.int .i64 k] W fun e W' => e = .returned (.int .i64 v) ∧ W = W' := by
  rw [← hv, ← tgF_in k hk]; exact rtarget_any k W

set_option maxHeartbeats 8000000 in
theorem check_00f (k : Nat) (hk : k < 24) (hr : rg k = 0) (ht : tg k = 0) (hn : nb k = false) (A B C N p f : Int) (W : World) (hT : Tab W) :
    Calls Tryd.prog 45 #[.agg #[.int .i64 k, .int .i64 A, .int .i64 B, .int .i64 C, .int .i64 N], .int .i64 p, .int .i64 f] W fun e W' => e = .returned (.int .i64 (chk 0 0 false A B C N p f)) ∧ Below W.heap.size W W' := by
  have h0 : (0 : Int) ≤ (k : Int) := by omega
  have h1 : (k : Int) < 24 := by omega
  have hlt := hT.lt
  obtain ⟨t0, t1, t2, t3, t4, t5, t6⟩ := tab_ent k hk
  rw [← hT.cell] at t0 t1 t2 t3 t4 t5 t6
  rw [hr] at t1
  rw [ht] at t2
  rw [hn] at t3
  clear hT hr ht hn
  go_enter Tryd.func45, Tryd.ntmps45
  go_wp2
  all_goals try go_rounds 1
  all_goals try go_rounds 4
  all_goals go_ret
  all_goals refine ⟨ret_int ?_, by repeat (first | exact Below.refl _ _ | refine Below.alloc ?_ (by first | (simp; done) | (simp; omega)) _)⟩
  all_goals (go_light; unfold chk; simp only [bne_iff_ne, ne_eq, bne_eq_false_iff_eq] at *; repeat (first | rfl | rw [if_pos (by first | omega | decide)] | rw [if_neg (by first | omega | decide)]); try (simp [*]; done))

set_option maxHeartbeats 8000000 in
theorem check_10t (k : Nat) (hk : k < 24) (hr : rg k = 1) (ht : tg k = 0) (hn : nb k = true) (A B C N p f : Int) (W : World) (hT : Tab W) :
    Calls Tryd.prog 45 #[.agg #[.int .i64 k, .int .i64 A, .int .i64 B, .int .i64 C, .int .i64 N], .int .i64 p, .int .i64 f] W fun e W' => e = .returned (.int .i64 (chk 1 0 true A B C N p f)) ∧ Below W.heap.size W W' := by
  have h0 : (0 : Int) ≤ (k : Int) := by omega
  have h1 : (k : Int) < 24 := by omega
  have hlt := hT.lt
  obtain ⟨t0, t1, t2, t3, t4, t5, t6⟩ := tab_ent k hk
  rw [← hT.cell] at t0 t1 t2 t3 t4 t5 t6
  rw [hr] at t1
  rw [ht] at t2
  rw [hn] at t3
  clear hT hr ht hn
  go_enter Tryd.func45, Tryd.ntmps45
  go_wp2
  all_goals try go_rounds 2
  all_goals try go_rounds 3
  all_goals go_ret
  all_goals refine ⟨ret_int ?_, by repeat (first | exact Below.refl _ _ | refine Below.alloc ?_ (by first | (simp; done) | (simp; omega)) _)⟩
  all_goals (go_light; unfold chk; simp only [bne_iff_ne, ne_eq, bne_eq_false_iff_eq] at *; repeat (first | rfl | rw [if_pos (by first | omega | decide)] | rw [if_neg (by first | omega | decide)]); try (simp [*]; done))

set_option maxHeartbeats 8000000 in
theorem check_30f (k : Nat) (hk : k < 24) (hr : rg k = 3) (ht : tg k = 0) (hn : nb k = false) (A B C N p f : Int) (W : World) (hT : Tab W) :
    Calls Tryd.prog 45 #[.agg #[.int .i64 k, .int .i64 A, .int .i64 B, .int .i64 C, .int .i64 N], .int .i64 p, .int .i64 f] W fun e W' => e = .returned (.int .i64 (chk 3 0 false A B C N p f)) ∧ Below W.heap.size W W' := by
  have h0 : (0 : Int) ≤ (k : Int) := by omega
  have h1 : (k : Int) < 24 := by omega
  have hlt := hT.lt
  obtain ⟨t0, t1, t2, t3, t4, t5, t6⟩ := tab_ent k hk
  rw [← hT.cell] at t0 t1 t2 t3 t4 t5 t6
  rw [hr] at t1
  rw [ht] at t2
  rw [hn] at t3
  clear hT hr ht hn
  go_enter Tryd.func45, Tryd.ntmps45
  go_wp2
  all_goals try go_rounds 4
  all_goals try go_rounds 1
  all_goals go_ret
  all_goals refine ⟨ret_int ?_, by repeat (first | exact Below.refl _ _ | refine Below.alloc ?_ (by first | (simp; done) | (simp; omega)) _)⟩
  all_goals (go_light; unfold chk; simp only [bne_iff_ne, ne_eq, bne_eq_false_iff_eq] at *; repeat (first | rfl | rw [if_pos (by first | omega | decide)] | rw [if_neg (by first | omega | decide)]); try (simp [*]; done))

set_option maxHeartbeats 8000000 in
theorem check_01f (k : Nat) (hk : k < 24) (hr : rg k = 0) (ht : tg k = 1) (hn : nb k = false) (A B C N p f : Int) (W : World) (hT : Tab W) :
    Calls Tryd.prog 45 #[.agg #[.int .i64 k, .int .i64 A, .int .i64 B, .int .i64 C, .int .i64 N], .int .i64 p, .int .i64 f] W fun e W' => e = .returned (.int .i64 (chk 0 1 false A B C N p f)) ∧ Below W.heap.size W W' := by
  have h0 : (0 : Int) ≤ (k : Int) := by omega
  have h1 : (k : Int) < 24 := by omega
  have hlt := hT.lt
  obtain ⟨t0, t1, t2, t3, t4, t5, t6⟩ := tab_ent k hk
  rw [← hT.cell] at t0 t1 t2 t3 t4 t5 t6
  rw [hr] at t1
  rw [ht] at t2
  rw [hn] at t3
  clear hT hr ht hn
  go_enter Tryd.func45, Tryd.ntmps45
  go_wp2
  all_goals try go_rounds 1
  all_goals try go_rounds 4
  all_goals go_ret
  all_goals refine ⟨ret_int ?_, by repeat (first | exact Below.refl _ _ | refine Below.alloc ?_ (by first | (simp; done) | (simp; omega)) _)⟩
  all_goals (go_light; unfold chk; simp only [bne_iff_ne, ne_eq, bne_eq_false_iff_eq] at *; repeat (first | rfl | rw [if_pos (by first | omega | decide)] | rw [if_neg (by first | omega | decide)]); try (simp [*]; done))

set_option maxHeartbeats 8000000 in
theorem check_11f (k : Nat) (hk : k < 24) (hr : rg k = 1) (ht : tg k = 1) (hn : nb k = false) (A B C N p f : Int) (W : World) (hT : Tab W) :
    Calls Tryd.prog 45 #[.agg #[.int .i64 k, .int .i64 A, .int .i64 B, .int .i64 C, .int .i64 N], .int .i64 p, .int .i64 f] W fun e W' => e = .returned (.int .i64 (chk 1 1 false A B C N p f)) ∧ Below W.heap.size W W' := by
  have h0 : (0 : Int) ≤ (k : Int) := by omega
  have h1 : (k : Int) < 24 := by omega
  have hlt := hT.lt
  obtain ⟨t0, t1, t2, t3, t4, t5, t6⟩ := tab_ent k hk
  rw [← hT.cell] at t0 t1 t2 t3 t4 t5 t6
  rw [hr] at t1
  rw [ht] at t2
  rw [hn] at t3
  clear hT hr ht hn
  go_enter Tryd.func45, Tryd.ntmps45
  go_wp2
  all_goals try go_rounds 2
  all_goals try go_rounds 3
  all_goals go_ret
  all_goals refine ⟨ret_int ?_, by repeat (first | exact Below.refl _ _ | refine Below.alloc ?_ (by first | (simp; done) | (simp; omega)) _)⟩
  all_goals (go_light; unfold chk; simp only [bne_iff_ne, ne_eq, bne_eq_false_iff_eq] at *; repeat (first | rfl | rw [if_pos (by first | omega | decide)] | rw [if_neg (by first | omega | decide)]); try (simp [*]; done))

set_option maxHeartbeats 8000000 in
theorem check_02f (k : Nat) (hk : k < 24) (hr : rg k = 0) (ht : tg k = 2) (hn : nb k = false) (A B C N p f : Int) (W : World) (hT : Tab W) :
    Calls Tryd.prog 45 #[.agg #[.int .i64 k, .int .i64 A, .int .i64 B, .int .i64 C, .int .i64 N], .int .i64 p, .int .i64 f] W fun e W' => e = .returned (.int .i64 (chk 0 2 false A B C N p f)) ∧ Below W.heap.size W W' := by
  have h0 : (0 : Int) ≤ (k : Int) := by omega
  have h1 : (k : Int) < 24 := by omega
  have hlt := hT.lt
  obtain ⟨t0, t1, t2, t3, t4, t5, t6⟩ := tab_ent k hk
  rw [← hT.cell] at t0 t1 t2 t3 t4 t5 t6
  rw [hr] at t1
  rw [ht] at t2
  rw [hn] at t3
  clear hT hr ht hn
  go_enter Tryd.func45, Tryd.ntmps45
  go_wp2
  all_goals try go_rounds 1
  all_goals try go_rounds 4
  all_goals go_ret
  all_goals refine ⟨ret_int ?_, by repeat (first | exact Below.refl _ _ | refine Below.alloc ?_ (by first | (simp; done) | (simp; omega)) _)⟩
  all_goals (go_light; unfold chk; simp only [bne_iff_ne, ne_eq, bne_eq_false_iff_eq] at *; repeat (first | rfl | rw [if_pos (by first | omega | decide)] | rw [if_neg (by first | omega | decide)]); try (simp [*]; done))

set_option maxHeartbeats 8000000 in
theorem check_12f (k : Nat) (hk : k < 24) (hr : rg k = 1) (ht : tg k = 2) (hn : nb k = false) (A B C N p f : Int) (W : World) (hT : Tab W) :
    Calls Tryd.prog 45 #[.agg #[.int .i64 k, .int .i64 A, .int .i64 B, .int .i64 C, .int .i64 N], .int .i64 p, .int .i64 f] W fun e W' => e = .returned (.int .i64 (chk 1 2 false A B C N p f)) ∧ Below W.heap.size W W' := by
  have h0 : (0 : Int) ≤ (k : Int) := by omega
  have h1 : (k : Int) < 24 := by omega
  have hlt := hT.lt
  obtain ⟨t0, t1, t2, t3, t4, t5, t6⟩ := tab_ent k hk
  rw [← hT.cell] at t0 t1 t2 t3 t4 t5 t6
  rw [hr] at t1
  rw [ht] at t2
  rw [hn] at t3
  clear hT hr ht hn
  go_enter Tryd.func45, Tryd.ntmps45
  go_wp2
  all_goals try go_rounds 2
  all_goals try go_rounds 3
  all_goals go_ret
  all_goals refine ⟨ret_int ?_, by repeat (first | exact Below.refl _ _ | refine Below.alloc ?_ (by first | (simp; done) | (simp; omega)) _)⟩
  all_goals (go_light; unfold chk; simp only [bne_iff_ne, ne_eq, bne_eq_false_iff_eq] at *; repeat (first | rfl | rw [if_pos (by first | omega | decide)] | rw [if_neg (by first | omega | decide)]); try (simp [*]; done))

set_option maxHeartbeats 8000000 in
theorem check_10f (k : Nat) (hk : k < 24) (hr : rg k = 1) (ht : tg k = 0) (hn : nb k = false) (A B C N p f : Int) (W : World) (hT : Tab W) :
    Calls Tryd.prog 45 #[.agg #[.int .i64 k, .int .i64 A, .int .i64 B, .int .i64 C, .int .i64 N], .int .i64 p, .int .i64 f] W fun e W' => e = .returned (.int .i64 (chk 1 0 false A B C N p f)) ∧ Below W.heap.size W W' := by
  have h0 : (0 : Int) ≤ (k : Int) := by omega
  have h1 : (k : Int) < 24 := by omega
  have hlt := hT.lt
  obtain ⟨t0, t1, t2, t3, t4, t5, t6⟩ := tab_ent k hk
  rw [← hT.cell] at t0 t1 t2 t3 t4 t5 t6
  rw [hr] at t1
  rw [ht] at t2
  rw [hn] at t3
  clear hT hr ht hn
  go_enter Tryd.func45, Tryd.ntmps45
  go_wp2
  all_goals try go_rounds 2
  all_goals try go_rounds 3
  all_goals go_ret
  all_goals refine ⟨ret_int ?_, by repeat (first | exact Below.refl _ _ | refine Below.alloc ?_ (by first | (simp; done) | (simp; omega)) _)⟩
  all_goals (go_light; unfold chk; simp only [bne_iff_ne, ne_eq, bne_eq_false_iff_eq] at *; repeat (first | rfl | rw [if_pos (by first | omega | decide)] | rw [if_neg (by first | omega | decide)]); try (simp [*]; done))
end Go.Proofs.YthdkbofnplnidaaDoor
