/- What each op has, and what is wrong with an instruction that has no register, by the program. -/
import Derived.Test.YtkpipoicobmjkaaDoorIsaA
import Derived.Deep.QuietTactic
import Derived.BigQuiet
import Derived.Handy
import Derived.Deep.Light
namespace Go.Proofs.YtkpipoicobmjkaaDoor
open Go.ChangeShapes Go.WideShapes Go.ChangeAt Go.RowKit Go.Deep
set_option linter.unusedVariables false

set_option maxHeartbeats 1000000 in
theorem of_in (k : Nat) (hk : k < 24) (W : World) (hT : Tab W) : Calls Tryd.prog 32 #[.int .i64 k] W fun e W' => e = .returned (.agg #[.string (nm k), .int .i64 (rg k), .int .i64 (tg k), .bool (nb k), .bool (wt k), .bool (en k), .bool (ak k)]) ∧ Below W.heap.size W W' := by
  have h0 : (0 : Int) ≤ (k : Int) := by omega
  have h1 : (k : Int) < 24 := by omega
  have hlt := hT.lt
  obtain ⟨t0, t1, t2, t3, t4, t5, t6⟩ := tab_ent k hk
  rw [← hT.cell] at t0 t1 t2 t3 t4 t5 t6
  have HT := Lib.hid hT
  clear hT
  go_enter Tryd.func32, Tryd.ntmps32
  go_wp2
  refine bodyPost_ret (v := .agg #[.string (nm k), .int .i64 (rg k), .int .i64 (tg k), .bool (nb k), .bool (wt k), .bool (en k), .bool (ak k)]) (by simp [results, Tryd.results32, go_sem]) rfl ⟨rfl, ?_⟩
  exact (Below.refl _ _).alloc (Nat.le_refl _) _
theorem fld4 (a b c d e f g : Value) (w : World) : (Instr.field 52 (.agg #[a, b, c, d, e, f, g]) 4).run Tryd.prog w = .ok e w := by kernel_rfl
theorem fld5 (a b c d e f g : Value) (w : World) : (Instr.field 52 (.agg #[a, b, c, d, e, f, g]) 5).run Tryd.prog w = .ok f w := by kernel_rfl
theorem waits_in (k : Nat) (hk : k < 24) (W : World) (hT : Tab W) : Calls Tryd.prog 31 #[.int .i64 k] W fun e W' => e = .returned (.bool (wt k)) ∧ Below W.heap.size W W' := by
  have HT := Lib.hid hT
  clear hT
  have hfl := fld4
  go_enter Tryd.func31, Tryd.ntmps31
  go_wp2_with (go_at_call 32; refine (of_in k hk _ HT.out).mono ?_; rintro e w1 ⟨rfl, hb⟩)
  go_ret
  exact ⟨rfl, hb⟩
theorem ends_in (k : Nat) (hk : k < 24) (W : World) (hT : Tab W) : Calls Tryd.prog 27 #[.int .i64 k] W fun e W' => e = .returned (.bool (en k)) ∧ Below W.heap.size W W' := by
  have HT := Lib.hid hT
  clear hT
  have hfl := fld5
  go_enter Tryd.func27, Tryd.ntmps27
  go_wp2_with (go_at_call 32; refine (of_in k hk _ HT.out).mono ?_; rintro e w1 ⟨rfl, hb⟩)
  go_ret
  exact ⟨rfl, hb⟩
def chk (rg tg : Int) (nb : Bool) (A B C N p f : Int) : Int :=
  if 1 ≤ rg ∧ (A < 0 ∨ 8 ≤ A) ∨ 2 ≤ rg ∧ (B < 0 ∨ 8 ≤ B) ∨ 3 ≤ rg ∧ (C < 0 ∨ 8 ≤ C) then 2
  else if rg < 1 ∧ A ≠ 0 ∨ rg < 2 ∧ B ≠ 0 ∨ rg < 3 ∧ C ≠ 0 then 9
  else if tg = 0 then (if N ≠ 0 ∧ nb = false then 9 else 0)
  else if tg = 1 then (if N < 0 ∨ p ≤ N then 2 else 0)
  else (if N < 0 ∨ f ≤ N then 2 else 0)
set_option maxHeartbeats 8000000 in
theorem check_00f (k : Nat) (hk : k < 24) (hr : rg k = 0) (ht : tg k = 0) (hn : nb k = false) (A B C N p f : Int) (W : World) (hT : Tab W) :
    Calls Tryd.prog 26 #[.agg #[.int .i64 k, .int .i64 A, .int .i64 B, .int .i64 C, .int .i64 N], .int .i64 p, .int .i64 f] W fun e W' => e = .returned (.int .i64 (chk 0 0 false A B C N p f)) ∧ Below W.heap.size W W' := by
  have h0 : (0 : Int) ≤ (k : Int) := by omega
  have h1 : (k : Int) < 24 := by omega
  have hlt := hT.lt
  obtain ⟨t0, t1, t2, t3, t4, t5, t6⟩ := tab_ent k hk
  rw [← hT.cell] at t0 t1 t2 t3 t4 t5 t6
  rw [hr] at t1
  rw [ht] at t2
  rw [hn] at t3
  clear hT hr ht hn
  go_enter Tryd.func26, Tryd.ntmps26
  go_wp2
  all_goals try go_rounds 1
  all_goals try go_rounds 4
  all_goals go_ret
  all_goals refine ⟨ret_int ?_, by repeat (first | exact Below.refl _ _ | refine Below.alloc ?_ (by first | (simp; done) | (simp; omega)) _)⟩
  all_goals (go_light; unfold chk; simp only [bne_iff_ne, ne_eq, bne_eq_false_iff_eq] at *; repeat (first | rfl | rw [if_pos (by first | omega | decide)] | rw [if_neg (by first | omega | decide)]); try (simp [*]; done))

end Go.Proofs.YtkpipoicobmjkaaDoor
