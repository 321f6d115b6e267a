/- What each op has, by the program and by the document. -/
import Derived.Test.YthdkbofnplnidaaDoorIsaA
import Derived.Deep.QuietTactic
import Derived.BigQuiet
import Derived.Handy
namespace Go.Proofs.YthdkbofnplnidaaDoor
open Go.ChangeShapes Go.WideShapes Go.ChangeAt Go.RowKit Go.Deep
set_option linter.unusedVariables false
set_option linter.unusedSimpArgs false

set_option maxHeartbeats 1000000 in
theorem of_in (k : Nat) (hk : k < 24) (W : World) (hT : Tab W) : Calls Tryd.prog 32 #[.int .i64 k] W fun e W' => e = .returned (.agg #[.string (nm k), .int .i64 (rg k), .int .i64 (tg k), .bool (nb k), .bool (wt k), .bool (en k), .bool (ak k)]) ∧ Below W.heap.size W W' := by
  have h0 : (0 : Int) ≤ (k : Int) := by omega
  have h1 : (k : Int) < 24 := by omega
  have hlt := hT.lt
  obtain ⟨t0, t1, t2, t3, t4, t5, t6⟩ := tab_ent k hk
  rw [← hT.cell] at t0 t1 t2 t3 t4 t5 t6
  have HT := Lib.hid hT
  clear hT
  go_enter Tryd.func32, Tryd.ntmps32
  go_wp2
  refine bodyPost_ret (v := .agg #[.string (nm k), .int .i64 (rg k), .int .i64 (tg k), .bool (nb k), .bool (wt k), .bool (en k), .bool (ak k)]) (by simp [results, Tryd.results32, go_sem]) rfl ⟨rfl, ?_⟩
  exact (Below.refl _ _).alloc (Nat.le_refl _) _
set_option maxHeartbeats 1000000 in
theorem of_out (op : Int) (h : op < 0 ∨ 24 ≤ op) (W : World) : Calls Tryd.prog 32 #[.int .i64 op] W fun e W' => e = .returned (.agg #[.string ⟨#[]⟩, .int .i64 0, .int .i64 0, .bool false, .bool false, .bool false, .bool false]) ∧ Below W.heap.size W W' := by
  rcases h with h | h
  · go_enter Tryd.func32, Tryd.ntmps32
    go_wp2
    refine bodyPost_ret (v := .agg #[.string ⟨#[]⟩, .int .i64 0, .int .i64 0, .bool false, .bool false, .bool false, .bool false]) (by simp [results, Tryd.results32, go_sem]) rfl ⟨rfl, ?_⟩
    exact (Below.refl _ _).alloc (Nat.le_refl _) _
  · have h0 : 0 ≤ op := by omega
    go_enter Tryd.func32, Tryd.ntmps32
    go_wp2
    refine bodyPost_ret (v := .agg #[.string ⟨#[]⟩, .int .i64 0, .int .i64 0, .bool false, .bool false, .bool false, .bool false]) (by simp [results, Tryd.results32, go_sem]) rfl ⟨rfl, ?_⟩
    exact (Below.refl _ _).alloc (Nat.le_refl _) _
theorem fld0 (a b c d e f g : Value) (w : World) : (Instr.field 65 (.agg #[a, b, c, d, e, f, g]) 0).run Tryd.prog w = .ok a w := by kernel_rfl
theorem fld1 (a b c d e f g : Value) (w : World) : (Instr.field 65 (.agg #[a, b, c, d, e, f, g]) 1).run Tryd.prog w = .ok b w := by kernel_rfl
theorem fld2 (a b c d e f g : Value) (w : World) : (Instr.field 65 (.agg #[a, b, c, d, e, f, g]) 2).run Tryd.prog w = .ok c w := by kernel_rfl
theorem fld3 (a b c d e f g : Value) (w : World) : (Instr.field 65 (.agg #[a, b, c, d, e, f, g]) 3).run Tryd.prog w = .ok d w := by kernel_rfl
theorem fld4 (a b c d e f g : Value) (w : World) : (Instr.field 65 (.agg #[a, b, c, d, e, f, g]) 4).run Tryd.prog w = .ok e w := by kernel_rfl
theorem fld5 (a b c d e f g : Value) (w : World) : (Instr.field 65 (.agg #[a, b, c, d, e, f, g]) 5).run Tryd.prog w = .ok f w := by kernel_rfl
theorem fld6 (a b c d e f g : Value) (w : World) : (Instr.field 65 (.agg #[a, b, c, d, e, f, g]) 6).run Tryd.prog w = .ok g w := by kernel_rfl

theorem waits_in (k : Nat) (hk : k < 24) (W : World) (hT : Tab W) : Calls Tryd.prog 51 #[.int .i64 k] W fun e W' => e = .returned (.bool (wt k)) ∧ Below W.heap.size W W' := by
  have HT := Lib.hid hT
  clear hT
  have hfl := fld4
  go_enter Tryd.func51, Tryd.ntmps51
  go_wp2_with (go_at_call 32; refine (of_in k hk _ HT.out).mono ?_; rintro e w1 ⟨rfl, hb⟩)
  go_ret
  exact ⟨rfl, hb⟩
theorem waits_out (op : Int) (h : op < 0 ∨ 24 ≤ op) (W : World) : Calls Tryd.prog 51 #[.int .i64 op] W fun e W' => e = .returned (.bool false) ∧ Below W.heap.size W W' := by
  have H := Lib.hid h
  clear h
  have hfl := fld4
  go_enter Tryd.func51, Tryd.ntmps51
  go_wp2_with (go_at_call 32; refine (of_out op H.out _).mono ?_; rintro e w1 ⟨rfl, hb⟩)
  go_ret
  exact ⟨rfl, hb⟩

theorem ends_in (k : Nat) (hk : k < 24) (W : World) (hT : Tab W) : Calls Tryd.prog 46 #[.int .i64 k] W fun e W' => e = .returned (.bool (en k)) ∧ Below W.heap.size W W' := by
  have HT := Lib.hid hT
  clear hT
  have hfl := fld5
  go_enter Tryd.func46, Tryd.ntmps46
  go_wp2_with (go_at_call 32; refine (of_in k hk _ HT.out).mono ?_; rintro e w1 ⟨rfl, hb⟩)
  go_ret
  exact ⟨rfl, hb⟩
theorem ends_out (op : Int) (h : op < 0 ∨ 24 ≤ op) (W : World) : Calls Tryd.prog 46 #[.int .i64 op] W fun e W' => e = .returned (.bool false) ∧ Below W.heap.size W W' := by
  have H := Lib.hid h
  clear h
  have hfl := fld5
  go_enter Tryd.func46, Tryd.ntmps46
  go_wp2_with (go_at_call 32; refine (of_out op H.out _).mono ?_; rintro e w1 ⟨rfl, hb⟩)
  go_ret
  exact ⟨rfl, hb⟩

theorem asks_in (k : Nat) (hk : k < 24) (W : World) (hT : Tab W) : Calls Tryd.prog 22 #[.int .i64 k] W fun e W' => e = .returned (.bool (ak k)) ∧ Below W.heap.size W W' := by
  have HT := Lib.hid hT
  clear hT
  have hfl := fld6
  go_enter Tryd.func22, Tryd.ntmps22
  go_wp2_with (go_at_call 32; refine (of_in k hk _ HT.out).mono ?_; rintro e w1 ⟨rfl, hb⟩)
  go_ret
  exact ⟨rfl, hb⟩
theorem asks_out (op : Int) (h : op < 0 ∨ 24 ≤ op) (W : World) : Calls Tryd.prog 22 #[.int .i64 op] W fun e W' => e = .returned (.bool false) ∧ Below W.heap.size W W' := by
  have H := Lib.hid h
  clear h
  have hfl := fld6
  go_enter Tryd.func22, Tryd.ntmps22
  go_wp2_with (go_at_call 32; refine (of_out op H.out _).mono ?_; rintro e w1 ⟨rfl, hb⟩)
  go_ret
  exact ⟨rfl, hb⟩

def rgF (op : Int) : Int := if op = 2 ∨ op = 3 ∨ op = 4 ∨ op = 5 then 3 else if op = 1 ∨ op = 7 ∨ op = 10 ∨ op = 13 ∨ op = 15 ∨ op = 16 ∨ op = 20 ∨ op = 21 ∨ op = 22 ∨ op = 23 then 1 else 0
def tgF (op : Int) : Int := if op = 6 ∨ op = 7 then 1 else if op = 8 ∨ op = 10 then 2 else 0
theorem rgF_in : ∀ k : Nat, k < 24 → rgF (k : Int) = rg k := by decide
theorem tgF_in : ∀ k : Nat, k < 24 → tgF (k : Int) = tg k := by decide
set_option maxHeartbeats 4000000 in
theorem rregs_any (op : Int) (W : World) : Calls Tryd.prog 48 #[.int .i64 op] W fun e W' => e = .returned (.int .i64 (rgF op)) ∧ W = W' := by
  go_enter Tryd.func48, Tryd.ntmps48
  go_wp2
  all_goals go_ret
  all_goals refine ⟨ret_int ?_, rfl⟩
  all_goals simp_all [rgF]
set_option maxHeartbeats 4000000 in
theorem rtarget_any (op : Int) (W : World) : Calls Tryd.prog 49 #[.int .i64 op] W fun e W' => e = .returned (.int .i64 (tgF op)) ∧ W = W' := by
  go_enter Tryd.func49, Tryd.ntmps49
  go_wp2
  all_goals go_ret
  all_goals refine ⟨ret_int ?_, rfl⟩
  all_goals simp_all [tgF]
set_option maxHeartbeats 4000000 in
theorem rwaits_any (op : Int) (W : World) : Calls Tryd.prog 37 #[.int .i64 op] W fun e W' => e = .returned (.bool (decide (op = 11 ∨ op = 12 ∨ op = 16 ∨ op = 17 ∨ op = 19 ∨ op = 20))) ∧ W = W' := by
  go_enter Tryd.func37, Tryd.ntmps37
  go_wp2
  all_goals go_ret
  all_goals refine ⟨ret_bool ?_, rfl⟩
  all_goals first | (simp [*]; done) | (rw [Bool.eq_iff_iff]; simp <;> omega)
set_option maxHeartbeats 4000000 in
theorem rends_any (op : Int) (W : World) : Calls Tryd.prog 39 #[.int .i64 op] W fun e W' => e = .returned (.bool (decide (op = 6 ∨ op = 9 ∨ op = 14))) ∧ W = W' := by
  go_enter Tryd.func39, Tryd.ntmps39
  go_wp2
  all_goals go_ret
  all_goals refine ⟨ret_bool ?_, rfl⟩
  all_goals first | (simp [*]; done) | (rw [Bool.eq_iff_iff]; simp <;> omega)
set_option maxHeartbeats 4000000 in
theorem rasks_any (op : Int) (W : World) : Calls Tryd.prog 28 #[.int .i64 op] W fun e W' => e = .returned (.bool (decide (op = 10 ∨ op = 13 ∨ 20 ≤ op ∧ op ≤ 23))) ∧ W = W' := by
  go_enter Tryd.func28, Tryd.ntmps28
  go_wp2
  all_goals go_ret
  all_goals refine ⟨ret_bool ?_, rfl⟩
  all_goals first | (simp [*]; done) | (rw [Bool.eq_iff_iff]; simp <;> omega)
theorem wt_in : ∀ k : Nat, k < 24 → decide ((k : Int) = 11 ∨ (k : Int) = 12 ∨ (k : Int) = 16 ∨ (k : Int) = 17 ∨ (k : Int) = 19 ∨ (k : Int) = 20) = wt k := by decide
theorem en_in : ∀ k : Nat, k < 24 → decide ((k : Int) = 6 ∨ (k : Int) = 9 ∨ (k : Int) = 14) = en k := by decide
theorem ak_in : ∀ k : Nat, k < 24 → decide ((k : Int) = 10 ∨ (k : Int) = 13 ∨ 20 ≤ (k : Int) ∧ (k : Int) ≤ 23) = ak k := by decide
theorem nb_in : ∀ k : Nat, k < 24 → ((k : Int) == 1) = nb k := by decide
end Go.Proofs.YthdkbofnplnidaaDoor
