/- Contracts: slices.Grow of nothing, slices.Concat of two lists of entries. -/
import Derived.Test.YtbpppcpndkkbaaaGreatDoorShA
import Derived.Lib.AppendZerosOnto
namespace Go.Proofs.YtbpppcpndkkbaaaGreatDoor
open Go.ChangeShapes Go.WideShapes Go.ChangeAt Go.RowKit Go.Deep
set_option linter.unusedVariables false

theorem app_zeros (w : World) (ty : TypeId) (n : Nat) (h0 : 0 < n) (hn : n ≤ 1000) :
    ∃ c', (Builtin.append_ #[22, 3] ty #[.slice none 0 0, .int .i64 (n : Int)]).run Tryz.prog w = .ok (.slice (some ⟨w.heap.size, 0, none⟩) n c') (w.drew.alloc (.cells (#[] ++ Builtin.zeroCells (Value.agg #[.int .i64 0, .int .i64 0, .int .i64 0]).cells n ++ Builtin.zeroCells (Value.agg #[.int .i64 0, .int .i64 0, .int .i64 0]).cells (c' - n)) 47)) ∧ n ≤ c' ∧ c' ≤ maxLen := by
  obtain ⟨i, hi, hz, hs, hb⟩ := info_parts entry_info
  have hge := grownCap_ge w n 0 47
  have hcm : grownCap w n 0 47 ≤ maxLen := grownCap_le_maxLen w n 0 47 (by simp only [maxLen]; omega)
  have hfit := growslice_fits (need := n) (old := 0) (bytes := i.bytes) h0 (by rw [hb]; omega)
  have h := Lib.run_append_grow_zeros w 22 3 ty 47 i _ .i64 .i64 Tryz.underlying22 Tryz.underlying3 hi hz none 0 0 [] (run_firstCells_none w.drew i.size 0 0 0) n h0 (by omega) (by omega) (by omega) (by rw [hb]; omega) (by simpa using hfit)
  simp only [Nat.zero_add] at h
  exact ⟨_, h, hge, hcm⟩
theorem wpList_zeros {ops : Array Oper} {rest : List Oper} {o : Oper} {a : Act} {w : World} {Q : Exit → Act → World → Prop} (hgd : o.guard = none) (s x : Operand)
    (ho : o.op = .call { callee := .builtin .append, args := #[s, x], argTypes := #[22, 3] }) (n : Nat) (hs : a.eval s = .slice none 0 0) (hx : a.eval x = .int .i64 n) (h0 : 0 < n) (hn : n ≤ 1000)
    (h : ∀ c', n ≤ c' → c' ≤ maxLen → wpList Tryz.prog ops Q rest (a.put o.dst (.slice (some ⟨w.heap.size, 0, none⟩) n c')) (w.drew.alloc (.cells (#[] ++ Builtin.zeroCells (Value.agg #[.int .i64 0, .int .i64 0, .int .i64 0]).cells n ++ Builtin.zeroCells (Value.agg #[.int .i64 0, .int .i64 0, .int .i64 0]).cells (c' - n)) 47))) : wpList Tryz.prog ops Q (o :: rest) a w :=
  wpList_plain hgd fun _ hK => by
    obtain ⟨c', hrun, h1, h2⟩ := app_zeros w o.type n h0 hn
    unfold Oper.wp execOp
    simp only [ho, resolve, invoke, builtin, Sem.run_bind, Sem.run_pure, Result.andThen_ok, List.map_toArray, List.map_cons, List.map_nil, hs, hx, hrun]
    exact hK _ _ (h c' h1 h2)
theorem row_zeros (w : World) (n c' : Nat) (h1 : n ≤ c') (h2 : c' ≤ maxLen) : Row (w.drew.alloc (.cells (#[] ++ Builtin.zeroCells (Value.agg #[.int .i64 0, .int .i64 0, .int .i64 0]).cells n ++ Builtin.zeroCells (Value.agg #[.int .i64 0, .int .i64 0, .int .i64 0]).cells (c' - n)) 47)) w.heap.size 47 3 (some ⟨w.heap.size, 0, none⟩) 0 c' (kv []) := by
  refine ⟨rfl, Nat.zero_le _, h2, .inr ⟨w.heap.size, _, rfl, Nat.le_refl _, heap_alloc_new w.drew _, ?_, by simp [kv, ints]⟩⟩
  simp only [Array.size_append, size_zeroCells, entry_cells]
  simp
  omega
set_option maxHeartbeats 1000000 in
theorem grow_none (n : Nat) (W : World) (hn : n ≤ 1000) : Calls Tryz.prog 51 #[.slice none 0 0, .int .i64 (n : Int)] W fun e W' => ∃ A' c', e = .returned (.slice A' 0 c') ∧ Row W' W.heap.size 47 3 A' 0 c' (kv []) ∧ Chg (fun _ => False) W W' := by
  have h0 : (0 : Int) ≤ n := by omega
  by_cases hp : 0 < n
  · have h1 : (0 : Int) < n := by omega
    go_enter Tryz.func51, Tryz.ntmps51
    go_wp2_with (at_builtin; refine wpList_zeros rfl (.tmp 20) (.tmp 21) rfl n rfl rfl hp hn ?_; intro c' k1 k2; have hr := row_zeros W n c' k1 k2; have hch := ((Chg.refl (fun _ => False) W).drew).alloc (.cells (#[] ++ Builtin.zeroCells (Value.agg #[.int .i64 0, .int .i64 0, .int .i64 0]).cells n ++ Builtin.zeroCells (Value.agg #[.int .i64 0, .int .i64 0, .int .i64 0]).cells (c' - n)) 47); generalize w' : World.alloc _ _ = W2 at *)
    go_ret
    exact ⟨_, _, rfl, hr, hch⟩
  · obtain rfl : n = 0 := by omega
    go_enter Tryz.func51, Tryz.ntmps51
    go_wp2
    go_ret
    exact ⟨none, 0, rfl, Row.nil _ _ _ _, Chg.refl _ _⟩
end Go.Proofs.YtbpppcpndkkbaaaGreatDoor
