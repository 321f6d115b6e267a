/- Contracts: entries that pick one machine after the other. -/
import Derived.Test.YtcngdngkkglepaaDoorRk0
namespace Go.Proofs.YtcngdngkkglepaaDoor
open Go.ChangeShapes Go.WideShapes Go.ChangeAt Go.RowKit Go.Deep
set_option linter.unusedVariables false
set_option linter.unusedSimpArgs false

theorem entry_info : (Tryd.prog.info? 31).map (fun i => (i.zero, i.size, i.bytes)) = some (some (.agg #[.int .i64 0, .int .i64 0, .int .i64 0]), 3, 24) := by kernel_rfl
theorem entry_cells : (Value.agg #[.int .i64 0, .int .i64 0, .int .i64 0]).cells.size = 3 := by kernel_rfl
theorem wpList_apE {ops : Array Oper} {rest : List Oper} {o : Oper} {a : Act} {V : World} {Q : Exit → Act → World → Prop} (hgd : o.guard = none) (s x : Operand)
    (ho : o.op = .call { callee := .builtin .append, args := #[s, x], argTypes := #[22, 22] }) (hE : o.type = 22)
    (base : Nat) (A : Option Addr) (n c : Nat) (xs : List (List Int)) (hs : a.eval s = .slice A n c) (hown : Row V base 31 3 A n c (kv xs))
    (D : Option Addr) (m d : Nat) (ys : List (List Int)) (hx : a.eval x = .slice D m d) (hr : Rd V 3 D m (kv ys))
    (h63 : n + m ≤ 1048576) (hbase : base ≤ V.heap.size)
    (h : ∀ A' c' w', Row w' base 31 3 A' (n + m) c' (kv (xs ++ ys)) → V.grownBy w' (blk A) → (blk A' = blk A ∨ blk A' = some V.heap.size) → wpList Tryd.prog ops Q rest (a.put o.dst (.slice A' (n + m) c')) w') : wpList Tryd.prog ops Q (o :: rest) a V :=
  wpList_appk (P := Tryd.prog) 22 31 3 24 (.agg #[.int .i64 0, .int .i64 0, .int .i64 0]) Tryd.underlying22 entry_info entry_cells (by decide) (by decide) hgd s x ho hE base A n c xs hs hown D m d ys hx hr h63 hbase h
def rob (delay : Int) (k : Nat) : List (List Int) := (List.range k).map fun (i : Nat) => [(i : Int), delay, (i : Int)]
theorem rob_succ (delay : Int) (k : Nat) : rob delay (k + 1) = rob delay k ++ [[(k : Int), delay, (k : Int)]] := by simp [rob, List.range_succ]
theorem rob_len (delay : Int) (k : Nat) : (rob delay k).length = k := by simp [rob]
theorem rob_uni (delay : Int) (k : Nat) : Uni 3 (rob delay k) := by
  intro e he
  obtain ⟨i, _, rfl⟩ := List.mem_map.1 he
  rfl
theorem rob_at (delay : Int) (n k : Nat) (h : k < (rob delay n).length) : (rob delay n)[k] = [(k : Int), delay, (k : Int)] := by simp [rob]
def RobR (W : World) (delay : Int) (m : Nat) (lv iv : Value) (wr : World) : Prop :=
  ∃ (k : Nat) (A : Option Addr) (c : Nat), k ≤ m ∧ iv = .int .i64 k ∧ lv = .slice A k c ∧ Row wr W.heap.size 31 3 A k c (kv (rob delay k)) ∧ Chg (fun _ => False) W wr
set_option maxHeartbeats 2000000 in
theorem robin_at (n delay : Int) (m : Nat) (W : World) (hm : m ≤ 65536) (hmn : (n ≤ 0 ∧ m = 0) ∨ (0 < n ∧ n ≤ 65536 ∧ n = m) ∨ (65536 < n ∧ m = 65536)) :
    Calls Tryd.prog 22 #[.int .i64 n, .int .i64 delay] W fun e W' => ∃ A c, e = .returned (.slice A m c) ∧ Row W' W.heap.size 31 3 A m c (kv (rob delay m)) ∧ Chg (fun _ => False) W W' := by
  rcases hmn with ⟨h1, rfl⟩ | ⟨h1, h2, rfl⟩ | ⟨h1, rfl⟩
  · rcases (show n = 0 ∨ n < 0 by omega) with rfl | h0
    all_goals
      go_enter Tryd.func22, Tryd.ntmps22
      go_wp2_with fail
      go_loopw [5, 10] (fun lv iv wr => RobR W delay 0 lv iv wr) (fun _ iv _ => 0)
      case atStart => exact ⟨0, none, 0, Nat.zero_le _, rfl, rfl, Row.nil _ _ _ _, Chg.refl _ _⟩
      case round =>
        obtain ⟨k, A, c, hk, rfl, rfl, hr, hc⟩ := hrel
        obtain rfl : k = 0 := by omega
        go_wp2
        go_ret
        exact ⟨A, c, rfl, hr, hc⟩
  · have m0 : (0 : Int) ≤ m := by omega
    go_enter Tryd.func22, Tryd.ntmps22
    go_wp2_with fail
    go_loopw [5, 10] (fun lv iv wr => RobR W delay m lv iv wr) (fun _ iv _ => m - (intOf iv).toNat)
    case atStart => exact ⟨0, none, 0, Nat.zero_le _, rfl, rfl, Row.nil _ _ _ _, Chg.refl _ _⟩
    case round =>
      obtain ⟨k, A, c, hk, rfl, rfl, hr, hc⟩ := hrel
      have k0 : (0 : Int) ≤ k := by omega
      by_cases hlt : k < m
      · have k1 : (k : Int) < m := by omega
        have HR := Lib.hid hr
        have HC := Lib.hid hc
        have hsz := hc.size
        clear hr hc
        go_wp2_with (at_builtin; refine wpList_apE rfl (.tmp 13) (.tmp 18) rfl rfl W.heap.size A k c (rob delay k) rfl (HR.out.alloc _) _ 1 1 [[(k : Int), delay, (k : Int)]] rfl (Rd.litk _ [(k : Int), delay, (k : Int)] _ _ rfl 3 rfl _ rfl) ?_ ?_ ?_; (next => omega); (next => (simp; omega)); intro A3 c3 w2 r1 r2 r3; have HX := Lib.hid r1; have HY := Lib.hid ((HC.out.alloc (.cells #[.int .i64 k, .int .i64 delay, .int .i64 k] 31)).grown r2 (fun g hg => .inr (HR.out.blk_lt g hg).1)); clear r1 r2 r3)
        go_roundw
        case rel => exact ⟨k + 1, A3, c3, by omega, by go_num, rfl, by rw [rob_succ]; exact HX.out, HY.out⟩
        case measure => simp [intOf]; omega
      · obtain rfl : k = m := by omega
        go_wp2
        go_ret
        exact ⟨A, c, rfl, hr, hc⟩
  · have h2 : (0 : Int) < n := by omega
    have h3 : ¬ n ≤ 0 := by omega
    go_enter Tryd.func22, Tryd.ntmps22
    go_wp2_with fail
    go_loopw [5, 10] (fun lv iv wr => RobR W delay 65536 lv iv wr) (fun _ iv _ => 65536 - (intOf iv).toNat)
    case atStart => exact ⟨0, none, 0, Nat.zero_le _, rfl, rfl, Row.nil _ _ _ _, Chg.refl _ _⟩
    case round =>
      obtain ⟨k, A, c, hk, rfl, rfl, hr, hc⟩ := hrel
      have k0 : (0 : Int) ≤ k := by omega
      by_cases hlt : k < 65536
      · have k1 : (k : Int) < 65536 := by omega
        have HR := Lib.hid hr
        have HC := Lib.hid hc
        have hsz := hc.size
        clear hr hc
        go_wp2_with (at_builtin; refine wpList_apE rfl (.tmp 13) (.tmp 18) rfl rfl W.heap.size A k c (rob delay k) rfl (HR.out.alloc _) _ 1 1 [[(k : Int), delay, (k : Int)]] rfl (Rd.litk _ [(k : Int), delay, (k : Int)] _ _ rfl 3 rfl _ rfl) ?_ ?_ ?_; (next => omega); (next => (simp; omega)); intro A3 c3 w2 r1 r2 r3; have HX := Lib.hid r1; have HY := Lib.hid ((HC.out.alloc (.cells #[.int .i64 k, .int .i64 delay, .int .i64 k] 31)).grown r2 (fun g hg => .inr (HR.out.blk_lt g hg).1)); clear r1 r2 r3)
        go_roundw
        case rel => exact ⟨k + 1, A3, c3, by omega, by go_num, rfl, by rw [rob_succ]; exact HX.out, HY.out⟩
        case measure => simp [intOf]; omega
      · obtain rfl : k = 65536 := by omega
        go_wp2
        go_ret
        exact ⟨A, c, rfl, hr, hc⟩
end Go.Proofs.YtcngdngkkglepaaDoor
