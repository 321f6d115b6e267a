/- Signals: the heap with one in it; what a nil box says. -/
import Derived.Test.YtpdmfpfkhigclaaSigA
import Derived.Handy
namespace Go.Proofs.Ytpdmfpfkhigclaa
open Go.ChangeShapes Go.WideShapes Go.ChangeAt Go.RowKit Go.Deep
set_option linter.unusedVariables false

theorem at0 {cs : Array Value} {m : Nat} {x v : Value} (hs : cs.size = 65) : ((cs.setIfInBounds 0 x).setIfInBounds (1 + m) v)[0]? = some x := by
  rw [Array.getElem?_setIfInBounds_ne (by omega), Array.getElem?_setIfInBounds_self_of_lt (by omega)]
theorem atm {cs : Array Value} {m : Nat} {x v : Value} (hs : cs.size = 65) (hm : m < 64) : ((cs.setIfInBounds 0 x).setIfInBounds (1 + m) v)[1 + m]? = some v := by
  rw [Array.getElem?_setIfInBounds_self_of_lt (by simp; omega)]
theorem mPush (a : Addr) (V : World) : (method 225 56 (.pointer (some a)) "Push").run Try.prog V = .ok (79, .pointer (some a)) V := by kernel_rfl
theorem mLen (a : Addr) (V : World) : (method 225 56 (.pointer (some a)) "Len").run Try.prog V = .ok (24, .pointer (some a)) V := by kernel_rfl
set_option maxHeartbeats 4000000 in
theorem up_zero (h : Value) (W : World) : Calls Try.prog 31 #[h, .int .i64 0] W fun e W' => e = .returned (.tuple #[]) ∧ W = W' := by
  go_enter Try.func31, Try.ntmps31
  go_wp2
  go_rounds 1
  all_goals (first | (go_end0; exact ⟨rfl, rfl⟩) | (rw [Exit.noGoto_normal]; go_end0; exact ⟨rfl, rfl⟩) | trace_state)
set_option maxHeartbeats 4000000 in
theorem down_one (h : Value) (W : World) : Calls Try.prog 32 #[h, .int .i64 0, .int .i64 1] W fun e W' => e = .returned (.bool false) ∧ W = W' := by
  go_enter Try.func32, Try.ntmps32
  go_wp2
  go_rounds 1
  all_goals (first | (go_ret; exact ⟨rfl, rfl⟩) | trace_state)
set_option maxRecDepth 100000 in
set_option maxHeartbeats 4000000 in
theorem heap_push (W : World) (base b : Nat) (cs : Array Value) (m : Nat) (due : Int) (hB : Blk W b 46 cs) (hs : cs.size = 65) (h0 : cs[0]? = some (.slice none 0 0)) (hm : m < 64) (hbase : base ≤ W.heap.size) :
    Calls Try.prog 21 #[.iface 56 (.pointer (some ⟨b, 0, none⟩)), .iface 52 (.agg #[.int .i64 (m : Int), .int .i64 due])] W fun e W' => e = .returned (.tuple #[]) ∧ ∃ A' c', Blk W' b 46 ((cs.setIfInBounds 0 (.slice A' 1 c')).setIfInBounds (1 + m) (.int .i64 1)) ∧ Row W' base 52 2 A' 1 c' (kv [[(m : Int), due]]) ∧ Chg (fun k => k = b) W W' := by
  have hp := Lib.hid (push_any W base b none 0 0 cs [] m due hB hs h0 (Row.nil _ _ _ _) hm (by omega) hbase)
  go_enter Try.func21, Try.ntmps21
  have hl := Lib.hid (mLen ⟨b, 0, none⟩)
  have hps := mPush ⟨b, 0, none⟩
  go_wp2_with (go_at_call 79; refine hp.out.mono ?_; rintro e w1 ⟨rfl, A', c', h1, h2, h3⟩; have H1 := Lib.hid h1; have H2 := Lib.hid h2; have H3 := Lib.hid h3; have c0 := (h1.cell 0).trans (at0 hs); have k0 := h1.lt; clear h1 h2 h3; have hl2 := hl.out)
  go_wp2_with (first
    | (go_at_call 24; go_in)
    | (go_at_call 31; refine (up_zero _ _).mono ?_; rintro e w2 ⟨rfl, rfl⟩))
  go_end0
  exact ⟨rfl, A', c', by simpa using H1.out, by simpa using H2.out, H3.out.mono (fun k _ h => by rcases h with h | h; exact h; cases h)⟩
theorem at0' {cs : Array Value} {m : Nat} {x v : Value} (hs : cs.size = 65) : (((cs.setIfInBounds 0 x).setIfInBounds (1 + m) v)).size = 65 := by simp [hs]
/-- One in the heap. -/
theorem pair_cells {W : World} {base : Nat} {A : Option Addr} {c : Nat} {x y : Int} (h : Row W base 52 2 A 1 c (kv [[x, y]])) : ∃ L cur, A = some ⟨L, 0, none⟩ ∧ L < W.heap.size ∧ base ≤ L ∧ Blk W L 52 cur ∧ W.cell? ⟨L, 0, none⟩ = some (.int .i64 x) ∧ W.cell? ⟨L, 1, none⟩ = some (.int .i64 y) := by
  have hr := h.rd
  rcases h.2.2.2 with ⟨_, h0, _⟩ | ⟨g, cur, rfl, hb, hg, _⟩
  · omega
  · obtain ⟨b', o', he, _, hc⟩ := hr.2 (by omega)
    cases he
    refine ⟨g, cur, rfl, hg.lt, hb, hg, ?_, ?_⟩
    · have := hc 0 (.int .i64 x) rfl; simpa using this
    · have := hc 1 (.int .i64 y) rfl; simpa using this
set_option maxRecDepth 100000 in
set_option maxHeartbeats 4000000 in
theorem fix_one (W : World) (b : Nat) (A : Option Addr) (c : Nat) (h0 : W.cell? ⟨b, 0, none⟩ = some (.slice A 1 c)) (hb : b < W.heap.size) :
    Calls Try.prog 22 #[.iface 56 (.pointer (some ⟨b, 0, none⟩)), .int .i64 0] W fun e W' => e = .returned (.tuple #[]) ∧ W = W' := by
  have hl := mLen ⟨b, 0, none⟩
  go_enter Try.func22, Try.ntmps22
  go_wp2_with (first
    | (go_at_call 24; go_in)
    | (go_at_call 31; refine (up_zero _ _).mono ?_; rintro e w2 ⟨rfl, rfl⟩)
    | (go_at_call 32; refine (down_one _ _).mono ?_; rintro e w2 ⟨rfl, rfl⟩))
  go_end0
  exact ⟨rfl, rfl⟩
theorem zc_size : Try.zeroCells46.size = 65 := by kernel_rfl
theorem zc_0 : Try.zeroCells46[0]? = some (.slice none 0 0) := by kernel_rfl
theorem zc_2 : Try.zeroCells46[1 + 1]? = some (.int .i64 0) := by kernel_rfl
set_option maxHeartbeats 4000000 in
theorem new_any (W : World) : Calls Try.prog 7 #[] W fun e W' => e = .returned (.pointer (some ⟨W.heap.size, 0, none⟩)) ∧ W' = W.alloc (.cells Try.zeroCells46 46) := by
  go_enter Try.func7, Try.ntmps7
  go_wp2
  go_ret
  exact ⟨rfl, rfl⟩
set_option maxRecDepth 100000 in
set_option maxHeartbeats 4000000 in
theorem send_first (W : World) (base b : Nat) (cs : Array Value) (m : Nat) (due : Int) (hB : Blk W b 46 cs) (hs : cs.size = 65) (h0 : cs[0]? = some (.slice none 0 0)) (h2 : cs[1 + m]? = some (.int .i64 0)) (hm : m < 64) (hbase : base ≤ W.heap.size) :
    Calls Try.prog 10 #[.pointer (some ⟨b, 0, none⟩), .int .i64 (m : Int), .int .i64 due] W fun e W' => e = .returned (.bool true) ∧ ∃ A' c', Blk W' b 46 ((cs.setIfInBounds 0 (.slice A' 1 c')).setIfInBounds (1 + m) (.int .i64 1)) ∧ Row W' base 52 2 A' 1 c' (kv [[(m : Int), due]]) ∧ Chg (fun k => k = b) W W' := by
  have hp := Lib.hid (heap_push W base b cs m due hB hs h0 hm hbase)
  have e2 : W.cell? ⟨b, 1 + m, none⟩ = some (.int .i64 0) := (hB.cell _).trans h2
  have kb := hB.lt
  have m0 : (0 : Int) ≤ (m : Int) := by omega
  have m1 : (m : Int) < 64 := by omega
  have m2 : ¬ (m : Int) < 0 := by omega
  have m3 : ¬ (64 : Int) ≤ (m : Int) := by omega
  go_enter Try.func10, Try.ntmps10
  go_wp2_with (first
    | (go_at_call 20; go_in)
    | (go_at_call 21; refine hp.out.mono ?_; rintro e w1 ⟨rfl, A', c', h1, h2, h3⟩; have H1 := Lib.hid h1; have H2 := Lib.hid h2; have H3 := Lib.hid h3; clear h1 h2 h3))
  go_ret
  exact ⟨rfl, A', c', H1.out, H2.out, H3.out⟩
end Go.Proofs.Ytpdmfpfkhigclaa
