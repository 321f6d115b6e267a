/- Order, and whom there is none of; how many ways by the document. -/
import Derived.Test.YtobcaohginiegaaDH
namespace Go.Proofs.Ytobcaohginiegaa
open Go.ChangeShapes Go.WideShapes Go.ChangeAt Go.RowKit Go.Deep Go.Shelf
set_option linter.unusedVariables false
attribute [local go_sem] Oper.semAt_some

theorem orderOf_len (N : Nat) (draw : Int) : (orderOf N draw).length = N := wlist_len _ _ _ _
theorem orderOf_in (N : Nat) (draw : Int) (h1 : 1 ≤ N) {x : Int} (hx : x ∈ orderOf N draw) : 0 ≤ x ∧ x < N := by
  rw [orderOf, wlist, List.mem_map] at hx
  obtain ⟨k, _, rfl⟩ := hx
  exact wat_in N _ _ (by omega) k
theorem keep_neg (N : Nat) (draw : Int) (h1 : 1 ≤ N) : keep (-1) (orderOf N draw) = orderOf N draw := by
  rw [keep, List.filter_eq_self]
  intro x hx
  have := orderOf_in N draw h1 hx
  exact decide_eq_true (by omega)

set_option maxRecDepth 100000 in
set_option maxHeartbeats 4000000 in
theorem others_no (n self draw : Int) (w : World) (h : n < 1 ∨ 256 < n) :
    Calls Try.prog 12 #[.int .i64 n, .int .i64 self, .int .i64 draw] w fun e w' => e = .returned (.slice none 0 0) ∧ Below w.heap.size w w' := by
  have hst := Lib.hid (fun W => steps_no n W h)
  clear h
  refine callsIn_wide (n := 4) |>.1 ?_
  refine callsIn_of_wp_marks Try.func12 rfl trivial ?_ rfl
  simp only [Try.ntmps12, List.size_toArray, List.length_cons, List.length_nil, Nat.reduceAdd, Nat.reduceSub, Array.replicate_succ, Array.replicate_zero, List.push_toArray, List.append_toArray, List.nil_append, List.cons_append]
  refine wpIn_wide.2 ?_
  go_wp2
  go_step3
  go_wp2_with (go_at_call 15; refine (hst.out _).mono ?_; rintro e w1 ⟨rfl, rfl⟩)
  refine ⟨_, results_tmp rfl _ _ _, ?_⟩
  exact ⟨rfl, (Below.refl _ _).alloc (Nat.le_refl _) _⟩

set_option maxHeartbeats 1000000 in
theorem order_yes (N : Nat) (draw : Int) (w : World) (h1 : 1 ≤ N) (h2 : N ≤ 256) :
    Calls Try.prog 10 #[.int .i64 (N : Int), .int .i64 draw] w fun e w' => ∃ A c, e = .returned (.slice A N c) ∧ Row w' w.heap.size 3 1 A N c (ints (orderOf N draw)) ∧ Below w.heap.size w w' := by
  have ho := fun W => others_yes N (-1) draw W h1 h2
  simp only [keep_neg N draw h1, orderOf_len] at ho
  have ho' := Lib.hid ho
  generalize orderOf N draw = L at *
  clear ho
  go_enter Try.func10, Try.ntmps10
  go_wp2_with (go_at_call 12; refine (ho'.out _).mono ?_; rintro e w1 ⟨A, c, rfl, hr, hb⟩)
  go_ret
  exact ⟨A, c, rfl, hr, hb⟩
set_option maxHeartbeats 1000000 in
theorem order_no (n draw : Int) (w : World) (h : n < 1 ∨ 256 < n) :
    Calls Try.prog 10 #[.int .i64 n, .int .i64 draw] w fun e w' => e = .returned (.slice none 0 0) ∧ Below w.heap.size w w' := by
  have ho' := Lib.hid (fun W => others_no n (-1) draw W h)
  clear h
  go_enter Try.func10, Try.ntmps10
  go_wp2_with (go_at_call 12; refine (ho'.out _).mono ?_; rintro e w1 ⟨rfl, hb⟩)
  go_ret
  exact ⟨rfl, hb⟩

set_option maxHeartbeats 1000000 in
theorem rways_yes (N : Nat) (W : World) (h1 : 1 ≤ N) (h2 : N ≤ 256) : Calls Try.prog 8 #[.int .i64 (N : Int)] W fun e W' => e = .returned (.int .i64 (waysOf N)) ∧ Below W.heap.size W W' := by
  have h3 := Lib.hid (fun W => rcoprimes_is N W h1 (by omega))
  obtain ⟨h4, h5⟩ := ways_in N h1 h2
  have hw : IntKind.i64.wrap ((N : Int) * ((copr N N).length : Int)) = waysOf N := by rw [Int.mul_comm]; exact IntWalk.i64_in _ (by rw [waysOf] at h4 h5; omega)
  have hN1 : ¬ (N : Int) < 1 := by omega
  have hN2 : ¬ 256 < (N : Int) := by omega
  clear h4 h5 h2
  go_enter Try.func8, Try.ntmps8
  go_wp2_with (go_at_call 16; refine (h3.out _).mono ?_; rintro e w1 ⟨A, c, rfl, hr, hb⟩)
  go_ret
  exact ⟨ret_int (by rw [← hw]), hb⟩
set_option maxHeartbeats 1000000 in
theorem rways_no (n : Int) (W : World) (h : n < 1 ∨ 256 < n) : Calls Try.prog 8 #[.int .i64 n] W fun e W' => e = .returned (.int .i64 0) ∧ W = W' := by
  by_cases h1 : n < 1
  · clear h
    go_enter Try.func8, Try.ntmps8
    go_wp2
    go_ret
    exact ⟨rfl, rfl⟩
  · have h2 : 256 < n := by omega
    clear h
    go_enter Try.func8, Try.ntmps8
    go_wp2
    go_ret
    exact ⟨rfl, rfl⟩
set_option maxHeartbeats 1000000 in
theorem rorder_no (n draw : Int) (W : World) (h : n < 1 ∨ 256 < n) : Calls Try.prog 11 #[.int .i64 n, .int .i64 draw] W fun e W' => e = .returned (.slice none 0 0) ∧ W = W' := by
  by_cases h1 : n < 1
  · clear h
    go_enter Try.func11, Try.ntmps11
    go_wp2
    go_ret
    exact ⟨rfl, rfl⟩
  · have h2 : 256 < n := by omega
    clear h
    go_enter Try.func11, Try.ntmps11
    go_wp2
    go_ret
    exact ⟨rfl, rfl⟩
end Go.Proofs.Ytobcaohginiegaa
