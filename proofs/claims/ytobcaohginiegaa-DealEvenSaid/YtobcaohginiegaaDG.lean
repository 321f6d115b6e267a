/- Who is asked in which order: steps, Ways, Others. -/
import Derived.Test.YtobcaohginiegaaDF
import Derived.Test.YtobcaohginiegaaRhas
import Derived.Deep.RegionWith
namespace Go.Proofs.Ytobcaohginiegaa
open Go.ChangeShapes Go.WideShapes Go.ChangeAt Go.RowKit Go.Deep Go.Shelf
set_option linter.unusedVariables false
attribute [local go_sem] Oper.semAt_some

theorem copr_mem {N : Nat} : ∀ {k : Nat} {x : Int}, x ∈ copr N k → ∃ s : Nat, x = s ∧ 1 ≤ s ∧ s ≤ k ∧ Nat.gcd s N = 1
  | 0, x, h => by simp [copr] at h
  | k + 1, x, h => by
    by_cases hg : Nat.gcd (k + 1) N = 1
    · rw [copr_yes hg, List.mem_append] at h
      rcases h with h | h
      · obtain ⟨s, h1, h2, h3, h4⟩ := copr_mem h
        exact ⟨s, h1, h2, by omega, h4⟩
      · simp at h
        exact ⟨k + 1, by rw [h]; simp, by omega, Nat.le_refl _, hg⟩
    · rw [copr_no hg] at h
      obtain ⟨s, h1, h2, h3, h4⟩ := copr_mem h
      exact ⟨s, h1, h2, by omega, h4⟩
theorem copr_pos {N : Nat} : ∀ k, 0 < (copr N (k + 1)).length
  | 0 => by rw [copr_yes (by simp)]; simp
  | k + 1 => by
    have := copr_pos (N := N) k
    by_cases h : Nat.gcd (k + 1 + 1) N = 1
    · rw [copr_yes h]; simp
    · rw [copr_no h]; exact this
theorem coprimes_is (N : Nat) (W : World) (h1 : 1 ≤ N) (h2 : N ≤ 1024) :
    Calls Try.prog 21 #[.int .i64 (N : Int)] W fun e W' => ∃ A c, e = .returned (.slice A (copr N N).length c) ∧ Row W' W.heap.size 3 1 A (copr N N).length c (ints (copr N N)) ∧ Below W.heap.size W W' := by
  refine (coprimes_yes N W h1 h2).mono ?_
  rintro e w4 ⟨⟨A4, c4, hv, hr4, hb4⟩, v, rfl⟩
  simp only at hv
  subst hv
  exact ⟨A4, c4, rfl, hr4, hb4⟩
theorem rcoprimes_is (N : Nat) (W : World) (h1 : 1 ≤ N) (h2 : N ≤ 1024) :
    Calls Try.prog 16 #[.int .i64 (N : Int)] W fun e W' => ∃ A c, e = .returned (.slice A (copr N N).length c) ∧ Row W' W.heap.size 3 1 A (copr N N).length c (ints (copr N N)) ∧ Below W.heap.size W W' := by
  refine (rcoprimes_yes N W h1 h2).mono ?_
  rintro e w4 ⟨⟨A4, c4, hv, hr4, hb4⟩, v, rfl⟩
  simp only at hv
  subst hv
  exact ⟨A4, c4, rfl, hr4, hb4⟩
set_option maxHeartbeats 1000000 in
theorem steps_yes (N : Nat) (W : World) (h1 : 1 ≤ N) (h2 : N ≤ 256) :
    Calls Try.prog 15 #[.int .i64 (N : Int)] W fun e W' => ∃ A c, e = .returned (.slice A (copr N N).length c) ∧ Row W' W.heap.size 3 1 A (copr N N).length c (ints (copr N N)) ∧ Below W.heap.size W W' := by
  have h3 := Lib.hid (fun W => coprimes_is N W h1 (by omega))
  have hn : (N : Int) ≤ 256 := by omega
  go_enter Try.func15, Try.ntmps15
  go_wp2_with (go_at_call 21; refine (h3.out _).mono ?_; rintro e w1 ⟨A, c, rfl, hr, hb⟩)
  go_ret
  exact ⟨A, c, rfl, hr, hb⟩
set_option maxHeartbeats 1000000 in
theorem steps_no (n : Int) (W : World) (h : n < 1 ∨ 256 < n) : Calls Try.prog 15 #[.int .i64 n] W fun e W' => e = .returned (.slice none 0 0) ∧ W = W' := by
  have hc : n < 1 ∨ 256 < n := h
  rcases hc with h1 | h1
  · have h3 := Lib.hid (fun W => coprimes_no n W (by omega))
    clear h
    have h2 : n ≤ 256 := by omega
    go_enter Try.func15, Try.ntmps15
    go_wp2_with (go_at_call 21; refine (h3.out _).mono ?_; rintro e w1 ⟨rfl, rfl⟩)
    go_ret
    exact ⟨rfl, rfl⟩
  · clear h
    go_enter Try.func15, Try.ntmps15
    go_wp2
    go_ret
    exact ⟨rfl, rfl⟩
/-- How many ways there are. -/
def waysOf (N : Nat) : Int := ((copr N N).length : Int) * N
theorem ways_in (N : Nat) (h1 : 1 ≤ N) (h2 : N ≤ 256) : 1 ≤ waysOf N ∧ waysOf N ≤ 65536 := by
  have h3 := copr_len N N
  have h4 : 0 < (copr N N).length := by obtain ⟨m, rfl⟩ : ∃ m, N = m + 1 := ⟨N - 1, by omega⟩; exact copr_pos m
  have h5 : (copr N N).length * N ≤ 256 * 256 := Nat.mul_le_mul (by omega) h2
  have h6 : 1 * 1 ≤ (copr N N).length * N := Nat.mul_le_mul h4 h1
  rw [waysOf, ← Int.natCast_mul]
  omega
set_option maxHeartbeats 1000000 in
theorem ways_yes (N : Nat) (W : World) (h1 : 1 ≤ N) (h2 : N ≤ 256) : Calls Try.prog 7 #[.int .i64 (N : Int)] W fun e W' => e = .returned (.int .i64 (waysOf N)) ∧ Below W.heap.size W W' := by
  have h3 := Lib.hid (fun W => steps_yes N W h1 h2)
  obtain ⟨h4, h5⟩ := ways_in N h1 h2
  have hw : IntKind.i64.wrap (((copr N N).length : Int) * N) = waysOf N := IntWalk.i64_in _ (by rw [waysOf] at h4 h5; omega)
  go_enter Try.func7, Try.ntmps7
  go_wp2_with (go_at_call 15; refine (h3.out _).mono ?_; rintro e w1 ⟨A, c, rfl, hr, hb⟩)
  go_ret
  exact ⟨ret_int (by rw [← hw]), hb⟩
set_option maxHeartbeats 1000000 in
theorem ways_no (n : Int) (W : World) (h : n < 1 ∨ 256 < n) : Calls Try.prog 7 #[.int .i64 n] W fun e W' => e = .returned (.int .i64 0) ∧ W = W' := by
  have h3 := Lib.hid (fun W => steps_no n W h)
  clear h
  go_enter Try.func7, Try.ntmps7
  go_wp2_with (go_at_call 15; refine (h3.out _).mono ?_; rintro e w1 ⟨rfl, rfl⟩)
  go_ret
  exact ⟨ret_int (by simp), rfl⟩
end Go.Proofs.Ytobcaohginiegaa
