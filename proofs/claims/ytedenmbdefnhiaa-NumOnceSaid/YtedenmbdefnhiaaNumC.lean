/- The numbers' small contracts; the chapter's example. -/
import Derived.Test.YtedenmbdefnhiaaNumB
import Derived.Test.YtedenmbdefnhiaaRsame
namespace Go.Proofs.Ytedenmbdefnhiaa
open Go.ChangeShapes Go.WideShapes Go.ChangeAt Go.RowKit Go.Deep Go.Shelf
set_option linter.unusedVariables false

set_option maxHeartbeats 1000000 in
theorem rmod_any (i n : Int) (W : World) (hn : n ≤ 4611686018427387904) : Calls Try.prog 9 #[.int .i64 i, .int .i64 n] W fun e W' => e = .returned (.int .i64 (modOf i n)) ∧ W = W' := by
  by_cases h : n < 1
  · have hv := Lib.hid (show modOf i n = 0 from if_pos h)
    go_enter Try.func9, Try.ntmps9
    go_wp2
    go_ret
    exact ⟨ret_int hv.out.symm, rfl⟩
  · have h1 : 1 ≤ n := by omega
    have hv := Lib.hid (show modOf i n = i % n from if_neg h)
    obtain ⟨f1, f2, f3, f4⟩ := tmod_facts i n h1
    by_cases ht : Int.tmod i n < 0
    · have hw := Lib.hid (f2 ht)
      have hi : ¬ 0 ≤ i := fun h0 => by rw [Int.tmod_eq_emod_of_nonneg h0] at ht; have := Int.emod_nonneg i (show n ≠ 0 by omega); omega
      clear f1 f2 h
      go_enter Try.func9, Try.ntmps9
      go_wp2
      go_ret
      refine ⟨ret_int ?_, rfl⟩
      rw [hv.out, ← hw.out]
    · have hw := Lib.hid (f1 (by omega))
      clear f1 f2 h
      go_enter Try.func9, Try.ntmps9
      go_wp2
      go_ret
      refine ⟨ret_int ?_, rfl⟩
      rw [hv.out, ← hw.out]


def distOf (a b : Int) : Int := (b - a) % 4294967296
theorem dist_any (a b : Int) (W : World) : Calls Try.prog 12 #[.int .u32 a, .int .u32 b] W fun e W' => e = .returned (.int .u32 (distOf a b)) ∧ W = W' := by
  go_enter Try.func12, Try.ntmps12
  go_wp2
  go_ret
  exact ⟨ret_int (by simp [distOf]), rfl⟩
def lessOf (a b : Int) : Bool := decide (0 < distOf a b) && decide (distOf a b < 2147483648)
theorem less_any (a b : Int) (W : World) : Calls Try.prog 10 #[.int .u32 a, .int .u32 b] W fun e W' => e = .returned (.bool (lessOf a b)) ∧ W = W' := by
  obtain ⟨d, hd⟩ : ∃ d, distOf a b = d := ⟨_, rfl⟩
  have hl : lessOf a b = (decide (0 < d) && decide (d < 2147483648)) := by rw [lessOf, hd]
  have HD := Lib.hid (fun W => hd ▸ dist_any a b W)
  have HL := Lib.hid hl
  clear hd hl
  by_cases h1 : 0 < d
  · by_cases h2 : d < 2147483648
    all_goals
      go_enter Try.func10, Try.ntmps10
      go_wp2_with (go_at_call 12; refine (HD.out _).mono ?_; rintro e w9 ⟨rfl, rfl⟩)
      go_ret
      exact ⟨ret_bool (by rw [HL.out]; simp [h1, h2]), rfl⟩
  · go_enter Try.func10, Try.ntmps10
    go_wp2_with (go_at_call 12; refine (HD.out _).mono ?_; rintro e w9 ⟨rfl, rfl⟩)
    go_ret
    exact ⟨ret_bool (by rw [HL.out]; simp; omega), rfl⟩
theorem i64_le {a : Int} (h : (Lit.int .i64 a).wf = true) : a ≤ 9223372036854775807 := by
  have h' : (decide (IntKind.i64.min ≤ a) && decide (a ≤ IntKind.i64.max)) = true := h
  rw [Bool.and_eq_true] at h'
  have h2 := of_decide_eq_true h'.2
  have e : IntKind.i64.max = 9223372036854775807 := by decide
  omega
theorem Rd.lits (w : World) (zs : List Int) (E : TypeId) (cs : Array Value) (hcs : cs = (ints zs).toArray) (n m : Nat) (hn : n = w.heap.size) (hm : m = zs.length) : Rd (w.alloc (.cells cs E)) 1 (some ⟨n, 0, none⟩) m (ints zs) := by
  subst hcs
  subst hn
  subst hm
  refine ⟨by simp, fun _ => ⟨w.heap.size, 0, rfl, by simp, fun j u hu => ?_⟩⟩
  rw [Nat.zero_add, (Blk.new w E (ints zs).toArray).cell j]
  simpa using hu

theorem rless_any (a b : Int) (W : World) : Calls Try.prog 11 #[.int .u32 a, .int .u32 b] W fun e W' => e = .returned (.bool (lessOf a b)) ∧ W = W' := by
  obtain ⟨d, hw⟩ : ∃ d, IntKind.u32.wrap (b - a) = d := ⟨_, rfl⟩
  have hd : distOf a b = d := by rw [← hw]; simp [distOf, IntKind.wrap, IntKind.bits, IntKind.signed]
  have h0 : 0 ≤ d := by rw [← hd]; exact Int.emod_nonneg _ (by omega)
  have HL := Lib.hid (show lessOf a b = (decide (0 < d) && decide (d < 2147483648)) by rw [lessOf, hd])
  clear hd
  by_cases h1 : 0 < d
  · have hne : (d == 0) = false := by simp; omega
    have hne2 : (d != 0) = true := by simp; omega
    by_cases h2 : d < 2147483648
    all_goals
      go_enter Try.func11, Try.ntmps11
      go_wp2
      go_ret
      exact ⟨ret_bool (by rw [HL.out]; simp [h1, h2]), rfl⟩
  · obtain rfl : d = 0 := by omega
    go_enter Try.func11, Try.ntmps11
    go_wp2
    go_ret
    exact ⟨ret_bool (by rw [HL.out]; simp), rfl⟩

theorem wl_ex : wlist 4 6 3 4 = [2, 1, 0, 3] := by decide
set_option maxHeartbeats 4000000 in
theorem alive_any (w : World) : Calls Try.prog 7 #[] w fun e w' => e = .returned (.bool true) ∧ Below w.heap.size w w' := by
  have m5 : modOf (-1) 5 = 4 := by decide
  have l1 : lessOf 4294967295 0 = true := by decide
  have hM := Lib.hid (fun W => m5 ▸ mod_any (-1) 5 W (by omega))
  have hL := Lib.hid (fun W => l1 ▸ less_any 4294967295 0 W)
  go_enter Try.func7, Try.ntmps7
  go_wp2_with fail
  refine (walked_yes 4 6 3 _ (by omega) (by omega) (by omega) (by omega)).mono ?_
  rintro e w1 ⟨A, c, rfl, hrow, hb⟩
  simp only [show (4 : Int).toNat = 4 from rfl, wl_ex] at hrow ⊢
  go_wp2_with fail
  refine (same_yes _ _ _ _ _ _ [2, 1, 0, 3] _ (hrow.rd.alloc _) ?_ (by decide)).mono ?_
  · exact Rd.lits _ _ _ _ rfl _ _ (by simp) rfl
  rintro e w2 ⟨rfl, q, rfl⟩
  go_wp2_with (first | (go_at_call 8; refine (hM.out _).mono ?_; rintro e w9 ⟨rfl, rfl⟩) | (go_at_call 10; refine (hL.out _).mono ?_; rintro e w9 ⟨rfl, rfl⟩))
  go_ret
  exact ⟨rfl, belowN (hb.alloc hb.size _) _⟩

set_option maxHeartbeats 4000000 in
theorem walk_numRounds (a0 a1 a2 a3 : Int) (w : World) (w0 : (Lit.int .i64 a0).wf = true) (w1 : (Lit.int .i64 a1).wf = true) (w2 : (Lit.int .u32 a2).wf = true) (w3 : (Lit.int .u32 a3).wf = true) :
    Calls Try.prog 3 #[.int .i64 a0, .int .i64 a1, .int .u32 a2, .int .u32 a3] w fun e w' => e = .returned (.bool true) ∧ Below w.heap.size w w' := by
  clear w0 w1 w2 w3
  by_cases hb : 4611686018427387904 < a1
  · go_enter Try.func3, Try.ntmps3
    go_wp2_with (go_at_call 7; refine (alive_any _).mono ?_; rintro e w' ⟨rfl, hb2⟩)
    go_ret
    exact ⟨rfl, hb2⟩
  · have h1 := Lib.hid (fun W => mod_any a0 a1 W (by omega))
    have h2 := Lib.hid (fun W => rmod_any a0 a1 W (by omega))
    have h3 := Lib.hid (fun W => less_any a2 a3 W)
    have h4 := Lib.hid (fun W => rless_any a2 a3 W)
    have h5 := Lib.hid (fun W => dist_any a2 a3 W)
    have hw : IntKind.u32.wrap (a3 - a2) = distOf a2 a3 := by simp [distOf, IntKind.wrap, IntKind.bits, IntKind.signed]
    generalize modOf a0 a1 = m at h1 h2
    generalize lessOf a2 a3 = l at h3 h4
    generalize distOf a2 a3 = d at h5 hw
    go_enter Try.func3, Try.ntmps3
    go_wp2_with (first | (go_at_call 8; refine (h1.out _).mono ?_; rintro e w9 ⟨rfl, rfl⟩) | (go_at_call 9; refine (h2.out _).mono ?_; rintro e w9 ⟨rfl, rfl⟩) | (go_at_call 10; refine (h3.out _).mono ?_; rintro e w9 ⟨rfl, rfl⟩) | (go_at_call 11; refine (h4.out _).mono ?_; rintro e w9 ⟨rfl, rfl⟩) | (go_at_call 12; refine (h5.out _).mono ?_; rintro e w9 ⟨rfl, rfl⟩) | (go_at_call 7; refine (alive_any _).mono ?_; rintro e w' ⟨rfl, hb2⟩))
    go_ret
    exact ⟨rfl, hb2⟩
end Go.Proofs.Ytedenmbdefnhiaa
