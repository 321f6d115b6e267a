/- The numbers' small contracts; the chapter's example. -/
import Derived.Test.YtobcaohginiegaaDB
import Derived.Test.YtobcaohginiegaaRsame
namespace Go.Proofs.Ytobcaohginiegaa
open Go.ChangeShapes Go.WideShapes Go.ChangeAt Go.RowKit Go.Deep Go.Shelf
set_option linter.unusedVariables false

set_option maxHeartbeats 1000000 in
theorem rmod_any (i n : Int) (W : World) (hn : n ≤ 4611686018427387904) : Calls Try.prog 17 #[.int .i64 i, .int .i64 n] W fun e W' => e = .returned (.int .i64 (modOf i n)) ∧ W = W' := by
  by_cases h : n < 1
  · have hv := Lib.hid (show modOf i n = 0 from if_pos h)
    go_enter Try.func17, Try.ntmps17
    go_wp2
    go_ret
    exact ⟨ret_int hv.out.symm, rfl⟩
  · have h1 : 1 ≤ n := by omega
    have hv := Lib.hid (show modOf i n = i % n from if_neg h)
    obtain ⟨f1, f2, f3, f4⟩ := tmod_facts i n h1
    by_cases ht : Int.tmod i n < 0
    · have hw := Lib.hid (f2 ht)
      have hi : ¬ 0 ≤ i := fun h0 => by rw [Int.tmod_eq_emod_of_nonneg h0] at ht; have := Int.emod_nonneg i (show n ≠ 0 by omega); omega
      clear f1 f2 h
      go_enter Try.func17, Try.ntmps17
      go_wp2
      go_ret
      refine ⟨ret_int ?_, rfl⟩
      rw [hv.out, ← hw.out]
    · have hw := Lib.hid (f1 (by omega))
      clear f1 f2 h
      go_enter Try.func17, Try.ntmps17
      go_wp2
      go_ret
      refine ⟨ret_int ?_, rfl⟩
      rw [hv.out, ← hw.out]


theorem i64_le {a : Int} (h : (Lit.int .i64 a).wf = true) : a ≤ 9223372036854775807 := by
  have h' : (decide (IntKind.i64.min ≤ a) && decide (a ≤ IntKind.i64.max)) = true := h
  rw [Bool.and_eq_true] at h'
  have h2 := of_decide_eq_true h'.2
  have e : IntKind.i64.max = 9223372036854775807 := by decide
  omega
theorem Rd.lits (w : World) (zs : List Int) (E : TypeId) (cs : Array Value) (hcs : cs = (ints zs).toArray) (n m : Nat) (hn : n = w.heap.size) (hm : m = zs.length) : Rd (w.alloc (.cells cs E)) 1 (some ⟨n, 0, none⟩) m (ints zs) := by
  subst hcs
  subst hn
  subst hm
  refine ⟨by simp, fun _ => ⟨w.heap.size, 0, rfl, by simp, fun j u hu => ?_⟩⟩
  rw [Nat.zero_add, (Blk.new w E (ints zs).toArray).cell j]
  simpa using hu

end Go.Proofs.Ytobcaohginiegaa
