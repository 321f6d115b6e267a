/- Contract: the document's Mod. -/
import Derived.Test.YtcngdngkkglepaaDoorMod
namespace Go.Proofs.YtcngdngkkglepaaDoor
open Go.ChangeShapes Go.WideShapes Go.ChangeAt Go.RowKit Go.Deep
set_option linter.unusedVariables false
set_option linter.unusedSimpArgs false

set_option maxHeartbeats 1000000 in
theorem rmod_any (i n : Int) (W : World) (hn : n ≤ 9223372036854775807) : Calls Tryd.prog 30 #[.int .i64 i, .int .i64 n] W fun e W' => e = .returned (.int .i64 (modOf i n)) ∧ W = W' := by
  by_cases h : n < 1
  · have hv := Lib.hid (show modOf i n = 0 from if_pos h)
    go_enter Tryd.func30, Tryd.ntmps30
    go_wp2
    go_ret
    exact ⟨ret_int hv.out.symm, rfl⟩
  · have h1 : 1 ≤ n := by omega
    have hv := Lib.hid (show modOf i n = i % n from if_neg h)
    obtain ⟨f1, f2, f3, f4⟩ := tmod_facts i n h1
    by_cases ht : Int.tmod i n < 0
    · have hw := Lib.hid (f2 ht)
      have hi : ¬ 0 ≤ i := fun h0 => by rw [Int.tmod_eq_emod_of_nonneg h0] at ht; have := Int.emod_nonneg i (show n ≠ 0 by omega); omega
      clear f1 f2 h
      go_enter Tryd.func30, Tryd.ntmps30
      go_wp2
      go_ret
      refine ⟨ret_int ?_, rfl⟩
      rw [hv.out, ← hw.out]
    · have hw := Lib.hid (f1 (by omega))
      clear f1 f2 h
      go_enter Tryd.func30, Tryd.ntmps30
      go_wp2
      go_ret
      refine ⟨ret_int ?_, rfl⟩
      rw [hv.out, ← hw.out]
end Go.Proofs.YtcngdngkkglepaaDoor
