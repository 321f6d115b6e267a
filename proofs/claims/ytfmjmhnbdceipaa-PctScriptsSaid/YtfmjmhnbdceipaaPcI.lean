/- The chapter's example of scripts by priorities. -/
import Derived.Test.YtfmjmhnbdceipaaPcH
import Derived.Test.YtfmjmhnbdceipaaRsame
namespace Go.Proofs.Ytfmjmhnbdceipaa
open Go.ChangeShapes Go.WideShapes Go.ChangeAt Go.RowKit Go.Deep
set_option linter.unusedVariables false

theorem points_zero (x s : Int) : pointsOf x s 0 = [] := List.eq_nil_of_length_eq_zero (Nat.le_zero.1 (pointsOf_le x s 0))
theorem ex_scr : scr (orderOf 0 1) (pointsOf (IntKind.u64.wrap (0 + 1)) 5 0) 2 1 5 = [[0, 0, 0], [0, 1, 1], [0, 2, 2], [0, 3, 3], [0, 4, 4]] := by
  rw [points_zero]
  decide
theorem script_ex (W : World) : Calls Try.prog 8 #[.agg #[.int .u64 0, .int .i64 1, .int .i64 5, .int .i64 0, .int .i64 2]] W fun en W' => ∃ A d, en = .returned (.tuple #[.slice A 5 d, .int .i64 0]) ∧
    Rd W' 3 A 5 (kv [[0, 0, 0], [0, 1, 1], [0, 2, 2], [0, 3, 3], [0, 4, 4]]) ∧ (∀ g, blk A = some g → W.heap.size ≤ g) ∧ 5 ≤ d ∧ Below W.heap.size W W' := by
  refine (script_yes 0 2 1 5 0 W (by unfold rightP; omega)).mono ?_
  rintro e W' ⟨A, d, h1, h2, h3, h4, h5⟩
  have h6 : Rd W' 3 A 5 (kv (scr (orderOf 0 1) (pointsOf (IntKind.u64.wrap (0 + 1)) 5 0) 2 1 5)) := h2
  rw [ex_scr] at h6
  exact ⟨A, d, h1, h6, h3, h4, h5⟩
set_option maxHeartbeats 2000000 in
theorem alive_any (w : World) : Calls Try.prog 7 #[] w fun e w' => e = .returned (.bool true) ∧ Below w.heap.size w w' := by
  go_enter Try.func7, Try.ntmps7
  go_wp2_with fail
  refine (script_ex _).mono ?_
  rintro e w1 ⟨A, d, rfl, hR, hA, hd, hb⟩
  have hu : Uni 3 [[0, 0, 0], [0, 1, 1], [0, 2, 2], [0, 3, 3], [0, 4, 4]] := by unfold Uni; simp
  obtain ⟨_, b, o, rfl, hbl, hc⟩ := hR.getk hu (by decide) (by decide)
  have e0 : w1.cell? ⟨b, o + 4 * 3, none⟩ = some (.int .i64 0) := hc 4 (by decide) 0 (by decide)
  have e1 : w1.cell? ⟨b, o + 4 * 3 + 1, none⟩ = some (.int .i64 4) := hc 4 (by decide) 1 (by decide)
  have e2 : w1.cell? ⟨b, o + 4 * 3 + 2, none⟩ = some (.int .i64 4) := hc 4 (by decide) 2 (by decide)
  have HS := Lib.hid (shares_yes (some ⟨b, o, none⟩) 5 d 1 _ w1 hR hu (by omega) (by omega) (by omega))
  have Hb := Lib.hid hb
  clear hR hA hb hc hu
  go_wp2_with (go_at_call 15; refine HS.out.mono ?_; rintro e w2 ⟨rfl, h2, h3⟩)
  go_ret
  exact ⟨rfl, Hb.out.trans (h3.below Hb.out.size (fun _ _ h => h.elim))⟩
end Go.Proofs.Ytfmjmhnbdceipaa
