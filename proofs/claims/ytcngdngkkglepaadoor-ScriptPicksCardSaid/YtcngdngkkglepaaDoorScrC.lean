/- What must come at any rate; the walk of the law ScriptRobins. -/
import Derived.Test.YtcngdngkkglepaaDoorScrB
import Derived.Test.YtcngdngkkglepaaDoorVaC
import Derived.Test.YtcngdngkkglepaaDoorRobB
namespace Go.Proofs.YtcngdngkkglepaaDoor
open Go.ChangeShapes Go.WideShapes Go.ChangeAt Go.RowKit Go.Deep
set_option linter.unusedVariables false
set_option linter.unusedSimpArgs false

theorem cf123 : cf 1 2 3 = 0 := by decide
set_option maxRecDepth 100000 in
set_option maxHeartbeats 1000000 in
theorem word123 (W : World) : Calls Tryd.prog 20 #[.agg #[.int .i64 1, .int .i64 2, .int .i64 3]] W fun e W' => e = .returned (.string ⟨#[49, 32, 50, 32, 51]⟩) ∧ Below W.heap.size W W' := by
  have HB := Lib.hid (Blk.new W 36 #[.int .i64 1, .int .i64 2, .int .i64 3])
  have HB0 := Lib.hid ((Below.refl W.heap.size W).alloc (Nat.le_refl _) (.cells #[.int .i64 1, .int .i64 2, .int .i64 3] 36))
  have HC := Lib.hid (fun V => by have h := conf_any 1 2 3 V; rw [cf123] at h; exact h)
  go_enter Tryd.func20, Tryd.ntmps20
  go_wp2_with fail
  refine (HC.out _).mono ?_
  rintro e w1 ⟨rfl, hc1⟩
  have hb1 := HB.out.kept hc1 (fun h => h)
  have b0 := hb1.cell 0
  have b1 := hb1.cell 1
  have b2 := hb1.cell 2
  have hlt := hb1.lt
  simp at b0 b1 b2
  have HC1 := Lib.hid hc1
  clear hc1 hb1
  go_wp2_with (go_at_call 27; refine (words_123 _).mono ?_; rintro e w2 ⟨rfl, rfl⟩)
  go_ret
  exact ⟨rfl, HB0.out.trans (HC1.out.below (B := W.heap.size) (by simp) (fun _ _ h => h.elim))⟩
set_option maxRecDepth 100000 in
set_option maxHeartbeats 1000000 in
theorem alive_any (W : World) : Calls Tryd.prog 8 #[] W fun e W' => e = .returned (.bool true) ∧ Chg (fun _ => False) W W' := by
  have HR := Lib.hid (robin_at 2 1 2 W (by omega) (by omega))
  go_enter Tryd.func8, Tryd.ntmps8
  go_wp2_with (first
    | (go_at_call 22; refine HR.out.mono ?_; rintro e w1 ⟨A, c, rfl, hr1, hc1⟩; have HA := Lib.hid hr1; have HC := Lib.hid hc1; clear hr1 hc1)
    | (go_at_call 11; refine (print_rob A c w1 HA.out.rd (fun g hg => (HA.out.blk_lt g hg).2)).mono ?_; rintro e w2 ⟨rfl, hb2⟩; have HB2 := Lib.hid hb2; clear hb2)
    | (go_at_call 20; refine (word123 _).mono ?_; rintro e w3 ⟨rfl, hb3⟩; have HB3 := Lib.hid hb3; clear hb3))
  go_ret
  have hs1 := HC.out.size
  have hs2 := HB2.out.size
  exact ⟨rfl, (HC.out.addBelow HB2.out hs1).addBelow HB3.out (by omega)⟩
theorem walk_scriptRobins (n delay : Int) (w : World) (w0 : (Lit.int .i64 n).wf = true) (w1 : (Lit.int .i64 delay).wf = true) :
    Calls Tryd.prog 7 #[.int .i64 n, .int .i64 delay] w fun e w' => e = .returned (.bool true) ∧ Below w.heap.size w w' := robins_of alive_any n delay w
end Go.Proofs.YtcngdngkkglepaaDoor
