/- The walk of the law ValidChecks. -/
import Derived.Test.YtkpipoicobmjkaaDoorVaP
import Derived.Test.YtkpipoicobmjkaaDoorVaI2
namespace Go.Proofs.YtkpipoicobmjkaaDoor
open Go.ChangeShapes Go.WideShapes Go.ChangeAt Go.RowKit Go.Deep
set_option linter.unusedVariables false

set_option maxRecDepth 100000 in
set_option maxHeartbeats 4000000 in
theorem walk_validChecks (cs0 : List Value) (d0 : ShProg.Den) (w : World) (hL0 : Lies w ShProg cs0 d0) (hL : laidMetH Tryd.prog Rows.validChecksRow.laid w) :
    Calls Tryd.prog 3 #[Sh.val ShProg cs0] w fun e w' => e = .returned (.bool true) ∧ Below w.heap.size w w' := by
  obtain ⟨A, m, c, Ac, nc, cc, As, ns, cs, code, safe, h1, hm, hP⟩ := open_prog hL0
  rw [h1]
  have hT : Tab w := tab_of_laid hL
  clear hL hL0 h1
  have hcb : Chg (fun _ => False) w (w.alloc (.cells #[.slice A m c] 24)) := (Chg.refl _ _).alloc _
  have HB := Lib.hid (Blk.new w 24 #[.slice A m c])
  have HP := Lib.hid (hP.chg hcb)
  have HT := Lib.hid (hT.chg hcb)
  have HCB := Lib.hid hcb
  clear hP hT hcb
  by_cases hl : LightP m nc ns
  · have HLI := Lib.hid (plight_yes c HP.out hl)
    have HCK := Lib.hid (fun V (hc : Chg (fun _ => False) (w.alloc (.cells #[.slice A m c] 24)) V) => vcheck_any c (HP.out.chg hc) (HT.out.chg hc) hm)
    have HRK := Lib.hid (fun V (hc : Chg (fun _ => False) (w.alloc (.cells #[.slice A m c] 24)) V) => rvcheck_any c (HP.out.chg hc) hm)
    generalize progF m code safe = r at *
    obtain ⟨x, y, z⟩ := r
    clear hl
    go_enter Tryd.func3, Tryd.ntmps3
    go_wp2_with (first
      | (go_at_call 7; refine HLI.out.mono ?_; rintro e u1 ⟨rfl, hc1⟩; have HC1 := Lib.hid hc1; have b1 := (HB.out.kept hc1 (fun h => h)).cell 0; have l1 := (HB.out.kept hc1 (fun h => h)).lt; simp at b1; clear hc1)
      | (go_at_call 9; refine (HCK.out _ HC1.out).mono ?_; rintro e u2 ⟨rfl, hc2⟩; have HC2 := Lib.hid (HC1.out.trans hc2 (fun _ _ h => h)); have b2 := (HB.out.kept HC2.out (fun h => h)).cell 0; have l2 := (HB.out.kept HC2.out (fun h => h)).lt; simp at b2; clear hc2)
      | (go_at_call 10; refine (HRK.out _ HC2.out).mono ?_; rintro e u3 ⟨rfl, hc3⟩; have HC3 := Lib.hid (HC2.out.trans hc3 (fun _ _ h => h)); clear hc3)
      | (go_at_call 8; refine (alive_any _ (HT.out.chg HC3.out)).mono ?_; rintro e u4 ⟨rfl, hc4⟩; have HC4 := Lib.hid (HC3.out.trans hc4 (fun _ _ h => h)); clear hc4))
    go_ret
    exact ⟨rfl, (HCB.out.trans HC4.out (fun _ _ h => h)).toB⟩
  · have HLI := Lib.hid (plight_no c HP.out hm hl)
    clear hl
    go_enter Tryd.func3, Tryd.ntmps3
    go_wp2_with (first
      | (go_at_call 7; refine HLI.out.mono ?_; rintro e u1 ⟨rfl, hc1⟩; have HC1 := Lib.hid hc1; clear hc1)
      | (go_at_call 8; refine (alive_any _ (HT.out.chg HC1.out)).mono ?_; rintro e u4 ⟨rfl, hc4⟩; have HC4 := Lib.hid (HC1.out.trans hc4 (fun _ _ h => h)); clear hc4))
    go_ret
    exact ⟨rfl, (HCB.out.trans HC4.out (fun _ _ h => h)).toB⟩
end Go.Proofs.YtkpipoicobmjkaaDoor
