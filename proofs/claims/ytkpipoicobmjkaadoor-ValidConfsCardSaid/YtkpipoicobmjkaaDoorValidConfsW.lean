/- The walk of the law ValidConfs. -/
import Derived.Test.YtkpipoicobmjkaaDoorVaI
import Derived.Test.YtkpipoicobmjkaaDoorVaC
import Derived.Deep.RegionHeld3
namespace Go.Proofs.YtkpipoicobmjkaaDoor
open Go.ChangeShapes Go.WideShapes Go.ChangeAt Go.RowKit Go.Deep
set_option linter.unusedVariables false

theorem box3 {w : World} {K : Nat} {p g m : Int} (h : Blk w K 39 #[.int .i64 p, .int .i64 g, .int .i64 m]) : w.cell? ⟨K, 0, none⟩ = some (.int .i64 p) ∧ w.cell? ⟨K, 1, none⟩ = some (.int .i64 g) ∧ w.cell? ⟨K, 2, none⟩ = some (.int .i64 m) := ⟨h.cell 0, h.cell 1, h.cell 2⟩
set_option maxHeartbeats 4000000 in
theorem walk_validConfs (a0_0 a0_1 a0_2 : Int) (w : World) (w0_0 : (Lit.int .i64 a0_0).wf = true) (w0_1 : (Lit.int .i64 a0_1).wf = true) (w0_2 : (Lit.int .i64 a0_2).wf = true) (hL : laidMetH Tryd.prog Rows.validConfsRow.laid w) :
    Calls Tryd.prog 5 #[.agg #[.int .i64 a0_0, .int .i64 a0_1, .int .i64 a0_2]] w fun e w' => e = .returned (.bool true) ∧ Below w.heap.size w w' := by
  have hT : Tab w := tab_of_laid hL
  clear hL w0_0 w0_1 w0_2
  have HT0 := Lib.hid (hT.alloc (.cells #[.int .i64 a0_0, .int .i64 a0_1, .int .i64 a0_2] 39))
  have HB0 := Lib.hid (Blk.new w 39 #[.int .i64 a0_0, .int .i64 a0_1, .int .i64 a0_2]).drew
  have HK0 := Lib.hid (((Chg.refl (fun _ => False) w).alloc (.cells #[.int .i64 a0_0, .int .i64 a0_1, .int .i64 a0_2] 39)).drew)
  have hs0 := box3 HB0.out
  have HC1 := Lib.hid (fun V => conf_any a0_0 a0_1 a0_2 V)
  have HC2 := Lib.hid (fun V => rconf_any a0_0 a0_1 a0_2 V)
  generalize cf a0_0 a0_1 a0_2 = q at *
  clear hT
  go_enter Tryd.func5, Tryd.ntmps5
  go_wp2_with fail
  go_region_held3 (fun w' => w'.cell? ⟨w.heap.size, 0, none⟩ = some (.int .i64 a0_0) ∧ w'.cell? ⟨w.heap.size, 1, none⟩ = some (.int .i64 a0_1) ∧ w'.cell? ⟨w.heap.size, 2, none⟩ = some (.int .i64 a0_2)) (first | assumption)
    ((first
      | (go_at_call 17; refine (HC1.out _).mono ?_; rintro e u1 ⟨rfl, hc1⟩; have HB1 := Lib.hid (HB0.out.kept hc1 (fun h => h)); have hs1 := box3 HB1.out; have HT1 := Lib.hid ((HT0.out.drewN 1).chg hc1); have HK1 := Lib.hid (HK0.out.trans hc1 (fun _ _ h => h)); clear hc1)
      | (go_at_call 18; refine (HC2.out _).mono ?_; rintro e u2 ⟨rfl, hc2⟩; have HB2 := Lib.hid (HB1.out.kept hc2 (fun h => h)); have hs2 := box3 HB2.out; have HT2 := Lib.hid (HT1.out.chg hc2); have HK2 := Lib.hid (HK1.out.trans hc2 (fun _ _ h => h)); clear hc2)
      | (go_at_call 8; refine (alive_any _ HT2.out).mono ?_; rintro e u3 ⟨rfl, hc3⟩; have HB3 := Lib.hid (HB2.out.kept hc3 (fun h => h)); have hs3 := box3 HB3.out; have HK3 := Lib.hid (HK2.out.trans hc3 (fun _ _ h => h)); clear hc3)))
  all_goals go_simp
  all_goals go_wp2
  all_goals go_ret
  all_goals exact ⟨rfl, HK3.out.below (Nat.le_refl _) (fun _ _ h => h.elim)⟩
end Go.Proofs.YtkpipoicobmjkaaDoor
