/- Contracts of Decide, Clear and of the chapter's example. -/
import Derived.Test.YtoojclmbkpdmfaaDoorStops
import Derived.LoopN
import Derived.Handy

namespace Go.Proofs.YtoojclmbkpdmfaaDoor
open Go.ChangeShapes Go.WideShapes Go.ChangeAt Go.RowKit
set_option linter.unusedVariables false

/-- Calls that only make memory, one behind the other. -/
theorem join {B : Nat} {a b c : World} (h : Below B a b) (k : Below b.heap.size b c) (hB : B ≤ b.heap.size) : Below B a c := h.trans (k.mono hB)

set_option maxHeartbeats 2000000 in
theorem decide_any (C A : Option Addr) (lc cc ls cs : Nat) (z : Nat → Bool) (pc : Int) (ar pe ba so su sp : Bool) (W : World) (hT : Truths W A ls z) (hlc : lc ≤ maxLen) :
    Calls Tryd.prog 8 #[.agg #[.slice C lc cc, .slice A ls cs], .int .i64 pc, .agg #[.bool ar, .bool pe, .bool ba, .bool so, .bool su, .bool sp]] W fun e W' => e = .returned (.int .i64 (decI (stF lc ls z pc) (proF lc pc) ar pe ba so su sp)) ∧ Below W.heap.size W W' := by
  have hB0 : Below W.heap.size W ((W.alloc (.cells #[.slice C lc cc, .slice A ls cs] 25)).alloc (.cells #[.bool ar, .bool pe, .bool ba, .bool so, .bool su, .bool sp] 27)) := (((Below.refl _ _).alloc (Nat.le_refl _) _).alloc (by simp) _)
  have hT1 := hT.below hB0
  have hz0 : W.heap.size ≤ ((W.alloc (.cells #[.slice C lc cc, .slice A ls cs] 25)).alloc (.cells #[.bool ar, .bool pe, .bool ba, .bool so, .bool su, .bool sp] 27)).heap.size := by simp; omega
  have hy0 : W.heap.size < W.heap.size + 2 := by omega
  have hy1 : W.heap.size + 1 < W.heap.size + 2 := by omega
  generalize hst : stF lc ls z pc = st
  generalize hpr : proF lc pc = pro
  cases ar
  · cases pe
    · go_enter Tryd.func8, Tryd.ntmps8
      go_wp2
      go_ret
      exact ⟨rfl, by repeat (first | exact Below.refl _ _ | exact Nat.le_refl _ | refine Below.setCell ?_ ?_ _ | refine Below.alloc ?_ ?_ _ | refine Below.drew ?_ | (simp; done) | (simp; omega))⟩
    · cases pro
      · go_enter Tryd.func8, Tryd.ntmps8
        go_wp2_with (go_at_call 16; refine (pro_any _ _ _ _ _ _ _ _).mono ?_; rintro e w1 ⟨rfl, hb1⟩; obtain ⟨hc1, hf1⟩ := bcell hb1; have hs1 := hb1.size; (simp at hs1); have hy2 : W.heap.size < w1.heap.size := (by omega); have hy3 : W.heap.size + 1 < w1.heap.size := (by omega); have hB1 : Below W.heap.size W w1 := join hB0 hb1 hz0; have hT2 := hT.below hB1)
        go_ret
        exact ⟨rfl, hB1⟩
      · cases st
        · go_enter Tryd.func8, Tryd.ntmps8
          go_wp2_with (first | (go_at_call 16; refine (pro_any _ _ _ _ _ _ _ _).mono ?_; rintro e w1 ⟨rfl, hb1⟩; obtain ⟨hc1, hf1⟩ := bcell hb1; have hs1 := hb1.size; (simp at hs1); have hy2 : W.heap.size < w1.heap.size := (by omega); have hy3 : W.heap.size + 1 < w1.heap.size := (by omega); have hB1 : Below W.heap.size W w1 := join hB0 hb1 hz0; have hT2 := hT.below hB1) | (go_at_call 17; refine (stops_any _ _ _ _ _ _ z _ _ hT2 hlc).mono ?_; rintro e w2 ⟨rfl, hb2⟩; obtain ⟨hc2, hf2⟩ := bcell hb2; have hs2 := hb2.size))
          go_ret
          exact ⟨rfl, join hB1 hb2 (by omega)⟩
        · go_enter Tryd.func8, Tryd.ntmps8
          go_wp2_with (first | (go_at_call 16; refine (pro_any _ _ _ _ _ _ _ _).mono ?_; rintro e w1 ⟨rfl, hb1⟩; obtain ⟨hc1, hf1⟩ := bcell hb1; have hs1 := hb1.size; (simp at hs1); have hy2 : W.heap.size < w1.heap.size := (by omega); have hy3 : W.heap.size + 1 < w1.heap.size := (by omega); have hB1 : Below W.heap.size W w1 := join hB0 hb1 hz0; have hT2 := hT.below hB1) | (go_at_call 17; refine (stops_any _ _ _ _ _ _ z _ _ hT2 hlc).mono ?_; rintro e w2 ⟨rfl, hb2⟩; obtain ⟨hc2, hf2⟩ := bcell hb2; have hs2 := hb2.size) | (go_at_call 11; refine (behind_any _ _ _ _ _ _ _).mono ?_; rintro e w3 ⟨rfl, hb3⟩))
          go_ret
          exact ⟨rfl, join (join hB1 hb2 (by omega)) hb3 (by omega)⟩
  · cases st
    · go_enter Tryd.func8, Tryd.ntmps8
      go_wp2_with (go_at_call 17; refine (stops_any _ _ _ _ _ _ z _ _ hT1 hlc).mono ?_; rintro e w2 ⟨rfl, hb2⟩; obtain ⟨hc2, hf2⟩ := bcell hb2; have hs2 := hb2.size)
      go_ret
      exact ⟨rfl, join hB0 hb2 hz0⟩
    · go_enter Tryd.func8, Tryd.ntmps8
      go_wp2_with (first | (go_at_call 17; refine (stops_any _ _ _ _ _ _ z _ _ hT1 hlc).mono ?_; rintro e w2 ⟨rfl, hb2⟩; obtain ⟨hc2, hf2⟩ := bcell hb2; have hs2 := hb2.size) | (go_at_call 11; refine (behind_any _ _ _ _ _ _ _).mono ?_; rintro e w3 ⟨rfl, hb3⟩))
      go_ret
      exact ⟨rfl, join (join hB0 hb2 hz0) hb3 (by simp at hs2; omega)⟩

/-- The flags behind action a. -/
def clr (a : Int) (k : Nat) (x : Bool) : Bool := if (a == 1) && (k == 2) then false else if (a == 2 || a == 3 || a == 4) && (k == 0 || k == 1) then false else if (a == 2 || a == 3) && k == 5 then false else if a == 2 && k == 4 then false else x
theorem clear_0 (ar pe ba so su sp : Bool) (W : World) : Calls Tryd.prog 13 #[.agg #[.bool ar, .bool pe, .bool ba, .bool so, .bool su, .bool sp], .int .i64 0] W fun e W' => e = .returned (.agg #[.bool ar, .bool pe, .bool ba, .bool so, .bool su, .bool sp]) ∧ Below W.heap.size W W' := by
  go_enter Tryd.func13, Tryd.ntmps13
  go_wp2
  refine bodyPost_ret (v := .agg #[.bool ar, .bool pe, .bool ba, .bool so, .bool su, .bool sp]) (by simp [results, Tryd.results13, go_sem]) rfl ⟨rfl, ?_⟩
  repeat (first | exact Below.refl _ _ | exact Nat.le_refl _ | refine Below.setCell ?_ ?_ _ | refine Below.alloc ?_ ?_ _ | refine Below.drew ?_ | (simp; done) | (simp; omega))
theorem clear_1 (ar pe ba so su sp : Bool) (W : World) : Calls Tryd.prog 13 #[.agg #[.bool ar, .bool pe, .bool ba, .bool so, .bool su, .bool sp], .int .i64 1] W fun e W' => e = .returned (.agg #[.bool ar, .bool pe, .bool false, .bool so, .bool su, .bool sp]) ∧ Below W.heap.size W W' := by
  go_enter Tryd.func13, Tryd.ntmps13
  go_wp2
  refine bodyPost_ret (v := .agg #[.bool ar, .bool pe, .bool false, .bool so, .bool su, .bool sp]) (by simp [results, Tryd.results13, go_sem]) rfl ⟨rfl, ?_⟩
  repeat (first | exact Below.refl _ _ | exact Nat.le_refl _ | refine Below.setCell ?_ ?_ _ | refine Below.alloc ?_ ?_ _ | refine Below.drew ?_ | (simp; done) | (simp; omega))
theorem clear_2 (ar pe ba so su sp : Bool) (W : World) : Calls Tryd.prog 13 #[.agg #[.bool ar, .bool pe, .bool ba, .bool so, .bool su, .bool sp], .int .i64 2] W fun e W' => e = .returned (.agg #[.bool false, .bool false, .bool ba, .bool so, .bool false, .bool false]) ∧ Below W.heap.size W W' := by
  go_enter Tryd.func13, Tryd.ntmps13
  go_wp2
  refine bodyPost_ret (v := .agg #[.bool false, .bool false, .bool ba, .bool so, .bool false, .bool false]) (by simp [results, Tryd.results13, go_sem]) rfl ⟨rfl, ?_⟩
  repeat (first | exact Below.refl _ _ | exact Nat.le_refl _ | refine Below.setCell ?_ ?_ _ | refine Below.alloc ?_ ?_ _ | refine Below.drew ?_ | (simp; done) | (simp; omega))
theorem clear_3 (ar pe ba so su sp : Bool) (W : World) : Calls Tryd.prog 13 #[.agg #[.bool ar, .bool pe, .bool ba, .bool so, .bool su, .bool sp], .int .i64 3] W fun e W' => e = .returned (.agg #[.bool false, .bool false, .bool ba, .bool so, .bool su, .bool false]) ∧ Below W.heap.size W W' := by
  go_enter Tryd.func13, Tryd.ntmps13
  go_wp2
  refine bodyPost_ret (v := .agg #[.bool false, .bool false, .bool ba, .bool so, .bool su, .bool false]) (by simp [results, Tryd.results13, go_sem]) rfl ⟨rfl, ?_⟩
  repeat (first | exact Below.refl _ _ | exact Nat.le_refl _ | refine Below.setCell ?_ ?_ _ | refine Below.alloc ?_ ?_ _ | refine Below.drew ?_ | (simp; done) | (simp; omega))
theorem clear_4 (ar pe ba so su sp : Bool) (W : World) : Calls Tryd.prog 13 #[.agg #[.bool ar, .bool pe, .bool ba, .bool so, .bool su, .bool sp], .int .i64 4] W fun e W' => e = .returned (.agg #[.bool false, .bool false, .bool ba, .bool so, .bool su, .bool sp]) ∧ Below W.heap.size W W' := by
  go_enter Tryd.func13, Tryd.ntmps13
  go_wp2
  refine bodyPost_ret (v := .agg #[.bool false, .bool false, .bool ba, .bool so, .bool su, .bool sp]) (by simp [results, Tryd.results13, go_sem]) rfl ⟨rfl, ?_⟩
  repeat (first | exact Below.refl _ _ | exact Nat.le_refl _ | refine Below.setCell ?_ ?_ _ | refine Below.alloc ?_ ?_ _ | refine Below.drew ?_ | (simp; done) | (simp; omega))

theorem names_cell {W : World} (h : laidMetH Tryd.prog Rows.decideEndsRow.laid W) : W.cell? ⟨0, 3, none⟩ = some (.string ⟨#[114, 101, 113, 117, 101, 117, 101]⟩) :=
  laid_cell h (by kernel_rfl) 0 8 3 rfl (by kernel_rfl : Tryd.prog.globalNamed "escapement/decide.names" = some 0) (by kernel_rfl : (Tryd.prog.globals[0]?).map (·.type) = some 45) (by kernel_rfl)

set_option maxHeartbeats 2000000 in
theorem alive_any (W : World) (hn : W.cell? ⟨0, 3, none⟩ = some (.string ⟨#[114, 101, 113, 117, 101, 117, 101]⟩)) : Calls Tryd.prog 7 #[] W fun e W' => e = .returned (.bool true) ∧ Below W.heap.size W W' := by
  have hz : 0 < W.heap.size := by simpa using World.block_lt_of_cell? W _ hn
  go_enter Tryd.func7, Tryd.ntmps7
  go_wp2
  go_ret
  exact ⟨by kernel_rfl, by go_grown⟩
end Go.Proofs.YtoojclmbkpdmfaaDoor
