/- Contracts: the example's program is checked. -/
import Derived.Test.YtkpipoicobmjkaaDoorVaF
namespace Go.Proofs.YtkpipoicobmjkaaDoor
open Go.ChangeShapes Go.WideShapes Go.ChangeAt Go.RowKit Go.Deep
set_option linter.unusedVariables false

set_option maxHeartbeats 4000000 in
theorem check_true (C S F : Nat) (W : World) (hT : Tab W) (hC : Blk W C 43 codeB) (hS : Blk W S 4 #[.bool true, .bool true]) (hF : Blk W F 33 #[.slice (some ⟨C, 0, none⟩) 2 2, .slice (some ⟨S, 0, none⟩) 2 2]) :
    Calls Tryd.prog 9 #[.agg #[.slice (some ⟨F, 0, none⟩) 1 1]] W fun e W' => e = .returned (.tuple #[.int .i64 (-1), .int .i64 (-1), .int .i64 0]) ∧ Chg (fun _ => False) W W' := by
  have hB : Blk (W.alloc (.cells #[.slice (some ⟨F, 0, none⟩) 1 1] 24)) W.heap.size 24 #[.slice (some ⟨F, 0, none⟩) 1 1] := Blk.new _ _ _
  have HB := Lib.hid hB
  have HT := Lib.hid (hT.alloc (.cells #[.slice (some ⟨F, 0, none⟩) 1 1] 24))
  have HC := Lib.hid (hC.alloc (.cells #[.slice (some ⟨F, 0, none⟩) 1 1] 24))
  have HS := Lib.hid (hS.alloc (.cells #[.slice (some ⟨F, 0, none⟩) 1 1] 24))
  have HF := Lib.hid (hF.alloc (.cells #[.slice (some ⟨F, 0, none⟩) 1 1] 24))
  clear hT hC hS hF hB
  go_enter Tryd.func9, Tryd.ntmps9
  go_wp2_with fail
  go_loopw [20] (fun iv wr => ∃ k : Nat, k ≤ 1 ∧ iv = .int .i64 k ∧ Chg (fun _ => False) (W.alloc (.cells #[.slice (some ⟨F, 0, none⟩) 1 1] 24)) wr) (fun iv _ => 1 - (intOf iv).toNat)
  case atStart => exact ⟨0, by omega, rfl, Chg.refl _ _⟩
  case round =>
    obtain ⟨k, hk, rfl, hc⟩ := hrel
    have b0 := (HB.out.kept hc (fun h => h)).cell 0
    have f0 := (HF.out.kept hc (fun h => h)).cell 0
    have f1 := (HF.out.kept hc (fun h => h)).cell 1
    have hlt := (HB.out.kept hc (fun h => h)).lt
    have b1 : (wr.alloc (.cells #[.slice (some ⟨C, 0, none⟩) 2 2, .slice (some ⟨S, 0, none⟩) 2 2] 33)).cell? ⟨W.heap.size, 0, none⟩ = some (.slice (some ⟨F, 0, none⟩) 1 1) := ((HB.out.kept hc (fun h => h)).alloc _).cell 0
    simp at b0 f0 f1
    match k, hk with
    | 0, _ =>
      go_wp2_with (go_at_call 19; refine (func_true C S _ ((HT.out.chg hc).alloc _) ((HC.out.kept hc (fun h => h)).alloc _) ((HS.out.kept hc (fun h => h)).alloc _)).mono ?_; rintro e w1 ⟨rfl, hc1⟩; have HK1 := Lib.hid (hc.trans (((Chg.refl _ _).alloc (.cells #[.slice (some ⟨C, 0, none⟩) 2 2, .slice (some ⟨S, 0, none⟩) 2 2] 33)).trans hc1 (fun _ _ h => h)) (fun _ _ h => h)); clear hc1)
      go_roundw
      case rel => exact ⟨1, by omega, rfl, HK1.out⟩
      case measure => simp [intOf]
    | 1, _ =>
      go_wp2_with fail
      go_ret3
      exact ⟨rfl, ((Chg.refl _ _).alloc _).trans hc (fun _ _ h => h)⟩
set_option maxHeartbeats 4000000 in
theorem check_false (C S F : Nat) (W : World) (hT : Tab W) (hC : Blk W C 43 codeB) (hS : Blk W S 4 #[.bool false, .bool true]) (hF : Blk W F 33 #[.slice (some ⟨C, 0, none⟩) 2 2, .slice (some ⟨S, 0, none⟩) 2 2]) :
    Calls Tryd.prog 9 #[.agg #[.slice (some ⟨F, 0, none⟩) 1 1]] W fun e W' => e = .returned (.tuple #[.int .i64 0, .int .i64 0, .int .i64 10]) ∧ Chg (fun _ => False) W W' := by
  have hB : Blk (W.alloc (.cells #[.slice (some ⟨F, 0, none⟩) 1 1] 24)) W.heap.size 24 #[.slice (some ⟨F, 0, none⟩) 1 1] := Blk.new _ _ _
  have HB := Lib.hid hB
  have HT := Lib.hid (hT.alloc (.cells #[.slice (some ⟨F, 0, none⟩) 1 1] 24))
  have HC := Lib.hid (hC.alloc (.cells #[.slice (some ⟨F, 0, none⟩) 1 1] 24))
  have HS := Lib.hid (hS.alloc (.cells #[.slice (some ⟨F, 0, none⟩) 1 1] 24))
  have HF := Lib.hid (hF.alloc (.cells #[.slice (some ⟨F, 0, none⟩) 1 1] 24))
  clear hT hC hS hF hB
  go_enter Tryd.func9, Tryd.ntmps9
  go_wp2_with fail
  go_loopw [20] (fun iv wr => ∃ k : Nat, k ≤ 0 ∧ iv = .int .i64 k ∧ Chg (fun _ => False) (W.alloc (.cells #[.slice (some ⟨F, 0, none⟩) 1 1] 24)) wr) (fun iv _ => 1 - (intOf iv).toNat)
  case atStart => exact ⟨0, by omega, rfl, Chg.refl _ _⟩
  case round =>
    obtain ⟨k, hk, rfl, hc⟩ := hrel
    have b0 := (HB.out.kept hc (fun h => h)).cell 0
    have f0 := (HF.out.kept hc (fun h => h)).cell 0
    have f1 := (HF.out.kept hc (fun h => h)).cell 1
    have hlt := (HB.out.kept hc (fun h => h)).lt
    have b1 : (wr.alloc (.cells #[.slice (some ⟨C, 0, none⟩) 2 2, .slice (some ⟨S, 0, none⟩) 2 2] 33)).cell? ⟨W.heap.size, 0, none⟩ = some (.slice (some ⟨F, 0, none⟩) 1 1) := ((HB.out.kept hc (fun h => h)).alloc _).cell 0
    simp at b0 f0 f1
    match k, hk with
    | 0, _ =>
      go_wp2_with (go_at_call 19; refine (func_false C S _ ((HT.out.chg hc).alloc _) ((HC.out.kept hc (fun h => h)).alloc _) ((HS.out.kept hc (fun h => h)).alloc _)).mono ?_; rintro e w1 ⟨rfl, hc1⟩; have HK1 := Lib.hid (hc.trans (((Chg.refl _ _).alloc (.cells #[.slice (some ⟨C, 0, none⟩) 2 2, .slice (some ⟨S, 0, none⟩) 2 2] 33)).trans hc1 (fun _ _ h => h)) (fun _ _ h => h)); clear hc1)
      go_ret3
      exact ⟨rfl, ((Chg.refl _ _).alloc _).trans HK1.out (fun _ _ h => h)⟩
end Go.Proofs.YtkpipoicobmjkaaDoor
