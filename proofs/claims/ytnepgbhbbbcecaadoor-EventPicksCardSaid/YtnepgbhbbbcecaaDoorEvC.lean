/- The chapter's example: the line of an event. -/
import Derived.Test.YtnepgbhbbbcecaaDoorRowz
import Derived.Deep.LoopGhost
import Derived.Deep.RegionWith
import Derived.Deep.RegionHeld3
import Derived.WalkMore
import Derived.Deep.QuietTactic
import Derived.BigQuiet
namespace Go.Proofs.YtnepgbhbbbcecaaDoor
open Go.ChangeShapes Go.WideShapes Go.ChangeAt Go.RowKit Go.Deep
set_option linter.unusedVariables false
set_option linter.unusedSimpArgs false

set_option maxRecDepth 100000 in
set_option maxHeartbeats 1000000 in
theorem fmt_0 (W : World) : Calls Tryd.prog 26 #[.int .i64 0, .int .i64 10] W fun e W' => e = .returned (.string ⟨#[48]⟩) ∧ W = W' := by
  go_enter Tryd.func26, Tryd.ntmps26
  go_wp2
  go_ret
  exact ⟨rfl, rfl⟩
set_option maxRecDepth 100000 in
set_option maxHeartbeats 1000000 in
theorem fmt_3 (W : World) : Calls Tryd.prog 26 #[.int .i64 3, .int .i64 10] W fun e W' => e = .returned (.string ⟨#[51]⟩) ∧ W = W' := by
  go_enter Tryd.func26, Tryd.ntmps26
  go_wp2
  go_ret
  exact ⟨rfl, rfl⟩
set_option maxRecDepth 100000 in
set_option maxHeartbeats 1000000 in
theorem fmt_5 (W : World) : Calls Tryd.prog 26 #[.int .i64 5, .int .i64 10] W fun e W' => e = .returned (.string ⟨#[53]⟩) ∧ W = W' := by
  go_enter Tryd.func26, Tryd.ntmps26
  go_wp2
  go_ret
  exact ⟨rfl, rfl⟩
def strs : Nat → ByteArray
  | 0 => ⟨#[98, 101, 103, 105, 110]⟩
  | 1 => ⟨#[98, 101, 103, 105, 110, 32, 51]⟩
  | 2 => ⟨#[98, 101, 103, 105, 110, 32, 51, 32, 48]⟩
  | _ => ⟨#[98, 101, 103, 105, 110, 32, 51, 32, 48, 32, 53]⟩
def PutR (W : World) (B : Nat) (k : Nat) (wr : World) : Prop := Chg (fun g => g = B) W wr ∧ Blk wr B 9 #[.string (strs k)]
set_option maxRecDepth 100000 in
set_option maxHeartbeats 4000000 in
theorem put_any (B C : Nat) (W : World) (hB : Blk W B 9 #[.string (strs 0)]) (hC : Blk W C 2 #[.int .i64 3, .int .i64 0, .int .i64 5]) :
    Calls Tryd.prog 25 (#[.slice (some ⟨C, 0, none⟩) 3 3] ++ #[.pointer (some ⟨B, 0, none⟩)]) W fun e W' => e = .returned (.tuple #[]) ∧ PutR W B 3 W' := by
  have hne : C ≠ B := Blk.ne_ hC hB (by decide)
  have HB := Lib.hid hB
  have HC := Lib.hid hC
  clear hB hC
  go_enter Tryd.func25, Tryd.ntmps25
  go_wp2_with fail
  go_loopw [7] (fun iv wr => ∃ k : Nat, k ≤ 3 ∧ iv = .int .i64 k ∧ Hid (PutR W B k wr)) (fun iv _ => 3 - (intOf iv).toNat)
  case atStart => exact ⟨0, by omega, rfl, Lib.hid ⟨Chg.refl _ _, HB.out⟩⟩
  case round =>
    obtain ⟨k, hk, rfl, HR⟩ := hrel
    have b0 := HR.out.2.cell 0
    have bl := HR.out.2.lt
    have bf := HR.out.2.frozen 0
    have HK := HC.out.kept HR.out.1 hne
    have c0 := HK.cell 0
    have c1 := HK.cell 1
    have c2 := HK.cell 2
    simp at b0 c0 c1 c2
    clear HK
    match k, hk with
    | 0, _ =>
      have h0 : wr.drew.cell? ⟨B, 0, none⟩ = some (.string ⟨#[98, 101, 103, 105, 110]⟩) := b0
      go_wp2_with fail
      go_region_with (go_at_call 26; refine (fmt_3 _).mono ?_; rintro e w1 ⟨rfl, rfl⟩)
      all_goals go_wp2
      all_goals go_roundw
      all_goals first
        | (rw [show (({ data := #[98, 101, 103, 105, 110] } : ByteArray) ++ ({ data := #[32] } ++ { data := #[51] })) = strs 1 from rfl]; exact ⟨1, by omega, rfl, Lib.hid ⟨(HR.out.1.setCell (p := ⟨B, 0, none⟩) (.inl rfl) _).drew, (HR.out.2.set_ 0 (.string (strs 1))).drew⟩⟩)
        | (simp [intOf]; done)
    | 1, _ =>
      have h0 : wr.drew.cell? ⟨B, 0, none⟩ = some (.string ⟨#[98, 101, 103, 105, 110, 32, 51]⟩) := b0
      go_wp2_with fail
      go_region_with (go_at_call 26; refine (fmt_0 _).mono ?_; rintro e w1 ⟨rfl, rfl⟩)
      all_goals go_wp2
      all_goals go_roundw
      all_goals first
        | (rw [show (({ data := #[98, 101, 103, 105, 110, 32, 51] } : ByteArray) ++ ({ data := #[32] } ++ { data := #[48] })) = strs 2 from rfl]; exact ⟨2, by omega, rfl, Lib.hid ⟨(HR.out.1.setCell (p := ⟨B, 0, none⟩) (.inl rfl) _).drew, (HR.out.2.set_ 0 (.string (strs 2))).drew⟩⟩)
        | (simp [intOf]; done)
    | 2, _ =>
      have h0 : wr.drew.cell? ⟨B, 0, none⟩ = some (.string ⟨#[98, 101, 103, 105, 110, 32, 51, 32, 48]⟩) := b0
      go_wp2_with fail
      go_region_with (go_at_call 26; refine (fmt_5 _).mono ?_; rintro e w1 ⟨rfl, rfl⟩)
      all_goals go_wp2
      all_goals go_roundw
      all_goals first
        | (rw [show (({ data := #[98, 101, 103, 105, 110, 32, 51, 32, 48] } : ByteArray) ++ ({ data := #[32] } ++ { data := #[53] })) = strs 3 from rfl]; exact ⟨3, by omega, rfl, Lib.hid ⟨(HR.out.1.setCell (p := ⟨B, 0, none⟩) (.inl rfl) _).drew, (HR.out.2.set_ 0 (.string (strs 3))).drew⟩⟩)
        | (simp [intOf]; done)
    | 3, _ =>
      have HRR : Hid (PutR W B 3 wr) := HR
      clear HR
      go_wp2
      go_end0
      exact ⟨rfl, HRR.out⟩
theorem right_1 (W : World) : Calls Tryd.prog 10 #[.agg #[.int .i64 1, .int .i64 3, .int .i64 0, .int .i64 5, .int .i64 0]] W fun e W' => e = .returned (.bool true) ∧ Chg (fun _ => False) W W' := by
  go_enter Tryd.func10, Tryd.ntmps10
  go_wp2
  go_ret
  exact ⟨rfl, (Chg.refl _ _).alloc _⟩
set_option maxRecDepth 100000 in
set_option maxHeartbeats 4000000 in
theorem line_1 (W : World) : Calls Tryd.prog 8 #[.agg #[.int .i64 1, .int .i64 3, .int .i64 0, .int .i64 5, .int .i64 0]] W fun e W' => e = .returned (.tuple #[.string (strs 3), .int .i64 0]) ∧ Chg (fun _ => False) W W' := by
  have HE := Lib.hid (Blk.new W 28 #[.int .i64 1, .int .i64 3, .int .i64 0, .int .i64 5, .int .i64 0])
  go_enter Tryd.func8, Tryd.ntmps8
  go_wp2_with fail
  refine (right_1 _).mono ?_
  rintro e w1 ⟨rfl, hc1⟩
  have hE1 := HE.out.kept hc1 (fun h => h)
  have e0 := hE1.cell 0
  have e1 := hE1.cell 1
  have e2 := hE1.cell 2
  have e3 := hE1.cell 3
  have e4 := hE1.cell 4
  have el := hE1.lt
  simp at e0 e1 e2 e3 e4
  have HC1 : Hid (Chg (fun _ => False) W w1) := Lib.hid (((Chg.refl (fun _ => False) W).alloc _).trans hc1 (fun _ _ h => h))
  clear hc1 hE1
  have hB0 : Blk ((w1.alloc (.cells #[.string (strs 0)] 9)).alloc (.cells #[.int .i64 3, .int .i64 0, .int .i64 5] 2)) w1.heap.size 9 #[.string (strs 0)] := (Blk.new w1 9 _).alloc _
  have hC0 : Blk ((w1.alloc (.cells #[.string (strs 0)] 9)).alloc (.cells #[.int .i64 3, .int .i64 0, .int .i64 5] 2)) (w1.heap.size + 1) 2 #[.int .i64 3, .int .i64 0, .int .i64 5] := by
    have h := Blk.new (w1.alloc (.cells #[.string (strs 0)] 9)) 2 #[.int .i64 3, .int .i64 0, .int .i64 5]
    rwa [show (w1.alloc (.cells #[.string (strs 0)] 9)).heap.size = w1.heap.size + 1 from by simp] at h
  have HP := Lib.hid (put_any w1.heap.size (w1.heap.size + 1) _ hB0 hC0)
  have HC2 : Hid (Chg (fun _ => False) W ((w1.alloc (.cells #[.string (strs 0)] 9)).alloc (.cells #[.int .i64 3, .int .i64 0, .int .i64 5] 2))) := Lib.hid ((HC1.out.alloc _).alloc _)
  clear hB0 hC0
  go_wp2_with fail
  refine HP.out.mono ?_
  rintro e w2 ⟨rfl, hr2⟩
  have q0 := hr2.2.cell 0
  simp at q0
  have HC3 : Hid (Chg (fun _ => False) W w2) := Lib.hid (HC2.out.trans hr2.1 (fun g hg h => by have := HC1.out.size; have h' : g = w1.heap.size := h; omega))
  clear hr2
  go_wp2
  go_ret2
  exact ⟨rfl, HC3.out⟩
set_option maxHeartbeats 1000000 in
theorem alive_any (W : World) : Calls Tryd.prog 7 #[] W fun e W' => e = .returned (.bool true) ∧ Chg (fun _ => False) W W' := by
  have HL := Lib.hid (show Calls Tryd.prog 8 #[.agg #[.int .i64 1, .int .i64 3, .int .i64 0, .int .i64 5, .int .i64 0]] W (fun e W' => e = .returned (.tuple #[.string ⟨#[98, 101, 103, 105, 110, 32, 51, 32, 48, 32, 53]⟩, .int .i64 0]) ∧ Chg (fun _ => False) W W') from line_1 W)
  go_enter Tryd.func7, Tryd.ntmps7
  go_wp2_with (go_at_call 8; refine HL.out.mono ?_; rintro e w1 ⟨rfl, hc1⟩)
  go_ret
  exact ⟨rfl, hc1⟩
end Go.Proofs.YtnepgbhbbbcecaaDoor
