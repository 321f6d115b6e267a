/- The walk of the law DecideEnds. -/
import Derived.Test.YtoojclmbkpdmfaaDoorEnds
namespace Go.Proofs.YtoojclmbkpdmfaaDoor
open Go.ChangeShapes Go.WideShapes Go.ChangeAt Go.RowKit
set_option linter.unusedVariables false

/-- The function's two slices lie in block B, the six flags in block B + 1. -/
def RelD (w wr : World) (C A : Option Addr) (lc cc ls cs : Nat) (ar pe ba so su sp : Bool) : Prop :=
  wr.cell? ⟨w.heap.size, 0, none⟩ = some (.slice C lc cc) ∧ wr.cell? ⟨w.heap.size, 1, none⟩ = some (.slice A ls cs) ∧ wr.cell? ⟨w.heap.size + 1, 0, none⟩ = some (.bool ar) ∧ wr.cell? ⟨w.heap.size + 1, 1, none⟩ = some (.bool pe) ∧ wr.cell? ⟨w.heap.size + 1, 2, none⟩ = some (.bool ba) ∧ wr.cell? ⟨w.heap.size + 1, 3, none⟩ = some (.bool so) ∧ wr.cell? ⟨w.heap.size + 1, 4, none⟩ = some (.bool su) ∧ wr.cell? ⟨w.heap.size + 1, 5, none⟩ = some (.bool sp) ∧ wr.frozen? ⟨w.heap.size + 1, 0, none⟩ = false ∧ wr.frozen? ⟨w.heap.size + 1, 1, none⟩ = false ∧ wr.frozen? ⟨w.heap.size + 1, 2, none⟩ = false ∧ wr.frozen? ⟨w.heap.size + 1, 3, none⟩ = false ∧ wr.frozen? ⟨w.heap.size + 1, 4, none⟩ = false ∧ wr.frozen? ⟨w.heap.size + 1, 5, none⟩ = false ∧ w.heap.size + 1 < wr.heap.size ∧ Below w.heap.size w wr
theorem RelD.below {w wr w2 : World} {C A : Option Addr} {lc cc ls cs : Nat} {ar pe ba so su sp : Bool} (h : RelD w wr C A lc cc ls cs ar pe ba so su sp) (h2 : Below wr.heap.size wr w2) : RelD w w2 C A lc cc ls cs ar pe ba so su sp := by
  obtain ⟨s0, s1, c0, c1, c2, c3, c4, c5, f0, f1, f2, f3, f4, f5, hz, hb⟩ := h
  have hz0 : w.heap.size < wr.heap.size := by omega
  exact ⟨(h2.cell hz0).trans s0, (h2.cell hz0).trans s1, (h2.cell hz).trans c0, (h2.cell hz).trans c1, (h2.cell hz).trans c2, (h2.cell hz).trans c3, (h2.cell hz).trans c4, (h2.cell hz).trans c5, (h2.frozen hz).trans f0, (h2.frozen hz).trans f1, (h2.frozen hz).trans f2, (h2.frozen hz).trans f3, (h2.frozen hz).trans f4, (h2.frozen hz).trans f5, Nat.lt_of_lt_of_le hz h2.size, hb.trans (h2.mono (by omega))⟩
theorem RelD.set0 {w wr : World} {C A : Option Addr} {lc cc ls cs : Nat} {ar pe ba so su sp : Bool} (h : RelD w wr C A lc cc ls cs ar pe ba so su sp) (n : Bool) : RelD w (wr.setCell ⟨w.heap.size + 1, 0, none⟩ (.bool n)) C A lc cc ls cs n pe ba so su sp := by
  obtain ⟨s0, s1, c0, c1, c2, c3, c4, c5, f0, f1, f2, f3, f4, f5, hz, hb⟩ := h
  refine ⟨?_, ?_, World.cell?_setCell_same' _ _ _ (by rw [c0]; rfl), ?_, ?_, ?_, ?_, ?_, by rw [World.frozen?_setCell]; exact f0, by rw [World.frozen?_setCell]; exact f1, by rw [World.frozen?_setCell]; exact f2, by rw [World.frozen?_setCell]; exact f3, by rw [World.frozen?_setCell]; exact f4, by rw [World.frozen?_setCell]; exact f5, by simpa [World.setCell] using hz, hb.setCell (by simp) _⟩
  all_goals rw [World.cell?_setCell_other _ _ _ _ (by simp)]; assumption
theorem RelD.set1 {w wr : World} {C A : Option Addr} {lc cc ls cs : Nat} {ar pe ba so su sp : Bool} (h : RelD w wr C A lc cc ls cs ar pe ba so su sp) (n : Bool) : RelD w (wr.setCell ⟨w.heap.size + 1, 1, none⟩ (.bool n)) C A lc cc ls cs ar n ba so su sp := by
  obtain ⟨s0, s1, c0, c1, c2, c3, c4, c5, f0, f1, f2, f3, f4, f5, hz, hb⟩ := h
  refine ⟨?_, ?_, ?_, World.cell?_setCell_same' _ _ _ (by rw [c1]; rfl), ?_, ?_, ?_, ?_, by rw [World.frozen?_setCell]; exact f0, by rw [World.frozen?_setCell]; exact f1, by rw [World.frozen?_setCell]; exact f2, by rw [World.frozen?_setCell]; exact f3, by rw [World.frozen?_setCell]; exact f4, by rw [World.frozen?_setCell]; exact f5, by simpa [World.setCell] using hz, hb.setCell (by simp) _⟩
  all_goals rw [World.cell?_setCell_other _ _ _ _ (by simp)]; assumption
theorem RelD.set2 {w wr : World} {C A : Option Addr} {lc cc ls cs : Nat} {ar pe ba so su sp : Bool} (h : RelD w wr C A lc cc ls cs ar pe ba so su sp) (n : Bool) : RelD w (wr.setCell ⟨w.heap.size + 1, 2, none⟩ (.bool n)) C A lc cc ls cs ar pe n so su sp := by
  obtain ⟨s0, s1, c0, c1, c2, c3, c4, c5, f0, f1, f2, f3, f4, f5, hz, hb⟩ := h
  refine ⟨?_, ?_, ?_, ?_, World.cell?_setCell_same' _ _ _ (by rw [c2]; rfl), ?_, ?_, ?_, by rw [World.frozen?_setCell]; exact f0, by rw [World.frozen?_setCell]; exact f1, by rw [World.frozen?_setCell]; exact f2, by rw [World.frozen?_setCell]; exact f3, by rw [World.frozen?_setCell]; exact f4, by rw [World.frozen?_setCell]; exact f5, by simpa [World.setCell] using hz, hb.setCell (by simp) _⟩
  all_goals rw [World.cell?_setCell_other _ _ _ _ (by simp)]; assumption
theorem RelD.set3 {w wr : World} {C A : Option Addr} {lc cc ls cs : Nat} {ar pe ba so su sp : Bool} (h : RelD w wr C A lc cc ls cs ar pe ba so su sp) (n : Bool) : RelD w (wr.setCell ⟨w.heap.size + 1, 3, none⟩ (.bool n)) C A lc cc ls cs ar pe ba n su sp := by
  obtain ⟨s0, s1, c0, c1, c2, c3, c4, c5, f0, f1, f2, f3, f4, f5, hz, hb⟩ := h
  refine ⟨?_, ?_, ?_, ?_, ?_, World.cell?_setCell_same' _ _ _ (by rw [c3]; rfl), ?_, ?_, by rw [World.frozen?_setCell]; exact f0, by rw [World.frozen?_setCell]; exact f1, by rw [World.frozen?_setCell]; exact f2, by rw [World.frozen?_setCell]; exact f3, by rw [World.frozen?_setCell]; exact f4, by rw [World.frozen?_setCell]; exact f5, by simpa [World.setCell] using hz, hb.setCell (by simp) _⟩
  all_goals rw [World.cell?_setCell_other _ _ _ _ (by simp)]; assumption
theorem RelD.set4 {w wr : World} {C A : Option Addr} {lc cc ls cs : Nat} {ar pe ba so su sp : Bool} (h : RelD w wr C A lc cc ls cs ar pe ba so su sp) (n : Bool) : RelD w (wr.setCell ⟨w.heap.size + 1, 4, none⟩ (.bool n)) C A lc cc ls cs ar pe ba so n sp := by
  obtain ⟨s0, s1, c0, c1, c2, c3, c4, c5, f0, f1, f2, f3, f4, f5, hz, hb⟩ := h
  refine ⟨?_, ?_, ?_, ?_, ?_, ?_, World.cell?_setCell_same' _ _ _ (by rw [c4]; rfl), ?_, by rw [World.frozen?_setCell]; exact f0, by rw [World.frozen?_setCell]; exact f1, by rw [World.frozen?_setCell]; exact f2, by rw [World.frozen?_setCell]; exact f3, by rw [World.frozen?_setCell]; exact f4, by rw [World.frozen?_setCell]; exact f5, by simpa [World.setCell] using hz, hb.setCell (by simp) _⟩
  all_goals rw [World.cell?_setCell_other _ _ _ _ (by simp)]; assumption
theorem RelD.set5 {w wr : World} {C A : Option Addr} {lc cc ls cs : Nat} {ar pe ba so su sp : Bool} (h : RelD w wr C A lc cc ls cs ar pe ba so su sp) (n : Bool) : RelD w (wr.setCell ⟨w.heap.size + 1, 5, none⟩ (.bool n)) C A lc cc ls cs ar pe ba so su n := by
  obtain ⟨s0, s1, c0, c1, c2, c3, c4, c5, f0, f1, f2, f3, f4, f5, hz, hb⟩ := h
  refine ⟨?_, ?_, ?_, ?_, ?_, ?_, ?_, World.cell?_setCell_same' _ _ _ (by rw [c5]; rfl), by rw [World.frozen?_setCell]; exact f0, by rw [World.frozen?_setCell]; exact f1, by rw [World.frozen?_setCell]; exact f2, by rw [World.frozen?_setCell]; exact f3, by rw [World.frozen?_setCell]; exact f4, by rw [World.frozen?_setCell]; exact f5, by simpa [World.setCell] using hz, hb.setCell (by simp) _⟩
  all_goals rw [World.cell?_setCell_other _ _ _ _ (by simp)]; assumption

def rank (st pro ar pe ba : Bool) : Nat := if askB st pro ar pe = true then (if ba = true then 2 else 1) else 0
/-- What holds at the head of a round. -/
def Round (w : World) (st pro : Bool) (C A : Option Addr) (lc cc ls cs : Nat) (i : Value) (wr : World) : Prop :=
  ∃ (k : Nat) (ar pe ba so su sp : Bool), k ≤ 3 ∧ i = .int .i64 k ∧ rank st pro ar pe ba ≤ 3 - k ∧ RelD w wr C A lc cc ls cs ar pe ba so su sp
theorem Round.step {w wr : World} {st pro : Bool} {k : Nat} {C A : Option Addr} {lc cc ls cs : Nat} {ar pe ba so su sp : Bool} (hk : k < 3) (hr : rank st pro ar pe ba ≤ 3 - (k + 1)) (h : RelD w wr C A lc cc ls cs ar pe ba so su sp) : Round w st pro C A lc cc ls cs (.int .i64 ((k : Int) + 1)) wr :=
  ⟨k + 1, ar, pe, ba, so, su, sp, by omega, by go_num, hr, h⟩
theorem rank_off (st pro ba : Bool) : rank st pro false false ba = 0 := by cases st <;> cases pro <;> cases ba <;> rfl

set_option maxRecDepth 100000 in
set_option maxHeartbeats 8000000 in
theorem walk_decideEnds (C A : Option Addr) (lc cc ls cs : Nat) (z : Nat → Bool) (pc : Int) (ar0 pe0 ba0 so0 su0 sp0 : Bool) (w : World) (hT : Truths w A ls z) (hlc : lc ≤ maxLen) (hL : laidMetH Tryd.prog Rows.decideEndsRow.laid w) :
    Calls Tryd.prog 5 #[.agg #[.slice C lc cc, .slice A ls cs], .int .i64 pc, .agg #[.bool ar0, .bool pe0, .bool ba0, .bool so0, .bool su0, .bool sp0]] w fun e w' => e = .returned (.bool true) ∧ Below w.heap.size w w' := by
  have hn := names_cell hL
  have hz0 : 0 < w.heap.size := by simpa using World.block_lt_of_cell? w _ hn
  have hal : ∀ W : World, Below w.heap.size w W → Calls Tryd.prog 7 #[] W fun e W' => e = .returned (.bool true) ∧ Below W.heap.size W W' := fun W h => alive_any W ((h.cell (p := ⟨0, 3, none⟩) hz0).trans hn)
  have hB0 : Below w.heap.size w ((w.alloc (.cells #[.slice C lc cc, .slice A ls cs] 25)).alloc (.cells #[.bool ar0, .bool pe0, .bool ba0, .bool so0, .bool su0, .bool sp0] 27)) := (((Below.refl _ _).alloc (Nat.le_refl _) _).alloc (by simp) _)
  by_cases hl : lc ≤ 100 ∧ ls ≤ 100
  · have d1 : decide (lc ≤ 100) = true := decide_eq_true hl.1
    have d2 : decide (ls ≤ 100) = true := decide_eq_true hl.2
    go_enter Tryd.func5, Tryd.ntmps5
    go_wp2_with (go_at_call 6; refine (light_any _ _ _ _ _ _ _).mono ?_; rintro e w1 ⟨rfl, hb1⟩; obtain ⟨hc1, hf1⟩ := bcell hb1; have hs1 := hb1.size; simp at hs1; have hy2 : w.heap.size < w1.heap.size := (by omega); have hy3 : w.heap.size + 1 < w1.heap.size := (by omega))
    have hr0 : RelD w w1 C A lc cc ls cs ar0 pe0 ba0 so0 su0 sp0 := by
      refine RelD.below (wr := (w.alloc (.cells #[.slice C lc cc, .slice A ls cs] 25)).alloc (.cells #[.bool ar0, .bool pe0, .bool ba0, .bool so0, .bool su0, .bool sp0] 27)) ⟨by simp [go_sem], by simp [go_sem], by simp [go_sem], by simp [go_sem], by simp [go_sem], by simp [go_sem], by simp [go_sem], by simp [go_sem], by simp [go_sem], by simp [go_sem], by simp [go_sem], by simp [go_sem], by simp [go_sem], by simp [go_sem], by simp, hB0⟩ hb1
    clear hc1 hf1 hb1 hs1 hy2 hy3 d1 d2
    go_loopw [7] (fun i wr => Round w (stF lc ls z pc) (proF lc pc) C A lc cc ls cs i wr) (fun i _ => 3 - (intOf i).toNat)
    case atStart => exact ⟨0, ar0, pe0, ba0, so0, su0, sp0, by omega, rfl, by unfold rank; split <;> (try split) <;> omega, hr0⟩
    case round =>
      clear hr0
      obtain ⟨k, ar, pe, ba, so, su, sp, hk, rfl, hrk, hr⟩ := hrel
      have hr' := hr
      obtain ⟨s0, s1, c0, c1, c2, c3, c4, c5, f0, f1, f2, f3, f4, f5, hz, hb⟩ := hr'
      have y0 : w.heap.size < wr.heap.size := by omega
      by_cases hlt : k < 3
      · cases hask : askB (stF lc ls z pc) (proF lc pc) ar pe with
        | false =>
          have hdec : decI (stF lc ls z pc) (proF lc pc) ar pe ba so su sp = 0 := by simp [decI, hask]
          have hrk2 : rank (stF lc ls z pc) (proF lc pc) ar pe ba = 0 := by simp [rank, hask]
          clear hask
          have hTr := hT.below hb
          go_wp2_with (first | (go_at_call 8; refine (decide_any _ _ _ _ _ _ z _ _ _ _ _ _ _ _ ?_ hlc).mono ?_; exact hTr; rintro e w1 ⟨rfl, hb1⟩; obtain ⟨hc1, hf1⟩ := bcell hb1; have hs1 := hb1.size; have y2 : w.heap.size < w1.heap.size := (by omega); have y3 : w.heap.size + 1 < w1.heap.size := (by omega); have hr1 := hr.below hb1) | (go_at_call 13; refine (clear_0 _ _ _ _ _ _ _).mono ?_; rintro e w2 ⟨rfl, hb2⟩; obtain ⟨hc2, hf2⟩ := bcell hb2; have hs2 := hb2.size; have hr2 := hr1.below hb2))
          go_roundw
          case rel => exact Round.step hlt (by rw [hrk2]; omega) ((((((hr2.set0 _).set1 _).set2 _).set3 _).set4 _).set5 _)
          case measure => simp [intOf]; omega
        | true =>
          cases ba with
          | true =>
            have hdec : decI (stF lc ls z pc) (proF lc pc) ar pe true so su sp = 1 := by simp [decI, hask, behI]
            have hrk2 : rank (stF lc ls z pc) (proF lc pc) ar pe false = 1 := by simp [rank, hask]
            have hrk3 : rank (stF lc ls z pc) (proF lc pc) ar pe true = 2 := by simp [rank, hask]
            rw [hrk3] at hrk
            clear hask hrk3
            have hTr := hT.below hb
            go_wp2_with (first | (go_at_call 8; refine (decide_any _ _ _ _ _ _ z _ _ _ _ _ _ _ _ ?_ hlc).mono ?_; exact hTr; rintro e w1 ⟨rfl, hb1⟩; obtain ⟨hc1, hf1⟩ := bcell hb1; have hs1 := hb1.size; have y2 : w.heap.size < w1.heap.size := (by omega); have y3 : w.heap.size + 1 < w1.heap.size := (by omega); have hr1 := hr.below hb1) | (go_at_call 13; refine (clear_1 _ _ _ _ _ _ _).mono ?_; rintro e w2 ⟨rfl, hb2⟩; obtain ⟨hc2, hf2⟩ := bcell hb2; have hs2 := hb2.size; have hr2 := hr1.below hb2))
            go_roundw
            case rel => exact Round.step hlt (by rw [hrk2]; omega) ((((((hr2.set0 _).set1 _).set2 _).set3 _).set4 _).set5 _)
            case measure => simp [intOf]; omega
          | false =>
            cases su with
            | true =>
              have hdec : decI (stF lc ls z pc) (proF lc pc) ar pe false so true sp = 2 := by simp [decI, hask, behI]
              clear hask
              have hTr := hT.below hb
              go_wp2_with (first | (go_at_call 8; refine (decide_any _ _ _ _ _ _ z _ _ _ _ _ _ _ _ ?_ hlc).mono ?_; exact hTr; rintro e w1 ⟨rfl, hb1⟩; obtain ⟨hc1, hf1⟩ := bcell hb1; have hs1 := hb1.size; have y2 : w.heap.size < w1.heap.size := (by omega); have y3 : w.heap.size + 1 < w1.heap.size := (by omega); have hr1 := hr.below hb1) | (go_at_call 13; refine (clear_2 _ _ _ _ _ _ _).mono ?_; rintro e w2 ⟨rfl, hb2⟩; obtain ⟨hc2, hf2⟩ := bcell hb2; have hs2 := hb2.size; have hr2 := hr1.below hb2))
              go_roundw
              case rel => exact Round.step hlt (by rw [rank_off]; omega) ((((((hr2.set0 _).set1 _).set2 _).set3 _).set4 _).set5 _)
              case measure => simp [intOf]; omega
            | false =>
              cases hos : (so || sp) with
              | true =>
                have hdec : decI (stF lc ls z pc) (proF lc pc) ar pe false so false sp = 3 := by simp [decI, hask, behI, hos]
                clear hask hos
                have hTr := hT.below hb
                go_wp2_with (first | (go_at_call 8; refine (decide_any _ _ _ _ _ _ z _ _ _ _ _ _ _ _ ?_ hlc).mono ?_; exact hTr; rintro e w1 ⟨rfl, hb1⟩; obtain ⟨hc1, hf1⟩ := bcell hb1; have hs1 := hb1.size; have y2 : w.heap.size < w1.heap.size := (by omega); have y3 : w.heap.size + 1 < w1.heap.size := (by omega); have hr1 := hr.below hb1) | (go_at_call 13; refine (clear_3 _ _ _ _ _ _ _).mono ?_; rintro e w2 ⟨rfl, hb2⟩; obtain ⟨hc2, hf2⟩ := bcell hb2; have hs2 := hb2.size; have hr2 := hr1.below hb2))
                go_roundw
                case rel => exact Round.step hlt (by rw [rank_off]; omega) ((((((hr2.set0 _).set1 _).set2 _).set3 _).set4 _).set5 _)
                case measure => simp [intOf]; omega
              | false =>
                have hdec : decI (stF lc ls z pc) (proF lc pc) ar pe false so false sp = 4 := by simp [decI, hask, behI, hos]
                clear hask hos
                have hTr := hT.below hb
                go_wp2_with (first | (go_at_call 8; refine (decide_any _ _ _ _ _ _ z _ _ _ _ _ _ _ _ ?_ hlc).mono ?_; exact hTr; rintro e w1 ⟨rfl, hb1⟩; obtain ⟨hc1, hf1⟩ := bcell hb1; have hs1 := hb1.size; have y2 : w.heap.size < w1.heap.size := (by omega); have y3 : w.heap.size + 1 < w1.heap.size := (by omega); have hr1 := hr.below hb1) | (go_at_call 13; refine (clear_4 _ _ _ _ _ _ _).mono ?_; rintro e w2 ⟨rfl, hb2⟩; obtain ⟨hc2, hf2⟩ := bcell hb2; have hs2 := hb2.size; have hr2 := hr1.below hb2))
                go_roundw
                case rel => exact Round.step hlt (by rw [rank_off]; omega) ((((((hr2.set0 _).set1 _).set2 _).set3 _).set4 _).set5 _)
                case measure => simp [intOf]; omega
      · obtain rfl : k = 3 := by omega
        have hask : askB (stF lc ls z pc) (proF lc pc) ar pe = false := by
          cases hask : askB (stF lc ls z pc) (proF lc pc) ar pe with
          | false => rfl
          | true =>
            unfold rank at hrk
            rw [hask] at hrk
            simp at hrk
            split at hrk <;> omega
        have hdec : decI (stF lc ls z pc) (proF lc pc) ar pe ba so su sp = 0 := by simp [decI, hask]
        clear hask
        have hTr := hT.below hb
        go_wp2_with (first | (go_at_call 8; refine (decide_any _ _ _ _ _ _ z _ _ _ _ _ _ _ _ ?_ hlc).mono ?_; exact hTr; rintro e w1 ⟨rfl, hb1⟩; obtain ⟨hc1, hf1⟩ := bcell hb1; have hs1 := hb1.size; have y2 : w.heap.size < w1.heap.size := (by omega); have y3 : w.heap.size + 1 < w1.heap.size := (by omega); have hr1 := hr.below hb1) | (go_at_call 7; refine (hal _ (hb.trans (hb1.mono (by omega)))).mono ?_; rintro e w3 ⟨rfl, hb3⟩))
        go_ret
        exact ⟨rfl, (hb.trans (hb1.mono (by omega))).trans (hb3.mono (by omega))⟩
  · have hd : (decide (lc ≤ 100) && decide (ls ≤ 100)) = false := by
      rw [Bool.and_eq_false_iff]
      by_cases h1 : lc ≤ 100
      · exact .inr (decide_eq_false (by omega))
      · exact .inl (decide_eq_false h1)
    go_enter Tryd.func5, Tryd.ntmps5
    go_wp2_with (first | (go_at_call 6; refine (light_any _ _ _ _ _ _ _).mono ?_; rintro e w1 ⟨rfl, hb1⟩; have hs1 := hb1.size; simp at hs1) | (go_at_call 7; refine (hal _ (hB0.trans (hb1.mono (by simp; omega)))).mono ?_; rintro e w3 ⟨rfl, hb3⟩))
    go_ret
    exact ⟨rfl, (hB0.trans (hb1.mono (by simp; omega))).trans (hb3.mono (by omega))⟩
end Go.Proofs.YtoojclmbkpdmfaaDoor
