/- Contracts of the document's answers, of Name, and of the names' table. -/
import Derived.Test.YtoojclmbkpdmfaaDoorEnds
namespace Go.Proofs.YtoojclmbkpdmfaaDoor
open Go.ChangeShapes Go.WideShapes Go.ChangeAt Go.RowKit
set_option linter.unusedVariables false

theorem of_any (ar pe ba so su sp : Bool) (W : World) : Calls Tryd.prog 10 #[.agg #[.bool ar, .bool pe, .bool ba, .bool so, .bool su, .bool sp]] W fun e W' => e = .returned (.agg #[.bool ar, .bool pe, .bool ba, .bool so, .bool su, .bool sp]) ∧ Below W.heap.size W W' := by
  go_enter Tryd.func10, Tryd.ntmps10
  go_wp2
  refine bodyPost_ret (v := .agg #[.bool ar, .bool pe, .bool ba, .bool so, .bool su, .bool sp]) (by simp [results, Tryd.results10, go_sem]) rfl ⟨rfl, ?_⟩
  go_grown
theorem refBehind_any (ar pe ba so su sp : Bool) (W : World) : Calls Tryd.prog 12 #[.agg #[.bool ar, .bool pe, .bool ba, .bool so, .bool su, .bool sp]] W fun e W' => e = .returned (.int .i64 (behI ba so su sp)) ∧ Below W.heap.size W W' := by
  cases ba <;> cases su <;> cases so <;> cases sp
  all_goals go_enter Tryd.func12, Tryd.ntmps12
  all_goals go_wp2
  all_goals go_ret
  all_goals exact ⟨rfl, by go_grown⟩
theorem refClear_0 (ar pe ba so su sp : Bool) (W : World) : Calls Tryd.prog 14 #[.agg #[.bool ar, .bool pe, .bool ba, .bool so, .bool su, .bool sp], .int .i64 0] W fun e W' => e = .returned (.agg #[.bool ar, .bool pe, .bool ba, .bool so, .bool su, .bool sp]) ∧ Below W.heap.size W W' := by
  go_enter Tryd.func14, Tryd.ntmps14
  go_wp2
  refine bodyPost_ret (v := .agg #[.bool ar, .bool pe, .bool ba, .bool so, .bool su, .bool sp]) (by simp [results, Tryd.results14, go_sem]) rfl ⟨rfl, ?_⟩
  go_grown
theorem refClear_1 (ar pe ba so su sp : Bool) (W : World) : Calls Tryd.prog 14 #[.agg #[.bool ar, .bool pe, .bool ba, .bool so, .bool su, .bool sp], .int .i64 1] W fun e W' => e = .returned (.agg #[.bool ar, .bool pe, .bool false, .bool so, .bool su, .bool sp]) ∧ Below W.heap.size W W' := by
  go_enter Tryd.func14, Tryd.ntmps14
  go_wp2
  refine bodyPost_ret (v := .agg #[.bool ar, .bool pe, .bool false, .bool so, .bool su, .bool sp]) (by simp [results, Tryd.results14, go_sem]) rfl ⟨rfl, ?_⟩
  go_grown
theorem refClear_2 (ar pe ba so su sp : Bool) (W : World) : Calls Tryd.prog 14 #[.agg #[.bool ar, .bool pe, .bool ba, .bool so, .bool su, .bool sp], .int .i64 2] W fun e W' => e = .returned (.agg #[.bool false, .bool false, .bool ba, .bool so, .bool false, .bool false]) ∧ Below W.heap.size W W' := by
  go_enter Tryd.func14, Tryd.ntmps14
  go_wp2
  refine bodyPost_ret (v := .agg #[.bool false, .bool false, .bool ba, .bool so, .bool false, .bool false]) (by simp [results, Tryd.results14, go_sem]) rfl ⟨rfl, ?_⟩
  go_grown
theorem refClear_3 (ar pe ba so su sp : Bool) (W : World) : Calls Tryd.prog 14 #[.agg #[.bool ar, .bool pe, .bool ba, .bool so, .bool su, .bool sp], .int .i64 3] W fun e W' => e = .returned (.agg #[.bool false, .bool false, .bool ba, .bool so, .bool su, .bool false]) ∧ Below W.heap.size W W' := by
  go_enter Tryd.func14, Tryd.ntmps14
  go_wp2
  refine bodyPost_ret (v := .agg #[.bool false, .bool false, .bool ba, .bool so, .bool su, .bool false]) (by simp [results, Tryd.results14, go_sem]) rfl ⟨rfl, ?_⟩
  go_grown
theorem refClear_4 (ar pe ba so su sp : Bool) (W : World) : Calls Tryd.prog 14 #[.agg #[.bool ar, .bool pe, .bool ba, .bool so, .bool su, .bool sp], .int .i64 4] W fun e W' => e = .returned (.agg #[.bool false, .bool false, .bool ba, .bool so, .bool su, .bool sp]) ∧ Below W.heap.size W W' := by
  go_enter Tryd.func14, Tryd.ntmps14
  go_wp2
  refine bodyPost_ret (v := .agg #[.bool false, .bool false, .bool ba, .bool so, .bool su, .bool sp]) (by simp [results, Tryd.results14, go_sem]) rfl ⟨rfl, ?_⟩
  go_grown
theorem refClear_out (a : Int) (ha : a < 0 ∨ 4 < a) (ar pe ba so su sp : Bool) (W : World) : Calls Tryd.prog 14 #[.agg #[.bool ar, .bool pe, .bool ba, .bool so, .bool su, .bool sp], .int .i64 a] W fun e W' => e = .returned (.agg #[.bool ar, .bool pe, .bool ba, .bool so, .bool su, .bool sp]) ∧ Below W.heap.size W W' := by
  have q1 : (a == 1) = false := by rw [beq_eq_false_iff_ne]; omega
  have q2 : (a == 2) = false := by rw [beq_eq_false_iff_ne]; omega
  have q3 : (a == 3) = false := by rw [beq_eq_false_iff_ne]; omega
  have q4 : (a == 4) = false := by rw [beq_eq_false_iff_ne]; omega
  go_enter Tryd.func14, Tryd.ntmps14
  go_wp2
  refine bodyPost_ret (v := .agg #[.bool ar, .bool pe, .bool ba, .bool so, .bool su, .bool sp]) (by simp [results, Tryd.results14, go_sem]) rfl ⟨rfl, ?_⟩
  go_grown
theorem clear_out (a : Int) (ha : a < 0 ∨ 4 < a) (ar pe ba so su sp : Bool) (W : World) : Calls Tryd.prog 13 #[.agg #[.bool ar, .bool pe, .bool ba, .bool so, .bool su, .bool sp], .int .i64 a] W fun e W' => e = .returned (.agg #[.bool ar, .bool pe, .bool ba, .bool so, .bool su, .bool sp]) ∧ Below W.heap.size W W' := by
  have q1 : (a == 1) = false := by rw [beq_eq_false_iff_ne]; omega
  have q2 : (a == 2) = false := by rw [beq_eq_false_iff_ne]; omega
  have q3 : (a == 3) = false := by rw [beq_eq_false_iff_ne]; omega
  have q4 : (a == 4) = false := by rw [beq_eq_false_iff_ne]; omega
  go_enter Tryd.func13, Tryd.ntmps13
  go_wp2
  refine bodyPost_ret (v := .agg #[.bool ar, .bool pe, .bool ba, .bool so, .bool su, .bool sp]) (by simp [results, Tryd.results13, go_sem]) rfl ⟨rfl, ?_⟩
  go_grown
/-- The names' table, as the program's text lays it. -/
def Names (W : World) : Prop := W.cell? ⟨0, 0, none⟩ = some (.string ⟨#[103, 111]⟩) ∧ W.cell? ⟨0, 1, none⟩ = some (.string ⟨#[115, 101, 114, 118, 101]⟩) ∧ W.cell? ⟨0, 2, none⟩ = some (.string ⟨#[112, 97, 114, 107]⟩) ∧ W.cell? ⟨0, 3, none⟩ = some (.string ⟨#[114, 101, 113, 117, 101, 117, 101]⟩) ∧ W.cell? ⟨0, 4, none⟩ = some (.string ⟨#[102, 111, 114, 103, 101, 116]⟩) ∧ 0 < W.heap.size
theorem Names.below {W W' : World} (h : Names W) (hb : Below W.heap.size W W') : Names W' := by
  obtain ⟨n0, n1, n2, n3, n4, hz⟩ := h
  exact ⟨(hb.cell (p := ⟨0, 0, none⟩) hz).trans n0, (hb.cell (p := ⟨0, 1, none⟩) hz).trans n1, (hb.cell (p := ⟨0, 2, none⟩) hz).trans n2, (hb.cell (p := ⟨0, 3, none⟩) hz).trans n3, (hb.cell (p := ⟨0, 4, none⟩) hz).trans n4, Nat.lt_of_lt_of_le hz hb.size⟩
theorem names_of_laid {W : World} (h : laidMetH Tryd.prog Rows.decideEndsRow.laid W) : Names W := by
  have hg : Tryd.prog.globalNamed "escapement/decide.names" = some 0 := by kernel_rfl
  have ht : (Tryd.prog.globals[0]?).map (·.type) = some 45 := by kernel_rfl
  have hp : (Rows.decideEndsRow.laid.all fun x => x.2.handleName?.isNone) = true := by kernel_rfl
  have c := names_cell h
  exact ⟨laid_cell h hp 0 8 0 rfl hg ht (by kernel_rfl), laid_cell h hp 0 8 1 rfl hg ht (by kernel_rfl), laid_cell h hp 0 8 2 rfl hg ht (by kernel_rfl), laid_cell h hp 0 8 3 rfl hg ht (by kernel_rfl), laid_cell h hp 0 8 4 rfl hg ht (by kernel_rfl), by simpa using World.block_lt_of_cell? W _ c⟩
theorem name_0 (W : World) (hN : Names W) : Calls Tryd.prog 15 #[.int .i64 0] W fun e W' => e = .returned (.string ⟨#[103, 111]⟩) ∧ W = W' := by
  obtain ⟨n0, n1, n2, n3, n4, hz⟩ := hN
  go_enter Tryd.func15, Tryd.ntmps15
  go_wp2
  go_ret
  exact ⟨rfl, rfl⟩
theorem name_1 (W : World) (hN : Names W) : Calls Tryd.prog 15 #[.int .i64 1] W fun e W' => e = .returned (.string ⟨#[115, 101, 114, 118, 101]⟩) ∧ W = W' := by
  obtain ⟨n0, n1, n2, n3, n4, hz⟩ := hN
  go_enter Tryd.func15, Tryd.ntmps15
  go_wp2
  go_ret
  exact ⟨rfl, rfl⟩
theorem name_2 (W : World) (hN : Names W) : Calls Tryd.prog 15 #[.int .i64 2] W fun e W' => e = .returned (.string ⟨#[112, 97, 114, 107]⟩) ∧ W = W' := by
  obtain ⟨n0, n1, n2, n3, n4, hz⟩ := hN
  go_enter Tryd.func15, Tryd.ntmps15
  go_wp2
  go_ret
  exact ⟨rfl, rfl⟩
theorem name_3 (W : World) (hN : Names W) : Calls Tryd.prog 15 #[.int .i64 3] W fun e W' => e = .returned (.string ⟨#[114, 101, 113, 117, 101, 117, 101]⟩) ∧ W = W' := by
  obtain ⟨n0, n1, n2, n3, n4, hz⟩ := hN
  go_enter Tryd.func15, Tryd.ntmps15
  go_wp2
  go_ret
  exact ⟨rfl, rfl⟩
theorem name_4 (W : World) (hN : Names W) : Calls Tryd.prog 15 #[.int .i64 4] W fun e W' => e = .returned (.string ⟨#[102, 111, 114, 103, 101, 116]⟩) ∧ W = W' := by
  obtain ⟨n0, n1, n2, n3, n4, hz⟩ := hN
  go_enter Tryd.func15, Tryd.ntmps15
  go_wp2
  go_ret
  exact ⟨rfl, rfl⟩
theorem name_out (a : Int) (ha : a < 0 ∨ 4 < a) (W : World) : Calls Tryd.prog 15 #[.int .i64 a] W fun e W' => e = .returned (.string ⟨#[]⟩) ∧ W = W' := by
  rcases ha with h | h
  · go_enter Tryd.func15, Tryd.ntmps15
    go_wp2
    go_ret
    exact ⟨rfl, rfl⟩
  · have d : decide (5 ≤ a) = true := decide_eq_true (by omega)
    go_enter Tryd.func15, Tryd.ntmps15
    go_wp2
    go_ret
    exact ⟨rfl, rfl⟩

theorem safe_any (C A : Option Addr) (lc cc ls cs : Nat) (z : Nat → Bool) (pc : Int) (W : World) (hT : Truths W A ls z) (h0 : 0 ≤ pc) : Calls Tryd.prog 19 #[.agg #[.slice C lc cc, .slice A ls cs], .int .i64 pc] W fun e W' => e = .returned (.bool (decide (pc < ls) && z pc.toNat)) ∧ Below W.heap.size W W' := by
  have hls := hT.1
  unfold maxLen at hls
  have d0 : decide (0 ≤ pc) = true := decide_eq_true h0
  by_cases h3 : pc < (ls : Int)
  · obtain ⟨b, o, rfl, hlt, hc⟩ := hT.2 (by omega)
    obtain ⟨k, rfl⟩ : ∃ k : Nat, pc = (k : Int) := ⟨pc.toNat, by omega⟩
    have e0 := hc k (by omega)
    have d3 : decide ((k : Int) < (ls : Int)) = true := decide_eq_true h3
    have hne : b ≠ W.heap.size := by omega
    clear hc hT
    go_enter Tryd.func19, Tryd.ntmps19
    go_wp2
    go_ret
    exact ⟨by first | rfl | (simp; done) | (rw [d3]; simp; done) | (rw [hst]; rfl), by go_grown⟩
  · have d3 : decide (pc < (ls : Int)) = false := decide_eq_false h3
    go_enter Tryd.func19, Tryd.ntmps19
    go_wp2
    go_ret
    exact ⟨by first | rfl | (simp; done) | (rw [d3]; simp; done) | (rw [hst]; rfl), by go_grown⟩
theorem refStops_any (C A : Option Addr) (lc cc ls cs : Nat) (z : Nat → Bool) (pc : Int) (W : World) (hT : Truths W A ls z) (hlc : lc ≤ maxLen) : Calls Tryd.prog 18 #[.agg #[.slice C lc cc, .slice A ls cs], .int .i64 pc] W fun e W' => e = .returned (.bool (stF lc ls z pc)) ∧ Below W.heap.size W W' := by
  have hls := hT.1
  unfold maxLen at hlc hls
  have hB0 : Below W.heap.size W (W.alloc (.cells #[.slice C lc cc, .slice A ls cs] 25)) := (Below.refl _ _).alloc (Nat.le_refl _) _
  have hT1 := hT.below hB0
  by_cases h0 : pc < 0
  · have hst : stF lc ls z pc = false := by unfold stF; rw [decide_eq_false (by omega)]; rfl
    have d0 : decide (0 ≤ pc) = false := decide_eq_false (by omega)
    go_enter Tryd.func18, Tryd.ntmps18
    go_wp2
    go_ret
    exact ⟨by first | rfl | (simp; done) | (rw [d3]; simp; done) | (rw [hst]; rfl), by go_grown⟩
  have d0 : decide (0 ≤ pc) = true := decide_eq_true (by omega)
  by_cases h1 : (lc : Int) ≤ pc
  · have hst : stF lc ls z pc = false := by unfold stF; rw [decide_eq_false (by omega)]; rfl
    have d1 : decide (pc < (lc : Int)) = false := decide_eq_false (by omega)
    go_enter Tryd.func18, Tryd.ntmps18
    go_wp2
    go_ret
    exact ⟨by first | rfl | (simp; done) | (rw [d3]; simp; done) | (rw [hst]; rfl), by go_grown⟩
  have d1 : decide (pc < (lc : Int)) = true := decide_eq_true (by omega)
  by_cases h2 : pc = 0
  · subst h2
    have hst : stF lc ls z 0 = true := by unfold stF; rw [decide_eq_true (by omega)]; rfl
    go_enter Tryd.func18, Tryd.ntmps18
    go_wp2
    go_ret
    exact ⟨by first | rfl | (simp; done) | (rw [d3]; simp; done) | (rw [hst]; rfl), by go_grown⟩
  have d2 : (pc == 0) = false := by simpa using h2
  have hst : stF lc ls z pc = (decide (pc < (ls : Int)) && z pc.toNat) := by
    unfold stF
    have a1 : decide (0 ≤ pc ∧ pc < (lc : Int)) = true := decide_eq_true ⟨by omega, by omega⟩
    have a2 : decide (pc = 0) = false := decide_eq_false h2
    rw [a1, a2]
    simp
  have h00 : 0 ≤ pc := by omega
  go_enter Tryd.func18, Tryd.ntmps18
  go_wp2_with (go_at_call 19; refine (safe_any _ _ _ _ _ _ z _ _ hT1 h00).mono ?_; rintro e w1 ⟨rfl, hb1⟩)
  go_ret
  exact ⟨by first | rfl | (rw [hst]; rfl) | (simp; done), join hB0 hb1 (by simp)⟩

set_option maxHeartbeats 2000000 in
theorem refDecide_any (C A : Option Addr) (lc cc ls cs : Nat) (z : Nat → Bool) (pc : Int) (ar pe ba so su sp : Bool) (W : World) (hT : Truths W A ls z) (hlc : lc ≤ maxLen) :
    Calls Tryd.prog 9 #[.agg #[.slice C lc cc, .slice A ls cs], .int .i64 pc, .agg #[.bool ar, .bool pe, .bool ba, .bool so, .bool su, .bool sp]] W fun e W' => e = .returned (.int .i64 (decI (stF lc ls z pc) (proF lc pc) ar pe ba so su sp)) ∧ Below W.heap.size W W' := by
  have hB0 : Below W.heap.size W ((W.alloc (.cells #[.slice C lc cc, .slice A ls cs] 25)).alloc (.cells #[.bool ar, .bool pe, .bool ba, .bool so, .bool su, .bool sp] 32)) := (((Below.refl _ _).alloc (Nat.le_refl _) _).alloc (by simp) _)
  have hT1 := hT.below hB0
  have hz0 : W.heap.size ≤ ((W.alloc (.cells #[.slice C lc cc, .slice A ls cs] 25)).alloc (.cells #[.bool ar, .bool pe, .bool ba, .bool so, .bool su, .bool sp] 32)).heap.size := by simp; omega
  have hy0 : W.heap.size < W.heap.size + 2 := by omega
  have hy1 : W.heap.size + 1 < W.heap.size + 2 := by omega
  cases hst : stF lc ls z pc with
  | false =>
    have hd : decI false (proF lc pc) ar pe ba so su sp = 0 := by simp [decI, askB]
    go_enter Tryd.func9, Tryd.ntmps9
    go_wp2_with (go_at_call 18; refine (refStops_any _ _ _ _ _ _ z _ _ hT1 hlc).mono ?_; rintro e w2 ⟨rfl, hb2⟩; obtain ⟨hc2, hf2⟩ := bcell hb2; have hs2 := hb2.size)
    go_ret
    exact ⟨by rw [hd]; rfl, join hB0 hb2 hz0⟩
  | true =>
    have hpro : proF lc pc = (pc == 0) := by
      unfold stF at hst
      unfold proF
      simp at hst
      by_cases h : pc = 0
      · subst h; simp; omega
      · simp [h]
    rw [hpro]
    cases ar with
    | true =>
      have hd : decI true (pc == 0) true pe ba so su sp = behI ba so su sp := by simp [decI, askB]
      rw [hd]
      go_enter Tryd.func9, Tryd.ntmps9
      go_wp2_with (first | (go_at_call 18; refine (refStops_any _ _ _ _ _ _ z _ _ hT1 hlc).mono ?_; rintro e w2 ⟨rfl, hb2⟩; obtain ⟨hc2, hf2⟩ := bcell hb2; have hs2 := hb2.size) | (go_at_call 12; refine (refBehind_any _ _ _ _ _ _ _).mono ?_; rintro e w3 ⟨rfl, hb3⟩))
      go_ret
      exact ⟨rfl, join (join hB0 hb2 hz0) hb3 (by simp at hs2; omega)⟩
    | false =>
      cases hp0 : (pc == 0) with
      | false =>
        have hd : decI true false false pe ba so su sp = 0 := by simp [decI, askB]
        rw [hd]
        go_enter Tryd.func9, Tryd.ntmps9
        go_wp2_with (go_at_call 18; refine (refStops_any _ _ _ _ _ _ z _ _ hT1 hlc).mono ?_; rintro e w2 ⟨rfl, hb2⟩; obtain ⟨hc2, hf2⟩ := bcell hb2; have hs2 := hb2.size)
        go_ret
        exact ⟨rfl, join hB0 hb2 hz0⟩
      | true =>
        cases pe with
        | false =>
          have hd : decI true true false false ba so su sp = 0 := by simp [decI, askB]
          rw [hd]
          go_enter Tryd.func9, Tryd.ntmps9
          go_wp2_with (go_at_call 18; refine (refStops_any _ _ _ _ _ _ z _ _ hT1 hlc).mono ?_; rintro e w2 ⟨rfl, hb2⟩; obtain ⟨hc2, hf2⟩ := bcell hb2; have hs2 := hb2.size)
          go_ret
          exact ⟨rfl, join hB0 hb2 hz0⟩
        | true =>
          have hd : decI true true false true ba so su sp = behI ba so su sp := by simp [decI, askB]
          rw [hd]
          go_enter Tryd.func9, Tryd.ntmps9
          go_wp2_with (first | (go_at_call 18; refine (refStops_any _ _ _ _ _ _ z _ _ hT1 hlc).mono ?_; rintro e w2 ⟨rfl, hb2⟩; obtain ⟨hc2, hf2⟩ := bcell hb2; have hs2 := hb2.size) | (go_at_call 12; refine (refBehind_any _ _ _ _ _ _ _).mono ?_; rintro e w3 ⟨rfl, hb3⟩))
          go_ret
          exact ⟨rfl, join (join hB0 hb2 hz0) hb3 (by simp at hs2; omega)⟩
end Go.Proofs.YtoojclmbkpdmfaaDoor
