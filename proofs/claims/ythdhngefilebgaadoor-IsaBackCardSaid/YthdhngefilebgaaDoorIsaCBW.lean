/- The walks of the laws IsaChecks, IsaBack. -/
import Derived.Test.YthdhngefilebgaaDoorIsaF
import Derived.Deep.RegionHeld3
namespace Go.Proofs.YthdhngefilebgaaDoor
open Go.ChangeShapes Go.WideShapes Go.ChangeAt Go.RowKit Go.Deep
set_option linter.unusedVariables false

theorem box_below {W W' : World} {b : Nat} {a0 a1 a2 a3 a4 : Int} (h : W.cell? ⟨b, 0, none⟩ = some (.int .i64 a0) ∧ W.cell? ⟨b, 1, none⟩ = some (.int .i64 a1) ∧ W.cell? ⟨b, 2, none⟩ = some (.int .i64 a2) ∧ W.cell? ⟨b, 3, none⟩ = some (.int .i64 a3) ∧ W.cell? ⟨b, 4, none⟩ = some (.int .i64 a4)) (hb : Below W.heap.size W W') :
    W'.cell? ⟨b, 0, none⟩ = some (.int .i64 a0) ∧ W'.cell? ⟨b, 1, none⟩ = some (.int .i64 a1) ∧ W'.cell? ⟨b, 2, none⟩ = some (.int .i64 a2) ∧ W'.cell? ⟨b, 3, none⟩ = some (.int .i64 a3) ∧ W'.cell? ⟨b, 4, none⟩ = some (.int .i64 a4) := by
  have hlt : b < W.heap.size := World.block_lt_of_cell? W _ h.1
  exact ⟨(hb.cell (p := ⟨b, 0, none⟩) hlt).trans h.1, (hb.cell (p := ⟨b, 1, none⟩) hlt).trans h.2.1, (hb.cell (p := ⟨b, 2, none⟩) hlt).trans h.2.2.1, (hb.cell (p := ⟨b, 3, none⟩) hlt).trans h.2.2.2.1, (hb.cell (p := ⟨b, 4, none⟩) hlt).trans h.2.2.2.2⟩
set_option maxHeartbeats 4000000 in
theorem walk_isaChecks (a0_0 a0_1 a0_2 a0_3 a0_4 : Int) (a1 : Int) (a2 : Int) (w : World) (w0_0 : (Lit.int .i64 a0_0).wf = true) (w0_1 : (Lit.int .i64 a0_1).wf = true) (w0_2 : (Lit.int .i64 a0_2).wf = true) (w0_3 : (Lit.int .i64 a0_3).wf = true) (w0_4 : (Lit.int .i64 a0_4).wf = true) (w1 : (Lit.int .i64 a1).wf = true) (w2 : (Lit.int .i64 a2).wf = true) (hL : laidMetH Tryd.prog Rows.isaChecksRow.laid w) :
    Calls Tryd.prog 5 #[.agg #[.int .i64 a0_0, .int .i64 a0_1, .int .i64 a0_2, .int .i64 a0_3, .int .i64 a0_4], .int .i64 a1, .int .i64 a2] w fun e w' => e = .returned (.bool true) ∧ Below w.heap.size w w' := by
  have hT : Tab w := tab_of_laid hL
  clear hL w0_0 w0_1 w0_2 w0_3 w0_4 w1 w2
  have HT1 := Lib.hid (hT.alloc (.cells #[.int .i64 a0_0, .int .i64 a0_1, .int .i64 a0_2, .int .i64 a0_3, .int .i64 a0_4] 34))
  have hBx := Blk.new w 34 #[.int .i64 a0_0, .int .i64 a0_1, .int .i64 a0_2, .int .i64 a0_3, .int .i64 a0_4]
  have HB0 := Lib.hid ((Below.refl w.heap.size w).alloc (Nat.le_refl _) (.cells #[.int .i64 a0_0, .int .i64 a0_1, .int .i64 a0_2, .int .i64 a0_3, .int .i64 a0_4] 34))
  have hs0 : (w.alloc (.cells #[.int .i64 a0_0, .int .i64 a0_1, .int .i64 a0_2, .int .i64 a0_3, .int .i64 a0_4] 34)).drew.cell? ⟨w.heap.size, 0, none⟩ = some (.int .i64 a0_0) ∧ (w.alloc (.cells #[.int .i64 a0_0, .int .i64 a0_1, .int .i64 a0_2, .int .i64 a0_3, .int .i64 a0_4] 34)).drew.cell? ⟨w.heap.size, 1, none⟩ = some (.int .i64 a0_1) ∧ (w.alloc (.cells #[.int .i64 a0_0, .int .i64 a0_1, .int .i64 a0_2, .int .i64 a0_3, .int .i64 a0_4] 34)).drew.cell? ⟨w.heap.size, 2, none⟩ = some (.int .i64 a0_2) ∧ (w.alloc (.cells #[.int .i64 a0_0, .int .i64 a0_1, .int .i64 a0_2, .int .i64 a0_3, .int .i64 a0_4] 34)).drew.cell? ⟨w.heap.size, 3, none⟩ = some (.int .i64 a0_3) ∧ (w.alloc (.cells #[.int .i64 a0_0, .int .i64 a0_1, .int .i64 a0_2, .int .i64 a0_3, .int .i64 a0_4] 34)).drew.cell? ⟨w.heap.size, 4, none⟩ = some (.int .i64 a0_4) := by
    have h' := hBx.drew
    exact ⟨by rw [h'.cell]; rfl, by rw [h'.cell]; rfl, by rw [h'.cell]; rfl, by rw [h'.cell]; rfl, by rw [h'.cell]; rfl⟩
  clear hT hBx
  go_enter Tryd.func5, Tryd.ntmps5
  go_wp2_with fail
  go_region_held3 (fun w' => w'.cell? ⟨w.heap.size, 0, none⟩ = some (.int .i64 a0_0) ∧ w'.cell? ⟨w.heap.size, 1, none⟩ = some (.int .i64 a0_1) ∧ w'.cell? ⟨w.heap.size, 2, none⟩ = some (.int .i64 a0_2) ∧ w'.cell? ⟨w.heap.size, 3, none⟩ = some (.int .i64 a0_3) ∧ w'.cell? ⟨w.heap.size, 4, none⟩ = some (.int .i64 a0_4)) (first | assumption)
    ((first
      | (go_at_call 24; refine (check_any a0_0 a0_1 a0_2 a0_3 a0_4 a1 a2 _ (HT1.out.drewN 1)).mono ?_; rintro e u1 ⟨rfl, hb1⟩; have hs1 := box_below hs0 hb1; have HT2 := Lib.hid ((HT1.out.drewN 1).below hb1))
      | (go_at_call 25; refine (rcheck_any a0_0 a0_1 a0_2 a0_3 a0_4 a1 a2 _).mono ?_; rintro e u2 ⟨rfl, hb2⟩; have hs2 := box_below hs1 hb2; have HT3 := Lib.hid (HT2.out.below hb2))
      | (go_at_call 12; refine (alive_any _ HT3.out).mono ?_; rintro e u3 ⟨rfl, hb3⟩; have hs3 := box_below hs2 hb3)))
  all_goals go_simp
  all_goals go_wp2
  all_goals go_ret
  all_goals exact ⟨rfl, (HB0.out.drew.trans (hb1.mono (by simp))).trans ((hb2.mono (by have := hb1.size; simp at this; omega)).trans (hb3.mono (by have := hb1.size; have := hb2.size; simp at *; omega)))⟩

theorem chk_more {op A B C N p f m : Int} (h : chkI op A B C N p f = 0) (hm : 0 ≤ m) : chkI op A B C N (p + m) (f + m) = 0 ∧ 0 ≤ op ∧ op < 24 := by
  unfold chkI at h ⊢
  by_cases ho : op < 0 ∨ 24 ≤ op
  · rw [if_pos ho] at h; cases h
  · rw [if_neg ho] at h ⊢
    refine ⟨?_, by omega, by omega⟩
    generalize rg op.toNat = a at h ⊢
    generalize tg op.toNat = b at h ⊢
    generalize nb op.toNat = c at h ⊢
    unfold chk at h ⊢
    split at h
    · cases h
    rename_i h1
    rw [if_neg h1]
    split at h
    · cases h
    rename_i h2
    rw [if_neg h2]
    split at h
    · rename_i h3
      rw [if_pos h3]; exact h
    · rename_i h3
      rw [if_neg h3]
      split at h
      · rename_i h4
        rw [if_pos h4]
        split at h
        · cases h
        · rw [if_neg (by omega)]
      · rename_i h4
        rw [if_neg h4]
        split at h
        · cases h
        · rw [if_neg (by omega)]
set_option maxHeartbeats 8000000 in
theorem walk_isaBack (a0_0 a0_1 a0_2 a0_3 a0_4 : Int) (a1 : Int) (a2 : Int) (a3 : Int) (w : World) (w0_0 : (Lit.int .i64 a0_0).wf = true) (w0_1 : (Lit.int .i64 a0_1).wf = true) (w0_2 : (Lit.int .i64 a0_2).wf = true) (w0_3 : (Lit.int .i64 a0_3).wf = true) (w0_4 : (Lit.int .i64 a0_4).wf = true) (w1 : (Lit.int .i64 a1).wf = true) (w2 : (Lit.int .i64 a2).wf = true) (w3 : (Lit.int .i64 a3).wf = true) (hL : laidMetH Tryd.prog Rows.isaBackRow.laid w) :
    Calls Tryd.prog 6 #[.agg #[.int .i64 a0_0, .int .i64 a0_1, .int .i64 a0_2, .int .i64 a0_3, .int .i64 a0_4], .int .i64 a1, .int .i64 a2, .int .i64 a3] w fun e w' => e = .returned (.bool true) ∧ Below w.heap.size w w' := by
  have hT : Tab w := tab_of_laid hL
  clear hL w0_0 w0_1 w0_2 w0_3 w0_4 w1 w2 w3
  have HT1 := Lib.hid (hT.alloc (.cells #[.int .i64 a0_0, .int .i64 a0_1, .int .i64 a0_2, .int .i64 a0_3, .int .i64 a0_4] 34))
  have HBx := Lib.hid (Blk.new w 34 #[.int .i64 a0_0, .int .i64 a0_1, .int .i64 a0_2, .int .i64 a0_3, .int .i64 a0_4])
  have HB0 := Lib.hid ((Below.refl w.heap.size w).alloc (Nat.le_refl _) (.cells #[.int .i64 a0_0, .int .i64 a0_1, .int .i64 a0_2, .int .i64 a0_3, .int .i64 a0_4] 34))
  clear hT
  by_cases hg : 0 ≤ a1 ∧ 0 ≤ a2 ∧ a1 ≤ 1048576 ∧ a2 ≤ 1048576 ∧ 0 ≤ a3 ∧ a3 ≤ 1048576
  · obtain ⟨g0, g1, g2, g3, g4, g5⟩ := hg
    go_enter Tryd.func6, Tryd.ntmps6
    go_wp2_with fail
    obtain ⟨v, hv⟩ : ∃ v, chkI a0_0 a0_1 a0_2 a0_3 a0_4 a1 a2 = v := ⟨_, rfl⟩
    have HV := Lib.hid hv
    refine (check_any a0_0 a0_1 a0_2 a0_3 a0_4 a1 a2 _ HT1.out).mono ?_
    rw [hv]
    clear hv
    rintro e u1 ⟨rfl, hb1⟩
    have HB1 := Lib.hid (HB0.out.trans (hb1.mono (by simp)))
    have HT2 := Lib.hid (HT1.out.below hb1)
    have HX := Lib.hid (HBx.out.kept (Chg.ofBelow hb1) (by simp))
    clear hb1 HB0 HT1 HBx
    by_cases hv0 : v = 0
    · subst hv0
      obtain ⟨hm, ho0, ho1⟩ := chk_more HV.out g4
      obtain ⟨k, rfl⟩ : ∃ k : Nat, a0_0 = k := ⟨a0_0.toNat, by omega⟩
      have hk : k < 24 := by omega
      have HM := Lib.hid hm
      clear HV hm ho0 ho1
      have q0 := HX.out.cell 0
      simp at q0
      go_wp2_with fail
      refine (name_in k hk u1 HT2.out).mono ?_
      rintro e u2 ⟨rfl, hb2⟩
      have HB2 := Lib.hid (HB1.out.trans (hb2.mono HB1.out.size))
      have HT3 := Lib.hid (HT2.out.below hb2)
      have HX2 := Lib.hid (HX.out.kept (Chg.ofBelow hb2) (by have := HX.out.lt; show ¬ (_ ≤ _); omega))
      clear hb2 HB1 HT2 HX q0
      go_wp2_with fail
      refine (op_yes (nm k) k hk rfl u2 HT3.out).mono ?_
      rintro e u3 ⟨rfl, hb3⟩
      have HB3 := Lib.hid (HB2.out.trans (hb3.mono HB2.out.size))
      have HT4 := Lib.hid (HT3.out.below hb3)
      have HX3 := Lib.hid (HX2.out.kept (Chg.ofBelow hb3) (by have := HX2.out.lt; show ¬ (_ ≤ _); omega))
      clear hb3 HB2 HT3 HX2
      have q0 := HX3.out.cell 0
      have q1 := HX3.out.cell 1
      have q2 := HX3.out.cell 2
      have q3 := HX3.out.cell 3
      have q4 := HX3.out.cell 4
      simp at q0 q1 q2 q3 q4
      go_wp2_with fail
      refine (check_any k a0_1 a0_2 a0_3 a0_4 (a1 + a3) (a2 + a3) u3 HT4.out).mono ?_
      rw [HM.out]
      rintro e u4 ⟨rfl, hb4⟩
      have HB4 := Lib.hid (HB3.out.trans (hb4.mono HB3.out.size))
      have HT5 := Lib.hid (HT4.out.below hb4)
      clear hb4 HB3 HT4 HX3 q0 q1 q2 q3 q4
      go_wp2_with (go_at_call 12; refine (alive_any _ HT5.out).mono ?_; rintro e u5 ⟨rfl, hb5⟩)
      go_ret
      exact ⟨rfl, HB4.out.trans (hb5.mono HB4.out.size)⟩
    · have d0 : (v != 0) = true := by simpa using hv0
      clear hv0
      go_wp2_with (go_at_call 12; refine (alive_any _ HT2.out).mono ?_; rintro e u5 ⟨rfl, hb5⟩)
      go_ret
      exact ⟨rfl, HB1.out.trans (hb5.mono HB1.out.size)⟩
  · have hg' : a1 < 0 ∨ (0 ≤ a1 ∧ (a2 < 0 ∨ (0 ≤ a2 ∧ (1048576 < a1 ∨ (a1 ≤ 1048576 ∧ (1048576 < a2 ∨ (a2 ≤ 1048576 ∧ (a3 < 0 ∨ (0 ≤ a3 ∧ 1048576 < a3))))))))) := by omega
    clear hg
    rcases hg' with h1 | ⟨h1, h2 | ⟨h2, h3 | ⟨h3, h4 | ⟨h4, h5 | ⟨h5, h6⟩⟩⟩⟩⟩
    all_goals
      go_enter Tryd.func6, Tryd.ntmps6
      go_wp2_with (go_at_call 12; refine (alive_any _ HT1.out).mono ?_; rintro e u5 ⟨rfl, hb5⟩)
      go_ret
      exact ⟨rfl, HB0.out.trans (hb5.mono (by simp))⟩
end Go.Proofs.YthdhngefilebgaaDoor
