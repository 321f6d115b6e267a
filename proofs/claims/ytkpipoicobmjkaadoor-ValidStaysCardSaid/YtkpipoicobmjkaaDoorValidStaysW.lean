/- The walk of the law ValidStays. -/
import Derived.Test.YtkpipoicobmjkaaDoorVaY
import Derived.Test.YtkpipoicobmjkaaDoorVaI2
import Derived.Test.YtkpipoicobmjkaaDoorVaR
import Derived.Test.YtkpipoicobmjkaaDoorVaT
namespace Go.Proofs.YtkpipoicobmjkaaDoor
open Go.ChangeShapes Go.WideShapes Go.ChangeAt Go.RowKit Go.Deep
set_option linter.unusedVariables false
set_option linter.unusedSimpArgs false

set_option maxRecDepth 100000 in
set_option maxHeartbeats 8000000 in
theorem walk_validStays (cs0 : List Value) (d0 : ShProg.Den) (w : World) (hL0 : Lies w ShProg cs0 d0) (hL : laidMetH Tryd.prog Rows.validStaysRow.laid w) :
    Calls Tryd.prog 6 #[Sh.val ShProg cs0] w fun e w' => e = .returned (.bool true) ∧ Below w.heap.size w w' := by
  obtain ⟨A, m, c, Ac, nc, cc, As, ns, cs, code, safe, h1, hm, hP⟩ := open_prog hL0
  rw [h1]
  have hT : Tab w := tab_of_laid hL
  clear hL hL0 h1
  have hcb : Chg (fun _ => False) w (w.alloc (.cells #[.slice A m c] 24)) := (Chg.refl _ _).alloc _
  have HB := Lib.hid (Blk.new w 24 #[.slice A m c])
  have HP := Lib.hid (hP.chg hcb)
  have HT := Lib.hid (hT.chg hcb)
  have HCB := Lib.hid hcb
  clear hP hT hcb
  by_cases hl : LightP m nc ns
  · have HLI := Lib.hid (plight_yes c HP.out hl)
    have hm20 : m ≤ 20 := hl.1
    have HLL : Hid (∀ i, i < m → nc i ≤ 100 ∧ ns i ≤ 1000) := Lib.hid (fun i hi => by have := hl.2 i hi; omega)
    have HL2 : Hid (∀ i, i < m → nc i ≤ 1000 ∧ nc i ≤ 1000) := Lib.hid (fun i hi => by have := HLL.out i hi; omega)
    have HL1 : Hid (∀ i, i < m → nc i ≤ 100 ∧ nc i ≤ 1000) := Lib.hid (fun i hi => by have := HLL.out i hi; omega)
    have HVM := Lib.hid (fun V (hc : Chg (fun _ => False) (w.alloc (.cells #[.slice A m c] 24)) V) => mend_any c (HP.out.chg hc) (HT.out.chg hc) hm20 HLL.out)
    have HCK := Lib.hid (fun V (hc : Chg (fun _ => False) (w.alloc (.cells #[.slice A m c] 24)) V) => vcheck_any c (HP.out.chg hc) (HT.out.chg hc) hm)
    have hlen : ∀ i, i < m → (code i).length = nc i := fun i hi => (HP.out.fn i hi).lenc
    have hbad := fun h => progF_bad (safe := safe) hlen h
    have huns := fun h => progF_unsafe (safe := safe) hlen h
    have hok := fun (h : (progF m code safe).2.2 = 0) V (hc : Chg (fun _ => False) (w.alloc (.cells #[.slice A m c] 24)) V) => (HP.out.chg hc).ok h
    clear hl hlen
    generalize progF m code safe = r at *
    obtain ⟨x, y, z⟩ := r
    obtain ⟨S', hS'⟩ : ∃ S', (fun i => mendS (code i) (safe i) (nc i)) = S' := ⟨_, rfl⟩
    simp only [hS'] at hbad huns hok HVM
    have hS2 : (fun i => mendS (code i) (S' i) (nc i)) = S' := by rw [← hS']; funext i; exact mendS_twice _ _ _
    have HS2 := Lib.hid hS2
    clear hS2 hS'
    obtain ⟨rr, hrr⟩ : ∃ rr, progF m code S' = rr := ⟨_, rfl⟩
    rw [hrr] at hbad huns
    obtain ⟨x', y', z'⟩ := rr
    simp only at hbad huns hok
    by_cases hz : z = 0
    · have HPO := Lib.hid (hok hz)
      subst hz
      clear hok
      by_cases h9 : z' = 9
      · have hy := hbad h9
        have hy1 : ¬ y' < 0 := by omega
        have HRR := Lib.hid hrr
        subst h9
        clear hbad huns hrr
        go_enter Tryd.func6, Tryd.ntmps6
        go_wp2_with (first
          | (go_at_call 7; refine HLI.out.mono ?_; rintro e u1 ⟨rfl, hc1⟩; have HCu1 := Lib.hid hc1; have pu1 := (HB.out.kept HCu1.out (fun h => h)).cell 0; have plu1 := (HB.out.kept HCu1.out (fun h => h)).lt; simp at pu1; clear hc1)
          | (go_at_call 15; refine (HVM.out _ HCu2.out).mono ?_; rintro e u3 ⟨G, Bc, dc, Bs, ds, rfl, hp3, hc3⟩; have HGB := Lib.hid (Blk.new u3 24 #[.slice (some ⟨G, 0, none⟩) m m]); have HCu3 := Lib.hid ((HCu2.out.trans hc3 (fun _ _ h => h)).alloc (.cells #[.slice (some ⟨G, 0, none⟩) m m] 24)); have HP3 := Lib.hid (hp3.chg ((Chg.refl (fun _ => False) u3).alloc (.cells #[.slice (some ⟨G, 0, none⟩) m m] 24))); have pu3 := (HB.out.kept HCu3.out (fun h => h)).cell 0; have plu3 := (HB.out.kept HCu3.out (fun h => h)).lt; simp at pu3; have g3 := HGB.out.cell 0; have gl3 := HGB.out.lt; simp at g3; clear hp3 hc3)
          | (go_at_call 14; refine (psame_any _ _ HP3.out (HPO.out _ HCu3.out) hm20 HL2.out).mono ?_; rintro e u4 ⟨rfl, hc4⟩; have HCu4 := Lib.hid (HCu3.out.trans hc4 (fun _ _ h => h)); have HDu4 := Lib.hid hc4; have gu4 := (HGB.out.kept HDu4.out (fun h => h)).cell 0; have glu4 := (HGB.out.kept HDu4.out (fun h => h)).lt; simp at gu4; clear hc4)
          | (go_at_call 9; have hck := vcheck_any m (HP3.out.chg HDu4.out) (HT.out.chg HCu4.out) hm; rw [HRR.out] at hck; refine hck.mono ?_; rintro e u5 ⟨rfl, hc5⟩; clear hck; have HCu5 := Lib.hid (HCu4.out.trans hc5 (fun _ _ h => h)); have HDu5 := Lib.hid (HDu4.out.trans hc5 (fun _ _ h => h)); have gu5 := (HGB.out.kept HDu5.out (fun h => h)).cell 0; have glu5 := (HGB.out.kept HDu5.out (fun h => h)).lt; simp at gu5; clear hc5)
          | (go_at_call 9; refine (HCK.out _ HCu1.out).mono ?_; rintro e u2 ⟨rfl, hc2⟩; have HCu2 := Lib.hid (HCu1.out.trans hc2 (fun _ _ h => h)); have pu2 := (HB.out.kept HCu2.out (fun h => h)).cell 0; have plu2 := (HB.out.kept HCu2.out (fun h => h)).lt; simp at pu2; clear hc2))
        go_region_held3 (fun w' => w'.cell? ⟨u3.heap.size, 0, none⟩ = some (.slice (some ⟨G, 0, none⟩) m m)) (first | assumption)
          ((first
            | (go_at_call 15; refine (mend_any _ (HP3.out.chg HDu5.out.drew) (HT.out.chg HCu5.out.drew) hm20 HL1.out).mono ?_; rintro e u6 ⟨G2, Bd, dd, Bt, dt, rfl, hp6, hc6⟩; have HCu6 := Lib.hid (HCu5.out.drew.trans hc6 (fun _ _ h => h)); have HDu6 := Lib.hid (HDu5.out.drew.trans hc6 (fun _ _ h => h)); rw [HS2.out] at hp6; have HP6 := Lib.hid hp6; have gu6 := (HGB.out.kept HDu6.out (fun h => h)).cell 0; have glu6 := (HGB.out.kept HDu6.out (fun h => h)).lt; simp at gu6; clear hp6 hc6)
            | (go_at_call 14; refine (psame_any _ _ HP6.out (HP3.out.chg HDu6.out) hm20 HL2.out).mono ?_; rintro e u7 ⟨rfl, hc7⟩; have HCu7 := Lib.hid (HCu6.out.trans hc7 (fun _ _ h => h)); have HDu7 := Lib.hid (HDu6.out.trans hc7 (fun _ _ h => h)); have gu7 := (HGB.out.kept HDu7.out (fun h => h)).cell 0; have glu7 := (HGB.out.kept HDu7.out (fun h => h)).lt; simp at gu7; clear hc7)
            | (go_at_call 8; refine (alive_any _ (HT.out.chg HCu7.out)).mono ?_; rintro e u8 ⟨rfl, hc8⟩; have HCu8 := Lib.hid (HCu7.out.trans hc8 (fun _ _ h => h)); have HDu8 := Lib.hid (HDu7.out.trans hc8 (fun _ _ h => h)); have gu8 := (HGB.out.kept HDu8.out (fun h => h)).cell 0; have glu8 := (HGB.out.kept HDu8.out (fun h => h)).lt; simp at gu8; clear hc8)))
        all_goals go_simp
        all_goals go_wp2
        all_goals go_ret
        all_goals exact ⟨rfl, (HCB.out.trans HCu8.out (fun _ _ h => h)).toB⟩
      · by_cases h10 : z' = 10
        · obtain ⟨i, hi, hri⟩ := huns h10
          have HRR := Lib.hid hrr
          simp only [Prod.mk.injEq] at hri
          obtain ⟨rfl, rfl, rfl⟩ := hri
          clear hbad huns hrr h9 h10
          have i0 : ¬ (i : Int) < 0 := by omega
          have i1 : ¬ (m : Int) ≤ i := by omega
          have i2 : (i : Int) < m := by omega
          have i3 : (0 : Int) ≤ i := by omega
          have hq := (HLL.out i hi).1
          obtain ⟨n, hn⟩ : ∃ n, nc i = n := ⟨_, rfl⟩
          rw [hn] at HRR hq
          have n1 : (0 : Int) ≤ n := by omega
          have n2 : (n : Int) ≤ 100 := by omega
          go_enter Tryd.func6, Tryd.ntmps6
          go_wp2_with (first
            | (go_at_call 7; refine HLI.out.mono ?_; rintro e u1 ⟨rfl, hc1⟩; have HCu1 := Lib.hid hc1; have pu1 := (HB.out.kept HCu1.out (fun h => h)).cell 0; have plu1 := (HB.out.kept HCu1.out (fun h => h)).lt; simp at pu1; clear hc1)
            | (go_at_call 15; refine (HVM.out _ HCu2.out).mono ?_; rintro e u3 ⟨G, Bc, dc, Bs, ds, rfl, hp3, hc3⟩; have HGB := Lib.hid (Blk.new u3 24 #[.slice (some ⟨G, 0, none⟩) m m]); have HCu3 := Lib.hid ((HCu2.out.trans hc3 (fun _ _ h => h)).alloc (.cells #[.slice (some ⟨G, 0, none⟩) m m] 24)); have HP3 := Lib.hid (hp3.chg ((Chg.refl (fun _ => False) u3).alloc (.cells #[.slice (some ⟨G, 0, none⟩) m m] 24))); have pu3 := (HB.out.kept HCu3.out (fun h => h)).cell 0; have plu3 := (HB.out.kept HCu3.out (fun h => h)).lt; simp at pu3; have g3 := HGB.out.cell 0; have gl3 := HGB.out.lt; simp at g3; clear hp3 hc3)
            | (go_at_call 14; refine (psame_any _ _ HP3.out (HPO.out _ HCu3.out) hm20 HL2.out).mono ?_; rintro e u4 ⟨rfl, hc4⟩; have HCu4 := Lib.hid (HCu3.out.trans hc4 (fun _ _ h => h)); have HDu4 := Lib.hid hc4; have gu4 := (HGB.out.kept HDu4.out (fun h => h)).cell 0; have glu4 := (HGB.out.kept HDu4.out (fun h => h)).lt; simp at gu4; clear hc4)
            | (go_at_call 9; have hck := vcheck_any m (HP3.out.chg HDu4.out) (HT.out.chg HCu4.out) hm; rw [HRR.out] at hck; refine hck.mono ?_; rintro e u5 ⟨rfl, hc5⟩; clear hck; have HCu5 := Lib.hid (HCu4.out.trans hc5 (fun _ _ h => h)); have HDu5 := Lib.hid (HDu4.out.trans hc5 (fun _ _ h => h)); have gu5 := (HGB.out.kept HDu5.out (fun h => h)).cell 0; have glu5 := (HGB.out.kept HDu5.out (fun h => h)).lt; simp at gu5; obtain ⟨bG, oG, hGe, hbG, hcG⟩ := (HP3.out.chg HDu5.out).cells (by omega); cases hGe; obtain ⟨cG, _⟩ := hcG i hi; simp only [Nat.zero_add, hn] at cG; clear hcG hc5)
            | (go_at_call 9; refine (HCK.out _ HCu1.out).mono ?_; rintro e u2 ⟨rfl, hc2⟩; have HCu2 := Lib.hid (HCu1.out.trans hc2 (fun _ _ h => h)); have pu2 := (HB.out.kept HCu2.out (fun h => h)).cell 0; have plu2 := (HB.out.kept HCu2.out (fun h => h)).lt; simp at pu2; clear hc2))
          go_region_held3 (fun w' => w'.cell? ⟨u3.heap.size, 0, none⟩ = some (.slice (some ⟨G, 0, none⟩) m m)) (first | assumption)
            ((first
              | (go_at_call 15; refine (mend_any _ (HP3.out.chg HDu5.out.drew) (HT.out.chg HCu5.out.drew) hm20 HL1.out).mono ?_; rintro e u6 ⟨G2, Bd, dd, Bt, dt, rfl, hp6, hc6⟩; have HCu6 := Lib.hid (HCu5.out.drew.trans hc6 (fun _ _ h => h)); have HDu6 := Lib.hid (HDu5.out.drew.trans hc6 (fun _ _ h => h)); rw [HS2.out] at hp6; have HP6 := Lib.hid hp6; have gu6 := (HGB.out.kept HDu6.out (fun h => h)).cell 0; have glu6 := (HGB.out.kept HDu6.out (fun h => h)).lt; simp at gu6; clear hp6 hc6)
              | (go_at_call 14; refine (psame_any _ _ HP6.out (HP3.out.chg HDu6.out) hm20 HL2.out).mono ?_; rintro e u7 ⟨rfl, hc7⟩; have HCu7 := Lib.hid (HCu6.out.trans hc7 (fun _ _ h => h)); have HDu7 := Lib.hid (HDu6.out.trans hc7 (fun _ _ h => h)); have gu7 := (HGB.out.kept HDu7.out (fun h => h)).cell 0; have glu7 := (HGB.out.kept HDu7.out (fun h => h)).lt; simp at gu7; clear hc7)
              | (go_at_call 8; refine (alive_any _ (HT.out.chg HCu7.out)).mono ?_; rintro e u8 ⟨rfl, hc8⟩; have HCu8 := Lib.hid (HCu7.out.trans hc8 (fun _ _ h => h)); have HDu8 := Lib.hid (HDu7.out.trans hc8 (fun _ _ h => h)); have gu8 := (HGB.out.kept HDu8.out (fun h => h)).cell 0; have glu8 := (HGB.out.kept HDu8.out (fun h => h)).lt; simp at gu8; clear hc8)))
          all_goals go_simp
          all_goals go_wp2
          all_goals go_ret
          all_goals exact ⟨rfl, (HCB.out.trans HCu8.out (fun _ _ h => h)).toB⟩
        · have HRR := Lib.hid hrr
          clear hbad huns hrr
          go_enter Tryd.func6, Tryd.ntmps6
          go_wp2_with (first
            | (go_at_call 7; refine HLI.out.mono ?_; rintro e u1 ⟨rfl, hc1⟩; have HCu1 := Lib.hid hc1; have pu1 := (HB.out.kept HCu1.out (fun h => h)).cell 0; have plu1 := (HB.out.kept HCu1.out (fun h => h)).lt; simp at pu1; clear hc1)
            | (go_at_call 15; refine (HVM.out _ HCu2.out).mono ?_; rintro e u3 ⟨G, Bc, dc, Bs, ds, rfl, hp3, hc3⟩; have HGB := Lib.hid (Blk.new u3 24 #[.slice (some ⟨G, 0, none⟩) m m]); have HCu3 := Lib.hid ((HCu2.out.trans hc3 (fun _ _ h => h)).alloc (.cells #[.slice (some ⟨G, 0, none⟩) m m] 24)); have HP3 := Lib.hid (hp3.chg ((Chg.refl (fun _ => False) u3).alloc (.cells #[.slice (some ⟨G, 0, none⟩) m m] 24))); have pu3 := (HB.out.kept HCu3.out (fun h => h)).cell 0; have plu3 := (HB.out.kept HCu3.out (fun h => h)).lt; simp at pu3; have g3 := HGB.out.cell 0; have gl3 := HGB.out.lt; simp at g3; clear hp3 hc3)
            | (go_at_call 14; refine (psame_any _ _ HP3.out (HPO.out _ HCu3.out) hm20 HL2.out).mono ?_; rintro e u4 ⟨rfl, hc4⟩; have HCu4 := Lib.hid (HCu3.out.trans hc4 (fun _ _ h => h)); have HDu4 := Lib.hid hc4; have gu4 := (HGB.out.kept HDu4.out (fun h => h)).cell 0; have glu4 := (HGB.out.kept HDu4.out (fun h => h)).lt; simp at gu4; clear hc4)
            | (go_at_call 9; have hck := vcheck_any m (HP3.out.chg HDu4.out) (HT.out.chg HCu4.out) hm; rw [HRR.out] at hck; refine hck.mono ?_; rintro e u5 ⟨rfl, hc5⟩; clear hck; have HCu5 := Lib.hid (HCu4.out.trans hc5 (fun _ _ h => h)); have HDu5 := Lib.hid (HDu4.out.trans hc5 (fun _ _ h => h)); have gu5 := (HGB.out.kept HDu5.out (fun h => h)).cell 0; have glu5 := (HGB.out.kept HDu5.out (fun h => h)).lt; simp at gu5; clear hc5)
            | (go_at_call 9; refine (HCK.out _ HCu1.out).mono ?_; rintro e u2 ⟨rfl, hc2⟩; have HCu2 := Lib.hid (HCu1.out.trans hc2 (fun _ _ h => h)); have pu2 := (HB.out.kept HCu2.out (fun h => h)).cell 0; have plu2 := (HB.out.kept HCu2.out (fun h => h)).lt; simp at pu2; clear hc2))
          go_region_held3 (fun w' => w'.cell? ⟨u3.heap.size, 0, none⟩ = some (.slice (some ⟨G, 0, none⟩) m m)) (first | assumption)
            ((first
              | (go_at_call 15; refine (mend_any _ (HP3.out.chg HDu5.out.drew) (HT.out.chg HCu5.out.drew) hm20 HL1.out).mono ?_; rintro e u6 ⟨G2, Bd, dd, Bt, dt, rfl, hp6, hc6⟩; have HCu6 := Lib.hid (HCu5.out.drew.trans hc6 (fun _ _ h => h)); have HDu6 := Lib.hid (HDu5.out.drew.trans hc6 (fun _ _ h => h)); rw [HS2.out] at hp6; have HP6 := Lib.hid hp6; have gu6 := (HGB.out.kept HDu6.out (fun h => h)).cell 0; have glu6 := (HGB.out.kept HDu6.out (fun h => h)).lt; simp at gu6; clear hp6 hc6)
              | (go_at_call 14; refine (psame_any _ _ HP6.out (HP3.out.chg HDu6.out) hm20 HL2.out).mono ?_; rintro e u7 ⟨rfl, hc7⟩; have HCu7 := Lib.hid (HCu6.out.trans hc7 (fun _ _ h => h)); have HDu7 := Lib.hid (HDu6.out.trans hc7 (fun _ _ h => h)); have gu7 := (HGB.out.kept HDu7.out (fun h => h)).cell 0; have glu7 := (HGB.out.kept HDu7.out (fun h => h)).lt; simp at gu7; clear hc7)
              | (go_at_call 8; refine (alive_any _ (HT.out.chg HCu7.out)).mono ?_; rintro e u8 ⟨rfl, hc8⟩; have HCu8 := Lib.hid (HCu7.out.trans hc8 (fun _ _ h => h)); have HDu8 := Lib.hid (HDu7.out.trans hc8 (fun _ _ h => h)); have gu8 := (HGB.out.kept HDu8.out (fun h => h)).cell 0; have glu8 := (HGB.out.kept HDu8.out (fun h => h)).lt; simp at gu8; clear hc8)))
          all_goals go_simp
          all_goals go_wp2
          all_goals go_ret
          all_goals exact ⟨rfl, (HCB.out.trans HCu8.out (fun _ _ h => h)).toB⟩
    · clear hok
      have hz1 := hz
      by_cases h9 : z' = 9
      · have hy := hbad h9
        have hy1 : ¬ y' < 0 := by omega
        have HRR := Lib.hid hrr
        subst h9
        clear hbad huns hrr
        go_enter Tryd.func6, Tryd.ntmps6
        go_wp2_with (first
          | (go_at_call 7; refine HLI.out.mono ?_; rintro e u1 ⟨rfl, hc1⟩; have HCu1 := Lib.hid hc1; have pu1 := (HB.out.kept HCu1.out (fun h => h)).cell 0; have plu1 := (HB.out.kept HCu1.out (fun h => h)).lt; simp at pu1; clear hc1)
          | (go_at_call 15; refine (HVM.out _ HCu2.out).mono ?_; rintro e u3 ⟨G, Bc, dc, Bs, ds, rfl, hp3, hc3⟩; have HGB := Lib.hid (Blk.new u3 24 #[.slice (some ⟨G, 0, none⟩) m m]); have HCu3 := Lib.hid ((HCu2.out.trans hc3 (fun _ _ h => h)).alloc (.cells #[.slice (some ⟨G, 0, none⟩) m m] 24)); have HP3 := Lib.hid (hp3.chg ((Chg.refl (fun _ => False) u3).alloc (.cells #[.slice (some ⟨G, 0, none⟩) m m] 24))); have pu3 := (HB.out.kept HCu3.out (fun h => h)).cell 0; have plu3 := (HB.out.kept HCu3.out (fun h => h)).lt; simp at pu3; have g3 := HGB.out.cell 0; have gl3 := HGB.out.lt; simp at g3; clear hp3 hc3)
          | (go_at_call 9; have hck := vcheck_any m (HP3.out.chg (Chg.refl (fun _ => False) (u3.alloc (.cells #[.slice (some ⟨G, 0, none⟩) m m] 24)))) (HT.out.chg HCu3.out) hm; rw [HRR.out] at hck; refine hck.mono ?_; rintro e u5 ⟨rfl, hc5⟩; clear hck; have HCu5 := Lib.hid (HCu3.out.trans hc5 (fun _ _ h => h)); have HDu5 := Lib.hid ((Chg.refl (fun _ => False) (u3.alloc (.cells #[.slice (some ⟨G, 0, none⟩) m m] 24))).trans hc5 (fun _ _ h => h)); have gu5 := (HGB.out.kept HDu5.out (fun h => h)).cell 0; have glu5 := (HGB.out.kept HDu5.out (fun h => h)).lt; simp at gu5; clear hc5)
          | (go_at_call 9; refine (HCK.out _ HCu1.out).mono ?_; rintro e u2 ⟨rfl, hc2⟩; have HCu2 := Lib.hid (HCu1.out.trans hc2 (fun _ _ h => h)); have pu2 := (HB.out.kept HCu2.out (fun h => h)).cell 0; have plu2 := (HB.out.kept HCu2.out (fun h => h)).lt; simp at pu2; clear hc2))
        go_region_held3 (fun w' => w'.cell? ⟨u3.heap.size, 0, none⟩ = some (.slice (some ⟨G, 0, none⟩) m m)) (first | assumption)
          ((first
            | (go_at_call 15; refine (mend_any _ (HP3.out.chg HDu5.out.drew) (HT.out.chg HCu5.out.drew) hm20 HL1.out).mono ?_; rintro e u6 ⟨G2, Bd, dd, Bt, dt, rfl, hp6, hc6⟩; have HCu6 := Lib.hid (HCu5.out.drew.trans hc6 (fun _ _ h => h)); have HDu6 := Lib.hid (HDu5.out.drew.trans hc6 (fun _ _ h => h)); rw [HS2.out] at hp6; have HP6 := Lib.hid hp6; have gu6 := (HGB.out.kept HDu6.out (fun h => h)).cell 0; have glu6 := (HGB.out.kept HDu6.out (fun h => h)).lt; simp at gu6; clear hp6 hc6)
            | (go_at_call 14; refine (psame_any _ _ HP6.out (HP3.out.chg HDu6.out) hm20 HL2.out).mono ?_; rintro e u7 ⟨rfl, hc7⟩; have HCu7 := Lib.hid (HCu6.out.trans hc7 (fun _ _ h => h)); have HDu7 := Lib.hid (HDu6.out.trans hc7 (fun _ _ h => h)); have gu7 := (HGB.out.kept HDu7.out (fun h => h)).cell 0; have glu7 := (HGB.out.kept HDu7.out (fun h => h)).lt; simp at gu7; clear hc7)
            | (go_at_call 8; refine (alive_any _ (HT.out.chg HCu7.out)).mono ?_; rintro e u8 ⟨rfl, hc8⟩; have HCu8 := Lib.hid (HCu7.out.trans hc8 (fun _ _ h => h)); have HDu8 := Lib.hid (HDu7.out.trans hc8 (fun _ _ h => h)); have gu8 := (HGB.out.kept HDu8.out (fun h => h)).cell 0; have glu8 := (HGB.out.kept HDu8.out (fun h => h)).lt; simp at gu8; clear hc8)))
        all_goals go_simp
        all_goals go_wp2
        all_goals go_ret
        all_goals exact ⟨rfl, (HCB.out.trans HCu8.out (fun _ _ h => h)).toB⟩
      · by_cases h10 : z' = 10
        · obtain ⟨i, hi, hri⟩ := huns h10
          have HRR := Lib.hid hrr
          simp only [Prod.mk.injEq] at hri
          obtain ⟨rfl, rfl, rfl⟩ := hri
          clear hbad huns hrr h9 h10
          have i0 : ¬ (i : Int) < 0 := by omega
          have i1 : ¬ (m : Int) ≤ i := by omega
          have i2 : (i : Int) < m := by omega
          have i3 : (0 : Int) ≤ i := by omega
          have hq := (HLL.out i hi).1
          obtain ⟨n, hn⟩ : ∃ n, nc i = n := ⟨_, rfl⟩
          rw [hn] at HRR hq
          have n1 : (0 : Int) ≤ n := by omega
          have n2 : (n : Int) ≤ 100 := by omega
          go_enter Tryd.func6, Tryd.ntmps6
          go_wp2_with (first
            | (go_at_call 7; refine HLI.out.mono ?_; rintro e u1 ⟨rfl, hc1⟩; have HCu1 := Lib.hid hc1; have pu1 := (HB.out.kept HCu1.out (fun h => h)).cell 0; have plu1 := (HB.out.kept HCu1.out (fun h => h)).lt; simp at pu1; clear hc1)
            | (go_at_call 15; refine (HVM.out _ HCu2.out).mono ?_; rintro e u3 ⟨G, Bc, dc, Bs, ds, rfl, hp3, hc3⟩; have HGB := Lib.hid (Blk.new u3 24 #[.slice (some ⟨G, 0, none⟩) m m]); have HCu3 := Lib.hid ((HCu2.out.trans hc3 (fun _ _ h => h)).alloc (.cells #[.slice (some ⟨G, 0, none⟩) m m] 24)); have HP3 := Lib.hid (hp3.chg ((Chg.refl (fun _ => False) u3).alloc (.cells #[.slice (some ⟨G, 0, none⟩) m m] 24))); have pu3 := (HB.out.kept HCu3.out (fun h => h)).cell 0; have plu3 := (HB.out.kept HCu3.out (fun h => h)).lt; simp at pu3; have g3 := HGB.out.cell 0; have gl3 := HGB.out.lt; simp at g3; clear hp3 hc3)
            | (go_at_call 9; have hck := vcheck_any m (HP3.out.chg (Chg.refl (fun _ => False) (u3.alloc (.cells #[.slice (some ⟨G, 0, none⟩) m m] 24)))) (HT.out.chg HCu3.out) hm; rw [HRR.out] at hck; refine hck.mono ?_; rintro e u5 ⟨rfl, hc5⟩; clear hck; have HCu5 := Lib.hid (HCu3.out.trans hc5 (fun _ _ h => h)); have HDu5 := Lib.hid ((Chg.refl (fun _ => False) (u3.alloc (.cells #[.slice (some ⟨G, 0, none⟩) m m] 24))).trans hc5 (fun _ _ h => h)); have gu5 := (HGB.out.kept HDu5.out (fun h => h)).cell 0; have glu5 := (HGB.out.kept HDu5.out (fun h => h)).lt; simp at gu5; obtain ⟨bG, oG, hGe, hbG, hcG⟩ := (HP3.out.chg HDu5.out).cells (by omega); cases hGe; obtain ⟨cG, _⟩ := hcG i hi; simp only [Nat.zero_add, hn] at cG; clear hcG hc5)
            | (go_at_call 9; refine (HCK.out _ HCu1.out).mono ?_; rintro e u2 ⟨rfl, hc2⟩; have HCu2 := Lib.hid (HCu1.out.trans hc2 (fun _ _ h => h)); have pu2 := (HB.out.kept HCu2.out (fun h => h)).cell 0; have plu2 := (HB.out.kept HCu2.out (fun h => h)).lt; simp at pu2; clear hc2))
          go_region_held3 (fun w' => w'.cell? ⟨u3.heap.size, 0, none⟩ = some (.slice (some ⟨G, 0, none⟩) m m)) (first | assumption)
            ((first
              | (go_at_call 15; refine (mend_any _ (HP3.out.chg HDu5.out.drew) (HT.out.chg HCu5.out.drew) hm20 HL1.out).mono ?_; rintro e u6 ⟨G2, Bd, dd, Bt, dt, rfl, hp6, hc6⟩; have HCu6 := Lib.hid (HCu5.out.drew.trans hc6 (fun _ _ h => h)); have HDu6 := Lib.hid (HDu5.out.drew.trans hc6 (fun _ _ h => h)); rw [HS2.out] at hp6; have HP6 := Lib.hid hp6; have gu6 := (HGB.out.kept HDu6.out (fun h => h)).cell 0; have glu6 := (HGB.out.kept HDu6.out (fun h => h)).lt; simp at gu6; clear hp6 hc6)
              | (go_at_call 14; refine (psame_any _ _ HP6.out (HP3.out.chg HDu6.out) hm20 HL2.out).mono ?_; rintro e u7 ⟨rfl, hc7⟩; have HCu7 := Lib.hid (HCu6.out.trans hc7 (fun _ _ h => h)); have HDu7 := Lib.hid (HDu6.out.trans hc7 (fun _ _ h => h)); have gu7 := (HGB.out.kept HDu7.out (fun h => h)).cell 0; have glu7 := (HGB.out.kept HDu7.out (fun h => h)).lt; simp at gu7; clear hc7)
              | (go_at_call 8; refine (alive_any _ (HT.out.chg HCu7.out)).mono ?_; rintro e u8 ⟨rfl, hc8⟩; have HCu8 := Lib.hid (HCu7.out.trans hc8 (fun _ _ h => h)); have HDu8 := Lib.hid (HDu7.out.trans hc8 (fun _ _ h => h)); have gu8 := (HGB.out.kept HDu8.out (fun h => h)).cell 0; have glu8 := (HGB.out.kept HDu8.out (fun h => h)).lt; simp at gu8; clear hc8)))
          all_goals go_simp
          all_goals go_wp2
          all_goals go_ret
          all_goals exact ⟨rfl, (HCB.out.trans HCu8.out (fun _ _ h => h)).toB⟩
        · have HRR := Lib.hid hrr
          clear hbad huns hrr
          go_enter Tryd.func6, Tryd.ntmps6
          go_wp2_with (first
            | (go_at_call 7; refine HLI.out.mono ?_; rintro e u1 ⟨rfl, hc1⟩; have HCu1 := Lib.hid hc1; have pu1 := (HB.out.kept HCu1.out (fun h => h)).cell 0; have plu1 := (HB.out.kept HCu1.out (fun h => h)).lt; simp at pu1; clear hc1)
            | (go_at_call 15; refine (HVM.out _ HCu2.out).mono ?_; rintro e u3 ⟨G, Bc, dc, Bs, ds, rfl, hp3, hc3⟩; have HGB := Lib.hid (Blk.new u3 24 #[.slice (some ⟨G, 0, none⟩) m m]); have HCu3 := Lib.hid ((HCu2.out.trans hc3 (fun _ _ h => h)).alloc (.cells #[.slice (some ⟨G, 0, none⟩) m m] 24)); have HP3 := Lib.hid (hp3.chg ((Chg.refl (fun _ => False) u3).alloc (.cells #[.slice (some ⟨G, 0, none⟩) m m] 24))); have pu3 := (HB.out.kept HCu3.out (fun h => h)).cell 0; have plu3 := (HB.out.kept HCu3.out (fun h => h)).lt; simp at pu3; have g3 := HGB.out.cell 0; have gl3 := HGB.out.lt; simp at g3; clear hp3 hc3)
            | (go_at_call 9; have hck := vcheck_any m (HP3.out.chg (Chg.refl (fun _ => False) (u3.alloc (.cells #[.slice (some ⟨G, 0, none⟩) m m] 24)))) (HT.out.chg HCu3.out) hm; rw [HRR.out] at hck; refine hck.mono ?_; rintro e u5 ⟨rfl, hc5⟩; clear hck; have HCu5 := Lib.hid (HCu3.out.trans hc5 (fun _ _ h => h)); have HDu5 := Lib.hid ((Chg.refl (fun _ => False) (u3.alloc (.cells #[.slice (some ⟨G, 0, none⟩) m m] 24))).trans hc5 (fun _ _ h => h)); have gu5 := (HGB.out.kept HDu5.out (fun h => h)).cell 0; have glu5 := (HGB.out.kept HDu5.out (fun h => h)).lt; simp at gu5; clear hc5)
            | (go_at_call 9; refine (HCK.out _ HCu1.out).mono ?_; rintro e u2 ⟨rfl, hc2⟩; have HCu2 := Lib.hid (HCu1.out.trans hc2 (fun _ _ h => h)); have pu2 := (HB.out.kept HCu2.out (fun h => h)).cell 0; have plu2 := (HB.out.kept HCu2.out (fun h => h)).lt; simp at pu2; clear hc2))
          go_region_held3 (fun w' => w'.cell? ⟨u3.heap.size, 0, none⟩ = some (.slice (some ⟨G, 0, none⟩) m m)) (first | assumption)
            ((first
              | (go_at_call 15; refine (mend_any _ (HP3.out.chg HDu5.out.drew) (HT.out.chg HCu5.out.drew) hm20 HL1.out).mono ?_; rintro e u6 ⟨G2, Bd, dd, Bt, dt, rfl, hp6, hc6⟩; have HCu6 := Lib.hid (HCu5.out.drew.trans hc6 (fun _ _ h => h)); have HDu6 := Lib.hid (HDu5.out.drew.trans hc6 (fun _ _ h => h)); rw [HS2.out] at hp6; have HP6 := Lib.hid hp6; have gu6 := (HGB.out.kept HDu6.out (fun h => h)).cell 0; have glu6 := (HGB.out.kept HDu6.out (fun h => h)).lt; simp at gu6; clear hp6 hc6)
              | (go_at_call 14; refine (psame_any _ _ HP6.out (HP3.out.chg HDu6.out) hm20 HL2.out).mono ?_; rintro e u7 ⟨rfl, hc7⟩; have HCu7 := Lib.hid (HCu6.out.trans hc7 (fun _ _ h => h)); have HDu7 := Lib.hid (HDu6.out.trans hc7 (fun _ _ h => h)); have gu7 := (HGB.out.kept HDu7.out (fun h => h)).cell 0; have glu7 := (HGB.out.kept HDu7.out (fun h => h)).lt; simp at gu7; clear hc7)
              | (go_at_call 8; refine (alive_any _ (HT.out.chg HCu7.out)).mono ?_; rintro e u8 ⟨rfl, hc8⟩; have HCu8 := Lib.hid (HCu7.out.trans hc8 (fun _ _ h => h)); have HDu8 := Lib.hid (HDu7.out.trans hc8 (fun _ _ h => h)); have gu8 := (HGB.out.kept HDu8.out (fun h => h)).cell 0; have glu8 := (HGB.out.kept HDu8.out (fun h => h)).lt; simp at gu8; clear hc8)))
          all_goals go_simp
          all_goals go_wp2
          all_goals go_ret
          all_goals exact ⟨rfl, (HCB.out.trans HCu8.out (fun _ _ h => h)).toB⟩
  · have HLI := Lib.hid (plight_no c HP.out hm hl)
    clear hl
    go_enter Tryd.func6, Tryd.ntmps6
    go_wp2_with (first
      | (go_at_call 7; refine HLI.out.mono ?_; rintro e u1 ⟨rfl, hc1⟩; have HC1 := Lib.hid hc1; clear hc1)
      | (go_at_call 8; refine (alive_any _ (HT.out.chg HC1.out)).mono ?_; rintro e u4 ⟨rfl, hc4⟩; have HC4 := Lib.hid (HC1.out.trans hc4 (fun _ _ h => h)); clear hc4))
    go_ret
    exact ⟨rfl, (HCB.out.trans HC4.out (fun _ _ h => h)).toB⟩
end Go.Proofs.YtkpipoicobmjkaaDoor
