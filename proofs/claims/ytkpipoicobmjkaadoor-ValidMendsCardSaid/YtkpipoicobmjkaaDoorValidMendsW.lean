/- The walk of the law ValidMends. -/
import Derived.Test.YtkpipoicobmjkaaDoorVaP
import Derived.Test.YtkpipoicobmjkaaDoorVaI2
import Derived.Test.YtkpipoicobmjkaaDoorVaQ
import Derived.Test.YtkpipoicobmjkaaDoorVaR
import Derived.Test.YtkpipoicobmjkaaDoorVaX
import Derived.Test.YtkpipoicobmjkaaDoorVaT
namespace Go.Proofs.YtkpipoicobmjkaaDoor
open Go.ChangeShapes Go.WideShapes Go.ChangeAt Go.RowKit Go.Deep
set_option linter.unusedVariables false
set_option linter.unusedSimpArgs false

set_option maxRecDepth 100000 in
set_option maxHeartbeats 8000000 in
theorem walk_validMends (cs0 : List Value) (d0 : ShProg.Den) (fn pc : Int) (w : World) (hL0 : Lies w ShProg cs0 d0) (w1 : (Lit.int .i64 fn).wf = true) (w2 : (Lit.int .i64 pc).wf = true) (hL : laidMetH Tryd.prog Rows.validMendsRow.laid w) :
    Calls Tryd.prog 4 #[Sh.val ShProg cs0, .int .i64 fn, .int .i64 pc] w fun e w' => e = .returned (.bool true) ∧ Below w.heap.size w w' := by
  obtain ⟨A, m, c, Ac, nc, cc, As, ns, cs, code, safe, h1, hm, hP⟩ := open_prog hL0
  rw [h1]
  have hT : Tab w := tab_of_laid hL
  clear hL hL0 h1 w1 w2
  have hcb : Chg (fun _ => False) w (w.alloc (.cells #[.slice A m c] 24)) := (Chg.refl _ _).alloc _
  have HB := Lib.hid (Blk.new w 24 #[.slice A m c])
  have HP := Lib.hid (hP.chg hcb)
  have HT := Lib.hid (hT.chg hcb)
  have HCB := Lib.hid hcb
  clear hP hT hcb
  by_cases hl : LightP m nc ns
  · have HLI := Lib.hid (plight_yes c HP.out hl)
    have hm20 : m ≤ 20 := hl.1
    have HLL : Hid (∀ i, i < m → nc i ≤ 100 ∧ ns i ≤ 1000) := Lib.hid (fun i hi => by have := hl.2 i hi; omega)
    have HL2 : Hid (∀ i, i < m → nc i ≤ 1000 ∧ nc i ≤ 1000) := Lib.hid (fun i hi => by have := HLL.out i hi; omega)
    have HVM := Lib.hid (fun V (hc : Chg (fun _ => False) (w.alloc (.cells #[.slice A m c] 24)) V) => mend_any c (HP.out.chg hc) (HT.out.chg hc) hm20 HLL.out)
    have HRM := Lib.hid (fun V (hc : Chg (fun _ => False) (w.alloc (.cells #[.slice A m c] 24)) V) => rmend_any c (HP.out.chg hc) hm20 HLL.out)
    clear hl
    by_cases hfn : 0 ≤ fn
    · by_cases hfm : fn < (m : Int)
      · obtain ⟨k, rfl⟩ : ∃ k : Nat, fn = k := ⟨fn.toNat, by omega⟩
        have hkm : k < m := by omega
        obtain ⟨b, o, rfl, hbl, hcc⟩ := HP.out.cells (by omega)
        obtain ⟨e0, e1⟩ := hcc k hkm
        have HFX := Lib.hid (fun (V : World) (hc : Chg (fun _ => False) (w.alloc (.cells #[.slice (some ⟨b, o, none⟩) m c] 24)) V) => (HP.out.chg hc).fn k hkm)
        obtain ⟨q1, q2⟩ := HLL.out k hkm
        generalize safe k = sf at *
        generalize code k = cd at *
        generalize Ac k = Ak at *
        generalize nc k = nk at *
        generalize cc k = ck at *
        generalize As k = Sk at *
        generalize ns k = mk at *
        generalize cs k = dk at *
        clear hcc
        go_enter Tryd.func4, Tryd.ntmps4
        go_wp2_with (go_at_call 7; refine HLI.out.mono ?_; rintro e u1 ⟨rfl, hc1⟩; have HC1 := Lib.hid hc1; have b1 := (HB.out.kept hc1 (fun h => h)).cell 0; have l1 := (HB.out.kept hc1 (fun h => h)).lt; simp at b1; have c0 := (hc1.cell (p := ⟨b, o + k * 2, none⟩) hbl (fun h => h)).trans e0; have c1 := (hc1.cell (p := ⟨b, o + k * 2 + 1, none⟩) hbl (fun h => h)).trans e1; have l2 := Nat.lt_of_lt_of_le hbl hc1.size; clear hc1)
        have HV5 := Lib.hid (HC1.out.alloc (.cells #[.slice Ak nk ck, .slice Sk mk dk] 33))
        have HFB := Lib.hid (Blk.new u1 33 #[.slice Ak nk ck, .slice Sk mk dk])
        have HST := Lib.hid (fun V (hc : Chg (fun _ => False) (u1.alloc (.cells #[.slice Ak nk ck, .slice Sk mk dk] 33)) V) => stops_any (cc := ck) (cs := dk) (HFX.out V (HV5.out.trans hc (fun _ _ h => h))) (by omega) (by omega) pc)
        have HRS := Lib.hid (fun V (hc : Chg (fun _ => False) (u1.alloc (.cells #[.slice Ak nk ck, .slice Sk mk dk] 33)) V) => rstops_any (cc := ck) (cs := dk) (HFX.out V (HV5.out.trans hc (fun _ _ h => h))) (by omega) (by omega) pc)
        have HPR := Lib.hid (fun V => prologue_any (Ac := Ak) (nc := nk) (cc := ck) (As := Sk) (ns := mk) (cs := dk) V (by omega) pc)
        generalize stopsF nk sf pc = sb at *
        have hs0 : (u1.alloc (.cells #[.slice Ak nk ck, .slice Sk mk dk] 33)).drew.cell? ⟨u1.heap.size, 0, none⟩ = some (.slice Ak nk ck) ∧ (u1.alloc (.cells #[.slice Ak nk ck, .slice Sk mk dk] 33)).drew.cell? ⟨u1.heap.size, 1, none⟩ = some (.slice Sk mk dk) := ⟨by simp, by simp⟩
        by_cases hpc : pc = 0
        · subst hpc
          by_cases hnk : 0 < nk
          · have hn1 : (0 : Int) < nk := by omega
            have hdp : decide ((0 : Int) = 0 ∧ 0 < nk) = true := by simpa using hnk
            rw [hdp] at HPR
            clear hdp
            first
              | go_region_held3 (fun w' => w'.cell? ⟨u1.heap.size, 0, none⟩ = some (.slice Ak nk ck) ∧ w'.cell? ⟨u1.heap.size, 1, none⟩ = some (.slice Sk mk dk)) (first | assumption)
                  ((first
                    | (go_at_call 11; refine (HPR.out _).mono ?_; rintro e x1 ⟨rfl, hd1⟩; have HKx1 := Lib.hid (((Chg.refl (fun _ => False) (u1.alloc (.cells #[.slice Ak nk ck, .slice Sk mk dk] 33))).drew).trans hd1 (fun _ _ h => h)); have hsx1 : x1.cell? ⟨u1.heap.size, 0, none⟩ = some (.slice Ak nk ck) ∧ x1.cell? ⟨u1.heap.size, 1, none⟩ = some (.slice Sk mk dk) := ⟨by have h := (HFB.out.kept HKx1.out (fun h => h)).cell 0; simpa using h, by have h := (HFB.out.kept HKx1.out (fun h => h)).cell 1; simpa using h⟩; clear hd1)
                    | (go_at_call 12; refine (HST.out _ HKx1.out).mono ?_; rintro e x2 ⟨rfl, hd2⟩; have HKx2 := Lib.hid (HKx1.out.trans hd2 (fun _ _ h => h)); have hsx2 : x2.cell? ⟨u1.heap.size, 0, none⟩ = some (.slice Ak nk ck) ∧ x2.cell? ⟨u1.heap.size, 1, none⟩ = some (.slice Sk mk dk) := ⟨by have h := (HFB.out.kept HKx2.out (fun h => h)).cell 0; simpa using h, by have h := (HFB.out.kept HKx2.out (fun h => h)).cell 1; simpa using h⟩; clear hd2)
                    | (go_at_call 13; refine (HRS.out _ HKx2.out).mono ?_; rintro e x3 ⟨rfl, hd3⟩; have HKx3 := Lib.hid (HKx2.out.trans hd3 (fun _ _ h => h)); have hsx3 : x3.cell? ⟨u1.heap.size, 0, none⟩ = some (.slice Ak nk ck) ∧ x3.cell? ⟨u1.heap.size, 1, none⟩ = some (.slice Sk mk dk) := ⟨by have h := (HFB.out.kept HKx3.out (fun h => h)).cell 0; simpa using h, by have h := (HFB.out.kept HKx3.out (fun h => h)).cell 1; simpa using h⟩; clear hd3)))
              | fail "R5"
            all_goals go_simp
            have HC7 := Lib.hid (HV5.out.trans HKx3.out (fun _ _ h => h))
            have b7 := (HB.out.kept HC7.out (fun h => h)).cell 0
            have l7 := (HB.out.kept HC7.out (fun h => h)).lt
            simp at b7
            go_wp2
            go_region_held3 (fun w' => w'.cell? ⟨w.heap.size, 0, none⟩ = some (.slice (some ⟨b, o, none⟩) m c)) (first | assumption)
              ((first
                | (go_at_call 15; refine (HVM.out _ (HC7.out.drew)).mono ?_; rintro e u2 ⟨G, Bc, dc, Bs, ds, rfl, hp2, hc2⟩; have HC2 := Lib.hid ((HC7.out.drew).trans hc2 (fun _ _ h => h)); have HP2 := Lib.hid hp2; have b2 := (HB.out.kept HC2.out (fun h => h)).cell 0; simp at b2; clear hp2 hc2)
                | (go_at_call 16; refine (HRM.out _ HC2.out).mono ?_; rintro e u3 ⟨Ao, co, Bd, dd, Bt, dt, rfl, hp3, hc3⟩; have HC3 := Lib.hid (HC2.out.trans hc3 (fun _ _ h => h)); have HP3 := Lib.hid hp3; have HP4 := Lib.hid (HP2.out.chg hc3); have b3 := (HB.out.kept HC3.out (fun h => h)).cell 0; simp at b3; clear hp3 hc3)
                | (go_at_call 14; refine (psame_any _ _ HP4.out HP3.out hm20 HL2.out).mono ?_; rintro e u4 ⟨rfl, hc4⟩; have HC4 := Lib.hid (HC3.out.trans hc4 (fun _ _ h => h)); have b4 := (HB.out.kept HC4.out (fun h => h)).cell 0; simp at b4; clear hc4)
                | (go_at_call 8; refine (alive_any _ (HT.out.chg HC4.out)).mono ?_; rintro e u5 ⟨rfl, hc5⟩; have HC5 := Lib.hid (HC4.out.trans hc5 (fun _ _ h => h)); have b5 := (HB.out.kept HC5.out (fun h => h)).cell 0; simp at b5; clear hc5)))
            all_goals go_simp
            all_goals go_wp2
            all_goals go_ret
            all_goals exact ⟨rfl, (HCB.out.trans HC5.out (fun _ _ h => h)).toB⟩
          · have hn1 : ¬ (0 : Int) < nk := by omega
            have hdp : decide ((0 : Int) = 0 ∧ 0 < nk) = false := by simp; omega
            rw [hdp] at HPR
            clear hdp
            first
              | go_region_held3 (fun w' => w'.cell? ⟨u1.heap.size, 0, none⟩ = some (.slice Ak nk ck) ∧ w'.cell? ⟨u1.heap.size, 1, none⟩ = some (.slice Sk mk dk)) (first | assumption)
                  ((first
                    | (go_at_call 11; refine (HPR.out _).mono ?_; rintro e x1 ⟨rfl, hd1⟩; have HKx1 := Lib.hid (((Chg.refl (fun _ => False) (u1.alloc (.cells #[.slice Ak nk ck, .slice Sk mk dk] 33))).drew).trans hd1 (fun _ _ h => h)); have hsx1 : x1.cell? ⟨u1.heap.size, 0, none⟩ = some (.slice Ak nk ck) ∧ x1.cell? ⟨u1.heap.size, 1, none⟩ = some (.slice Sk mk dk) := ⟨by have h := (HFB.out.kept HKx1.out (fun h => h)).cell 0; simpa using h, by have h := (HFB.out.kept HKx1.out (fun h => h)).cell 1; simpa using h⟩; clear hd1)
                    | (go_at_call 12; refine (HST.out _ HKx1.out).mono ?_; rintro e x2 ⟨rfl, hd2⟩; have HKx2 := Lib.hid (HKx1.out.trans hd2 (fun _ _ h => h)); have hsx2 : x2.cell? ⟨u1.heap.size, 0, none⟩ = some (.slice Ak nk ck) ∧ x2.cell? ⟨u1.heap.size, 1, none⟩ = some (.slice Sk mk dk) := ⟨by have h := (HFB.out.kept HKx2.out (fun h => h)).cell 0; simpa using h, by have h := (HFB.out.kept HKx2.out (fun h => h)).cell 1; simpa using h⟩; clear hd2)
                    | (go_at_call 13; refine (HRS.out _ HKx2.out).mono ?_; rintro e x3 ⟨rfl, hd3⟩; have HKx3 := Lib.hid (HKx2.out.trans hd3 (fun _ _ h => h)); have hsx3 : x3.cell? ⟨u1.heap.size, 0, none⟩ = some (.slice Ak nk ck) ∧ x3.cell? ⟨u1.heap.size, 1, none⟩ = some (.slice Sk mk dk) := ⟨by have h := (HFB.out.kept HKx3.out (fun h => h)).cell 0; simpa using h, by have h := (HFB.out.kept HKx3.out (fun h => h)).cell 1; simpa using h⟩; clear hd3)))
              | fail "R5"
            all_goals go_simp
            have HC7 := Lib.hid (HV5.out.trans HKx3.out (fun _ _ h => h))
            have b7 := (HB.out.kept HC7.out (fun h => h)).cell 0
            have l7 := (HB.out.kept HC7.out (fun h => h)).lt
            simp at b7
            go_wp2
            go_region_held3 (fun w' => w'.cell? ⟨w.heap.size, 0, none⟩ = some (.slice (some ⟨b, o, none⟩) m c)) (first | assumption)
              ((first
                | (go_at_call 15; refine (HVM.out _ (HC7.out.drew)).mono ?_; rintro e u2 ⟨G, Bc, dc, Bs, ds, rfl, hp2, hc2⟩; have HC2 := Lib.hid ((HC7.out.drew).trans hc2 (fun _ _ h => h)); have HP2 := Lib.hid hp2; have b2 := (HB.out.kept HC2.out (fun h => h)).cell 0; simp at b2; clear hp2 hc2)
                | (go_at_call 16; refine (HRM.out _ HC2.out).mono ?_; rintro e u3 ⟨Ao, co, Bd, dd, Bt, dt, rfl, hp3, hc3⟩; have HC3 := Lib.hid (HC2.out.trans hc3 (fun _ _ h => h)); have HP3 := Lib.hid hp3; have HP4 := Lib.hid (HP2.out.chg hc3); have b3 := (HB.out.kept HC3.out (fun h => h)).cell 0; simp at b3; clear hp3 hc3)
                | (go_at_call 14; refine (psame_any _ _ HP4.out HP3.out hm20 HL2.out).mono ?_; rintro e u4 ⟨rfl, hc4⟩; have HC4 := Lib.hid (HC3.out.trans hc4 (fun _ _ h => h)); have b4 := (HB.out.kept HC4.out (fun h => h)).cell 0; simp at b4; clear hc4)
                | (go_at_call 8; refine (alive_any _ (HT.out.chg HC4.out)).mono ?_; rintro e u5 ⟨rfl, hc5⟩; have HC5 := Lib.hid (HC4.out.trans hc5 (fun _ _ h => h)); have b5 := (HB.out.kept HC5.out (fun h => h)).cell 0; simp at b5; clear hc5)))
            all_goals go_simp
            all_goals go_wp2
            all_goals go_ret
            all_goals exact ⟨rfl, (HCB.out.trans HC5.out (fun _ _ h => h)).toB⟩
        · have hdp : decide (pc = 0 ∧ 0 < nk) = false := by simp [hpc]
          rw [hdp] at HPR
          clear hdp
          obtain ⟨p0, q0⟩ := hs0
          first
            | go_region_with
              ((first
                  | (go_at_call 11; refine (HPR.out _).mono ?_; rintro e x1 ⟨rfl, hd1⟩; have HKx1 := Lib.hid (((Chg.refl (fun _ => False) (u1.alloc (.cells #[.slice Ak nk ck, .slice Sk mk dk] 33))).drew).trans hd1 (fun _ _ h => h)); have hsx1 : x1.cell? ⟨u1.heap.size, 0, none⟩ = some (.slice Ak nk ck) ∧ x1.cell? ⟨u1.heap.size, 1, none⟩ = some (.slice Sk mk dk) := ⟨by have h := (HFB.out.kept HKx1.out (fun h => h)).cell 0; simpa using h, by have h := (HFB.out.kept HKx1.out (fun h => h)).cell 1; simpa using h⟩; obtain ⟨px1, qx1⟩ := hsx1; clear hd1)
                  | (go_at_call 12; refine (HST.out _ HKx1.out).mono ?_; rintro e x2 ⟨rfl, hd2⟩; have HKx2 := Lib.hid (HKx1.out.trans hd2 (fun _ _ h => h)); have hsx2 : x2.cell? ⟨u1.heap.size, 0, none⟩ = some (.slice Ak nk ck) ∧ x2.cell? ⟨u1.heap.size, 1, none⟩ = some (.slice Sk mk dk) := ⟨by have h := (HFB.out.kept HKx2.out (fun h => h)).cell 0; simpa using h, by have h := (HFB.out.kept HKx2.out (fun h => h)).cell 1; simpa using h⟩; obtain ⟨px2, qx2⟩ := hsx2; clear hd2)
                  | (go_at_call 13; refine (HRS.out _ HKx2.out).mono ?_; rintro e x3 ⟨rfl, hd3⟩; have HKx3 := Lib.hid (HKx2.out.trans hd3 (fun _ _ h => h)); have hsx3 : x3.cell? ⟨u1.heap.size, 0, none⟩ = some (.slice Ak nk ck) ∧ x3.cell? ⟨u1.heap.size, 1, none⟩ = some (.slice Sk mk dk) := ⟨by have h := (HFB.out.kept HKx3.out (fun h => h)).cell 0; simpa using h, by have h := (HFB.out.kept HKx3.out (fun h => h)).cell 1; simpa using h⟩; obtain ⟨px3, qx3⟩ := hsx3; clear hd3)))
            | fail "R5"
          all_goals go_simp
          all_goals (
            have HC7 := Lib.hid (HV5.out.trans HKx3.out (fun _ _ h => h))
            have b7 := (HB.out.kept HC7.out (fun h => h)).cell 0
            have l7 := (HB.out.kept HC7.out (fun h => h)).lt
            simp at b7
            go_wp2
            go_region_held3 (fun w' => w'.cell? ⟨w.heap.size, 0, none⟩ = some (.slice (some ⟨b, o, none⟩) m c)) (first | assumption)
              ((first
                | (go_at_call 15; refine (HVM.out _ (HC7.out.drew)).mono ?_; rintro e u2 ⟨G, Bc, dc, Bs, ds, rfl, hp2, hc2⟩; have HC2 := Lib.hid ((HC7.out.drew).trans hc2 (fun _ _ h => h)); have HP2 := Lib.hid hp2; have b2 := (HB.out.kept HC2.out (fun h => h)).cell 0; simp at b2; clear hp2 hc2)
                | (go_at_call 16; refine (HRM.out _ HC2.out).mono ?_; rintro e u3 ⟨Ao, co, Bd, dd, Bt, dt, rfl, hp3, hc3⟩; have HC3 := Lib.hid (HC2.out.trans hc3 (fun _ _ h => h)); have HP3 := Lib.hid hp3; have HP4 := Lib.hid (HP2.out.chg hc3); have b3 := (HB.out.kept HC3.out (fun h => h)).cell 0; simp at b3; clear hp3 hc3)
                | (go_at_call 14; refine (psame_any _ _ HP4.out HP3.out hm20 HL2.out).mono ?_; rintro e u4 ⟨rfl, hc4⟩; have HC4 := Lib.hid (HC3.out.trans hc4 (fun _ _ h => h)); have b4 := (HB.out.kept HC4.out (fun h => h)).cell 0; simp at b4; clear hc4)
                | (go_at_call 8; refine (alive_any _ (HT.out.chg HC4.out)).mono ?_; rintro e u5 ⟨rfl, hc5⟩; have HC5 := Lib.hid (HC4.out.trans hc5 (fun _ _ h => h)); have b5 := (HB.out.kept HC5.out (fun h => h)).cell 0; simp at b5; clear hc5)))
            all_goals go_simp
            all_goals go_wp2
            all_goals go_ret
            all_goals exact ⟨rfl, (HCB.out.trans HC5.out (fun _ _ h => h)).toB⟩)
      · go_enter Tryd.func4, Tryd.ntmps4
        go_wp2_with (go_at_call 7; refine HLI.out.mono ?_; rintro e u1 ⟨rfl, hc1⟩; have HC1 := Lib.hid hc1; have b1 := (HB.out.kept hc1 (fun h => h)).cell 0; have l1 := (HB.out.kept hc1 (fun h => h)).lt; simp at b1; clear hc1)
        go_region_held3 (fun w' => w'.cell? ⟨w.heap.size, 0, none⟩ = some (.slice A m c)) (first | assumption)
          ((first
            | (go_at_call 15; refine (HVM.out _ (HC1.out.drew)).mono ?_; rintro e u2 ⟨G, Bc, dc, Bs, ds, rfl, hp2, hc2⟩; have HC2 := Lib.hid ((HC1.out.drew).trans hc2 (fun _ _ h => h)); have HP2 := Lib.hid hp2; have b2 := (HB.out.kept HC2.out (fun h => h)).cell 0; simp at b2; clear hp2 hc2)
            | (go_at_call 16; refine (HRM.out _ HC2.out).mono ?_; rintro e u3 ⟨Ao, co, Bd, dd, Bt, dt, rfl, hp3, hc3⟩; have HC3 := Lib.hid (HC2.out.trans hc3 (fun _ _ h => h)); have HP3 := Lib.hid hp3; have HP4 := Lib.hid (HP2.out.chg hc3); have b3 := (HB.out.kept HC3.out (fun h => h)).cell 0; simp at b3; clear hp3 hc3)
            | (go_at_call 14; refine (psame_any _ _ HP4.out HP3.out hm20 HL2.out).mono ?_; rintro e u4 ⟨rfl, hc4⟩; have HC4 := Lib.hid (HC3.out.trans hc4 (fun _ _ h => h)); have b4 := (HB.out.kept HC4.out (fun h => h)).cell 0; simp at b4; clear hc4)
            | (go_at_call 8; refine (alive_any _ (HT.out.chg HC4.out)).mono ?_; rintro e u5 ⟨rfl, hc5⟩; have HC5 := Lib.hid (HC4.out.trans hc5 (fun _ _ h => h)); have b5 := (HB.out.kept HC5.out (fun h => h)).cell 0; simp at b5; clear hc5)))
        all_goals go_simp
        all_goals go_wp2
        all_goals go_ret
        all_goals exact ⟨rfl, (HCB.out.trans HC5.out (fun _ _ h => h)).toB⟩
    · go_enter Tryd.func4, Tryd.ntmps4
      go_wp2_with (go_at_call 7; refine HLI.out.mono ?_; rintro e u1 ⟨rfl, hc1⟩; have HC1 := Lib.hid hc1; have b1 := (HB.out.kept hc1 (fun h => h)).cell 0; have l1 := (HB.out.kept hc1 (fun h => h)).lt; simp at b1; clear hc1)
      go_region_held3 (fun w' => w'.cell? ⟨w.heap.size, 0, none⟩ = some (.slice A m c)) (first | assumption)
        ((first
          | (go_at_call 15; refine (HVM.out _ (HC1.out.drew)).mono ?_; rintro e u2 ⟨G, Bc, dc, Bs, ds, rfl, hp2, hc2⟩; have HC2 := Lib.hid ((HC1.out.drew).trans hc2 (fun _ _ h => h)); have HP2 := Lib.hid hp2; have b2 := (HB.out.kept HC2.out (fun h => h)).cell 0; simp at b2; clear hp2 hc2)
          | (go_at_call 16; refine (HRM.out _ HC2.out).mono ?_; rintro e u3 ⟨Ao, co, Bd, dd, Bt, dt, rfl, hp3, hc3⟩; have HC3 := Lib.hid (HC2.out.trans hc3 (fun _ _ h => h)); have HP3 := Lib.hid hp3; have HP4 := Lib.hid (HP2.out.chg hc3); have b3 := (HB.out.kept HC3.out (fun h => h)).cell 0; simp at b3; clear hp3 hc3)
          | (go_at_call 14; refine (psame_any _ _ HP4.out HP3.out hm20 HL2.out).mono ?_; rintro e u4 ⟨rfl, hc4⟩; have HC4 := Lib.hid (HC3.out.trans hc4 (fun _ _ h => h)); have b4 := (HB.out.kept HC4.out (fun h => h)).cell 0; simp at b4; clear hc4)
          | (go_at_call 8; refine (alive_any _ (HT.out.chg HC4.out)).mono ?_; rintro e u5 ⟨rfl, hc5⟩; have HC5 := Lib.hid (HC4.out.trans hc5 (fun _ _ h => h)); have b5 := (HB.out.kept HC5.out (fun h => h)).cell 0; simp at b5; clear hc5)))
      all_goals go_simp
      all_goals go_wp2
      all_goals go_ret
      all_goals exact ⟨rfl, (HCB.out.trans HC5.out (fun _ _ h => h)).toB⟩
  · have HLI := Lib.hid (plight_no c HP.out hm hl)
    clear hl
    go_enter Tryd.func4, Tryd.ntmps4
    go_wp2_with (first
      | (go_at_call 7; refine HLI.out.mono ?_; rintro e u1 ⟨rfl, hc1⟩; have HC1 := Lib.hid hc1; clear hc1)
      | (go_at_call 8; refine (alive_any _ (HT.out.chg HC1.out)).mono ?_; rintro e u4 ⟨rfl, hc4⟩; have HC4 := Lib.hid (HC1.out.trans hc4 (fun _ _ h => h)); clear hc4))
    go_ret
    exact ⟨rfl, (HCB.out.trans HC4.out (fun _ _ h => h)).toB⟩
end Go.Proofs.YtkpipoicobmjkaaDoor
