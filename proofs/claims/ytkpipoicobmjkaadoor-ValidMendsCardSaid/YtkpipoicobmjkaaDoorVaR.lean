/- Programs that are the same. -/
import Derived.Test.YtkpipoicobmjkaaDoorVaQ
namespace Go.Proofs.YtkpipoicobmjkaaDoor
open Go.ChangeShapes Go.WideShapes Go.ChangeAt Go.RowKit Go.Deep
set_option linter.unusedVariables false
set_option linter.unusedSimpArgs false

section
variable {W : World} {A D : Option Addr} {m : Nat} {Ac : Nat → Option Addr} {nc cc : Nat → Nat} {As : Nat → Option Addr} {ns cs : Nat → Nat} {Bc : Nat → Option Addr} {dc : Nat → Nat} {Bs : Nat → Option Addr} {ds : Nat → Nat} {code : Nat → List (List Int)} {safe : Nat → List Bool}
set_option maxRecDepth 100000 in
set_option maxHeartbeats 16000000 in
theorem psame_any (c d : Nat) (hP : PM W A m Ac nc cc As ns cs code safe) (hQ : PM W D m Bc nc dc Bs ns ds code safe) (hm : m ≤ 20) (hl : ∀ i, i < m → nc i ≤ 1000 ∧ ns i ≤ 1000) :
    Calls Tryd.prog 14 #[.agg #[.slice A m c], .agg #[.slice D m d]] W fun e W' => e = .returned (.bool true) ∧ Chg (fun _ => False) W W' := by
  have hcb : Chg (fun _ => False) W ((W.alloc (.cells #[.slice A m c] 24)).alloc (.cells #[.slice D m d] 24)) := ((Chg.refl _ _).alloc _).alloc _
  have HB := Lib.hid ((Blk.new W 24 #[.slice A m c]).alloc (.cells #[.slice D m d] 24))
  have HD : Hid (Blk ((W.alloc (.cells #[.slice A m c] 24)).alloc (.cells #[.slice D m d] 24)) (W.heap.size + 1) 24 #[.slice D m d]) := Lib.hid (by
    have h := Blk.new (W.alloc (.cells #[.slice A m c] 24)) 24 #[.slice D m d]
    rw [show (W.alloc (.cells #[.slice A m c] 24)).heap.size = W.heap.size + 1 from by simp] at h
    exact h)
  have HP := Lib.hid (hP.chg hcb)
  have HQQ := Lib.hid (hQ.chg hcb)
  have HCB := Lib.hid hcb
  have HL := Lib.hid hl
  clear hP hQ hcb hl
  go_enter Tryd.func14, Tryd.ntmps14
  go_wp2
  go_loopw [5] (fun iv wr => ∃ k : Nat, k ≤ m ∧ iv = .int .i64 k ∧ Hid (Chg (fun _ => False) ((W.alloc (.cells #[.slice A m c] 24)).alloc (.cells #[.slice D m d] 24)) wr)) (fun iv _ => m - (intOf iv).toNat)
  case atStart => exact ⟨0, by omega, rfl, Lib.hid (Chg.refl _ _)⟩
  case round =>
    obtain ⟨k, hk, rfl, HC⟩ := hrel
    have k0 : (0 : Int) ≤ k := by omega
    have b0 := (HB.out.kept HC.out (fun h => h)).cell 0
    have b1 := (HD.out.kept HC.out (fun h => h)).cell 0
    have lb := (HD.out.kept HC.out (fun h => h)).lt
    simp at b0 b1
    by_cases hlt : k < m
    · have k1 : (k : Int) < m := by omega
      obtain ⟨b, o, rfl, hbl, hcc⟩ := (HP.out.chg HC.out).cells (by omega)
      obtain ⟨e0, e1⟩ := hcc k hlt
      obtain ⟨b', o', rfl, hbl', hcc'⟩ := (HQQ.out.chg HC.out).cells (by omega)
      obtain ⟨g0, g1⟩ := hcc' k hlt
      obtain ⟨n1, n2⟩ := HL.out k hlt
      have lb0 : W.heap.size < wr.heap.size := by omega
      have lb1 : W.heap.size < wr.heap.size + 1 := by omega
      have lb2 : W.heap.size + 1 < wr.heap.size + 1 := by omega
      have lb3 : b < wr.heap.size + 1 := by omega
      have lb4 : b' < wr.heap.size + 1 := by omega
      have HFX := Lib.hid (fun (V : World) (hc : Chg (fun _ => False) wr V) => ((HP.out.chg HC.out).chg hc).fn k hlt)
      have HGX := Lib.hid (fun (V : World) (hc : Chg (fun _ => False) wr V) => ((HQQ.out.chg HC.out).chg hc).fn k hlt)
      generalize Ac k = Ak at *
      generalize nc k = nk at *
      generalize cc k = ck at *
      generalize As k = Sk at *
      generalize ns k = mk at *
      generalize cs k = dk at *
      generalize Bc k = Bk at *
      generalize dc k = ek at *
      generalize Bs k = Tk at *
      generalize ds k = fk at *
      have HTR := Lib.hid (fun (V : World) (hc : Chg (fun _ => False) wr V) => show Calls Tryd.prog 22 #[.slice Sk mk dk, .slice Tk mk fk] V (fun e W' => e = .returned (.bool true) ∧ Chg (fun _ => False) V W') from (truths_yes Sk Tk mk mk dk fk (safe k) V (HFX.out V hc).s (HGX.out V hc).s (by omega)).mono (fun e W' h => by obtain ⟨h1, q, rfl⟩ := h; exact ⟨h1, (Chg.refl _ _).drewN q⟩))
      have H6a : Hid (Blk ((wr.alloc (.cells #[.slice Ak nk ck, .slice Sk mk dk] 33)).alloc (.cells #[.slice Bk nk ek, .slice Tk mk fk] 33)).drew wr.heap.size 33 #[.slice Ak nk ck, .slice Sk mk dk]) := Lib.hid ((Blk.new wr 33 #[.slice Ak nk ck, .slice Sk mk dk]).alloc _)
      have H7a : Hid (Blk ((wr.alloc (.cells #[.slice Ak nk ck, .slice Sk mk dk] 33)).alloc (.cells #[.slice Bk nk ek, .slice Tk mk fk] 33)).drew (wr.heap.size + 1) 33 #[.slice Bk nk ek, .slice Tk mk fk]) := Lib.hid (by
        have h := Blk.new (wr.alloc (.cells #[.slice Ak nk ck, .slice Sk mk dk] 33)) 33 #[.slice Bk nk ek, .slice Tk mk fk]
        rw [show (wr.alloc (.cells #[.slice Ak nk ck, .slice Sk mk dk] 33)).heap.size = wr.heap.size + 1 from by simp] at h
        exact h)
      have H7b : Hid (Blk ((wr.alloc (.cells #[.slice Bk nk ek, .slice Tk mk fk] 33)).alloc (.cells #[.slice Ak nk ck, .slice Sk mk dk] 33)).drew wr.heap.size 33 #[.slice Bk nk ek, .slice Tk mk fk]) := Lib.hid ((Blk.new wr 33 #[.slice Bk nk ek, .slice Tk mk fk]).alloc _)
      have H6b : Hid (Blk ((wr.alloc (.cells #[.slice Bk nk ek, .slice Tk mk fk] 33)).alloc (.cells #[.slice Ak nk ck, .slice Sk mk dk] 33)).drew (wr.heap.size + 1) 33 #[.slice Ak nk ck, .slice Sk mk dk]) := Lib.hid (by
        have h := Blk.new (wr.alloc (.cells #[.slice Bk nk ek, .slice Tk mk fk] 33)) 33 #[.slice Ak nk ck, .slice Sk mk dk]
        rw [show (wr.alloc (.cells #[.slice Bk nk ek, .slice Tk mk fk] 33)).heap.size = wr.heap.size + 1 from by simp] at h
        exact h)
      clear hcc hcc' HP HQQ HL HB HD
      go_wp2
      go_region
      · skip
        go_wp2_with (go_at_call 22; refine (HTR.out _ ((((Chg.refl _ wr).alloc _).alloc _).drew)).mono ?_; rintro e v1 ⟨rfl, hcv⟩; have HV := Lib.hid hcv; clear hcv)
        have h6 := H6a.out.kept HV.out (fun h => h)
        have h7 := H7a.out.kept HV.out (fun h => h)
        have HV1 : Hid (Chg (fun _ => False) wr v1) := Lib.hid (((((Chg.refl _ wr).alloc _).alloc _).drew).trans HV.out (fun _ _ h => h))
        have H6v := Lib.hid h6
        have H7v := Lib.hid h7
        have y6 := h6.cell 0
        have y7 := h7.cell 0
        simp at y6 y7
        clear h6 h7 HTR
        go_loopw [8] (fun iv wq => ∃ j : Nat, j ≤ nk ∧ iv = .int .i64 j ∧ Hid (Chg (fun _ => False) v1 wq)) (fun iv _ => nk - (intOf iv).toNat)
        case atStart => exact ⟨0, by omega, rfl, Lib.hid (Chg.refl _ _)⟩
        case round =>
          obtain ⟨j, hj, rfl, HQ⟩ := hrel
          have j0 : (0 : Int) ≤ j := by omega
          have z6 := (H6v.out.kept HQ.out (fun h => h)).cell 0
          have z7 := (H7v.out.kept HQ.out (fun h => h)).cell 0
          have l6 := (H6v.out.kept HQ.out (fun h => h)).lt
          have l7 := (H7v.out.kept HQ.out (fun h => h)).lt
          simp at z6 z7
          clear y6 y7
          by_cases hjl : j < nk
          · have j1 : (j : Int) < nk := by omega
            obtain ⟨bx, ox, hx, hbx, c0, c1, c2, c3, c4⟩ := (HFX.out _ (HV1.out.trans HQ.out (fun _ _ h => h))).instr hjl
            obtain ⟨by', oy, hy, hby, d0, d1, d2, d3, d4⟩ := (HGX.out _ (HV1.out.trans HQ.out (fun _ _ h => h))).instr hjl
            subst hx hy
            generalize ipart (code k) j 0 = i0 at *
            generalize ipart (code k) j 1 = i1 at *
            generalize ipart (code k) j 2 = i2 at *
            generalize ipart (code k) j 3 = i3 at *
            generalize ipart (code k) j 4 = i4 at *
            go_wp2
            go_quiet (fail)
            go_wp2
            go_roundw
            case rel => exact ⟨j + 1, by omega, by go_num, Lib.hid (HQ.out.drewN _)⟩
            case measure => simp [intOf]; omega
          · go_wp2
            go_roundw
            case rel => exact ⟨k + 1, by omega, by go_num, Lib.hid (HC.out.trans (HV1.out.trans HQ.out (fun _ _ h => h)) (fun _ _ h => h))⟩
            case measure => simp [intOf]; omega
      · skip
        go_wp2_with (go_at_call 22; refine (HTR.out _ ((((Chg.refl _ wr).alloc _).alloc _).drew)).mono ?_; rintro e v1 ⟨rfl, hcv⟩; have HV := Lib.hid hcv; clear hcv)
        have h6 := H6b.out.kept HV.out (fun h => h)
        have h7 := H7b.out.kept HV.out (fun h => h)
        have HV1 : Hid (Chg (fun _ => False) wr v1) := Lib.hid (((((Chg.refl _ wr).alloc _).alloc _).drew).trans HV.out (fun _ _ h => h))
        have H6v := Lib.hid h6
        have H7v := Lib.hid h7
        have y6 := h6.cell 0
        have y7 := h7.cell 0
        simp at y6 y7
        clear h6 h7 HTR
        go_loopw [8] (fun iv wq => ∃ j : Nat, j ≤ nk ∧ iv = .int .i64 j ∧ Hid (Chg (fun _ => False) v1 wq)) (fun iv _ => nk - (intOf iv).toNat)
        case atStart => exact ⟨0, by omega, rfl, Lib.hid (Chg.refl _ _)⟩
        case round =>
          obtain ⟨j, hj, rfl, HQ⟩ := hrel
          have j0 : (0 : Int) ≤ j := by omega
          have z6 := (H6v.out.kept HQ.out (fun h => h)).cell 0
          have z7 := (H7v.out.kept HQ.out (fun h => h)).cell 0
          have l6 := (H6v.out.kept HQ.out (fun h => h)).lt
          have l7 := (H7v.out.kept HQ.out (fun h => h)).lt
          simp at z6 z7
          clear y6 y7
          by_cases hjl : j < nk
          · have j1 : (j : Int) < nk := by omega
            obtain ⟨bx, ox, hx, hbx, c0, c1, c2, c3, c4⟩ := (HFX.out _ (HV1.out.trans HQ.out (fun _ _ h => h))).instr hjl
            obtain ⟨by', oy, hy, hby, d0, d1, d2, d3, d4⟩ := (HGX.out _ (HV1.out.trans HQ.out (fun _ _ h => h))).instr hjl
            subst hx hy
            generalize ipart (code k) j 0 = i0 at *
            generalize ipart (code k) j 1 = i1 at *
            generalize ipart (code k) j 2 = i2 at *
            generalize ipart (code k) j 3 = i3 at *
            generalize ipart (code k) j 4 = i4 at *
            go_wp2
            go_quiet (fail)
            go_wp2
            go_roundw
            case rel => exact ⟨j + 1, by omega, by go_num, Lib.hid (HQ.out.drewN _)⟩
            case measure => simp [intOf]; omega
          · go_wp2
            go_roundw
            case rel => exact ⟨k + 1, by omega, by go_num, Lib.hid (HC.out.trans (HV1.out.trans HQ.out (fun _ _ h => h)) (fun _ _ h => h))⟩
            case measure => simp [intOf]; omega
    · go_wp2
      go_ret
      exact ⟨rfl, HCB.out.trans HC.out (fun _ _ h => h)⟩
end
end Go.Proofs.YtkpipoicobmjkaaDoor
