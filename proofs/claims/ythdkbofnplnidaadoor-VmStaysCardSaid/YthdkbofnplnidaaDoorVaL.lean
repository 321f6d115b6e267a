/- What is wrong with a function first, by the program. -/
import Derived.Test.YthdkbofnplnidaaDoorVaK
namespace Go.Proofs.YthdkbofnplnidaaDoor
open Go.ChangeShapes Go.WideShapes Go.ChangeAt Go.RowKit Go.Deep
set_option linter.unusedVariables false
set_option linter.unusedSimpArgs false

/-- The two boxes of a function, and what they hold. -/
structure FX (W : World) (B D : Nat) (Ac : Option Addr) (nc cc : Nat) (As : Option Addr) (ns cs : Nat) (code : List (List Int)) (safe : List Bool) : Prop where
  t : Tab W
  f : FM W Ac nc As ns code safe
  b : Blk W B 48 #[.slice Ac nc cc, .slice As ns cs]
  d : Blk W D 48 #[.slice Ac nc cc, .slice As ns cs]
theorem FX.chg {W W' : World} {B D nc cc ns cs : Nat} {Ac As : Option Addr} {code : List (List Int)} {safe : List Bool} (h : FX W B D Ac nc cc As ns cs code safe) (hc : Chg (fun _ => False) W W') : FX W' B D Ac nc cc As ns cs code safe :=
  ⟨h.t.chg hc, h.f.chg hc, h.b.kept hc (fun h => h), h.d.kept hc (fun h => h)⟩
section
variable {Ac As : Option Addr} {nc cc ns cs : Nat} {code : List (List Int)} {safe : List Bool}
set_option maxHeartbeats 1000000 in
theorem func_short (hnc : nc = 0 ∨ 64 < nc ∨ (0 < nc ∧ nc ≤ 64 ∧ ns ≠ nc)) (hmx : nc ≤ 9223372036854775807) (hmy : ns ≤ 9223372036854775807) (funcs : Nat) (W : World) :
    Calls Tryd.prog 34 #[.agg #[.slice Ac nc cc, .slice As ns cs], .int .i64 (funcs : Int)] W fun e W' => e = .returned (.tuple #[.int .i64 (-1), .int .i64 (if nc = 0 then 6 else if 64 < nc then 5 else 9)]) ∧ Chg (fun _ => False) W W' := by
  rcases hnc with rfl | h | ⟨h1, h2, h3⟩
  · go_enter Tryd.func34, Tryd.ntmps34
    go_wp2_with fail
    go_step3
    go_wp2_with fail
    rw [Exit.noGoto_ret]
    go_ret2
    exact ⟨rfl, (Chg.refl _ _).alloc _⟩
  · have e : (if nc = 0 then (6 : Int) else if 64 < nc then 5 else 9) = 5 := by rw [if_neg (by omega), if_pos h]
    rw [e]
    have h0 : ((nc : Int) == 0) = false := beq_eq_false_iff_ne.2 (by omega)
    have h1 : (64 : Int) < nc := by omega
    clear e h
    go_enter Tryd.func34, Tryd.ntmps34
    go_wp2_with fail
    go_step3
    go_wp2_with fail
    rw [Exit.noGoto_ret]
    go_ret2
    exact ⟨rfl, (Chg.refl _ _).alloc _⟩
  · have e : (if nc = 0 then (6 : Int) else if 64 < nc then 5 else 9) = 9 := by rw [if_neg (by omega), if_neg (by omega)]
    rw [e]
    have h0 : ((nc : Int) == 0) = false := beq_eq_false_iff_ne.2 (by omega)
    have h1' : ¬ (64 : Int) < nc := by omega
    have h4 : ((ns : Int) == (nc : Int)) = false := beq_eq_false_iff_ne.2 (by omega)
    have h5 : ¬ ns = nc := h3
    clear e h1 h2 h3
    go_enter Tryd.func34, Tryd.ntmps34
    go_wp2_with fail
    go_step3
    go_wp2_with fail
    rw [Exit.noGoto_ret]
    go_ret2
    exact ⟨rfl, (Chg.refl _ _).alloc _⟩
def RoundFn (W0 : World) (g : Nat → Int) (r : Int × Int) (n : Nat) (j k : Nat) (wr : World) : Prop := r = fscan g j k ∧ Chg (fun _ => False) W0 wr
abbrev boxW (W : World) (Ac : Option Addr) (nc cc : Nat) (As : Option Addr) (ns cs : Nat) : World := (W.alloc (.cells #[.slice Ac nc cc, .slice As ns cs] 48)).alloc (.cells #[.slice Ac nc cc, .slice As ns cs] 48)
set_option maxRecDepth 100000 in
set_option maxHeartbeats 16000000 in
theorem func_long {W : World} (hF : FM W Ac nc As ns code safe) (hT : Tab W) (h0 : 0 < nc) (h64 : nc ≤ 64) (hs : ns = nc) (funcs : Nat) (hfu : funcs ≤ 1000) :
    Calls Tryd.prog 34 #[.agg #[.slice Ac nc cc, .slice As ns cs], .int .i64 (funcs : Int)] W fun e W' => e = .returned (.tuple #[.int .i64 (fscan (wrongAt code safe nc funcs) nc 0).1, .int .i64 (fscan (wrongAt code safe nc funcs) nc 0).2]) ∧ Chg (fun _ => False) W W' := by
  subst hs
  have hf : Blk (W.alloc (.cells #[.slice Ac ns cc, .slice As ns cs] 48)) W.heap.size 48 #[.slice Ac ns cc, .slice As ns cs] := Blk.new _ _ _
  have hg : Blk (boxW W Ac ns cc As ns cs) (W.heap.size + 1) 48 #[.slice Ac ns cc, .slice As ns cs] := by
    have h := Blk.new (W.alloc (.cells #[.slice Ac ns cc, .slice As ns cs] 48)) 48 #[.slice Ac ns cc, .slice As ns cs]
    rw [show (W.alloc (.cells #[.slice Ac ns cc, .slice As ns cs] 48)).heap.size = W.heap.size + 1 from by simp] at h
    exact h
  have hcb : Chg (fun _ => False) W (boxW W Ac ns cc As ns cs) := ((Chg.refl _ _).alloc _).alloc _
  have HX0 := Lib.hid (show FX (boxW W Ac ns cc As ns cs) W.heap.size (W.heap.size + 1) Ac ns cc As ns cs code safe from ⟨hT.chg hcb, hF.chg hcb, hf.alloc _, hg⟩)
  have HCB := Lib.hid hcb
  have n0 : ((ns : Int) == 0) = false := beq_eq_false_iff_ne.2 (by omega)
  have n1 : ¬ (64 : Int) < ns := by omega
  obtain ⟨gw, hgw⟩ : ∃ gw, gw = wrongAt code safe ns funcs := ⟨_, rfl⟩
  rw [← hgw]
  obtain ⟨res, hres⟩ : ∃ res, res = fscan gw ns 0 := ⟨_, rfl⟩
  rw [← hres]
  have HG := Lib.hid hgw
  have HRS := Lib.hid hres
  clear hf hg hcb hF hT hgw hres
  go_enter Tryd.func34, Tryd.ntmps34
  go_wp2_with fail
  go_step3
  go_wp2_with (go_at_call 44; go_in)
  go_step3
  go_wp2_with fail
  go_loopg [7, 8, 32] ns (fun j wv fv iv wr => ∃ k : Nat, k ≤ ns ∧ j + k = ns ∧ iv = .int .i64 k ∧ wv = .int .i64 (-1) ∧ fv = .int .i64 0 ∧ Hid (RoundFn (boxW W Ac ns cc As ns cs) gw res ns j k wr))
  case atStart => exact ⟨0, by omega, by omega, rfl, rfl, rfl, Lib.hid ⟨HRS.out, Chg.refl _ _⟩⟩
  case round =>
    obtain ⟨k, hk, hj, rfl, rfl, rfl, hR⟩ := hrel
    obtain ⟨hr, hc⟩ := hR.out
    have k0 : (0 : Int) ≤ k := by omega
    have HX := Lib.hid (HX0.out.chg hc)
    have b0 := HX.out.b.cell 0
    simp at b0
    have HR := Lib.hid hr
    have HC := Lib.hid hc
    clear hr hc hR HX0 HRS
    by_cases hlt : k < ns
    · have k1 : (k : Int) < ns := by omega
      obtain ⟨g, rfl⟩ : ∃ g, gk = g + 1 := ⟨gk - 1, by omega⟩
      obtain ⟨b, o, hAc, hb, c0, c1, c2, c3, c4⟩ := HX.out.f.instr hlt
      obtain ⟨bs, os, hAs, hbs, hcs⟩ := HX.out.f.safe_ (by omega)
      subst hAc hAs
      have s0 := hcs k hlt
      have HSP := Lib.hid (fun (h1 : k + 1 < ns) => hcs (k + 1) h1)
      obtain ⟨op, hop⟩ : ∃ op, op = ipart code k 0 := ⟨_, rfl⟩
      obtain ⟨iA, hiA⟩ : ∃ x, x = ipart code k 1 := ⟨_, rfl⟩
      obtain ⟨iB, hiB⟩ : ∃ x, x = ipart code k 2 := ⟨_, rfl⟩
      obtain ⟨iC, hiC⟩ : ∃ x, x = ipart code k 3 := ⟨_, rfl⟩
      obtain ⟨iN, hiN⟩ : ∃ x, x = ipart code k 4 := ⟨_, rfl⟩
      rw [← hop] at c0
      rw [← hiA] at c1
      rw [← hiB] at c2
      rw [← hiC] at c3
      rw [← hiN] at c4
      obtain ⟨v, hv⟩ : ∃ v, chkI op iA iB iC iN (ns : Int) (funcs : Int) = v := ⟨_, rfl⟩
      obtain ⟨wb, hwb⟩ : ∃ wb, wtI op = wb := ⟨_, rfl⟩
      obtain ⟨eb, heb⟩ : ∃ eb, enI op = eb := ⟨_, rfl⟩
      obtain ⟨sk, hsk⟩ : ∃ sk, safe.getD k false = sk := ⟨_, rfl⟩
      obtain ⟨sn, hsn⟩ : ∃ sn, safe.getD (k + 1) false = sn := ⟨_, rfl⟩
      rw [hsk] at s0
      rw [hsn] at HSP
      have HCK := Lib.hid (fun V (hT : Tab V) => show Calls Tryd.prog 45 #[.agg #[.int .i64 op, .int .i64 iA, .int .i64 iB, .int .i64 iC, .int .i64 iN], .int .i64 (ns : Int), .int .i64 (funcs : Int)] V (fun e W' => e = .returned (.int .i64 v) ∧ Chg (fun _ => False) V W') from by rw [← hv]; exact check_c op iA iB iC iN ns funcs V hT)
      have HWT := Lib.hid (fun V (hX : FX V W.heap.size (W.heap.size + 1) (some ⟨b, o, none⟩) ns cc (some ⟨bs, os, none⟩) ns cs code safe) => show Calls Tryd.prog 50 (#[.int .i64 (k : Int)] ++ #[.pointer (some ⟨W.heap.size + 1, 0, none⟩)]) V (fun e W' => e = .returned (.bool wb) ∧ Chg (fun _ => False) V W') from by rw [← hwb, hop]; exact wait_any cc cs (W.heap.size + 1) k V hX.t hX.f hlt (by omega) hX.d)
      have HEN := Lib.hid (fun V (hT : Tab V) => show Calls Tryd.prog 46 #[.int .i64 op] V (fun e W' => e = .returned (.bool eb) ∧ Chg (fun _ => False) V W') from by rw [← heb]; exact ends_any op V hT)
      have HV : Hid (gw k = if v ≠ 0 then v else if wb = true ∧ ¬ (sk = true ∧ k + 1 < ns ∧ sn = true) then 10 else if k + 1 = ns ∧ eb = false then 11 else 0) := Lib.hid (by rw [HG.out, ← hv, ← hwb, ← heb, ← hsk, ← hsn, hop, hiA, hiB, hiC, hiN]; rfl)
      clear hcs hv hwb heb hsk hsn hop hiA hiB hiC hiN
      by_cases hv0 : v = 0
      · subst hv0
        cases wb with
        | false =>
          by_cases hl : k + 1 < ns
          · skip
            have l0 : ((k : Int) == (ns : Int) - 1) = false := beq_eq_false_iff_ne.2 (by omega)
            have l1 : ¬ k + 1 = ns := by omega
            have HWR : Hid (gw k = 0) := Lib.hid (by rw [HV.out]; simp [l1])
            clear l1
            clear HV HSP
            go_wp2_with (first
              | (go_at_call 45; refine (HCK.out _ (HX.out.t.alloc _)).mono ?_; rintro e w1 ⟨rfl, hc1⟩; have HQ1 := Lib.hid (((Chg.refl (fun _ => False) wr).alloc (.cells #[.int .i64 op, .int .i64 iA, .int .i64 iB, .int .i64 iC, .int .i64 iN] 32)).trans hc1 (fun _ _ h => h)); have HX1 := Lib.hid (HX.out.chg HQ1.out); have HK1 := Lib.hid (HC.out.trans HQ1.out (fun _ _ h => h)); have HB1 := Lib.hid ((Blk.new wr 32 #[.int .i64 op, .int .i64 iA, .int .i64 iB, .int .i64 iC, .int .i64 iN]).kept hc1 (fun h => h)); clear hc1)
              | (go_at_call 50; refine (HWT.out _ HX1.out).mono ?_; rintro e w2 ⟨rfl, hc2⟩; have HQ2 := Lib.hid (HQ1.out.trans hc2 (fun _ _ h => h)); have HX2 := Lib.hid (HX1.out.chg hc2); have HK2 := Lib.hid (HK1.out.trans hc2 (fun _ _ h => h)); have HB2 := Lib.hid (HB1.out.kept hc2 (fun h => h)); have y0 := HB2.out.cell 0; have y9 := HB2.out.lt; have b1 := HX2.out.b.cell 1; have b9 := HX2.out.b.lt; have t0 := (HQ2.out.cell (p := ⟨bs, os + k, none⟩) hbs (fun h => h)).trans s0; simp at y0 b1; clear hc2))
            go_roundg g
            case rel => exact ⟨k + 1, by omega, by omega, by go_num, rfl, rfl, Lib.hid ⟨HR.out.trans (fscan_miss gw HWR.out), HK2.out⟩⟩
            case measure => omega
          · have hl1 : k + 1 = ns := by omega
            have l0 : ((k : Int) == (ns : Int) - 1) = true := beq_iff_eq.2 (by omega)
            cases eb with
            | true =>
              have HWR : Hid (gw k = 0) := Lib.hid (by rw [HV.out]; simp)
              clear HV HSP
              go_wp2_with (first
                | (go_at_call 45; refine (HCK.out _ (HX.out.t.alloc _)).mono ?_; rintro e w1 ⟨rfl, hc1⟩; have HQ1 := Lib.hid (((Chg.refl (fun _ => False) wr).alloc (.cells #[.int .i64 op, .int .i64 iA, .int .i64 iB, .int .i64 iC, .int .i64 iN] 32)).trans hc1 (fun _ _ h => h)); have HX1 := Lib.hid (HX.out.chg HQ1.out); have HK1 := Lib.hid (HC.out.trans HQ1.out (fun _ _ h => h)); have HB1 := Lib.hid ((Blk.new wr 32 #[.int .i64 op, .int .i64 iA, .int .i64 iB, .int .i64 iC, .int .i64 iN]).kept hc1 (fun h => h)); clear hc1)
                | (go_at_call 50; refine (HWT.out _ HX1.out).mono ?_; rintro e w2 ⟨rfl, hc2⟩; have HQ2 := Lib.hid (HQ1.out.trans hc2 (fun _ _ h => h)); have HX2 := Lib.hid (HX1.out.chg hc2); have HK2 := Lib.hid (HK1.out.trans hc2 (fun _ _ h => h)); have HB2 := Lib.hid (HB1.out.kept hc2 (fun h => h)); have y0 := HB2.out.cell 0; have y9 := HB2.out.lt; have b1 := HX2.out.b.cell 1; have b9 := HX2.out.b.lt; have t0 := (HQ2.out.cell (p := ⟨bs, os + k, none⟩) hbs (fun h => h)).trans s0; simp at y0 b1; clear hc2)
                | (go_at_call 46; refine (HEN.out _ HX2.out.t).mono ?_; rintro e w3 ⟨rfl, hc3⟩; have HK3 := Lib.hid (HK2.out.trans hc3 (fun _ _ h => h)); clear hc3))
              go_roundg g
              case rel => exact ⟨k + 1, by omega, by omega, by go_num, rfl, rfl, Lib.hid ⟨HR.out.trans (fscan_miss gw HWR.out), HK3.out⟩⟩
              case measure => omega
            | false =>
              have HWR : Hid (gw k = 11) := Lib.hid (by rw [HV.out]; simp [hl1])
              clear HV HSP
              go_wp2_with (first
                | (go_at_call 45; refine (HCK.out _ (HX.out.t.alloc _)).mono ?_; rintro e w1 ⟨rfl, hc1⟩; have HQ1 := Lib.hid (((Chg.refl (fun _ => False) wr).alloc (.cells #[.int .i64 op, .int .i64 iA, .int .i64 iB, .int .i64 iC, .int .i64 iN] 32)).trans hc1 (fun _ _ h => h)); have HX1 := Lib.hid (HX.out.chg HQ1.out); have HK1 := Lib.hid (HC.out.trans HQ1.out (fun _ _ h => h)); have HB1 := Lib.hid ((Blk.new wr 32 #[.int .i64 op, .int .i64 iA, .int .i64 iB, .int .i64 iC, .int .i64 iN]).kept hc1 (fun h => h)); clear hc1)
                | (go_at_call 50; refine (HWT.out _ HX1.out).mono ?_; rintro e w2 ⟨rfl, hc2⟩; have HQ2 := Lib.hid (HQ1.out.trans hc2 (fun _ _ h => h)); have HX2 := Lib.hid (HX1.out.chg hc2); have HK2 := Lib.hid (HK1.out.trans hc2 (fun _ _ h => h)); have HB2 := Lib.hid (HB1.out.kept hc2 (fun h => h)); have y0 := HB2.out.cell 0; have y9 := HB2.out.lt; have b1 := HX2.out.b.cell 1; have b9 := HX2.out.b.lt; have t0 := (HQ2.out.cell (p := ⟨bs, os + k, none⟩) hbs (fun h => h)).trans s0; simp at y0 b1; clear hc2)
                | (go_at_call 46; refine (HEN.out _ HX2.out.t).mono ?_; rintro e w3 ⟨rfl, hc3⟩; have HK3 := Lib.hid (HK2.out.trans hc3 (fun _ _ h => h)); clear hc3))
              rw [Exit.noGoto_ret]
              go_ret2
              have hres := HR.out.trans (fscan_hit gw (by rw [HWR.out]; decide))
              rw [HWR.out] at hres
              rw [hres]
              exact ⟨rfl, HCB.out.trans HK3.out (fun _ _ h => h)⟩
        | true =>
          cases sk with
          | false =>
            have HWR : Hid (gw k = 10) := Lib.hid (by rw [HV.out]; simp)
            clear HV HSP
            go_wp2_with (first
              | (go_at_call 45; refine (HCK.out _ (HX.out.t.alloc _)).mono ?_; rintro e w1 ⟨rfl, hc1⟩; have HQ1 := Lib.hid (((Chg.refl (fun _ => False) wr).alloc (.cells #[.int .i64 op, .int .i64 iA, .int .i64 iB, .int .i64 iC, .int .i64 iN] 32)).trans hc1 (fun _ _ h => h)); have HX1 := Lib.hid (HX.out.chg HQ1.out); have HK1 := Lib.hid (HC.out.trans HQ1.out (fun _ _ h => h)); have HB1 := Lib.hid ((Blk.new wr 32 #[.int .i64 op, .int .i64 iA, .int .i64 iB, .int .i64 iC, .int .i64 iN]).kept hc1 (fun h => h)); clear hc1)
              | (go_at_call 50; refine (HWT.out _ HX1.out).mono ?_; rintro e w2 ⟨rfl, hc2⟩; have HQ2 := Lib.hid (HQ1.out.trans hc2 (fun _ _ h => h)); have HX2 := Lib.hid (HX1.out.chg hc2); have HK2 := Lib.hid (HK1.out.trans hc2 (fun _ _ h => h)); have HB2 := Lib.hid (HB1.out.kept hc2 (fun h => h)); have y0 := HB2.out.cell 0; have y9 := HB2.out.lt; have b1 := HX2.out.b.cell 1; have b9 := HX2.out.b.lt; have t0 := (HQ2.out.cell (p := ⟨bs, os + k, none⟩) hbs (fun h => h)).trans s0; simp at y0 b1; clear hc2))
            rw [Exit.noGoto_ret]
            go_ret2
            have hres := HR.out.trans (fscan_hit gw (by rw [HWR.out]; decide))
            rw [HWR.out] at hres
            rw [hres]
            exact ⟨rfl, HCB.out.trans HK2.out (fun _ _ h => h)⟩
          | true =>
            by_cases hl : k + 1 < ns
            · have HS1 := Lib.hid (HSP.out hl)
              have l2 : decide ((k : Int) + 1 < (ns : Int)) = true := decide_eq_true (by omega)
              have l3 : (k : Int) + 1 < (ns : Int) := by omega
              have l0 : ((k : Int) == (ns : Int) - 1) = false := beq_eq_false_iff_ne.2 (by omega)
              cases sn with
              | true =>
                have l1 : ¬ k + 1 = ns := by omega
                have HWR : Hid (gw k = 0) := Lib.hid (by rw [HV.out]; simp [hl, l1])
                clear l1
                clear HV HSP
                go_wp2_with (first
                  | (go_at_call 45; refine (HCK.out _ (HX.out.t.alloc _)).mono ?_; rintro e w1 ⟨rfl, hc1⟩; have HQ1 := Lib.hid (((Chg.refl (fun _ => False) wr).alloc (.cells #[.int .i64 op, .int .i64 iA, .int .i64 iB, .int .i64 iC, .int .i64 iN] 32)).trans hc1 (fun _ _ h => h)); have HX1 := Lib.hid (HX.out.chg HQ1.out); have HK1 := Lib.hid (HC.out.trans HQ1.out (fun _ _ h => h)); have HB1 := Lib.hid ((Blk.new wr 32 #[.int .i64 op, .int .i64 iA, .int .i64 iB, .int .i64 iC, .int .i64 iN]).kept hc1 (fun h => h)); clear hc1)
                  | (go_at_call 50; refine (HWT.out _ HX1.out).mono ?_; rintro e w2 ⟨rfl, hc2⟩; have HQ2 := Lib.hid (HQ1.out.trans hc2 (fun _ _ h => h)); have HX2 := Lib.hid (HX1.out.chg hc2); have HK2 := Lib.hid (HK1.out.trans hc2 (fun _ _ h => h)); have HB2 := Lib.hid (HB1.out.kept hc2 (fun h => h)); have y0 := HB2.out.cell 0; have y9 := HB2.out.lt; have b1 := HX2.out.b.cell 1; have b9 := HX2.out.b.lt; have t0 := (HQ2.out.cell (p := ⟨bs, os + k, none⟩) hbs (fun h => h)).trans s0; have t1 := (HQ2.out.cell (p := ⟨bs, os + (k + 1), none⟩) hbs (fun h => h)).trans (HS1.out); simp at y0 b1; clear hc2))
                go_roundg g
                case rel => exact ⟨k + 1, by omega, by omega, by go_num, rfl, rfl, Lib.hid ⟨HR.out.trans (fscan_miss gw HWR.out), HK2.out⟩⟩
                case measure => omega
              | false =>
                have HWR : Hid (gw k = 10) := Lib.hid (by rw [HV.out]; simp)
                clear HV HSP
                go_wp2_with (first
                  | (go_at_call 45; refine (HCK.out _ (HX.out.t.alloc _)).mono ?_; rintro e w1 ⟨rfl, hc1⟩; have HQ1 := Lib.hid (((Chg.refl (fun _ => False) wr).alloc (.cells #[.int .i64 op, .int .i64 iA, .int .i64 iB, .int .i64 iC, .int .i64 iN] 32)).trans hc1 (fun _ _ h => h)); have HX1 := Lib.hid (HX.out.chg HQ1.out); have HK1 := Lib.hid (HC.out.trans HQ1.out (fun _ _ h => h)); have HB1 := Lib.hid ((Blk.new wr 32 #[.int .i64 op, .int .i64 iA, .int .i64 iB, .int .i64 iC, .int .i64 iN]).kept hc1 (fun h => h)); clear hc1)
                  | (go_at_call 50; refine (HWT.out _ HX1.out).mono ?_; rintro e w2 ⟨rfl, hc2⟩; have HQ2 := Lib.hid (HQ1.out.trans hc2 (fun _ _ h => h)); have HX2 := Lib.hid (HX1.out.chg hc2); have HK2 := Lib.hid (HK1.out.trans hc2 (fun _ _ h => h)); have HB2 := Lib.hid (HB1.out.kept hc2 (fun h => h)); have y0 := HB2.out.cell 0; have y9 := HB2.out.lt; have b1 := HX2.out.b.cell 1; have b9 := HX2.out.b.lt; have t0 := (HQ2.out.cell (p := ⟨bs, os + k, none⟩) hbs (fun h => h)).trans s0; have t1 := (HQ2.out.cell (p := ⟨bs, os + (k + 1), none⟩) hbs (fun h => h)).trans (HS1.out); simp at y0 b1; clear hc2))
                rw [Exit.noGoto_ret]
                go_ret2
                have hres := HR.out.trans (fscan_hit gw (by rw [HWR.out]; decide))
                rw [HWR.out] at hres
                rw [hres]
                exact ⟨rfl, HCB.out.trans HK2.out (fun _ _ h => h)⟩
            · have l2 : decide ((k : Int) + 1 < (ns : Int)) = false := decide_eq_false (by omega)
              have HWR : Hid (gw k = 10) := Lib.hid (by rw [HV.out]; simp [hl])
              clear HV HSP
              go_wp2_with (first
                | (go_at_call 45; refine (HCK.out _ (HX.out.t.alloc _)).mono ?_; rintro e w1 ⟨rfl, hc1⟩; have HQ1 := Lib.hid (((Chg.refl (fun _ => False) wr).alloc (.cells #[.int .i64 op, .int .i64 iA, .int .i64 iB, .int .i64 iC, .int .i64 iN] 32)).trans hc1 (fun _ _ h => h)); have HX1 := Lib.hid (HX.out.chg HQ1.out); have HK1 := Lib.hid (HC.out.trans HQ1.out (fun _ _ h => h)); have HB1 := Lib.hid ((Blk.new wr 32 #[.int .i64 op, .int .i64 iA, .int .i64 iB, .int .i64 iC, .int .i64 iN]).kept hc1 (fun h => h)); clear hc1)
                | (go_at_call 50; refine (HWT.out _ HX1.out).mono ?_; rintro e w2 ⟨rfl, hc2⟩; have HQ2 := Lib.hid (HQ1.out.trans hc2 (fun _ _ h => h)); have HX2 := Lib.hid (HX1.out.chg hc2); have HK2 := Lib.hid (HK1.out.trans hc2 (fun _ _ h => h)); have HB2 := Lib.hid (HB1.out.kept hc2 (fun h => h)); have y0 := HB2.out.cell 0; have y9 := HB2.out.lt; have b1 := HX2.out.b.cell 1; have b9 := HX2.out.b.lt; have t0 := (HQ2.out.cell (p := ⟨bs, os + k, none⟩) hbs (fun h => h)).trans s0; simp at y0 b1; clear hc2))
              rw [Exit.noGoto_ret]
              go_ret2
              have hres := HR.out.trans (fscan_hit gw (by rw [HWR.out]; decide))
              rw [HWR.out] at hres
              rw [hres]
              exact ⟨rfl, HCB.out.trans HK2.out (fun _ _ h => h)⟩
      · have v0 : (v == 0) = false := beq_eq_false_iff_ne.2 hv0
        have v1 : decide (v = 0) = false := decide_eq_false hv0
        have HWR : Hid (gw k = v) := Lib.hid (by rw [HV.out, if_pos hv0])
        clear HV HSP
        go_wp2_with (first
          | (go_at_call 45; refine (HCK.out _ (HX.out.t.alloc _)).mono ?_; rintro e w1 ⟨rfl, hc1⟩; have HQ1 := Lib.hid (((Chg.refl (fun _ => False) wr).alloc (.cells #[.int .i64 op, .int .i64 iA, .int .i64 iB, .int .i64 iC, .int .i64 iN] 32)).trans hc1 (fun _ _ h => h)); have HX1 := Lib.hid (HX.out.chg HQ1.out); have HK1 := Lib.hid (HC.out.trans HQ1.out (fun _ _ h => h)); have HB1 := Lib.hid ((Blk.new wr 32 #[.int .i64 op, .int .i64 iA, .int .i64 iB, .int .i64 iC, .int .i64 iN]).kept hc1 (fun h => h)); clear hc1))
        rw [Exit.noGoto_ret]
        go_ret2
        have hres := HR.out.trans (fscan_hit gw (by rw [HWR.out]; exact hv0))
        rw [HWR.out] at hres
        rw [hres]
        exact ⟨rfl, HCB.out.trans HK1.out (fun _ _ h => h)⟩
    · obtain rfl : k = ns := by omega
      obtain rfl : gk = 0 := by omega
      have HE : Hid (res = (-1, 0)) := Lib.hid HR.out
      go_wp2
      rw [Exit.noGoto_ret]
      go_ret2
      rw [HE.out]
      exact ⟨rfl, HCB.out.trans HC.out (fun _ _ h => h)⟩
end
end Go.Proofs.YthdkbofnplnidaaDoor
