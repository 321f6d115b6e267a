/- What is wrong with a program first, by the program and by the document. -/
import Derived.Test.YthdkbofnplnidaaDoorVaM
import Derived.Test.YthdkbofnplnidaaDoorVaN
namespace Go.Proofs.YthdkbofnplnidaaDoor
open Go.ChangeShapes Go.WideShapes Go.ChangeAt Go.RowKit Go.Deep
set_option linter.unusedVariables false
set_option linter.unusedSimpArgs false

section
variable {W : World} {Ac As : Option Addr} {nc ns : Nat} {code : List (List Int)} {safe : List Bool}
theorem fn_any (cc cs : Nat) (hF : FM W Ac nc As ns code safe) (hT : Tab W) (hm : nc ≤ maxLen) (hm2 : ns ≤ maxLen) (funcs : Nat) (hfu : funcs ≤ 1000) :
    Calls Tryd.prog 34 #[.agg #[.slice Ac nc cc, .slice As ns cs], .int .i64 (funcs : Int)] W fun e W' => e = .returned (.tuple #[.int .i64 (fnF code safe funcs).1, .int .i64 (fnF code safe funcs).2]) ∧ Chg (fun _ => False) W W' := by
  unfold maxLen at hm hm2
  have hl := hF.lenc
  have hs := hF.lens
  by_cases h : nc = 0 ∨ 64 < nc ∨ (0 < nc ∧ nc ≤ 64 ∧ ns ≠ nc)
  · have e : fnF code safe funcs = (-1, if nc = 0 then 6 else if 64 < nc then 5 else 9) := by
      unfold fnF
      rw [hl, hs]
      rcases h with h | h | ⟨h1, h2, h3⟩
      · rw [if_pos h, if_pos h]
      · rw [if_neg (by omega), if_pos h, if_neg (by omega), if_pos h]
      · rw [if_neg (by omega), if_neg (by omega), if_pos h3, if_neg (by omega), if_neg (by omega)]
    rw [e]
    exact func_short h (by omega) (by omega) funcs W
  · have h1 : 0 < nc := by omega
    have h2 : nc ≤ 64 := by omega
    have h3 : ns = nc := by omega
    have e : fnF code safe funcs = fscan (wrongAt code safe nc funcs) nc 0 := by
      unfold fnF
      rw [hl, hs, if_neg (by omega), if_neg (by omega), if_neg (by simp [h3])]
    rw [e]
    exact func_long hF hT h1 h2 h3 funcs hfu
theorem rfn_any (cc cs : Nat) (hF : FM W Ac nc As ns code safe) (hm : nc ≤ maxLen) (hm2 : ns ≤ maxLen) (funcs : Nat) (hfu : funcs ≤ 1000) :
    Calls Tryd.prog 31 #[.agg #[.slice Ac nc cc, .slice As ns cs], .int .i64 (funcs : Int)] W fun e W' => e = .returned (.tuple #[.int .i64 (fnF code safe funcs).1, .int .i64 (fnF code safe funcs).2]) ∧ Chg (fun _ => False) W W' := by
  unfold maxLen at hm hm2
  have hl := hF.lenc
  have hs := hF.lens
  by_cases h : nc = 0 ∨ 64 < nc ∨ (0 < nc ∧ nc ≤ 64 ∧ ns ≠ nc)
  · have e : fnF code safe funcs = (-1, if nc = 0 then 6 else if 64 < nc then 5 else 9) := by
      unfold fnF
      rw [hl, hs]
      rcases h with h | h | ⟨h1, h2, h3⟩
      · rw [if_pos h, if_pos h]
      · rw [if_neg (by omega), if_pos h, if_neg (by omega), if_pos h]
      · rw [if_neg (by omega), if_neg (by omega), if_pos h3, if_neg (by omega), if_neg (by omega)]
    rw [e]
    exact one_short h (by omega) (by omega) funcs W
  · have h1 : 0 < nc := by omega
    have h2 : nc ≤ 64 := by omega
    have h3 : ns = nc := by omega
    have e : fnF code safe funcs = fscan (wrongAt code safe nc funcs) nc 0 := by
      unfold fnF
      rw [hl, hs, if_neg (by omega), if_neg (by omega), if_neg (by simp [h3])]
    rw [e]
    exact one_long hF h1 h2 h3 funcs hfu
end
def pscan (h : Nat → Int × Int) : Nat → Nat → Int × Int × Int
  | 0, _ => (-1, -1, 0)
  | j + 1, k => if (h k).2 ≠ 0 then ((k : Int), (h k).1, (h k).2) else pscan h j (k + 1)
theorem pscan_hit (h : Nat → Int × Int) {j k : Nat} (e : (h k).2 ≠ 0) : pscan h (j + 1) k = ((k : Int), (h k).1, (h k).2) := by rw [pscan, if_pos e]
theorem pscan_miss (h : Nat → Int × Int) {j k : Nat} (e : (h k).2 = 0) : pscan h (j + 1) k = pscan h j (k + 1) := by rw [pscan, if_neg (by simp [e])]
def progF (m : Nat) (code : Nat → List (List Int)) (safe : Nat → List Bool) : Int × Int × Int :=
  if m = 0 then (-1, -1, 6) else if 16 < m then (-1, -1, 5) else pscan (fun i => fnF (code i) (safe i) m) m 0
def RoundCk (W0 : World) (h : Nat → Int × Int) (r : Int × Int × Int) (j k : Nat) (wr : World) : Prop := r = pscan h j k ∧ Chg (fun _ => False) W0 wr
section
variable {W : World} {A : Option Addr} {m : Nat} {Ac : Nat → Option Addr} {nc cc : Nat → Nat} {As : Nat → Option Addr} {ns cs : Nat → Nat} {code : Nat → List (List Int)} {safe : Nat → List Bool}
set_option maxRecDepth 100000 in
set_option maxHeartbeats 8000000 in
theorem vcheck_any (c : Nat) (hP : PM W A m Ac nc cc As ns cs code safe) (hT : Tab W) (hm : m ≤ maxLen) :
    Calls Tryd.prog 24 #[.agg #[.slice A m c]] W fun e W' => e = .returned (.tuple #[.int .i64 (progF m code safe).1, .int .i64 (progF m code safe).2.1, .int .i64 (progF m code safe).2.2]) ∧ Chg (fun _ => False) W W' := by
  unfold maxLen at hm
  have hcb : Chg (fun _ => False) W (W.alloc (.cells #[.slice A m c] 24)) := (Chg.refl _ _).alloc _
  have HB := Lib.hid (Blk.new W 24 #[.slice A m c])
  by_cases h0 : m = 0
  · subst h0
    have e : progF 0 code safe = (-1, -1, 6) := rfl
    rw [e]
    clear e hP hT hcb
    have b0 := HB.out.cell 0
    simp at b0
    go_enter Tryd.func24, Tryd.ntmps24
    go_wp2
    go_ret3
    exact ⟨rfl, (Chg.refl _ _).alloc _⟩
  by_cases h16 : 16 < m
  · have e : progF m code safe = (-1, -1, 5) := by rw [progF, if_neg h0, if_pos h16]
    rw [e]
    have x0 : ((m : Int) == 0) = false := beq_eq_false_iff_ne.2 (by omega)
    have x1 : (16 : Int) < m := by omega
    clear e hP hT hcb h0
    have b0 := HB.out.cell 0
    simp at b0
    go_enter Tryd.func24, Tryd.ntmps24
    go_wp2
    go_ret3
    exact ⟨rfl, (Chg.refl _ _).alloc _⟩
  · obtain ⟨hh, hhe⟩ : ∃ hh : Nat → Int × Int, hh = fun i => fnF (code i) (safe i) m := ⟨_, rfl⟩
    obtain ⟨res, hres⟩ : ∃ res, res = pscan hh m 0 := ⟨_, rfl⟩
    have e : progF m code safe = res := by rw [progF, if_neg h0, if_neg h16, hres, hhe]
    rw [e]
    have x0 : ((m : Int) == 0) = false := beq_eq_false_iff_ne.2 (by omega)
    have x1 : ¬ (16 : Int) < m := by omega
    have HH := Lib.hid hhe
    have HRS := Lib.hid hres
    have HP := Lib.hid (hP.chg hcb)
    have HT := Lib.hid (hT.chg hcb)
    have HCB := Lib.hid hcb
    have HM := Lib.hid h0
    clear e hP hT hcb h0 hhe hres
    go_enter Tryd.func24, Tryd.ntmps24
    go_wp2_with fail
    go_loopw [20] (fun iv wr => ∃ k : Nat, k ≤ m ∧ iv = .int .i64 k ∧ Hid (RoundCk (W.alloc (.cells #[.slice A m c] 24)) hh res (m - k) k wr)) (fun iv _ => m - (intOf iv).toNat)
    case atStart => exact ⟨0, by omega, rfl, Lib.hid ⟨HRS.out, Chg.refl _ _⟩⟩
    case round =>
      obtain ⟨k, hk, rfl, hR⟩ := hrel
      have k0 : (0 : Int) ≤ k := by omega
      have HR := Lib.hid hR.out.1
      have HC := Lib.hid hR.out.2
      have b0 := (HB.out.kept HC.out (fun h => h)).cell 0
      simp at b0
      have hlt0 := (HB.out.kept HC.out (fun h => h)).lt
      clear hR HRS
      by_cases hlt : k < m
      · have k1 : (k : Int) < m := by omega
        obtain ⟨b, o, rfl, hbl, hcc⟩ := (HP.out.chg HC.out).cells (by omega)
        obtain ⟨e0, e1⟩ := hcc k hlt
        obtain ⟨s1, s2, _⟩ := HP.out.sz k hlt
        have HFN := Lib.hid (fun (V : World) (hc : Chg (fun _ => False) wr V) => fn_any (cc k) (cs k) (((HP.out.chg HC.out).chg hc).fn k hlt) ((HT.out.chg HC.out).chg hc) s1 s2 m (by omega))
        have HX : Hid (hh k = fnF (code k) (safe k) m) := Lib.hid (by rw [HH.out])
        generalize fnF (code k) (safe k) m = r at *
        obtain ⟨pcv, fv⟩ := r
        generalize Ac k = Ak at *
        generalize nc k = nk at *
        generalize cc k = ck at *
        generalize As k = Sk at *
        generalize ns k = mk at *
        generalize cs k = dk at *
        have b1 : (wr.alloc (.cells #[.slice Ak nk ck, .slice Sk mk dk] 48)).cell? ⟨W.heap.size, 0, none⟩ = some (.slice (some ⟨b, o, none⟩) m c) := ((HB.out.kept HC.out (fun h => h)).alloc _).cell 0
        have hj : m - k = (m - k - 1) + 1 := by omega
        have HJ := Lib.hid hj
        clear hcc s1 s2 HP hj
        by_cases hf : fv = 0
        · subst hf
          go_wp2_with (go_at_call 34; refine (HFN.out _ ((Chg.refl _ wr).alloc (.cells #[.slice Ak nk ck, .slice Sk mk dk] 48))).mono ?_; rintro e w1 ⟨rfl, hc1⟩; have HK1 := Lib.hid (HC.out.trans (((Chg.refl (fun _ => False) wr).alloc (.cells #[.slice Ak nk ck, .slice Sk mk dk] 48)).trans hc1 (fun _ _ h => h)) (fun _ _ h => h)); clear hc1)
          go_roundw
          case rel =>
            refine ⟨k + 1, by omega, by go_num, Lib.hid ⟨?_, HK1.out⟩⟩
            have hr := HR.out
            rw [HJ.out, pscan_miss hh (by rw [HX.out])] at hr
            rw [hr, show m - (k + 1) = m - k - 1 by omega]
          case measure => simp [intOf]; omega
        · have f0 : (fv == 0) = false := beq_eq_false_iff_ne.2 hf
          have f1 : decide (fv = 0) = false := decide_eq_false hf
          go_wp2_with (go_at_call 34; refine (HFN.out _ ((Chg.refl _ wr).alloc (.cells #[.slice Ak nk ck, .slice Sk mk dk] 48))).mono ?_; rintro e w1 ⟨rfl, hc1⟩; have HK1 := Lib.hid (HC.out.trans (((Chg.refl (fun _ => False) wr).alloc (.cells #[.slice Ak nk ck, .slice Sk mk dk] 48)).trans hc1 (fun _ _ h => h)) (fun _ _ h => h)); clear hc1)
          go_ret3
          have hr := HR.out
          rw [HJ.out, pscan_hit hh (by rw [HX.out]; exact hf), HX.out] at hr
          rw [hr]
          exact ⟨rfl, HCB.out.trans HK1.out (fun _ _ h => h)⟩
      · obtain rfl : k = m := by omega
        have hr := HR.out
        rw [Nat.sub_self] at hr
        have HRR : Hid (res = (-1, -1, 0)) := Lib.hid hr
        clear hr HR
        go_wp2_with fail
        go_ret3
        rw [HRR.out]
        exact ⟨rfl, HCB.out.trans HC.out (fun _ _ h => h)⟩
end
end Go.Proofs.YthdkbofnplnidaaDoor
