/- What is wrong with a program first, by the document. -/
import Derived.Test.YthdkbofnplnidaaDoorVaO
namespace Go.Proofs.YthdkbofnplnidaaDoor
open Go.ChangeShapes Go.WideShapes Go.ChangeAt Go.RowKit Go.Deep
set_option linter.unusedVariables false
set_option linter.unusedSimpArgs false

section
variable {W : World} {A : Option Addr} {m : Nat} {Ac : Nat → Option Addr} {nc cc : Nat → Nat} {As : Nat → Option Addr} {ns cs : Nat → Nat} {code : Nat → List (List Int)} {safe : Nat → List Bool}
set_option maxRecDepth 100000 in
set_option maxHeartbeats 8000000 in
theorem rvcheck_any (c : Nat) (hP : PM W A m Ac nc cc As ns cs code safe) (hm : m ≤ maxLen) :
    Calls Tryd.prog 20 #[.agg #[.slice A m c]] W fun e W' => e = .returned (.tuple #[.int .i64 (progF m code safe).1, .int .i64 (progF m code safe).2.1, .int .i64 (progF m code safe).2.2]) ∧ Chg (fun _ => False) W W' := by
  unfold maxLen at hm
  have hcb : Chg (fun _ => False) W (W.alloc (.cells #[.slice A m c] 24)) := (Chg.refl _ _).alloc _
  have HB := Lib.hid (Blk.new W 24 #[.slice A m c])
  by_cases h0 : m = 0
  · subst h0
    have e : progF 0 code safe = (-1, -1, 6) := rfl
    rw [e]
    clear e hP hcb
    have b0 := HB.out.cell 0
    simp at b0
    go_enter Tryd.func20, Tryd.ntmps20
    go_wp2
    go_ret3
    exact ⟨rfl, (Chg.refl _ _).alloc _⟩
  by_cases h16 : 16 < m
  · have e : progF m code safe = (-1, -1, 5) := by rw [progF, if_neg h0, if_pos h16]
    rw [e]
    have x0 : ((m : Int) == 0) = false := beq_eq_false_iff_ne.2 (by omega)
    have x1 : (16 : Int) < m := by omega
    clear e hP hcb h0
    have b0 := HB.out.cell 0
    simp at b0
    go_enter Tryd.func20, Tryd.ntmps20
    go_wp2
    go_ret3
    exact ⟨rfl, (Chg.refl _ _).alloc _⟩
  · obtain ⟨hh, hhe⟩ : ∃ hh : Nat → Int × Int, hh = fun i => fnF (code i) (safe i) m := ⟨_, rfl⟩
    obtain ⟨res, hres⟩ : ∃ res, res = pscan hh m 0 := ⟨_, rfl⟩
    have e : progF m code safe = res := by rw [progF, if_neg h0, if_neg h16, hres, hhe]
    rw [e]
    have x0 : ((m : Int) == 0) = false := beq_eq_false_iff_ne.2 (by omega)
    have x1 : ¬ (16 : Int) < m := by omega
    have HH := Lib.hid hhe
    have HRS := Lib.hid hres
    have HP := Lib.hid (hP.chg hcb)
    have HCB := Lib.hid hcb
    have HM := Lib.hid h0
    clear e hP hcb h0 hhe hres
    go_enter Tryd.func20, Tryd.ntmps20
    go_wp2_with fail
    go_loopw [5] (fun iv wr => ∃ k : Nat, k ≤ m ∧ iv = .int .i64 k ∧ Hid (RoundCk (W.alloc (.cells #[.slice A m c] 24)) hh res (m - k) k wr)) (fun iv _ => m - (intOf iv).toNat)
    case atStart => exact ⟨0, by omega, rfl, Lib.hid ⟨HRS.out, Chg.refl _ _⟩⟩
    case round =>
      obtain ⟨k, hk, rfl, hR⟩ := hrel
      have k0 : (0 : Int) ≤ k := by omega
      have HR := Lib.hid hR.out.1
      have HC := Lib.hid hR.out.2
      have b0 := (HB.out.kept HC.out (fun h => h)).cell 0
      simp at b0
      have hlt0 := (HB.out.kept HC.out (fun h => h)).lt
      clear hR HRS
      by_cases hlt : k < m
      · have k1 : (k : Int) < m := by omega
        obtain ⟨b, o, rfl, hbl, hcc⟩ := (HP.out.chg HC.out).cells (by omega)
        obtain ⟨e0, e1⟩ := hcc k hlt
        obtain ⟨s1, s2, _⟩ := HP.out.sz k hlt
        have HFN := Lib.hid (fun (V : World) (hc : Chg (fun _ => False) wr V) => rfn_any (cc k) (cs k) (((HP.out.chg HC.out).chg hc).fn k hlt) s1 s2 m (by omega))
        have HX : Hid (hh k = fnF (code k) (safe k) m) := Lib.hid (by rw [HH.out])
        generalize fnF (code k) (safe k) m = r at *
        obtain ⟨pcv, fv⟩ := r
        generalize Ac k = Ak at *
        generalize nc k = nk at *
        generalize cc k = ck at *
        generalize As k = Sk at *
        generalize ns k = mk at *
        generalize cs k = dk at *
        have hj : m - k = (m - k - 1) + 1 := by omega
        have HJ := Lib.hid hj
        have hs0 : wr.drew.cell? ⟨W.heap.size, 0, none⟩ = some (.slice (some ⟨b, o, none⟩) m c) ∧ wr.drew.cell? ⟨b, o + k * 2, none⟩ = some (.slice Ak nk ck) ∧ wr.drew.cell? ⟨b, o + k * 2 + 1, none⟩ = some (.slice Sk mk dk) := ⟨b0, e0, e1⟩
        clear hcc s1 s2 HP hj
        by_cases hf : fv = 0
        · subst hf
          go_wp2
          go_region_held3 (fun w' => w'.cell? ⟨W.heap.size, 0, none⟩ = some (.slice (some ⟨b, o, none⟩) m c) ∧ w'.cell? ⟨b, o + k * 2, none⟩ = some (.slice Ak nk ck) ∧ w'.cell? ⟨b, o + k * 2 + 1, none⟩ = some (.slice Sk mk dk)) (first | assumption)
            ((first
              | (go_at_call 31; refine (HFN.out _ ((Chg.refl _ wr).drew)).mono ?_; rintro e w1 ⟨rfl, hc1⟩; have HQ1 := Lib.hid (((Chg.refl (fun _ => False) wr).drew).trans hc1 (fun _ _ h => h)); have hs1 : w1.cell? ⟨W.heap.size, 0, none⟩ = some (.slice (some ⟨b, o, none⟩) m c) ∧ w1.cell? ⟨b, o + k * 2, none⟩ = some (.slice Ak nk ck) ∧ w1.cell? ⟨b, o + k * 2 + 1, none⟩ = some (.slice Sk mk dk) := ⟨(HQ1.out.cell (p := ⟨W.heap.size, 0, none⟩) hlt0 (fun h => h)).trans b0, (HQ1.out.cell (p := ⟨b, _, none⟩) hbl (fun h => h)).trans e0, (HQ1.out.cell (p := ⟨b, _, none⟩) hbl (fun h => h)).trans e1⟩; have HK1 := Lib.hid (HC.out.trans HQ1.out (fun _ _ h => h)); clear hc1)))
          all_goals go_simp
          all_goals go_wp2
          go_roundw
          case rel =>
            refine ⟨k + 1, by omega, by go_num, Lib.hid ⟨?_, HK1.out⟩⟩
            have hr := HR.out
            rw [HJ.out, pscan_miss hh (by rw [HX.out])] at hr
            rw [hr, show m - (k + 1) = m - k - 1 by omega]
          case measure => simp [intOf]; omega
        · have f0 : (fv == 0) = false := beq_eq_false_iff_ne.2 hf
          have f1 : decide (fv = 0) = false := decide_eq_false hf
          go_wp2
          go_region_held3 (fun w' => w'.cell? ⟨W.heap.size, 0, none⟩ = some (.slice (some ⟨b, o, none⟩) m c) ∧ w'.cell? ⟨b, o + k * 2, none⟩ = some (.slice Ak nk ck) ∧ w'.cell? ⟨b, o + k * 2 + 1, none⟩ = some (.slice Sk mk dk)) (first | assumption)
            ((first
              | (go_at_call 31; refine (HFN.out _ ((Chg.refl _ wr).drew)).mono ?_; rintro e w1 ⟨rfl, hc1⟩; have HQ1 := Lib.hid (((Chg.refl (fun _ => False) wr).drew).trans hc1 (fun _ _ h => h)); have hs1 : w1.cell? ⟨W.heap.size, 0, none⟩ = some (.slice (some ⟨b, o, none⟩) m c) ∧ w1.cell? ⟨b, o + k * 2, none⟩ = some (.slice Ak nk ck) ∧ w1.cell? ⟨b, o + k * 2 + 1, none⟩ = some (.slice Sk mk dk) := ⟨(HQ1.out.cell (p := ⟨W.heap.size, 0, none⟩) hlt0 (fun h => h)).trans b0, (HQ1.out.cell (p := ⟨b, _, none⟩) hbl (fun h => h)).trans e0, (HQ1.out.cell (p := ⟨b, _, none⟩) hbl (fun h => h)).trans e1⟩; have HK1 := Lib.hid (HC.out.trans HQ1.out (fun _ _ h => h)); clear hc1)))
          all_goals go_simp
          all_goals go_wp2
          go_ret3
          have hr := HR.out
          rw [HJ.out, pscan_hit hh (by rw [HX.out]; exact hf), HX.out] at hr
          rw [hr]
          exact ⟨rfl, HCB.out.trans HK1.out (fun _ _ h => h)⟩
      · obtain rfl : k = m := by omega
        have hr := HR.out
        rw [Nat.sub_self] at hr
        have HRR : Hid (res = (-1, -1, 0)) := Lib.hid hr
        clear hr HR
        go_wp2_with fail
        go_ret3
        rw [HRR.out]
        exact ⟨rfl, HCB.out.trans HC.out (fun _ _ h => h)⟩
end
end Go.Proofs.YthdkbofnplnidaaDoor
