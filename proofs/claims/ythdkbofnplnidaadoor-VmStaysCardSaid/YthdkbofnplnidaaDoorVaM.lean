/- What is wrong with a function first, by the document. -/
import Derived.Test.YthdkbofnplnidaaDoorVaL
import Derived.Deep.RegionHeld3
namespace Go.Proofs.YthdkbofnplnidaaDoor
open Go.ChangeShapes Go.WideShapes Go.ChangeAt Go.RowKit Go.Deep
set_option linter.unusedVariables false
set_option linter.unusedSimpArgs false

structure FB (W : World) (B : Nat) (Ac : Option Addr) (nc cc : Nat) (As : Option Addr) (ns cs : Nat) (code : List (List Int)) (safe : List Bool) : Prop where
  f : FM W Ac nc As ns code safe
  b : Blk W B 48 #[.slice Ac nc cc, .slice As ns cs]
theorem FB.chg {W W' : World} {B nc cc ns cs : Nat} {Ac As : Option Addr} {code : List (List Int)} {safe : List Bool} (h : FB W B Ac nc cc As ns cs code safe) (hc : Chg (fun _ => False) W W') : FB W' B Ac nc cc As ns cs code safe :=
  ⟨h.f.chg hc, h.b.kept hc (fun h => h)⟩
theorem rwaits_i (op : Int) (W : World) : Calls Tryd.prog 37 #[.int .i64 op] W fun e W' => e = .returned (.bool (wtI op)) ∧ W = W' := rwaits_any op W
theorem rends_i (op : Int) (W : World) : Calls Tryd.prog 39 #[.int .i64 op] W fun e W' => e = .returned (.bool (enI op)) ∧ W = W' := rends_any op W
theorem rcheck_c (op A B C N p f : Int) (W : World) : Calls Tryd.prog 36 #[.agg #[.int .i64 op, .int .i64 A, .int .i64 B, .int .i64 C, .int .i64 N], .int .i64 p, .int .i64 f] W fun e W' => e = .returned (.int .i64 (chkI op A B C N p f)) ∧ Chg (fun _ => False) W W' :=
  (rcheck_any op A B C N p f W).mono fun e W' h => ⟨h.1, Chg.ofB h.2⟩
section
variable {Ac As : Option Addr} {nc cc ns cs : Nat} {code : List (List Int)} {safe : List Bool}
set_option maxHeartbeats 1000000 in
theorem safe_any {W : World} (hF : FM W Ac nc As ns code safe) (hm : ns ≤ 1000) (k : Nat) (hk : k ≤ 1000) :
    Calls Tryd.prog 38 #[.agg #[.slice Ac nc cc, .slice As ns cs], .int .i64 (k : Int)] W fun e W' => e = .returned (.bool (safe.getD k false)) ∧ Chg (fun _ => False) W W' := by
  have k0 : (0 : Int) ≤ k := by omega
  by_cases hlt : k < ns
  · obtain ⟨b, o, rfl, hb, hc⟩ := hF.safe_ (by omega)
    have e0 := hc k hlt
    have k1 : (k : Int) < ns := by omega
    have k2 : decide (k < ns) = true := decide_eq_true hlt
    generalize safe.getD k false = sk at *
    clear hc hF
    go_enter Tryd.func38, Tryd.ntmps38
    go_wp2
    go_ret
    exact ⟨rfl, (Chg.refl _ _).alloc _⟩
  · have hl := hF.lens
    have e : safe.getD k false = false := by rw [List.getD_eq_getElem?_getD, List.getElem?_eq_none (by omega)]; rfl
    rw [e]
    have k1 : ¬ (k : Int) < ns := by omega
    have k2 : decide (k < ns) = false := decide_eq_false hlt
    clear hF hl e
    go_enter Tryd.func38, Tryd.ntmps38
    go_wp2
    go_ret
    exact ⟨rfl, (Chg.refl _ _).alloc _⟩
set_option maxHeartbeats 1000000 in
theorem one_short (hnc : nc = 0 ∨ 64 < nc ∨ (0 < nc ∧ nc ≤ 64 ∧ ns ≠ nc)) (hmx : nc ≤ 9223372036854775807) (hmy : ns ≤ 9223372036854775807) (funcs : Nat) (W : World) :
    Calls Tryd.prog 31 #[.agg #[.slice Ac nc cc, .slice As ns cs], .int .i64 (funcs : Int)] W fun e W' => e = .returned (.tuple #[.int .i64 (-1), .int .i64 (if nc = 0 then 6 else if 64 < nc then 5 else 9)]) ∧ Chg (fun _ => False) W W' := by
  rcases hnc with rfl | h | ⟨h1, h2, h3⟩
  · go_enter Tryd.func31, Tryd.ntmps31
    go_wp2
    go_ret2
    exact ⟨rfl, (Chg.refl _ _).alloc _⟩
  · have e : (if nc = 0 then (6 : Int) else if 64 < nc then 5 else 9) = 5 := by rw [if_neg (by omega), if_pos h]
    rw [e]
    have h0 : ((nc : Int) == 0) = false := beq_eq_false_iff_ne.2 (by omega)
    have h1 : (64 : Int) < nc := by omega
    clear e h
    go_enter Tryd.func31, Tryd.ntmps31
    go_wp2
    go_ret2
    exact ⟨rfl, (Chg.refl _ _).alloc _⟩
  · have e : (if nc = 0 then (6 : Int) else if 64 < nc then 5 else 9) = 9 := by rw [if_neg (by omega), if_neg (by omega)]
    rw [e]
    have h0 : ((nc : Int) == 0) = false := beq_eq_false_iff_ne.2 (by omega)
    have h1' : ¬ (64 : Int) < nc := by omega
    have h4 : ((ns : Int) == (nc : Int)) = false := beq_eq_false_iff_ne.2 (by omega)
    have h5 : ¬ ns = nc := h3
    clear e h1 h2 h3
    go_enter Tryd.func31, Tryd.ntmps31
    go_wp2
    go_ret2
    exact ⟨rfl, (Chg.refl _ _).alloc _⟩
def RoundOne (W0 : World) (g : Nat → Int) (eb : Bool) (r : Int × Int) (n k : Nat) (wr : World) : Prop := ((k < n ∧ r = fscan g (n - k) k) ∨ (k = n ∧ r = if eb = false then ((n : Int) - 1, 11) else (-1, 0))) ∧ Chg (fun _ => False) W0 wr
theorem RoundOne.hit {W0 wr : World} {g : Nat → Int} {eb : Bool} {r : Int × Int} {n k : Nat} (h : RoundOne W0 g eb r n k wr) (hk : k < n) (hg : g k ≠ 0) : r = ((k : Int), g k) := by
  rcases h.1 with ⟨_, h1⟩ | ⟨h1, _⟩
  · obtain ⟨j, hj⟩ : ∃ j, n - k = j + 1 := ⟨n - k - 1, by omega⟩
    rw [h1, hj, fscan_hit g hg]
  · omega
theorem RoundOne.miss {W0 wr w' : World} {g : Nat → Int} {eb : Bool} {r : Int × Int} {n k : Nat} (h : RoundOne W0 g eb r n k wr) (hk : k < n) (hg : g k = if k + 1 = n ∧ eb = false then 11 else 0) (hc : Chg (fun _ => False) wr w') : RoundOne W0 g eb r n (k + 1) w' := by
  refine ⟨?_, h.2.trans hc (fun _ _ h => h)⟩
  rcases h.1 with ⟨_, h1⟩ | ⟨h1, _⟩
  · obtain ⟨j, hj⟩ : ∃ j, n - k = j + 1 := ⟨n - k - 1, by omega⟩
    rw [hj] at h1
    by_cases hl : k + 1 = n
    · right
      refine ⟨hl, ?_⟩
      obtain rfl : j = 0 := by omega
      cases eb with
      | true =>
        rw [if_neg (by simp)] at hg
        rw [h1, fscan_miss g hg]; rfl
      | false =>
        rw [if_pos ⟨hl, rfl⟩] at hg
        rw [h1, fscan_hit g (by rw [hg]; decide), hg]
        simp
        omega
    · left
      rw [if_neg (fun h => hl h.1)] at hg
      refine ⟨by omega, ?_⟩
      rw [h1, fscan_miss g hg, show n - (k + 1) = j by omega]
  · omega
set_option maxRecDepth 100000 in
set_option maxHeartbeats 16000000 in
theorem one_long {W : World} (hF : FM W Ac nc As ns code safe) (h0 : 0 < nc) (h64 : nc ≤ 64) (hs : ns = nc) (funcs : Nat) (hfu : funcs ≤ 1000) :
    Calls Tryd.prog 31 #[.agg #[.slice Ac nc cc, .slice As ns cs], .int .i64 (funcs : Int)] W fun e W' => e = .returned (.tuple #[.int .i64 (fscan (wrongAt code safe nc funcs) nc 0).1, .int .i64 (fscan (wrongAt code safe nc funcs) nc 0).2]) ∧ Chg (fun _ => False) W W' := by
  subst hs
  have hcb : Chg (fun _ => False) W (W.alloc (.cells #[.slice Ac ns cc, .slice As ns cs] 48)) := (Chg.refl _ _).alloc _
  have HX0 := Lib.hid (show FB (W.alloc (.cells #[.slice Ac ns cc, .slice As ns cs] 48)) W.heap.size Ac ns cc As ns cs code safe from ⟨hF.chg hcb, Blk.new _ _ _⟩)
  have HCB := Lib.hid hcb
  have n0 : ((ns : Int) == 0) = false := beq_eq_false_iff_ne.2 (by omega)
  have n1 : ¬ (64 : Int) < ns := by omega
  obtain ⟨gw, hgw⟩ : ∃ gw, gw = wrongAt code safe ns funcs := ⟨_, rfl⟩
  rw [← hgw]
  obtain ⟨res, hres⟩ : ∃ res, res = fscan gw ns 0 := ⟨_, rfl⟩
  rw [← hres]
  obtain ⟨el, hel⟩ : ∃ el, enI (ipart code (ns - 1) 0) = el := ⟨_, rfl⟩
  have HEL := Lib.hid hel
  have HG := Lib.hid hgw
  have HRS := Lib.hid hres
  clear hcb hF hgw hres hel
  go_enter Tryd.func31, Tryd.ntmps31
  go_wp2
  go_loopw [6] (fun iv wr => ∃ k : Nat, k ≤ ns ∧ iv = .int .i64 k ∧ Hid (RoundOne (W.alloc (.cells #[.slice Ac ns cc, .slice As ns cs] 48)) gw el res ns k wr)) (fun iv _ => ns - (intOf iv).toNat)
  case atStart => exact ⟨0, by omega, rfl, Lib.hid ⟨.inl ⟨h0, by rw [HRS.out]; rfl⟩, Chg.refl _ _⟩⟩
  case round =>
    obtain ⟨k, hk, rfl, HR⟩ := hrel
    have k0 : (0 : Int) ≤ k := by omega
    have HX := Lib.hid (HX0.out.chg HR.out.2)
    have b0 := HX.out.b.cell 0
    have b9 := HX.out.b.lt
    simp at b0
    clear HX0 HRS
    by_cases hlt : k < ns
    · have k1 : (k : Int) < ns := by omega
      obtain ⟨b, o, hAc, hb, c0, c1, c2, c3, c4⟩ := HX.out.f.instr hlt
      subst hAc
      obtain ⟨op, hop⟩ : ∃ op, op = ipart code k 0 := ⟨_, rfl⟩
      obtain ⟨iA, hiA⟩ : ∃ x, x = ipart code k 1 := ⟨_, rfl⟩
      obtain ⟨iB, hiB⟩ : ∃ x, x = ipart code k 2 := ⟨_, rfl⟩
      obtain ⟨iC, hiC⟩ : ∃ x, x = ipart code k 3 := ⟨_, rfl⟩
      obtain ⟨iN, hiN⟩ : ∃ x, x = ipart code k 4 := ⟨_, rfl⟩
      rw [← hop] at c0
      rw [← hiA] at c1
      rw [← hiB] at c2
      rw [← hiC] at c3
      rw [← hiN] at c4
      obtain ⟨v, hv⟩ : ∃ v, chkI op iA iB iC iN (ns : Int) (funcs : Int) = v := ⟨_, rfl⟩
      obtain ⟨wb, hwb⟩ : ∃ wb, wtI op = wb := ⟨_, rfl⟩
      obtain ⟨sk, hsk⟩ : ∃ sk, safe.getD k false = sk := ⟨_, rfl⟩
      obtain ⟨sn, hsn⟩ : ∃ sn, safe.getD (k + 1) false = sn := ⟨_, rfl⟩
      have hsn0 : ¬ k + 1 < ns → sn = false := fun h => by rw [← hsn, List.getD_eq_getElem?_getD, List.getElem?_eq_none (by have := HX.out.f.lens; omega)]; rfl
      have HSN := Lib.hid hsn0
      have HCK := Lib.hid (fun V => show Calls Tryd.prog 36 #[.agg #[.int .i64 op, .int .i64 iA, .int .i64 iB, .int .i64 iC, .int .i64 iN], .int .i64 (ns : Int), .int .i64 (funcs : Int)] V (fun e W' => e = .returned (.int .i64 v) ∧ Chg (fun _ => False) V W') from by rw [← hv]; exact rcheck_c op iA iB iC iN ns funcs V)
      have HWT := Lib.hid (fun V => show Calls Tryd.prog 37 #[.int .i64 op] V (fun e W' => e = .returned (.bool wb) ∧ V = W') from by rw [← hwb]; exact rwaits_i op V)
      have HSK := Lib.hid (fun V (hX : FB V W.heap.size (some ⟨b, o, none⟩) ns cc As ns cs code safe) => show Calls Tryd.prog 38 #[.agg #[.slice (some ⟨b, o, none⟩) ns cc, .slice As ns cs], .int .i64 (k : Int)] V (fun e W' => e = .returned (.bool sk) ∧ Chg (fun _ => False) V W') from by rw [← hsk]; exact safe_any hX.f (by omega) k (by omega))
      have HSM := Lib.hid (fun V (hX : FB V W.heap.size (some ⟨b, o, none⟩) ns cc As ns cs code safe) => show Calls Tryd.prog 38 #[.agg #[.slice (some ⟨b, o, none⟩) ns cc, .slice As ns cs], .int .i64 ((k : Int) + 1)] V (fun e W' => e = .returned (.bool sn) ∧ Chg (fun _ => False) V W') from by rw [← hsn]; exact safe_any hX.f (by omega) (k + 1) (by omega))
      have HV : Hid (gw k = if v ≠ 0 then v else if wb = true ∧ ¬ (sk = true ∧ k + 1 < ns ∧ sn = true) then 10 else if k + 1 = ns ∧ el = false then 11 else 0) := Lib.hid (by
        rw [HG.out]
        by_cases hl : k + 1 = ns
        · have e : enI (ipart code k 0) = el := by rw [← HEL.out, show ns - 1 = k by omega]
          rw [← hv, ← hwb, ← hsk, ← hsn, ← e, hop, hiA, hiB, hiC, hiN]; rfl
        · rw [← hv, ← hwb, ← hsk, ← hsn, hop, hiA, hiB, hiC, hiN, if_neg (c := k + 1 = ns ∧ el = false) (fun h => hl h.1)]
          unfold wrongAt
          rw [if_neg (c := k + 1 = ns ∧ enI (ipart code k 0) = false) (fun h => hl h.1)])
      have hs0 : wr.drew.cell? ⟨W.heap.size, 0, none⟩ = some (.slice (some ⟨b, o, none⟩) ns cc) ∧ wr.drew.cell? ⟨b, o + k * 5, none⟩ = some (.int .i64 op) ∧ wr.drew.cell? ⟨b, o + k * 5 + 1, none⟩ = some (.int .i64 iA) ∧ wr.drew.cell? ⟨b, o + k * 5 + 2, none⟩ = some (.int .i64 iB) ∧ wr.drew.cell? ⟨b, o + k * 5 + 3, none⟩ = some (.int .i64 iC) ∧ wr.drew.cell? ⟨b, o + k * 5 + 4, none⟩ = some (.int .i64 iN) := ⟨b0, c0, c1, c2, c3, c4⟩
      clear hv hwb hsk hsn hop hiA hiB hiC hiN hsn0 HEL
      by_cases hv0 : v = 0
      · subst hv0
        cases wb with
        | false =>
          have HWR : Hid (gw k = if k + 1 = ns ∧ el = false then 11 else 0) := Lib.hid (by rw [HV.out]; simp)
          clear HV HSN
          go_wp2
          go_region_held3 (fun w' => w'.cell? ⟨W.heap.size, 0, none⟩ = some (.slice (some ⟨b, o, none⟩) ns cc) ∧ w'.cell? ⟨b, o + k * 5, none⟩ = some (.int .i64 op) ∧ w'.cell? ⟨b, o + k * 5 + 1, none⟩ = some (.int .i64 iA) ∧ w'.cell? ⟨b, o + k * 5 + 2, none⟩ = some (.int .i64 iB) ∧ w'.cell? ⟨b, o + k * 5 + 3, none⟩ = some (.int .i64 iC) ∧ w'.cell? ⟨b, o + k * 5 + 4, none⟩ = some (.int .i64 iN)) (first | assumption)
            ((first
              | (go_at_call 36; refine (HCK.out _).mono ?_; rintro e w1 ⟨rfl, hc1⟩; have HQ1 := Lib.hid (((Chg.refl (fun _ => False) wr).drew).trans hc1 (fun _ _ h => h)); have hs1 : w1.cell? ⟨W.heap.size, 0, none⟩ = some (.slice (some ⟨b, o, none⟩) ns cc) ∧ w1.cell? ⟨b, o + k * 5, none⟩ = some (.int .i64 op) ∧ w1.cell? ⟨b, o + k * 5 + 1, none⟩ = some (.int .i64 iA) ∧ w1.cell? ⟨b, o + k * 5 + 2, none⟩ = some (.int .i64 iB) ∧ w1.cell? ⟨b, o + k * 5 + 3, none⟩ = some (.int .i64 iC) ∧ w1.cell? ⟨b, o + k * 5 + 4, none⟩ = some (.int .i64 iN) := ⟨(HQ1.out.cell (p := ⟨W.heap.size, 0, none⟩) b9 (fun h => h)).trans b0, (HQ1.out.cell (p := ⟨b, _, none⟩) hb (fun h => h)).trans c0, (HQ1.out.cell (p := ⟨b, _, none⟩) hb (fun h => h)).trans c1, (HQ1.out.cell (p := ⟨b, _, none⟩) hb (fun h => h)).trans c2, (HQ1.out.cell (p := ⟨b, _, none⟩) hb (fun h => h)).trans c3, (HQ1.out.cell (p := ⟨b, _, none⟩) hb (fun h => h)).trans c4⟩; have HX1 := Lib.hid (HX.out.chg HQ1.out); clear hc1)))
          all_goals go_simp
          have m0 := HX1.out.b.cell 0
          have m1 := HX1.out.b.cell 1
          have m9 := HX1.out.b.lt
          simp at m0 m1
          have p0 := hs1.2.1
          go_wp2_with (first
            | (go_at_call 37; refine (HWT.out _).mono ?_; rintro e w2 ⟨rfl, rfl⟩))
          go_roundw
          case rel => exact ⟨k + 1, by omega, by go_num, Lib.hid (HR.out.miss hlt HWR.out HQ1.out)⟩
          case measure => simp [intOf]; omega
        | true =>
          cases sk with
          | false =>
            have HWR : Hid (gw k = 10) := Lib.hid (by rw [HV.out]; simp)
            clear HV HSN
            go_wp2
            go_region_held3 (fun w' => w'.cell? ⟨W.heap.size, 0, none⟩ = some (.slice (some ⟨b, o, none⟩) ns cc) ∧ w'.cell? ⟨b, o + k * 5, none⟩ = some (.int .i64 op) ∧ w'.cell? ⟨b, o + k * 5 + 1, none⟩ = some (.int .i64 iA) ∧ w'.cell? ⟨b, o + k * 5 + 2, none⟩ = some (.int .i64 iB) ∧ w'.cell? ⟨b, o + k * 5 + 3, none⟩ = some (.int .i64 iC) ∧ w'.cell? ⟨b, o + k * 5 + 4, none⟩ = some (.int .i64 iN)) (first | assumption)
              ((first
                | (go_at_call 36; refine (HCK.out _).mono ?_; rintro e w1 ⟨rfl, hc1⟩; have HQ1 := Lib.hid (((Chg.refl (fun _ => False) wr).drew).trans hc1 (fun _ _ h => h)); have hs1 : w1.cell? ⟨W.heap.size, 0, none⟩ = some (.slice (some ⟨b, o, none⟩) ns cc) ∧ w1.cell? ⟨b, o + k * 5, none⟩ = some (.int .i64 op) ∧ w1.cell? ⟨b, o + k * 5 + 1, none⟩ = some (.int .i64 iA) ∧ w1.cell? ⟨b, o + k * 5 + 2, none⟩ = some (.int .i64 iB) ∧ w1.cell? ⟨b, o + k * 5 + 3, none⟩ = some (.int .i64 iC) ∧ w1.cell? ⟨b, o + k * 5 + 4, none⟩ = some (.int .i64 iN) := ⟨(HQ1.out.cell (p := ⟨W.heap.size, 0, none⟩) b9 (fun h => h)).trans b0, (HQ1.out.cell (p := ⟨b, _, none⟩) hb (fun h => h)).trans c0, (HQ1.out.cell (p := ⟨b, _, none⟩) hb (fun h => h)).trans c1, (HQ1.out.cell (p := ⟨b, _, none⟩) hb (fun h => h)).trans c2, (HQ1.out.cell (p := ⟨b, _, none⟩) hb (fun h => h)).trans c3, (HQ1.out.cell (p := ⟨b, _, none⟩) hb (fun h => h)).trans c4⟩; have HX1 := Lib.hid (HX.out.chg HQ1.out); clear hc1)))
            all_goals go_simp
            have m0 := HX1.out.b.cell 0
            have m1 := HX1.out.b.cell 1
            have m9 := HX1.out.b.lt
            simp at m0 m1
            have p0 := hs1.2.1
            go_wp2_with (first
              | (go_at_call 38; refine (HSK.out _ HX1.out).mono ?_; rintro e w3 ⟨rfl, hc3⟩; have HX3 := Lib.hid (HX1.out.chg hc3); have HQ3 := Lib.hid (HQ1.out.trans hc3 (fun _ _ h => h)); have d0 := HX3.out.b.cell 0; have d1 := HX3.out.b.cell 1; have d9 := HX3.out.b.lt; simp at d0 d1; clear hc3)
              | (go_at_call 37; refine (HWT.out _).mono ?_; rintro e w2 ⟨rfl, rfl⟩))
            go_ret2
            have hres := HR.out.hit hlt (by rw [HWR.out]; decide)
            rw [HWR.out] at hres
            rw [hres]
            exact ⟨rfl, HCB.out.trans (HR.out.2.trans HQ3.out (fun _ _ h => h)) (fun _ _ h => h)⟩
          | true =>
            cases sn with
            | false =>
              have HWR : Hid (gw k = 10) := Lib.hid (by rw [HV.out]; simp)
              clear HV HSN
              go_wp2
              go_region_held3 (fun w' => w'.cell? ⟨W.heap.size, 0, none⟩ = some (.slice (some ⟨b, o, none⟩) ns cc) ∧ w'.cell? ⟨b, o + k * 5, none⟩ = some (.int .i64 op) ∧ w'.cell? ⟨b, o + k * 5 + 1, none⟩ = some (.int .i64 iA) ∧ w'.cell? ⟨b, o + k * 5 + 2, none⟩ = some (.int .i64 iB) ∧ w'.cell? ⟨b, o + k * 5 + 3, none⟩ = some (.int .i64 iC) ∧ w'.cell? ⟨b, o + k * 5 + 4, none⟩ = some (.int .i64 iN)) (first | assumption)
                ((first
                  | (go_at_call 36; refine (HCK.out _).mono ?_; rintro e w1 ⟨rfl, hc1⟩; have HQ1 := Lib.hid (((Chg.refl (fun _ => False) wr).drew).trans hc1 (fun _ _ h => h)); have hs1 : w1.cell? ⟨W.heap.size, 0, none⟩ = some (.slice (some ⟨b, o, none⟩) ns cc) ∧ w1.cell? ⟨b, o + k * 5, none⟩ = some (.int .i64 op) ∧ w1.cell? ⟨b, o + k * 5 + 1, none⟩ = some (.int .i64 iA) ∧ w1.cell? ⟨b, o + k * 5 + 2, none⟩ = some (.int .i64 iB) ∧ w1.cell? ⟨b, o + k * 5 + 3, none⟩ = some (.int .i64 iC) ∧ w1.cell? ⟨b, o + k * 5 + 4, none⟩ = some (.int .i64 iN) := ⟨(HQ1.out.cell (p := ⟨W.heap.size, 0, none⟩) b9 (fun h => h)).trans b0, (HQ1.out.cell (p := ⟨b, _, none⟩) hb (fun h => h)).trans c0, (HQ1.out.cell (p := ⟨b, _, none⟩) hb (fun h => h)).trans c1, (HQ1.out.cell (p := ⟨b, _, none⟩) hb (fun h => h)).trans c2, (HQ1.out.cell (p := ⟨b, _, none⟩) hb (fun h => h)).trans c3, (HQ1.out.cell (p := ⟨b, _, none⟩) hb (fun h => h)).trans c4⟩; have HX1 := Lib.hid (HX.out.chg HQ1.out); clear hc1)))
              all_goals go_simp
              have m0 := HX1.out.b.cell 0
              have m1 := HX1.out.b.cell 1
              have m9 := HX1.out.b.lt
              simp at m0 m1
              have p0 := hs1.2.1
              go_wp2_with (first
                | (go_at_call 38; refine (HSM.out _ HX3.out).mono ?_; rintro e w4 ⟨rfl, hc4⟩; have HQ4 := Lib.hid (HQ3.out.trans hc4 (fun _ _ h => h)); clear hc4)
                | (go_at_call 38; refine (HSK.out _ HX1.out).mono ?_; rintro e w3 ⟨rfl, hc3⟩; have HX3 := Lib.hid (HX1.out.chg hc3); have HQ3 := Lib.hid (HQ1.out.trans hc3 (fun _ _ h => h)); have d0 := HX3.out.b.cell 0; have d1 := HX3.out.b.cell 1; have d9 := HX3.out.b.lt; simp at d0 d1; clear hc3)
                | (go_at_call 37; refine (HWT.out _).mono ?_; rintro e w2 ⟨rfl, rfl⟩))
              go_ret2
              have hres := HR.out.hit hlt (by rw [HWR.out]; decide)
              rw [HWR.out] at hres
              rw [hres]
              exact ⟨rfl, HCB.out.trans (HR.out.2.trans HQ4.out (fun _ _ h => h)) (fun _ _ h => h)⟩
            | true =>
              have hl : k + 1 < ns := by rcases Nat.lt_or_ge (k + 1) ns with h | h; exact h; exact absurd (HSN.out (by omega)) (by simp)
              have HWR : Hid (gw k = if k + 1 = ns ∧ el = false then 11 else 0) := Lib.hid (by rw [HV.out]; simp [hl])
              clear HV HSN
              go_wp2
              go_region_held3 (fun w' => w'.cell? ⟨W.heap.size, 0, none⟩ = some (.slice (some ⟨b, o, none⟩) ns cc) ∧ w'.cell? ⟨b, o + k * 5, none⟩ = some (.int .i64 op) ∧ w'.cell? ⟨b, o + k * 5 + 1, none⟩ = some (.int .i64 iA) ∧ w'.cell? ⟨b, o + k * 5 + 2, none⟩ = some (.int .i64 iB) ∧ w'.cell? ⟨b, o + k * 5 + 3, none⟩ = some (.int .i64 iC) ∧ w'.cell? ⟨b, o + k * 5 + 4, none⟩ = some (.int .i64 iN)) (first | assumption)
                ((first
                  | (go_at_call 36; refine (HCK.out _).mono ?_; rintro e w1 ⟨rfl, hc1⟩; have HQ1 := Lib.hid (((Chg.refl (fun _ => False) wr).drew).trans hc1 (fun _ _ h => h)); have hs1 : w1.cell? ⟨W.heap.size, 0, none⟩ = some (.slice (some ⟨b, o, none⟩) ns cc) ∧ w1.cell? ⟨b, o + k * 5, none⟩ = some (.int .i64 op) ∧ w1.cell? ⟨b, o + k * 5 + 1, none⟩ = some (.int .i64 iA) ∧ w1.cell? ⟨b, o + k * 5 + 2, none⟩ = some (.int .i64 iB) ∧ w1.cell? ⟨b, o + k * 5 + 3, none⟩ = some (.int .i64 iC) ∧ w1.cell? ⟨b, o + k * 5 + 4, none⟩ = some (.int .i64 iN) := ⟨(HQ1.out.cell (p := ⟨W.heap.size, 0, none⟩) b9 (fun h => h)).trans b0, (HQ1.out.cell (p := ⟨b, _, none⟩) hb (fun h => h)).trans c0, (HQ1.out.cell (p := ⟨b, _, none⟩) hb (fun h => h)).trans c1, (HQ1.out.cell (p := ⟨b, _, none⟩) hb (fun h => h)).trans c2, (HQ1.out.cell (p := ⟨b, _, none⟩) hb (fun h => h)).trans c3, (HQ1.out.cell (p := ⟨b, _, none⟩) hb (fun h => h)).trans c4⟩; have HX1 := Lib.hid (HX.out.chg HQ1.out); clear hc1)))
              all_goals go_simp
              have m0 := HX1.out.b.cell 0
              have m1 := HX1.out.b.cell 1
              have m9 := HX1.out.b.lt
              simp at m0 m1
              have p0 := hs1.2.1
              go_wp2_with (first
                | (go_at_call 38; refine (HSM.out _ HX3.out).mono ?_; rintro e w4 ⟨rfl, hc4⟩; have HQ4 := Lib.hid (HQ3.out.trans hc4 (fun _ _ h => h)); clear hc4)
                | (go_at_call 38; refine (HSK.out _ HX1.out).mono ?_; rintro e w3 ⟨rfl, hc3⟩; have HX3 := Lib.hid (HX1.out.chg hc3); have HQ3 := Lib.hid (HQ1.out.trans hc3 (fun _ _ h => h)); have d0 := HX3.out.b.cell 0; have d1 := HX3.out.b.cell 1; have d9 := HX3.out.b.lt; simp at d0 d1; clear hc3)
                | (go_at_call 37; refine (HWT.out _).mono ?_; rintro e w2 ⟨rfl, rfl⟩))
              go_roundw
              case rel => exact ⟨k + 1, by omega, by go_num, Lib.hid (HR.out.miss hlt HWR.out HQ4.out)⟩
              case measure => simp [intOf]; omega
      · have v0 : (v == 0) = false := beq_eq_false_iff_ne.2 hv0
        have v1 : decide (v = 0) = false := decide_eq_false hv0
        have HWR : Hid (gw k = v) := Lib.hid (by rw [HV.out, if_pos hv0])
        clear HV HSN
        go_wp2
        go_region_held3 (fun w' => w'.cell? ⟨W.heap.size, 0, none⟩ = some (.slice (some ⟨b, o, none⟩) ns cc) ∧ w'.cell? ⟨b, o + k * 5, none⟩ = some (.int .i64 op) ∧ w'.cell? ⟨b, o + k * 5 + 1, none⟩ = some (.int .i64 iA) ∧ w'.cell? ⟨b, o + k * 5 + 2, none⟩ = some (.int .i64 iB) ∧ w'.cell? ⟨b, o + k * 5 + 3, none⟩ = some (.int .i64 iC) ∧ w'.cell? ⟨b, o + k * 5 + 4, none⟩ = some (.int .i64 iN)) (first | assumption)
          ((first
            | (go_at_call 36; refine (HCK.out _).mono ?_; rintro e w1 ⟨rfl, hc1⟩; have HQ1 := Lib.hid (((Chg.refl (fun _ => False) wr).drew).trans hc1 (fun _ _ h => h)); have hs1 : w1.cell? ⟨W.heap.size, 0, none⟩ = some (.slice (some ⟨b, o, none⟩) ns cc) ∧ w1.cell? ⟨b, o + k * 5, none⟩ = some (.int .i64 op) ∧ w1.cell? ⟨b, o + k * 5 + 1, none⟩ = some (.int .i64 iA) ∧ w1.cell? ⟨b, o + k * 5 + 2, none⟩ = some (.int .i64 iB) ∧ w1.cell? ⟨b, o + k * 5 + 3, none⟩ = some (.int .i64 iC) ∧ w1.cell? ⟨b, o + k * 5 + 4, none⟩ = some (.int .i64 iN) := ⟨(HQ1.out.cell (p := ⟨W.heap.size, 0, none⟩) b9 (fun h => h)).trans b0, (HQ1.out.cell (p := ⟨b, _, none⟩) hb (fun h => h)).trans c0, (HQ1.out.cell (p := ⟨b, _, none⟩) hb (fun h => h)).trans c1, (HQ1.out.cell (p := ⟨b, _, none⟩) hb (fun h => h)).trans c2, (HQ1.out.cell (p := ⟨b, _, none⟩) hb (fun h => h)).trans c3, (HQ1.out.cell (p := ⟨b, _, none⟩) hb (fun h => h)).trans c4⟩; have HX1 := Lib.hid (HX.out.chg HQ1.out); clear hc1)))
        all_goals go_simp
        have m0 := HX1.out.b.cell 0
        have m1 := HX1.out.b.cell 1
        have m9 := HX1.out.b.lt
        simp at m0 m1
        have p0 := hs1.2.1
        go_wp2
        go_ret2
        have hres := HR.out.hit hlt (by rw [HWR.out]; exact hv0)
        rw [HWR.out] at hres
        rw [hres]
        exact ⟨rfl, HCB.out.trans (HR.out.2.trans HQ1.out (fun _ _ h => h)) (fun _ _ h => h)⟩
    · obtain rfl : k = ns := by omega
      have hlast : k - 1 < k := by omega
      obtain ⟨b, o, hAc, hb, c0, _⟩ := HX.out.f.instr hlast
      subst hAc
      have HEN := Lib.hid (fun V => show Calls Tryd.prog 39 #[.int .i64 (ipart code (k - 1) 0)] V (fun e W' => e = .returned (.bool el) ∧ V = W') from by rw [← HEL.out]; exact rends_i _ V)
      have hres : res = if el = false then ((k : Int) - 1, 11) else (-1, 0) := by
        rcases HR.out.1 with ⟨h, _⟩ | ⟨_, h⟩
        · omega
        · exact h
      have HRE := Lib.hid hres
      have i0 : (k : Int) - 1 = ((k - 1 : Nat) : Int) := by omega
      have i1 : ((k : Int) - 1).toNat = k - 1 := by omega
      have i2 : (0 : Int) ≤ (k : Int) - 1 := by omega
      have i3 : (k : Int) - 1 < (k : Int) := by omega
      generalize ipart code (k - 1) 0 = op at *
      clear hres HG HEL i0
      cases el with
      | true =>
        go_wp2_with (go_at_call 39; refine (HEN.out _).mono ?_; rintro e w2 ⟨rfl, rfl⟩)
        go_ret2
        rw [HRE.out]
        exact ⟨rfl, HCB.out.trans HR.out.2 (fun _ _ h => h)⟩
      | false =>
        go_wp2_with (go_at_call 39; refine (HEN.out _).mono ?_; rintro e w2 ⟨rfl, rfl⟩)
        go_ret2
        rw [HRE.out]
        exact ⟨rfl, HCB.out.trans HR.out.2 (fun _ _ h => h)⟩
end
end Go.Proofs.YthdkbofnplnidaaDoor
