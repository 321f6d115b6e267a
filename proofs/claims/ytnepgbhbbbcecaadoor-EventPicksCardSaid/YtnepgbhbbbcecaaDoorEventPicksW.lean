/- The walk of the law EventPicks. -/
import Derived.Test.YtnepgbhbbbcecaaDoorEvC
import Derived.Test.YtnepgbhbbbcecaaDoorEvD
namespace Go.Proofs.YtnepgbhbbbcecaaDoor
open Go.ChangeShapes Go.WideShapes Go.ChangeAt Go.RowKit Go.Deep
set_option linter.unusedVariables false
set_option linter.unusedSimpArgs false

section
variable {w : World} {A : Option Addr} {m : Nat} {Ac : Nat → Option Addr} {nc cc : Nat → Nat} {As : Nat → Option Addr} {ns cs : Nat → Nat} {code : Nat → List (List Int)} {safe : Nat → List Bool}
set_option maxRecDepth 100000 in
set_option maxHeartbeats 16000000 in
theorem walk_eventPicks' (c : Nat) (hP : PM w A m Ac nc cc As ns cs code safe) (hm : m ≤ maxLen) (D : Option Addr) (n cap : Nat) (g : Int) (es : List (List Int)) (hu : Uni 5 es) (hD : Rd w 5 D n (kv es)) (hnm : n ≤ maxLen) :
    Calls Tryd.prog 5 #[.agg #[.slice A m c], .slice D n cap, .int .i64 g] w fun e w' => e = .returned (.bool true) ∧ Below w.heap.size w w' := by
  have hlen := hD.lenk hu (by decide)
  have hc0 : Chg (fun _ => False) w (w.alloc (.cells #[.slice A m c] 37)) := (Chg.refl _ _).alloc _
  have HC0 := Lib.hid hc0
  have HB := Lib.hid (Blk.new w 37 #[.slice A m c])
  by_cases hl : LightP m nc ns
  · have HL := Lib.hid (plight_yes c (hP.chg hc0) hl)
    have hm20 : m ≤ 20 := hl.1
    by_cases hn : 100 < n
    · have h1 : (100 : Int) < n := by omega
      clear hP hD hc0
      go_enter Tryd.func5, Tryd.ntmps5
      go_wp2_with (first
        | (go_at_call 18; refine HL.out.mono ?_; rintro e w1 ⟨rfl, hc1⟩; have HC1 := Lib.hid hc1; clear hc1)
        | (go_at_call 7; refine (alive_any _).mono ?_; rintro e w2 ⟨rfl, hc2⟩; have HC2 := Lib.hid hc2; clear hc2))
      go_ret
      exact ⟨rfl, ((HC0.out.trans HC1.out (fun _ _ h => h)).trans HC2.out (fun _ _ h => h)).toB⟩
    · have h1 : ¬ (100 : Int) < n := by omega
      have HP := Lib.hid hP
      have HD := Lib.hid hD
      have HU := Lib.hid hu
      clear hP hD hu hc0
      go_enter Tryd.func5, Tryd.ntmps5
      go_wp2_with (go_at_call 18; refine HL.out.mono ?_; rintro e w1 ⟨rfl, hc1⟩; have HC1 := Lib.hid (HC0.out.trans hc1 (fun _ _ h => h)); have HB1 := Lib.hid (HB.out.kept hc1 (fun h => h)); clear hc1)
      have HP1 := Lib.hid (fun (V : World) (hc : Chg (fun _ => False) w1 V) => HP.out.chg (HC1.out.trans hc (fun _ _ h => h)))
      have HD1 := Lib.hid (fun (V : World) (hc : Chg (fun _ => False) w1 V) => (HD.out.kept HC1.out (fun _ _ h => h)).kept hc (fun _ _ h => h))
      clear HP HD HL HB
      go_loopw [7, 8] (fun lv iv wr => OfR w1 g es n lv iv wr) (fun _ iv _ => n - (intOf iv).toNat)
      case atStart => exact ⟨0, none, 0, Nat.zero_le _, rfl, by rw [show mine g (es.take 0) = [] from by simp [mine]]; rfl, by rw [show mine g (es.take 0) = [] from by simp [mine]]; exact Row.nil _ _ _ _, Chg.refl _ _⟩
      case round =>
        obtain ⟨k, A', c', hk, rfl, rfl, hr, hc⟩ := hrel
        have k0 : (0 : Int) ≤ k := by omega
        have HR := Lib.hid hr
        have HC := Lib.hid hc
        have hsz := hc.size
        have p0 := HB1.out.cell 0
        have bl := HB1.out.lt
        simp at p0
        clear hr hc
        by_cases hlt : k < n
        · have k1 : (k : Int) < n := by omega
          have hke : k < es.length := by omega
          obtain ⟨_, b, o, rfl, hb, hcc⟩ := (HD1.out w1 (Chg.refl _ _)).getk HU.out (by decide) (by omega)
          have c0 := hcc k hke 0 (by decide)
          have c1 := hcc k hke 1 (by decide)
          have c2 := hcc k hke 2 (by decide)
          have c3 := hcc k hke 3 (by decide)
          have c4 := hcc k hke 4 (by decide)
          simp only [Nat.add_zero] at c0
          rw [← Nat.add_assoc] at c1 c2 c3 c4
          have h5 := five (HU.out _ (List.getElem_mem hke))
          have HY := Lib.hid (fun (h : (es[k]).getD 1 0 = g) => mine_yes hke h)
          have HN := Lib.hid (fun (h : (es[k]).getD 1 0 ≠ g) => mine_no hke h)
          have hol := mine_len g (es.take k)
          rw [List.length_take] at hol
          have hol2 : (mine g (es.take k)).length ≤ k := by omega
          have HOP := Lib.hid (fun (V : World) (hc : Chg (fun _ => False) w1 V) => op_any c ((es[k]).getD 0 0) ((es[k]).getD 1 0) ((es[k]).getD 2 0) ((es[k]).getD 3 0) ((es[k]).getD 4 0) (HP1.out V hc) (by omega))
          have HRP := Lib.hid (fun (V : World) (hc : Chg (fun _ => False) w1 V) => rop_any c ((es[k]).getD 0 0) ((es[k]).getD 1 0) ((es[k]).getD 2 0) ((es[k]).getD 3 0) ((es[k]).getD 4 0) (HP1.out V hc) (by omega))
          generalize opAt m nc code ((es[k]).getD 2 0) ((es[k]).getD 3 0) = v at *
          generalize (es[k]).getD 0 0 = x0 at *
          generalize (es[k]).getD 1 0 = x1 at *
          generalize (es[k]).getD 2 0 = x2 at *
          generalize (es[k]).getD 3 0 = x3 at *
          generalize (es[k]).getD 4 0 = x4 at *
          generalize es[k] = ek at *
          subst h5
          clear hcc hol
          obtain ⟨pr, r0, r1, r2, r3, r4⟩ : wr.cell? ⟨w.heap.size, 0, none⟩ = some (.slice A m c) ∧ wr.cell? ⟨b, o + k * 5, none⟩ = some (.int .i64 x0) ∧ wr.cell? ⟨b, o + k * 5 + 1, none⟩ = some (.int .i64 x1) ∧ wr.cell? ⟨b, o + k * 5 + 2, none⟩ = some (.int .i64 x2) ∧ wr.cell? ⟨b, o + k * 5 + 3, none⟩ = some (.int .i64 x3) ∧ wr.cell? ⟨b, o + k * 5 + 4, none⟩ = some (.int .i64 x4) := ⟨(HC.out.cell (p := ⟨w.heap.size, 0, none⟩) bl (fun h => h)).trans p0, (HC.out.cell (p := ⟨b, _, none⟩) hb (fun h => h)).trans c0, (HC.out.cell (p := ⟨b, _, none⟩) hb (fun h => h)).trans c1, (HC.out.cell (p := ⟨b, _, none⟩) hb (fun h => h)).trans c2, (HC.out.cell (p := ⟨b, _, none⟩) hb (fun h => h)).trans c3, (HC.out.cell (p := ⟨b, _, none⟩) hb (fun h => h)).trans c4⟩
          have hbw : b < wr.heap.size := by omega
          by_cases hg : x1 = g
          · subst hg
            have HE := Lib.hid (HY.out rfl)
            clear HY HN
            generalize mine x1 (es.take k) = l at *
            go_wp2_with (at_builtin; refine wpList_apV rfl (.tmp 31) (.tmp 36) rfl rfl w1.heap.size A' l.length c' l rfl (HR.out.alloc _) _ 1 1 [[x0, x1, x2, x3, x4]] rfl (Rd.litk _ [x0, x1, x2, x3, x4] _ _ rfl 5 rfl _ rfl) ?_ ?_ ?_; (next => omega); (next => simp; omega); intro A3 cp3 w3 z1 z2 z3; have HX := Lib.hid z1; have HZ : Hid (Chg (fun _ => False) w1 w3) := Lib.hid ((HC.out.alloc _).grown z2 (fun g hg => .inr ((HR.out.blk_lt g hg).1))); clear z1 z2 z3)
            have hs1 : w3.drew.cell? ⟨w.heap.size, 0, none⟩ = some (.slice A m c) ∧ w3.drew.cell? ⟨b, o + k * 5, none⟩ = some (.int .i64 x0) ∧ w3.drew.cell? ⟨b, o + k * 5 + 1, none⟩ = some (.int .i64 x1) ∧ w3.drew.cell? ⟨b, o + k * 5 + 2, none⟩ = some (.int .i64 x2) ∧ w3.drew.cell? ⟨b, o + k * 5 + 3, none⟩ = some (.int .i64 x3) ∧ w3.drew.cell? ⟨b, o + k * 5 + 4, none⟩ = some (.int .i64 x4) := ⟨(HZ.out.drew.cell (p := ⟨w.heap.size, 0, none⟩) bl (fun h => h)).trans p0, (HZ.out.drew.cell (p := ⟨b, _, none⟩) hb (fun h => h)).trans c0, (HZ.out.drew.cell (p := ⟨b, _, none⟩) hb (fun h => h)).trans c1, (HZ.out.drew.cell (p := ⟨b, _, none⟩) hb (fun h => h)).trans c2, (HZ.out.drew.cell (p := ⟨b, _, none⟩) hb (fun h => h)).trans c3, (HZ.out.drew.cell (p := ⟨b, _, none⟩) hb (fun h => h)).trans c4⟩
            refine wp_region_held_drew (S := fun w' => w'.cell? ⟨w.heap.size, 0, none⟩ = some (.slice A m c) ∧ w'.cell? ⟨b, o + k * 5, none⟩ = some (.int .i64 x0) ∧ w'.cell? ⟨b, o + k * 5 + 1, none⟩ = some (.int .i64 x1) ∧ w'.cell? ⟨b, o + k * 5 + 2, none⟩ = some (.int .i64 x2) ∧ w'.cell? ⟨b, o + k * 5 + 3, none⟩ = some (.int .i64 x3) ∧ w'.cell? ⟨b, o + k * 5 + 4, none⟩ = some (.int .i64 x4)) (by kernel_rfl) hs1 (fun hHeld => ?_)
            refine wpAnyH_take (i := 0) (oi := Oper.mk _ _ _ _ _ _) (v := ?v1) rfl (by kernel_rfl) (by kernel_rfl) (by kernel_rfl) (fun _ _ _ h => h) (Or.inl ⟨by rfl, ?hy1⟩) (by assumption) ?rs1
            case hy1 => (intro w hSw; (try dsimp only at hSw); go_simp <;> with_reducible rfl)
            try simp only [Act.put, List.setIfInBounds_toArray, List.set_cons_zero, List.set_cons_succ]
            refine wpAnyH_take (i := 1) (oi := Oper.mk _ _ _ _ _ _) (v := ?v2) rfl (by kernel_rfl) (by kernel_rfl) (by kernel_rfl) (fun _ _ _ h => h) (Or.inl ⟨by rfl, ?hy2⟩) (by assumption) ?rs2
            case hy2 => (intro w hSw; (try dsimp only at hSw); go_simp <;> with_reducible rfl)
            try simp only [Act.put, List.setIfInBounds_toArray, List.set_cons_zero, List.set_cons_succ]
            refine wpAnyH_take (i := 2) (oi := Oper.mk _ _ _ _ _ _) (v := ?v3) rfl (by kernel_rfl) (by kernel_rfl) (by kernel_rfl) (fun _ _ _ h => h) (Or.inl ⟨by rfl, ?hy3⟩) (by assumption) ?rs3
            case hy3 => (intro w hSw; (try dsimp only at hSw); go_simp <;> with_reducible rfl)
            try simp only [Act.put, List.setIfInBounds_toArray, List.set_cons_zero, List.set_cons_succ]
            refine wpAnyH_take (i := 3) (oi := Oper.mk _ _ _ _ _ _) (v := ?v4) rfl (by kernel_rfl) (by kernel_rfl) (by kernel_rfl) (fun _ _ _ h => h) (Or.inl ⟨by rfl, ?hy4⟩) (by assumption) ?rs4
            case hy4 => (intro w hSw; (try dsimp only at hSw); go_simp <;> with_reducible rfl)
            try simp only [Act.put, List.setIfInBounds_toArray, List.set_cons_zero, List.set_cons_succ]
            refine wpAnyH_take (i := 4) (oi := Oper.mk _ _ _ _ _ _) (v := ?v5) rfl (by kernel_rfl) (by kernel_rfl) (by kernel_rfl) (fun _ _ _ h => h) (Or.inl ⟨by rfl, ?hy5⟩) (by assumption) ?rs5
            case hy5 => (intro w hSw; (try dsimp only at hSw); go_simp <;> with_reducible rfl)
            try simp only [Act.put, List.setIfInBounds_toArray, List.set_cons_zero, List.set_cons_succ]
            refine wpAnyH_take (i := 6) (oi := Oper.mk _ _ _ _ _ _) (v := ?v6) rfl (by kernel_rfl) (by kernel_rfl) (by kernel_rfl) (fun _ _ _ h => h) (Or.inl ⟨by rfl, ?hy6⟩) (by assumption) ?rs6
            case hy6 => (intro w hSw; (try dsimp only at hSw); go_simp <;> with_reducible rfl)
            try simp only [Act.put, List.setIfInBounds_toArray, List.set_cons_zero, List.set_cons_succ]
            refine wpAnyH_take (i := 7) (oi := Oper.mk _ _ _ _ _ _) (v := ?v7) rfl (by kernel_rfl) (by kernel_rfl) (by kernel_rfl) (fun _ _ _ h => h) (Or.inl ⟨by rfl, ?hy7⟩) (by assumption) ?rs7
            case hy7 => (intro w hSw; (try dsimp only at hSw); go_simp <;> with_reducible rfl)
            try simp only [Act.put, List.setIfInBounds_toArray, List.set_cons_zero, List.set_cons_succ]
            refine wpAnyH_take (i := 8) (oi := Oper.mk _ _ _ _ _ _) (v := ?v8) rfl (by kernel_rfl) (by kernel_rfl) (by kernel_rfl) (fun _ _ _ h => h) (Or.inl ⟨by rfl, ?hy8⟩) (by assumption) ?rs8
            case hy8 => (intro w hSw; (try dsimp only at hSw); go_simp <;> with_reducible rfl)
            try simp only [Act.put, List.setIfInBounds_toArray, List.set_cons_zero, List.set_cons_succ]
            refine wpAnyH_take (i := 9) (oi := Oper.mk _ _ _ _ _ _) (v := ?v9) rfl (by kernel_rfl) (by kernel_rfl) (by kernel_rfl) (fun _ _ _ h => h) (Or.inl ⟨by rfl, ?hy9⟩) (by assumption) ?rs9
            case hy9 => (intro w hSw; (try dsimp only at hSw); go_simp <;> with_reducible rfl)
            try simp only [Act.put, List.setIfInBounds_toArray, List.set_cons_zero, List.set_cons_succ]
            refine wpAnyH_take (i := 10) (oi := Oper.mk _ _ _ _ _ _) (v := ?v10) rfl (by kernel_rfl) (by kernel_rfl) (by kernel_rfl) (fun _ _ _ h => h) (Or.inl ⟨by rfl, ?hy10⟩) (by assumption) ?rs10
            case hy10 => (intro w hSw; (try dsimp only at hSw); go_simp <;> with_reducible rfl)
            try simp only [Act.put, List.setIfInBounds_toArray, List.set_cons_zero, List.set_cons_succ]
            refine wpAnyH_ready (rs := [5]) (by kernel_rfl) (by simp) ?_
            refine AllReadyH.cons (o := Oper.mk _ _ _ _ _ _) rfl (fun K hK => ?_) AllReadyH.nil
            go_simp
            go_at_call 19; refine (HOP.out _ HZ.out.drew).mono ?_; rintro e w6 ⟨rfl, hc2⟩; have HQ2 := Lib.hid (HZ.out.drew.trans hc2 (fun _ _ h => h)); have HX2 := Lib.hid (HX.out.drew.kept hc2 (fun _ _ h => h)); clear hc2; have hs2 : w6.cell? ⟨w.heap.size, 0, none⟩ = some (.slice A m c) ∧ w6.cell? ⟨b, o + k * 5, none⟩ = some (.int .i64 x0) ∧ w6.cell? ⟨b, o + k * 5 + 1, none⟩ = some (.int .i64 x1) ∧ w6.cell? ⟨b, o + k * 5 + 2, none⟩ = some (.int .i64 x2) ∧ w6.cell? ⟨b, o + k * 5 + 3, none⟩ = some (.int .i64 x3) ∧ w6.cell? ⟨b, o + k * 5 + 4, none⟩ = some (.int .i64 x4) := ⟨(HQ2.out.cell (p := ⟨w.heap.size, 0, none⟩) bl (fun h => h)).trans p0, (HQ2.out.cell (p := ⟨b, _, none⟩) hb (fun h => h)).trans c0, (HQ2.out.cell (p := ⟨b, _, none⟩) hb (fun h => h)).trans c1, (HQ2.out.cell (p := ⟨b, _, none⟩) hb (fun h => h)).trans c2, (HQ2.out.cell (p := ⟨b, _, none⟩) hb (fun h => h)).trans c3, (HQ2.out.cell (p := ⟨b, _, none⟩) hb (fun h => h)).trans c4⟩
            refine hK.out _ _ hs2 (fun hHeld => ?_)
            clear hK K
            try simp only [Act.put, List.setIfInBounds_toArray, List.set_cons_zero, List.set_cons_succ]
            refine wpAnyH_ready (rs := [11]) (by kernel_rfl) (by simp) ?_
            refine AllReadyH.cons (o := Oper.mk _ _ _ _ _ _) rfl (fun K hK => ?_) AllReadyH.nil
            go_simp
            go_at_call 20; refine (HRP.out _ HQ2.out).mono ?_; rintro e w7 ⟨rfl, hc3⟩; have HQ3 := Lib.hid (HQ2.out.trans hc3 (fun _ _ h => h)); have HX3 := Lib.hid (HX2.out.kept hc3 (fun _ _ h => h)); clear hc3; have hs3 : w7.cell? ⟨w.heap.size, 0, none⟩ = some (.slice A m c) ∧ w7.cell? ⟨b, o + k * 5, none⟩ = some (.int .i64 x0) ∧ w7.cell? ⟨b, o + k * 5 + 1, none⟩ = some (.int .i64 x1) ∧ w7.cell? ⟨b, o + k * 5 + 2, none⟩ = some (.int .i64 x2) ∧ w7.cell? ⟨b, o + k * 5 + 3, none⟩ = some (.int .i64 x3) ∧ w7.cell? ⟨b, o + k * 5 + 4, none⟩ = some (.int .i64 x4) := ⟨(HQ3.out.cell (p := ⟨w.heap.size, 0, none⟩) bl (fun h => h)).trans p0, (HQ3.out.cell (p := ⟨b, _, none⟩) hb (fun h => h)).trans c0, (HQ3.out.cell (p := ⟨b, _, none⟩) hb (fun h => h)).trans c1, (HQ3.out.cell (p := ⟨b, _, none⟩) hb (fun h => h)).trans c2, (HQ3.out.cell (p := ⟨b, _, none⟩) hb (fun h => h)).trans c3, (HQ3.out.cell (p := ⟨b, _, none⟩) hb (fun h => h)).trans c4⟩
            refine hK.out _ _ hs3 (fun hHeld => ?_)
            clear hK K
            try simp only [Act.put, List.setIfInBounds_toArray, List.set_cons_zero, List.set_cons_succ]
            refine wpAnyH_take (i := 12) (oi := Oper.mk _ _ _ _ _ _) (v := ?v13) rfl (by kernel_rfl) (by kernel_rfl) (by kernel_rfl) (fun _ _ _ h => h) (Or.inl ⟨by rfl, ?hy13⟩) (by assumption) ?rs13
            case hy13 => (intro w hSw; (try dsimp only at hSw); go_simp <;> with_reducible rfl)
            try simp only [Act.put, List.setIfInBounds_toArray, List.set_cons_zero, List.set_cons_succ]
            refine wpAnyH_done (by kernel_rfl) ?_ _
            go_wp2
            go_roundw
            case rel => exact ⟨k + 1, A3, cp3, by omega, by go_num, by rw [HE.out]; simp, by rw [HE.out]; simpa using HX3.out, HQ3.out⟩
            case measure => simp [intOf]; omega
          · have hgd : (x1 == g) = false := beq_eq_false_iff_ne.2 hg
            have HE := Lib.hid (HN.out hg)
            clear HY HN
            go_wp2
            have hs1 : wr.drew.cell? ⟨w.heap.size, 0, none⟩ = some (.slice A m c) ∧ wr.drew.cell? ⟨b, o + k * 5, none⟩ = some (.int .i64 x0) ∧ wr.drew.cell? ⟨b, o + k * 5 + 1, none⟩ = some (.int .i64 x1) ∧ wr.drew.cell? ⟨b, o + k * 5 + 2, none⟩ = some (.int .i64 x2) ∧ wr.drew.cell? ⟨b, o + k * 5 + 3, none⟩ = some (.int .i64 x3) ∧ wr.drew.cell? ⟨b, o + k * 5 + 4, none⟩ = some (.int .i64 x4) := ⟨(HC.out.drew.cell (p := ⟨w.heap.size, 0, none⟩) bl (fun h => h)).trans p0, (HC.out.drew.cell (p := ⟨b, _, none⟩) hb (fun h => h)).trans c0, (HC.out.drew.cell (p := ⟨b, _, none⟩) hb (fun h => h)).trans c1, (HC.out.drew.cell (p := ⟨b, _, none⟩) hb (fun h => h)).trans c2, (HC.out.drew.cell (p := ⟨b, _, none⟩) hb (fun h => h)).trans c3, (HC.out.drew.cell (p := ⟨b, _, none⟩) hb (fun h => h)).trans c4⟩
            refine wp_region_held_drew (S := fun w' => w'.cell? ⟨w.heap.size, 0, none⟩ = some (.slice A m c) ∧ w'.cell? ⟨b, o + k * 5, none⟩ = some (.int .i64 x0) ∧ w'.cell? ⟨b, o + k * 5 + 1, none⟩ = some (.int .i64 x1) ∧ w'.cell? ⟨b, o + k * 5 + 2, none⟩ = some (.int .i64 x2) ∧ w'.cell? ⟨b, o + k * 5 + 3, none⟩ = some (.int .i64 x3) ∧ w'.cell? ⟨b, o + k * 5 + 4, none⟩ = some (.int .i64 x4)) (by kernel_rfl) hs1 (fun hHeld => ?_)
            refine wpAnyH_take (i := 0) (oi := Oper.mk _ _ _ _ _ _) (v := ?v14) rfl (by kernel_rfl) (by kernel_rfl) (by kernel_rfl) (fun _ _ _ h => h) (Or.inl ⟨by rfl, ?hy14⟩) (by assumption) ?rs14
            case hy14 => (intro w hSw; (try dsimp only at hSw); go_simp <;> with_reducible rfl)
            try simp only [Act.put, List.setIfInBounds_toArray, List.set_cons_zero, List.set_cons_succ]
            refine wpAnyH_take (i := 1) (oi := Oper.mk _ _ _ _ _ _) (v := ?v15) rfl (by kernel_rfl) (by kernel_rfl) (by kernel_rfl) (fun _ _ _ h => h) (Or.inl ⟨by rfl, ?hy15⟩) (by assumption) ?rs15
            case hy15 => (intro w hSw; (try dsimp only at hSw); go_simp <;> with_reducible rfl)
            try simp only [Act.put, List.setIfInBounds_toArray, List.set_cons_zero, List.set_cons_succ]
            refine wpAnyH_take (i := 2) (oi := Oper.mk _ _ _ _ _ _) (v := ?v16) rfl (by kernel_rfl) (by kernel_rfl) (by kernel_rfl) (fun _ _ _ h => h) (Or.inl ⟨by rfl, ?hy16⟩) (by assumption) ?rs16
            case hy16 => (intro w hSw; (try dsimp only at hSw); go_simp <;> with_reducible rfl)
            try simp only [Act.put, List.setIfInBounds_toArray, List.set_cons_zero, List.set_cons_succ]
            refine wpAnyH_take (i := 3) (oi := Oper.mk _ _ _ _ _ _) (v := ?v17) rfl (by kernel_rfl) (by kernel_rfl) (by kernel_rfl) (fun _ _ _ h => h) (Or.inl ⟨by rfl, ?hy17⟩) (by assumption) ?rs17
            case hy17 => (intro w hSw; (try dsimp only at hSw); go_simp <;> with_reducible rfl)
            try simp only [Act.put, List.setIfInBounds_toArray, List.set_cons_zero, List.set_cons_succ]
            refine wpAnyH_take (i := 4) (oi := Oper.mk _ _ _ _ _ _) (v := ?v18) rfl (by kernel_rfl) (by kernel_rfl) (by kernel_rfl) (fun _ _ _ h => h) (Or.inl ⟨by rfl, ?hy18⟩) (by assumption) ?rs18
            case hy18 => (intro w hSw; (try dsimp only at hSw); go_simp <;> with_reducible rfl)
            try simp only [Act.put, List.setIfInBounds_toArray, List.set_cons_zero, List.set_cons_succ]
            refine wpAnyH_take (i := 6) (oi := Oper.mk _ _ _ _ _ _) (v := ?v19) rfl (by kernel_rfl) (by kernel_rfl) (by kernel_rfl) (fun _ _ _ h => h) (Or.inl ⟨by rfl, ?hy19⟩) (by assumption) ?rs19
            case hy19 => (intro w hSw; (try dsimp only at hSw); go_simp <;> with_reducible rfl)
            try simp only [Act.put, List.setIfInBounds_toArray, List.set_cons_zero, List.set_cons_succ]
            refine wpAnyH_take (i := 7) (oi := Oper.mk _ _ _ _ _ _) (v := ?v20) rfl (by kernel_rfl) (by kernel_rfl) (by kernel_rfl) (fun _ _ _ h => h) (Or.inl ⟨by rfl, ?hy20⟩) (by assumption) ?rs20
            case hy20 => (intro w hSw; (try dsimp only at hSw); go_simp <;> with_reducible rfl)
            try simp only [Act.put, List.setIfInBounds_toArray, List.set_cons_zero, List.set_cons_succ]
            refine wpAnyH_take (i := 8) (oi := Oper.mk _ _ _ _ _ _) (v := ?v21) rfl (by kernel_rfl) (by kernel_rfl) (by kernel_rfl) (fun _ _ _ h => h) (Or.inl ⟨by rfl, ?hy21⟩) (by assumption) ?rs21
            case hy21 => (intro w hSw; (try dsimp only at hSw); go_simp <;> with_reducible rfl)
            try simp only [Act.put, List.setIfInBounds_toArray, List.set_cons_zero, List.set_cons_succ]
            refine wpAnyH_take (i := 9) (oi := Oper.mk _ _ _ _ _ _) (v := ?v22) rfl (by kernel_rfl) (by kernel_rfl) (by kernel_rfl) (fun _ _ _ h => h) (Or.inl ⟨by rfl, ?hy22⟩) (by assumption) ?rs22
            case hy22 => (intro w hSw; (try dsimp only at hSw); go_simp <;> with_reducible rfl)
            try simp only [Act.put, List.setIfInBounds_toArray, List.set_cons_zero, List.set_cons_succ]
            refine wpAnyH_take (i := 10) (oi := Oper.mk _ _ _ _ _ _) (v := ?v23) rfl (by kernel_rfl) (by kernel_rfl) (by kernel_rfl) (fun _ _ _ h => h) (Or.inl ⟨by rfl, ?hy23⟩) (by assumption) ?rs23
            case hy23 => (intro w hSw; (try dsimp only at hSw); go_simp <;> with_reducible rfl)
            try simp only [Act.put, List.setIfInBounds_toArray, List.set_cons_zero, List.set_cons_succ]
            refine wpAnyH_ready (rs := [5]) (by kernel_rfl) (by simp) ?_
            refine AllReadyH.cons (o := Oper.mk _ _ _ _ _ _) rfl (fun K hK => ?_) AllReadyH.nil
            go_simp
            go_at_call 19; refine (HOP.out _ HC.out.drew).mono ?_; rintro e w6 ⟨rfl, hc2⟩; have HQ2 := Lib.hid (HC.out.drew.trans hc2 (fun _ _ h => h)); have HX2 := Lib.hid (HR.out.drew.kept hc2 (fun _ _ h => h)); clear hc2; have hs2 : w6.cell? ⟨w.heap.size, 0, none⟩ = some (.slice A m c) ∧ w6.cell? ⟨b, o + k * 5, none⟩ = some (.int .i64 x0) ∧ w6.cell? ⟨b, o + k * 5 + 1, none⟩ = some (.int .i64 x1) ∧ w6.cell? ⟨b, o + k * 5 + 2, none⟩ = some (.int .i64 x2) ∧ w6.cell? ⟨b, o + k * 5 + 3, none⟩ = some (.int .i64 x3) ∧ w6.cell? ⟨b, o + k * 5 + 4, none⟩ = some (.int .i64 x4) := ⟨(HQ2.out.cell (p := ⟨w.heap.size, 0, none⟩) bl (fun h => h)).trans p0, (HQ2.out.cell (p := ⟨b, _, none⟩) hb (fun h => h)).trans c0, (HQ2.out.cell (p := ⟨b, _, none⟩) hb (fun h => h)).trans c1, (HQ2.out.cell (p := ⟨b, _, none⟩) hb (fun h => h)).trans c2, (HQ2.out.cell (p := ⟨b, _, none⟩) hb (fun h => h)).trans c3, (HQ2.out.cell (p := ⟨b, _, none⟩) hb (fun h => h)).trans c4⟩
            refine hK.out _ _ hs2 (fun hHeld => ?_)
            clear hK K
            try simp only [Act.put, List.setIfInBounds_toArray, List.set_cons_zero, List.set_cons_succ]
            refine wpAnyH_ready (rs := [11]) (by kernel_rfl) (by simp) ?_
            refine AllReadyH.cons (o := Oper.mk _ _ _ _ _ _) rfl (fun K hK => ?_) AllReadyH.nil
            go_simp
            go_at_call 20; refine (HRP.out _ HQ2.out).mono ?_; rintro e w7 ⟨rfl, hc3⟩; have HQ3 := Lib.hid (HQ2.out.trans hc3 (fun _ _ h => h)); have HX3 := Lib.hid (HX2.out.kept hc3 (fun _ _ h => h)); clear hc3; have hs3 : w7.cell? ⟨w.heap.size, 0, none⟩ = some (.slice A m c) ∧ w7.cell? ⟨b, o + k * 5, none⟩ = some (.int .i64 x0) ∧ w7.cell? ⟨b, o + k * 5 + 1, none⟩ = some (.int .i64 x1) ∧ w7.cell? ⟨b, o + k * 5 + 2, none⟩ = some (.int .i64 x2) ∧ w7.cell? ⟨b, o + k * 5 + 3, none⟩ = some (.int .i64 x3) ∧ w7.cell? ⟨b, o + k * 5 + 4, none⟩ = some (.int .i64 x4) := ⟨(HQ3.out.cell (p := ⟨w.heap.size, 0, none⟩) bl (fun h => h)).trans p0, (HQ3.out.cell (p := ⟨b, _, none⟩) hb (fun h => h)).trans c0, (HQ3.out.cell (p := ⟨b, _, none⟩) hb (fun h => h)).trans c1, (HQ3.out.cell (p := ⟨b, _, none⟩) hb (fun h => h)).trans c2, (HQ3.out.cell (p := ⟨b, _, none⟩) hb (fun h => h)).trans c3, (HQ3.out.cell (p := ⟨b, _, none⟩) hb (fun h => h)).trans c4⟩
            refine hK.out _ _ hs3 (fun hHeld => ?_)
            clear hK K
            try simp only [Act.put, List.setIfInBounds_toArray, List.set_cons_zero, List.set_cons_succ]
            refine wpAnyH_take (i := 12) (oi := Oper.mk _ _ _ _ _ _) (v := ?v26) rfl (by kernel_rfl) (by kernel_rfl) (by kernel_rfl) (fun _ _ _ h => h) (Or.inl ⟨by rfl, ?hy26⟩) (by assumption) ?rs26
            case hy26 => (intro w hSw; (try dsimp only at hSw); go_simp <;> with_reducible rfl)
            try simp only [Act.put, List.setIfInBounds_toArray, List.set_cons_zero, List.set_cons_succ]
            refine wpAnyH_done (by kernel_rfl) ?_ _
            go_wp2
            go_roundw
            case rel => exact ⟨k + 1, A', c', by omega, by go_num, by rw [HE.out], by rw [HE.out]; exact HX3.out, HQ3.out⟩
            case measure => simp [intOf]; omega
        · obtain rfl : k = n := by omega
          have ht : es.take k = es := List.take_of_length_le (by omega)
          rw [ht] at HR ⊢
          have HTT := Lib.hid ht
          have hml := mine_len g es
          have hol2 : (mine g es).length ≤ 100 := by omega
          have htl := told_len m nc code g es
          have htl2 : (told m nc code g es).length ≤ 100 := by omega
          have HOF := Lib.hid (of_any D k cap g es wr.drew HU.out (HD1.out wr.drew HC.out.drew) (by omega))
          have HEM := Lib.hid (fun (V : World) (hc : Chg (fun _ => False) w1 V) => emits_any c (HP1.out V hc) (by omega) D k cap g es HU.out (HD1.out V hc) (by omega))
          have HRE := Lib.hid (fun (V : World) (hc : Chg (fun _ => False) w1 V) => remits_any c (HP1.out V hc) (by omega) D k cap g es HU.out (HD1.out V hc) (by omega))
          have HMU := Lib.hid (mine_uni (g := g) HU.out)
          clear HP1 HD1 htl hml ht
          generalize mine g es = l at *
          generalize told m nc code g es = t at *
          have hs1 : wr.drew.cell? ⟨w.heap.size, 0, none⟩ = some (.slice A m c) := (HC.out.drew.cell (p := ⟨w.heap.size, 0, none⟩) bl (fun h => h)).trans p0
          go_wp2
          refine wp_region_held_drew (S := fun w' => w'.cell? ⟨w.heap.size, 0, none⟩ = some (.slice A m c)) (by kernel_rfl) hs1 (fun hHeld => ?_)
          refine wpAnyH_take (i := 0) (oi := Oper.mk _ _ _ _ _ _) (v := ?v27) rfl (by kernel_rfl) (by kernel_rfl) (by kernel_rfl) (fun _ _ _ h => h) (Or.inl ⟨by rfl, ?hy27⟩) (by assumption) ?rs27
          case hy27 => (intro w hSw; (try dsimp only at hSw); go_simp <;> with_reducible rfl)
          try simp only [Act.put, List.setIfInBounds_toArray, List.set_cons_zero, List.set_cons_succ]
          refine wpAnyH_take (i := 1) (oi := Oper.mk _ _ _ _ _ _) (v := ?v28) rfl (by kernel_rfl) (by kernel_rfl) (by kernel_rfl) (fun _ _ _ h => h) (Or.inl ⟨by rfl, ?hy28⟩) (by assumption) ?rs28
          case hy28 => (intro w hSw; (try dsimp only at hSw); go_simp <;> with_reducible rfl)
          try simp only [Act.put, List.setIfInBounds_toArray, List.set_cons_zero, List.set_cons_succ]
          refine wpAnyH_take (i := 3) (oi := Oper.mk _ _ _ _ _ _) (v := ?v29) rfl (by kernel_rfl) (by kernel_rfl) (by kernel_rfl) (fun _ _ _ h => h) (Or.inl ⟨by rfl, ?hy29⟩) (by assumption) ?rs29
          case hy29 => (intro w hSw; (try dsimp only at hSw); go_simp <;> with_reducible rfl)
          try simp only [Act.put, List.setIfInBounds_toArray, List.set_cons_zero, List.set_cons_succ]
          refine wpAnyH_ready (rs := [2]) (by kernel_rfl) (by simp) ?_
          refine AllReadyH.cons (o := Oper.mk _ _ _ _ _ _) rfl (fun K hK => ?_) AllReadyH.nil
          go_simp
          go_at_call 21; refine HOF.out.mono ?_; rintro e v1 ⟨B1, d1, rfl, hr1, hc1⟩; have K1 := Lib.hid (HC.out.drew.trans hc1 (fun _ _ h => h)); have M1 := Lib.hid (HR.out.drew.rd.kept hc1 (fun _ _ h => h)); have N1 := Lib.hid hr1.rd; clear hc1 hr1; have hs2 : v1.cell? ⟨w.heap.size, 0, none⟩ = some (.slice A m c) := (K1.out.cell (p := ⟨w.heap.size, 0, none⟩) bl (fun h => h)).trans p0
          refine hK.out _ _ hs2 (fun hHeld => ?_)
          clear hK K
          try simp only [Act.put, List.setIfInBounds_toArray, List.set_cons_zero, List.set_cons_succ]
          refine wpAnyH_ready (rs := [4]) (by kernel_rfl) (by simp) ?_
          refine AllReadyH.cons (o := Oper.mk _ _ _ _ _ _) rfl (fun K hK => ?_) AllReadyH.nil
          go_simp
          go_at_call 15; refine (esame_yes _ _ _ _ _ _ l _ HMU.out N1.out M1.out (by omega)).mono ?_; rintro e v2 ⟨rfl, q, rfl⟩; have K2 := Lib.hid (K1.out.drewN q); have hs3 : (v1.drewN q).cell? ⟨w.heap.size, 0, none⟩ = some (.slice A m c) := (K2.out.cell (p := ⟨w.heap.size, 0, none⟩) bl (fun h => h)).trans p0
          refine hK.out _ _ hs3 (fun hHeld => ?_)
          clear hK K
          try simp only [Act.put, List.setIfInBounds_toArray, List.set_cons_zero, List.set_cons_succ]
          refine wpAnyH_take (i := 5) (oi := Oper.mk _ _ _ _ _ _) (v := ?v32) rfl (by kernel_rfl) (by kernel_rfl) (by kernel_rfl) (fun _ _ _ h => h) (Or.inl ⟨by rfl, ?hy32⟩) (by assumption) ?rs32
          case hy32 => (intro w hSw; (try dsimp only at hSw); go_simp <;> with_reducible rfl)
          try simp only [Act.put, List.setIfInBounds_toArray, List.set_cons_zero, List.set_cons_succ]
          refine wpAnyH_take (i := 6) (oi := Oper.mk _ _ _ _ _ _) (v := ?v33) rfl (by kernel_rfl) (by kernel_rfl) (by kernel_rfl) (fun _ _ _ h => h) (Or.inl ⟨by rfl, ?hy33⟩) (by assumption) ?rs33
          case hy33 => (intro w hSw; (try dsimp only at hSw); go_simp <;> with_reducible rfl)
          try simp only [Act.put, List.setIfInBounds_toArray, List.set_cons_zero, List.set_cons_succ]
          refine wpAnyH_take (i := 7) (oi := Oper.mk _ _ _ _ _ _) (v := ?v34) rfl (by kernel_rfl) (by kernel_rfl) (by kernel_rfl) (fun _ _ _ h => h) (Or.inl ⟨by rfl, ?hy34⟩) (by assumption) ?rs34
          case hy34 => (intro w hSw; (try dsimp only at hSw); go_simp <;> with_reducible rfl)
          try simp only [Act.put, List.setIfInBounds_toArray, List.set_cons_zero, List.set_cons_succ]
          refine wpAnyH_take (i := 8) (oi := Oper.mk _ _ _ _ _ _) (v := ?v35) rfl (by kernel_rfl) (by kernel_rfl) (by kernel_rfl) (fun _ _ _ h => h) (Or.inl ⟨by rfl, ?hy35⟩) (by assumption) ?rs35
          case hy35 => (intro w hSw; (try dsimp only at hSw); go_simp <;> with_reducible rfl)
          try simp only [Act.put, List.setIfInBounds_toArray, List.set_cons_zero, List.set_cons_succ]
          refine wpAnyH_take (i := 10) (oi := Oper.mk _ _ _ _ _ _) (v := ?v36) rfl (by kernel_rfl) (by kernel_rfl) (by kernel_rfl) (fun _ _ _ h => h) (Or.inl ⟨by rfl, ?hy36⟩) (by assumption) ?rs36
          case hy36 => (intro w hSw; (try dsimp only at hSw); go_simp <;> with_reducible rfl)
          try simp only [Act.put, List.setIfInBounds_toArray, List.set_cons_zero, List.set_cons_succ]
          refine wpAnyH_take (i := 11) (oi := Oper.mk _ _ _ _ _ _) (v := ?v37) rfl (by kernel_rfl) (by kernel_rfl) (by kernel_rfl) (fun _ _ _ h => h) (Or.inl ⟨by rfl, ?hy37⟩) (by assumption) ?rs37
          case hy37 => (intro w hSw; (try dsimp only at hSw); go_simp <;> with_reducible rfl)
          try simp only [Act.put, List.setIfInBounds_toArray, List.set_cons_zero, List.set_cons_succ]
          refine wpAnyH_take (i := 12) (oi := Oper.mk _ _ _ _ _ _) (v := ?v38) rfl (by kernel_rfl) (by kernel_rfl) (by kernel_rfl) (fun _ _ _ h => h) (Or.inl ⟨by rfl, ?hy38⟩) (by assumption) ?rs38
          case hy38 => (intro w hSw; (try dsimp only at hSw); go_simp <;> with_reducible rfl)
          try simp only [Act.put, List.setIfInBounds_toArray, List.set_cons_zero, List.set_cons_succ]
          refine wpAnyH_ready (rs := [9]) (by kernel_rfl) (by simp) ?_
          refine AllReadyH.cons (o := Oper.mk _ _ _ _ _ _) rfl (fun K hK => ?_) AllReadyH.nil
          go_simp
          go_at_call 23; refine (HEM.out _ K2.out).mono ?_; rintro e v3 ⟨B3, d3, rfl, hr3, hc3⟩; have K3 := Lib.hid (K2.out.trans hc3 (fun _ _ h => h)); have N3 := Lib.hid hr3.rd; clear hc3 hr3; have hs4 : v3.cell? ⟨w.heap.size, 0, none⟩ = some (.slice A m c) := (K3.out.cell (p := ⟨w.heap.size, 0, none⟩) bl (fun h => h)).trans p0
          refine hK.out _ _ hs4 (fun hHeld => ?_)
          clear hK K
          try simp only [Act.put, List.setIfInBounds_toArray, List.set_cons_zero, List.set_cons_succ]
          refine wpAnyH_ready (rs := [13]) (by kernel_rfl) (by simp) ?_
          refine AllReadyH.cons (o := Oper.mk _ _ _ _ _ _) rfl (fun K hK => ?_) AllReadyH.nil
          go_simp
          go_at_call 24; refine (HRE.out _ K3.out).mono ?_; rintro e v4 ⟨B4, d4, rfl, hr4, hc4⟩; have K4 := Lib.hid (K3.out.trans hc4 (fun _ _ h => h)); have N4 := Lib.hid hr4.rd; have M4 := Lib.hid (N3.out.kept hc4 (fun _ _ h => h)); clear hc4 hr4; have hs5 : v4.cell? ⟨w.heap.size, 0, none⟩ = some (.slice A m c) := (K4.out.cell (p := ⟨w.heap.size, 0, none⟩) bl (fun h => h)).trans p0
          refine hK.out _ _ hs5 (fun hHeld => ?_)
          clear hK K
          try simp only [Act.put, List.setIfInBounds_toArray, List.set_cons_zero, List.set_cons_succ]
          refine wpAnyH_ready (rs := [14]) (by kernel_rfl) (by simp) ?_
          refine AllReadyH.cons (o := Oper.mk _ _ _ _ _ _) rfl (fun K hK => ?_) AllReadyH.nil
          go_simp
          go_at_call 22; refine (numbers_yes _ _ _ _ _ _ t _ M4.out N4.out (by omega)).mono ?_; rintro e v5 ⟨rfl, q5, rfl⟩; have K5 := Lib.hid (K4.out.drewN q5); have hs6 : (v4.drewN q5).cell? ⟨w.heap.size, 0, none⟩ = some (.slice A m c) := (K5.out.cell (p := ⟨w.heap.size, 0, none⟩) bl (fun h => h)).trans p0
          refine hK.out _ _ hs6 (fun hHeld => ?_)
          clear hK K
          try simp only [Act.put, List.setIfInBounds_toArray, List.set_cons_zero, List.set_cons_succ]
          refine wpAnyH_take (i := 15) (oi := Oper.mk _ _ _ _ _ _) (v := ?v42) rfl (by kernel_rfl) (by kernel_rfl) (by kernel_rfl) (fun _ _ _ h => h) (Or.inl ⟨by rfl, ?hy42⟩) (by assumption) ?rs42
          case hy42 => (intro w hSw; (try dsimp only at hSw); go_simp <;> with_reducible rfl)
          try simp only [Act.put, List.setIfInBounds_toArray, List.set_cons_zero, List.set_cons_succ]
          refine wpAnyH_take (i := 16) (oi := Oper.mk _ _ _ _ _ _) (v := ?v43) rfl (by kernel_rfl) (by kernel_rfl) (by kernel_rfl) (fun _ _ _ h => h) (Or.inl ⟨by rfl, ?hy43⟩) (by assumption) ?rs43
          case hy43 => (intro w hSw; (try dsimp only at hSw); go_simp <;> with_reducible rfl)
          try simp only [Act.put, List.setIfInBounds_toArray, List.set_cons_zero, List.set_cons_succ]
          refine wpAnyH_ready (rs := [17]) (by kernel_rfl) (by simp) ?_
          refine AllReadyH.cons (o := Oper.mk _ _ _ _ _ _) rfl (fun K hK => ?_) AllReadyH.nil
          go_simp
          go_at_call 7; refine (alive_any _).mono ?_; rintro e v6 ⟨rfl, hc6⟩; have K6 := Lib.hid (K5.out.trans hc6 (fun _ _ h => h)); clear hc6; have hs7 : v6.cell? ⟨w.heap.size, 0, none⟩ = some (.slice A m c) := (K6.out.cell (p := ⟨w.heap.size, 0, none⟩) bl (fun h => h)).trans p0
          refine hK.out _ _ hs7 (fun hHeld => ?_)
          clear hK K
          try simp only [Act.put, List.setIfInBounds_toArray, List.set_cons_zero, List.set_cons_succ]
          refine wpAnyH_take (i := 18) (oi := Oper.mk _ _ _ _ _ _) (v := ?v45) rfl (by kernel_rfl) (by kernel_rfl) (by kernel_rfl) (fun _ _ _ h => h) (Or.inl ⟨by rfl, ?hy45⟩) (by assumption) ?rs45
          case hy45 => (intro w hSw; (try dsimp only at hSw); go_simp <;> with_reducible rfl)
          try simp only [Act.put, List.setIfInBounds_toArray, List.set_cons_zero, List.set_cons_succ]
          refine wpAnyH_take (i := 19) (oi := Oper.mk _ _ _ _ _ _) (v := ?v46) rfl (by kernel_rfl) (by kernel_rfl) (by kernel_rfl) (fun _ _ _ h => h) (Or.inl ⟨by rfl, ?hy46⟩) (by assumption) ?rs46
          case hy46 => (intro w hSw; (try dsimp only at hSw); go_simp <;> with_reducible rfl)
          try simp only [Act.put, List.setIfInBounds_toArray, List.set_cons_zero, List.set_cons_succ]
          refine wpAnyH_done (by kernel_rfl) ?_ _
          go_wp2
          go_ret
          exact ⟨rfl, (HC1.out.trans K6.out (fun _ _ h => h)).toB⟩
  · have HL := Lib.hid (plight_no c (hP.chg hc0) hm hl)
    clear hP hD hc0
    go_enter Tryd.func5, Tryd.ntmps5
    go_wp2_with (first
      | (go_at_call 18; refine HL.out.mono ?_; rintro e w1 ⟨rfl, hc1⟩; have HC1 := Lib.hid hc1; clear hc1)
      | (go_at_call 7; refine (alive_any _).mono ?_; rintro e w2 ⟨rfl, hc2⟩; have HC2 := Lib.hid hc2; clear hc2))
    go_ret
    exact ⟨rfl, ((HC0.out.trans HC1.out (fun _ _ h => h)).trans HC2.out (fun _ _ h => h)).toB⟩
end
theorem walk_eventPicks (cs0 : List Value) (d0 : ShProg.Den) (cs1 : List Value) (d1 : (Sh.sl ShInstr).Den) (a2 : Int) (w : World) (hL0 : Lies w ShProg cs0 d0) (hL1 : Lies w (.sl ShInstr) cs1 d1) (w2 : (Lit.int .i64 a2).wf = true) (hL : laidMetH Tryd.prog Rows.eventPicksRow.laid w) :
    Calls Tryd.prog 5 #[Sh.val ShProg cs0, Sh.val (.sl ShInstr) cs1, .int .i64 a2] w fun e w' => e = .returned (.bool true) ∧ Below w.heap.size w w' := by
  obtain ⟨A, m, c, Ac, nc, cc, As, ns, cs, code, safe, h1, hm, hP⟩ := open_prog hL0
  obtain ⟨D, cap, rfl, g1, g2, g3, g4⟩ := code_of_lies hL1
  rw [h1]
  exact walk_eventPicks' c hP hm D _ cap a2 _ g4 g3 (Nat.le_trans g1 g2)
end Go.Proofs.YtnepgbhbbbcecaaDoor
