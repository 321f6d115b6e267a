/- The walk of the law RingPlays. -/
import Derived.Test.YtfceebbbhjjnaaaRingX
import Derived.Deep.RegionWith
namespace Go.Proofs.Ytfceebbbhjjnaaa
open Go.ChangeShapes Go.WideShapes Go.ChangeAt Go.RowKit Go.Deep
set_option linter.unusedVariables false

section
variable {W : World} {B b r n cr : Nat} {nx : Int} {xs : List Int} {A Ar : Option Addr}
theorem next_q (h : RQ W B b A n nx xs) : Calls Try.prog 14 #[.pointer (some ⟨b, 0, none⟩)] W fun e W' => e = .returned (.int .i64 nx) ∧ W = W' := by
  obtain ⟨c0, c1, c4, f0, kb⟩ := h.cells
  clear h
  go_enter Try.func14, Try.ntmps14
  go_wp2
  go_ret
  exact ⟨rfl, rfl⟩
theorem size_q (h : RQ W B b A n nx xs) : Calls Try.prog 15 #[.pointer (some ⟨b, 0, none⟩)] W fun e W' => e = .returned (.int .i64 (n : Int)) ∧ W = W' := by
  obtain ⟨c0, c1, c4, f0, kb⟩ := h.cells
  clear h
  go_enter Try.func15, Try.ntmps15
  go_wp2
  go_ret
  exact ⟨rfl, rfl⟩
theorem BSt.list (h : BSt W B b r n nx xs A Ar cr) (h1 : 2 ≤ n) (h2 : n ≤ 1000) (hB : B ≤ W.heap.size) : ∃ L : List Int, L.length ≤ 1048576 ∧
    Hid (∀ V, Chg (fun _ => False) W V → Calls Try.prog 11 #[.pointer (some ⟨b, 0, none⟩)] V fun e W' => ∃ A2 c2, e = .returned (.slice A2 L.length c2) ∧ Row W' V.heap.size 3 1 A2 L.length c2 (ints L) ∧ Chg (fun _ => False) V W') ∧
    Hid (∀ V, Chg (fun _ => False) W V → Calls Try.prog 12 #[.pointer (some ⟨r, 0, none⟩)] V fun e W' => ∃ A2 c2, e = .returned (.slice A2 L.length c2) ∧ Row W' V.heap.size 3 1 A2 L.length c2 (ints L) ∧ Chg (fun _ => False) V W') ∧
    Hid (∀ V, Chg (fun _ => False) W V → Calls Try.prog 13 #[.pointer (some ⟨b, 0, none⟩)] V fun e W' => e = .returned (.int .i64 (L.length : Int)) ∧ V = W') := by
  have hx := h.q.2.1
  exact ⟨nxl nx ++ xs, by unfold nxl; split <;> simp <;> omega, Lib.hid (fun V hc => list_q (h.same hc).q (by omega) h2 (Nat.le_trans hB hc.size)), Lib.hid (fun V hc => rlist_any (h.same hc).d h2 hx), Lib.hid (fun V hc => len_q (h.same hc).q (by omega) h2)⟩
end
def RoundRP (w : World) (n len : Nat) (i : Value) (wr : World) : Prop :=
  ∃ (k : Nat) (nx : Int) (xs : List Int) (A Ar : Option Addr) (cr : Nat), k ≤ len ∧ i = .int .i64 k ∧ BSt wr w.heap.size w.heap.size (w.heap.size + 1) n nx xs A Ar cr ∧ Below w.heap.size w wr
theorem RoundRP.step {w wr : World} {n len k cr : Nat} {nx : Int} {xs : List Int} {A Ar : Option Addr} (hk : k < len) (h : BSt wr w.heap.size w.heap.size (w.heap.size + 1) n nx xs A Ar cr) (hb : Below w.heap.size w wr) : RoundRP w n len (.int .i64 ((k : Int) + 1)) wr :=
  ⟨k + 1, nx, xs, A, Ar, cr, by omega, by go_num, h, hb⟩
theorem bst_new (w : World) (n : Nat) (h2 : 2 ≤ n) : BSt ((w.alloc (.cells #[.int .i64 0, .int .i64 (n : Int), .slice none 0 0, .int .i64 0, .int .i64 0] 44)).alloc (.cells #[.int .i64 (n : Int), .int .i64 0, .slice none 0 0] 30)) w.heap.size w.heap.size (w.heap.size + 1) n 0 [] none none 0 := by
  have hb := Blk.new (w.alloc (.cells #[.int .i64 0, .int .i64 (n : Int), .slice none 0 0, .int .i64 0, .int .i64 0] 44)) 30 #[.int .i64 (n : Int), .int .i64 0, .slice none 0 0]
  rw [show (w.alloc (.cells #[.int .i64 0, .int .i64 (n : Int), .slice none 0 0, .int .i64 0, .int .i64 0] 44)).heap.size = w.heap.size + 1 from by simp] at hb
  refine ⟨(rq_new w w.heap.size n (Nat.le_refl _) (by omega)).same ((Chg.refl _ _).alloc _), ⟨hb, Rd.nil _ _ _, Nat.le_refl _, (fun g hg => by cases hg)⟩, by omega, (fun g hg => by cases hg), ?_, Int.le_refl 0⟩
  rintro (h | h)
  · omega
  · cases h
set_option maxRecDepth 100000 in
set_option maxHeartbeats 16000000 in
theorem walk_ringPlays' (size : Int) (A0 : Option Addr) (len c : Nat) (kd p : Nat → Int) (As : Nat → Option Addr) (ml cs : Nat → Nat) (xs0 : Nat → List Int) (w : World) (hA : Acts w A0 len kd p As ml cs xs0) (hmx : len ≤ maxLen) (hs0 : (Lit.int .i64 size).wf = true) :
    Calls Try.prog 3 #[.int .i64 size, .slice A0 len c] w fun e w' => e = .returned (.bool true) ∧ Below w.heap.size w w' := by
  by_cases hlight : len ≤ 100 ∧ ∀ i, i < len → ml i ≤ 30
  · have HLI := Lib.hid (light_yes c hA hlight.1 hlight.2)
    have h100 := hlight.1
    have H30 := Lib.hid hlight.2
    clear hlight hmx
    by_cases hr : 2 ≤ size ∧ size ≤ 256 ∧ size % 2 = 0
    · obtain ⟨n, rfl⟩ : ∃ n : Nat, size = n := ⟨size.toNat, by omega⟩
      obtain ⟨r1, r2, r3⟩ := hr
      have h2n : 2 ≤ n := by omega
      have hn1 : n ≤ 1000 := by omega
      have hn2 : n ≤ 256 := by omega
      have HNEW := Lib.hid (fun W => newr_yes n W h2n hn2 (by omega))
      have HA := Lib.hid hA
      have t1 : ¬ (n : Int) < 2 := by omega
      have t2 : ¬ (256 : Int) < n := by omega
      have t3 : Int.tmod (n : Int) 2 = 0 := by rw [Int.tmod_eq_emod_of_nonneg (by omega)]; exact r3
      clear hA r3 hs0
      go_enter Try.func3, Try.ntmps3
      go_wp2_with (first
        | (go_at_call 6; refine HLI.out.mono ?_; rintro e u1 ⟨rfl, rfl⟩)
        | (go_at_call 8; refine (HNEW.out _).mono ?_; rintro e u1 ⟨rfl, rfl⟩))
      go_loopw [7] (fun i wr => RoundRP w n len i wr) (fun i _ => len - (intOf i).toNat)
      case atStart => exact ⟨0, 0, [], none, none, 0, Nat.zero_le _, rfl, bst_new w n h2n, ((Below.refl _ _).alloc (Nat.le_refl _) _).alloc (by simp) _⟩
      case round =>
        clear HLI HNEW
        obtain ⟨k, nx, xs, A, Ar, cr, hk, rfl, hK, hbel⟩ := hrel
        have k0 : (0 : Int) ≤ k := by omega
        have hbs := hbel.size
        by_cases hlt : k < len
        · have k1 : (k : Int) < len := by omega
          obtain ⟨ba, oa, rfl, hbl, hcc⟩ := (HA.out.below hbel).cells (by omega)
          obtain ⟨e0, e1, e2⟩ := hcc k hlt
          obtain ⟨g1, g2, g3, g4⟩ := (HA.out.below hbel).row k hlt
          have g2w := (HA.out.row k hlt).2.1
          have hm := H30.out k hlt
          have hln := g1.len
          rw [← hln] at e2 g1 g2 g4 g2w hm
          have hbl0 : ba < w.heap.size := by
            obtain ⟨ba', oa', he, hbl', _⟩ := HA.out.cells (by omega)
            cases he; exact hbl'
          have HACT := Lib.hid (ract_any (kd k) (p k) (As k) (cs k) (xs0 k) g1.drew g4 hm (fun h0 g hg => g2w h0 g hg) (hK.same ((Chg.refl _ _).drew)) h2n hn1 hbs)
          have hsz0 : ba < wr.heap.size := hbl
          have hs0 : wr.drew.cell? ⟨ba, oa + k * 3, none⟩ = some (.int .i64 (kd k)) ∧ wr.drew.cell? ⟨ba, oa + k * 3 + 1, none⟩ = some (.int .i64 (p k)) ∧ wr.drew.cell? ⟨ba, oa + k * 3 + 2, none⟩ = some (.slice (As k) (xs0 k).length (cs k)) := ⟨e0, e1, e2⟩
          have HBL := Lib.hid hbel
          clear hcc HA hK g1 g2 g3 g4 g2w hm hln hbel e0 e1 e2 H30
          generalize kd k = kd at *
          generalize p k = z at *
          generalize As k = As at *
          generalize cs k = cs at *
          generalize xs0 k = l at *
          have HKP : Hid (∀ V, Below w.heap.size wr.drew V → V.cell? ⟨ba, oa + k * 3, none⟩ = some (.int .i64 kd) ∧ V.cell? ⟨ba, oa + k * 3 + 1, none⟩ = some (.int .i64 z) ∧ V.cell? ⟨ba, oa + k * 3 + 2, none⟩ = some (.slice As l.length cs)) := Lib.hid (fun V hb => ⟨(hb.cell (p := ⟨ba, _, none⟩) hbl0).trans hs0.1, (hb.cell (p := ⟨ba, _, none⟩) hbl0).trans hs0.2.1, (hb.cell (p := ⟨ba, _, none⟩) hbl0).trans hs0.2.2⟩)
          go_wp2
          obtain ⟨y0, y1, y2⟩ := hs0
          go_region_with
            ((first
              | (go_at_call 9; refine HACT.out.mono ?_; rintro e u1 ⟨rfl, nx2, xs2, A2, Ar2, cr2, hb1, hbel1, hsz1⟩; obtain ⟨L, hL, HLP, HLR, HLN⟩ := hb1.list h2n hn1 (Nat.le_trans hbs hsz1); have x1 := hb1.d.cells.2.1; have hs1 := HKP.out _ hbel1; have HB1 := Lib.hid hb1; have HE1 := Lib.hid hbel1; have hw1 : w.heap.size ≤ u1.heap.size := Nat.le_trans hbs hsz1; clear hb1 hbel1)
              | (go_at_call 11; refine (HLP.out _ (Chg.refl _ _)).mono ?_; rintro e u2 ⟨P2, p2, rfl, hrow2, hc2⟩; have HR2 := Lib.hid hrow2; have HC2 := Lib.hid hc2; have x2 := (HB1.out.same hc2).d.cells.2.1; have HE2 := Lib.hid (HE1.out.trans (hc2.below hw1 (fun _ _ h => h.elim))); have hs2 := HKP.out _ HE2.out; have hw2 := Nat.le_trans hw1 hc2.size; clear hrow2 hc2)
              | (go_at_call 12; refine (HLR.out _ HC3N.out).mono ?_; rintro e u4 ⟨P4, p4, rfl, hrow4, hc4⟩; have HC4 := Lib.hid (HC3N.out.trans hc4 (fun _ _ h => h)); have x4 := (HB1.out.same HC4.out).d.cells.2.1; have HE4 := Lib.hid ((belowN HE3.out q3).trans (hc4.below hw3 (fun _ _ h => h.elim))); have hs4 := HKP.out _ HE4.out; have hw4 := Nat.le_trans hw3 hc4.size; clear hrow4 hc4)
              | (go_at_call 12; refine (HLR.out _ HC2.out).mono ?_; rintro e u3 ⟨P3, p3, rfl, hrow3, hc3⟩; have HR23 := Lib.hid (HR2.out.kept hc3 (fun _ _ h => h)); have HR3 := Lib.hid hrow3; have HC3 := Lib.hid (HC2.out.trans hc3 (fun _ _ h => h)); have x3 := (HB1.out.same HC3.out).d.cells.2.1; have HE3 := Lib.hid (HE2.out.trans (hc3.below hw2 (fun _ _ h => h.elim))); have hs3 := HKP.out _ HE3.out; have hw3 := Nat.le_trans hw2 hc3.size; clear hrow3 hc3)
              | (go_at_call 10; refine (same_yes _ _ _ _ _ _ L u3 HR23.out.rd HR3.out.rd hL).mono ?_; rintro e v3 ⟨rfl, q3, rfl⟩; have HC3N := Lib.hid (HC3.out.drewN q3); have hs3n := HKP.out _ (belowN HE3.out q3))
              | (go_at_call 13; refine (HLN.out _ HC3N.out).mono ?_; rintro e v4 ⟨rfl, rfl⟩)
              | (go_at_call 14; refine (next_q (HB1.out.same HC4.out).q).mono ?_; rintro e v5 ⟨rfl, rfl⟩)
              | (go_at_call 15; refine (size_q (HB1.out.same HC4.out).q).mono ?_; rintro e v6 ⟨rfl, rfl⟩)))
          all_goals clear HACT HKP HLP HLR HLN
          all_goals go_wp2
          all_goals go_roundw
          all_goals first
            | exact RoundRP.step hlt (HB1.out.same HC4.out) (HBL.out.drew.trans HE4.out)
            | (simp [intOf]; omega)
        · have HB := Lib.hid hbel
          clear hK hbel HA H30
          go_wp2_with (go_at_call 7; refine (alive_any _).mono ?_; rintro e w' ⟨rfl, hb2⟩)
          go_ret
          exact ⟨rfl, HB.out.trans (hb2.mono HB.out.size)⟩
    · have HNEW := Lib.hid (fun W => newr_no size W (by omega))
      have hc : size < 2 ∨ (¬ size < 2 ∧ 256 < size) ∨ (¬ size < 2 ∧ ¬ 256 < size ∧ Int.tmod size 2 = 1) := by
        by_cases h1 : size < 2
        · exact .inl h1
        · by_cases h2 : 256 < size
          · exact .inr (.inl ⟨h1, h2⟩)
          · exact .inr (.inr ⟨h1, h2, by rw [Int.tmod_eq_emod_of_nonneg (by omega)]; omega⟩)
      clear hA hr hs0
      rcases hc with h1 | ⟨h1, h2⟩ | ⟨h1, h2, h3⟩
      all_goals
        go_enter Try.func3, Try.ntmps3
        go_wp2_with (first
          | (go_at_call 6; refine HLI.out.mono ?_; rintro e u1 ⟨rfl, rfl⟩)
          | (go_at_call 8; refine (HNEW.out _).mono ?_; rintro e u1 ⟨rfl, rfl⟩)
          | (go_at_call 7; refine (alive_any _).mono ?_; rintro e w' ⟨rfl, hb⟩))
        go_ret
        exact ⟨rfl, hb⟩
  · have HLI := Lib.hid (light_no c hA hmx hlight)
    clear hA hlight hmx hs0
    go_enter Try.func3, Try.ntmps3
    go_wp2_with (first
      | (go_at_call 6; refine HLI.out.mono ?_; rintro e u1 ⟨rfl, rfl⟩)
      | (go_at_call 7; refine (alive_any _).mono ?_; rintro e w' ⟨rfl, hb⟩))
    go_ret
    exact ⟨rfl, hb⟩
theorem walk_ringPlays (a0 : Int) (cs1 : List Value) (d1 : (Sh.sl ShAct).Den) (w : World) (w0 : (Lit.int .i64 a0).wf = true) (hL1 : Lies w (.sl ShAct) cs1 d1) :
    Calls Try.prog 3 #[.int .i64 a0, Sh.val (.sl ShAct) cs1] w fun e w' => e = .returned (.bool true) ∧ Below w.heap.size w w' := by
  obtain ⟨A, n, c, kd, p, As, ml, cs, xs, h1, h2, h3⟩ := open_acts hL1
  rw [h1]
  exact walk_ringPlays' a0 A n c kd p As ml cs xs w h3 h2 w0
end Go.Proofs.Ytfceebbbhjjnaaa
