/- The walk of the law PstatPlays. -/
import Derived.Test.YtemnipdmclohmaaPsL
namespace Go.Proofs.Ytemnipdmclohmaa
open Go.ChangeShapes Go.WideShapes Go.ChangeAt Go.RowKit Go.Deep
set_option linter.unusedVariables false

theorem lower {w w' : World} {B B' : Nat} (h : Below B w w') (hB : B' ≤ B) : Below B' w w' := ⟨h.os, h.tape, h.output, h.size, fun k hk => h.block k (by omega)⟩
theorem low {w w1 w2 : World} (h : Below w.heap.size w w1) (hc : Chg (fun _ => False) w1 w2) : Below w.heap.size w w2 := h.trans (hc.below h.size (by rintro g _ hh; exact hh.elim))
def PKept (w wr : World) (A : Option Addr) (ps : List (Int × Int)) (B : Option Addr) (c : Nat) : Prop := Tb wr w.heap.size w.heap.size A ps ∧ Xl wr w.heap.size B c ps ∧ Inv ps ∧ Below w.heap.size w wr
def PRound (w : World) (len : Nat) (x i : Value) (wr : World) : Prop := ∃ (k : Nat) (A : Option Addr) (ps : List (Int × Int)) (B : Option Addr) (c : Nat), k ≤ len ∧ i = .int .i64 k ∧ x = .slice B ps.length c ∧ PKept w wr A ps B c
theorem PRound.step {w wr : World} {len k : Nat} {A B : Option Addr} {ps : List (Int × Int)} {c : Nat} (hk : k < len) (h : PKept w wr A ps B c) : PRound w len (.slice B ps.length c) (.int .i64 ((k : Int) + 1)) wr := ⟨k + 1, A, ps, B, c, by omega, by go_num, rfl, h⟩
theorem PKept.act {w wr v2 v3 v4 : World} {A B B' : Option Addr} {ps : List (Int × Int)} {c c' : Nat} {kd i m : Int} (h : PKept w wr A ps B c) (hc : Chg (fun _ => False) wr v2) (hx : Xl v2 w.heap.size B' c' (pdo ps kd i m).1) (hA : TA v2 v3 w.heap.size w.heap.size A (pdo ps kd i m).1) (h4 : Chg (fun _ => False) v3 v4) :
    ∃ A', Tb v3 w.heap.size w.heap.size A' (pdo ps kd i m).1 ∧ Xl v3 w.heap.size B' c' (pdo ps kd i m).1 ∧ PKept w v4 A' (pdo ps kd i m).1 B' c' := by
  obtain ⟨h1, h2, h3, h5⟩ := h
  have hT2 := h1.same hc
  have hb := TA.below hT2 (low h5 hc) (Nat.le_refl _) hA
  have hx3 := hx.far hT2 hA
  obtain ⟨A', hT, _, _⟩ := hA
  exact ⟨A', hT, hx3, hT.same h4, hx3.same h4, pdo_inv h3 _ _ _, low hb h4⟩

set_option maxRecDepth 100000 in
set_option maxHeartbeats 8000000 in
theorem walk_pstatPlays (a0 : Int) (a1 : Option Addr) (len1 cap1 : Nat) (z1 : Nat → Int) (w : World) (w0 : (Lit.int .i64 a0).wf = true) (w1 : Flat w a1 len1 3 z1) :
    Calls Try.prog 3 #[.int .i64 a0, .slice a1 len1 cap1] w fun e w' => e = .returned (.bool true) ∧ Below w.heap.size w w' := by
  have hm := w1.1
  unfold maxLen at hm
  clear w0
  have HLT := Lib.hid (light_any a1 len1 cap1 z1 w w1)
  go_enter Try.func3, Try.ntmps3
  go_wp2_with fail
  refine HLT.out.mono ?_
  rintro e w' ⟨rfl, rfl | ⟨rfl, hl60, hz⟩⟩
  · go_wp2_with (go_at_call 7; refine (alive_any _).mono ?_; rintro e w' ⟨rfl, hb⟩)
    go_ret
    exact ⟨rfl, hb⟩
  clear HLT
  by_cases hn : a0 < 1
  · have HNO := Lib.hid (tnew_out a0 w' (.inl hn))
    go_wp2_with (first
      | (go_at_call 8; refine HNO.out.mono ?_; rintro e v1 ⟨rfl, rfl⟩)
      | (go_at_call 7; refine (alive_any _).mono ?_; rintro e w' ⟨rfl, hb⟩))
    go_ret
    exact ⟨rfl, hb⟩
  by_cases hn2 : 256 < a0
  · have hn' : 1 ≤ a0 := by omega
    have HNO := Lib.hid (tnew_out a0 w' (.inr hn2))
    go_wp2_with (first
      | (go_at_call 8; refine HNO.out.mono ?_; rintro e v1 ⟨rfl, rfl⟩)
      | (go_at_call 7; refine (alive_any _).mono ?_; rintro e w' ⟨rfl, hb⟩))
    go_ret
    exact ⟨rfl, hb⟩
  obtain ⟨n, rfl⟩ : ∃ n : Nat, a0 = n := ⟨a0.toNat, by omega⟩
  have hn1 : 1 ≤ n := by omega
  have hn256 : n ≤ 256 := by omega
  clear hn hn2
  have i1 : (1 : Int) ≤ n := by omega
  have i2 : (n : Int) ≤ 256 := by omega
  have hl60' : (len1 : Int) ≤ 60 := by omega
  go_wp2_with fail
  refine (tnew_in n _ hn1 hn256).mono ?_
  rintro e V ⟨A1, rfl, hT1, hb1⟩
  have HT1 := Lib.hid hT1
  have HB1 := Lib.hid hb1
  have HZ := Lib.hid hz
  have HF := Lib.hid w1
  have hVs : w'.heap.size ≤ V.heap.size := hb1.size
  clear hT1 hb1 hz w1
  go_wp2_with fail
  go_loopw [6, 7] (fun x i wr => ∃ (k : Nat) (D : Option Addr) (c : Nat), k ≤ n ∧ i = .int .i64 k ∧ x = .slice D k c ∧ Hid (Row wr V.heap.size 29 2 D k c (pv (List.replicate k (0, -1)))) ∧ Hid (Chg (fun _ => False) V wr)) (fun _ i _ => n - (intOf i).toNat)
  case atStart => exact ⟨0, none, 0, Nat.zero_le _, rfl, rfl, Row.nil _ _ _ _, Chg.refl _ _⟩
  case round =>
    obtain ⟨k, D, c, hk, rfl, rfl, HR, HC⟩ := hrel
    have k0 : (0 : Int) ≤ (k : Int) := by omega
    have hws : V.heap.size ≤ wr.heap.size := HC.out.size
    by_cases hlt : k < n
    · have k1 : (k : Int) < (n : Int) := by omega
      go_wp2_with (at_builtin; refine wpList_app2 rfl (.tmp 33) (.tmp 35) 27 29 Try.underlying27 ref_info rfl V.heap.size D k c (List.replicate k (0, -1)) rfl (HR.out.alloc _) (some ⟨wr.heap.size, 0, none⟩) 1 1 [(0, -1)] rfl (Rd.lit2 _ _ _ _ _ rfl) ?c1 ?c2 ?_; (case c1 => omega); (case c2 => simp; omega); intro A2 c2 w2 h1 h2 h3)
      refine ⟨⟨k + 1, A2, c2, by omega, by go_num, rfl, by rw [List.replicate_succ']; exact h1, (HC.out.alloc _).grown h2 (fun g hg => .inr (HR.out.blk_lt g hg).1)⟩, by simp [intOf]; omega⟩
    · have hkn : k = n := by omega
      subst hkn
      have hx0 : Xl wr w'.heap.size D c (List.replicate k (0, -1)) := by unfold Xl; rw [List.length_replicate]; exact HR.out.lower hVs
      have HK0 := Lib.hid (show PKept w' wr A1 (List.replicate k (0, -1)) D c from ⟨HT1.out.same HC.out, hx0, Inv.new k, low HB1.out HC.out⟩)
      clear hx0
      go_wp2_with fail
      go_loopw [6, 8] (fun x i wr => PRound w' len1 x i wr) (fun _ i _ => len1 - (intOf i).toNat)
      case atStart => exact ⟨0, A1, _, D, c, Nat.zero_le _, rfl, by rw [List.length_replicate], HK0.out⟩
      case round =>
        obtain ⟨j, A, ps, B, cB, hj, rfl, rfl, hK⟩ := hrel
        have HK := Lib.hid hK
        clear hK HK0
        have j0 : (0 : Int) ≤ (j : Int) := by omega
        by_cases hjl : j < len1
        · obtain ⟨b, of, rfl, hbl, hc⟩ := HF.out.2 (by omega)
          have hb : Below w'.heap.size w' wr := HK.out.2.2.2
          have j1 : (j : Int) < (len1 : Int) := by omega
          have e0 : wr.cell? ⟨b, of + j * 3, none⟩ = some (.int .i64 (z1 (j * 3))) := (hb.cell (p := ⟨b, of + j * 3, none⟩) hbl).trans (hc (j * 3) (by omega)).1
          have e1 : wr.cell? ⟨b, of + j * 3 + 1, none⟩ = some (.int .i64 (z1 (j * 3 + 1))) := (hb.cell (p := ⟨b, of + j * 3 + 1, none⟩) hbl).trans (hc (j * 3 + 1) (by omega)).1
          have e2 : wr.cell? ⟨b, of + j * 3 + 2, none⟩ = some (.int .i64 (z1 (j * 3 + 2))) := (hb.cell (p := ⟨b, of + j * 3 + 2, none⟩) hbl).trans (hc (j * 3 + 2) (by omega)).1
          have hkd := HZ.out j hjl
          generalize z1 (j * 3) = p0 at e0 hkd
          generalize z1 (j * 3 + 1) = p1 at e1
          generalize z1 (j * 3 + 2) = p2 at e2
          have hsz := hb.size
          clear hc hb
          have HDO := Lib.hid (do_full w'.heap.size B cB p0 p1 p2 ps wr HK.out.2.1 hsz HK.out.1.len HK.out.2.2.1 hkd.1 hkd.2)
          have HAC := Lib.hid (fun W1 (h : Tb W1 w'.heap.size w'.heap.size A ps) => act_full w'.heap.size w'.heap.size A ps p0 p1 p2 W1 h hkd.1 hkd.2)
          have HPK := Lib.hid (fun (v2 v3 v4 : World) (B' : Option Addr) (c' : Nat) hc hx hA h4 => PKept.act (kd := p0) (i := p1) (m := p2) (v2 := v2) (v3 := v3) (v4 := v4) (B' := B') (c' := c') HK.out hc hx hA h4)
          generalize pdo ps p0 p1 p2 = r at HDO HAC HPK
          clear hkd
          go_wp2_with fail
          refine HDO.out.mono ?_
          rintro e v2 ⟨B', c', rfl, hx, hc2⟩
          have hbw : b < wr.heap.size := by omega
          have f0 := (hc2.cell (p := ⟨b, of + j * 3, none⟩) hbw (fun h => h)).trans e0
          have f1 := (hc2.cell (p := ⟨b, of + j * 3 + 1, none⟩) hbw (fun h => h)).trans e1
          have f2 := (hc2.cell (p := ⟨b, of + j * 3 + 2, none⟩) hbw (fun h => h)).trans e2
          have HX2 := Lib.hid hx
          have HC2 := Lib.hid hc2
          clear hx hc2 e0 e1 e2
          go_wp2_with fail
          refine (HAC.out _ (HK.out.1.same HC2.out)).mono ?_
          rintro e v3 ⟨rfl, hA⟩
          obtain ⟨A3, hT3, hX3, _⟩ := HPK.out v2 v3 v3 B' c' HC2.out HX2.out hA (Chg.refl _ _)
          have HA := Lib.hid hA
          have HLK := Lib.hid (like_at w'.heap.size w'.heap.size w'.heap.size A3 B' c' r.1 v3 hT3 hX3)
          clear hA hT3 hX3
          go_wp2_with fail
          refine HLK.out.mono ?_
          rintro e v4 ⟨rfl, h4⟩
          obtain ⟨A4, _, _, hK4⟩ := HPK.out v2 v3 v4 B' c' HC2.out HX2.out HA.out h4
          have HK4 := Lib.hid hK4
          clear hK4 h4
          go_wp2_with fail
          exact ⟨PRound.step hjl HK4.out, by simp [intOf]; omega⟩
        · have hjl' : j = len1 := by omega
          subst hjl'
          go_wp2_with (go_at_call 7; refine (alive_any _).mono ?_; rintro e w'' ⟨rfl, hb⟩)
          go_ret
          exact ⟨rfl, HK.out.2.2.2.trans (lower hb HK.out.2.2.2.size)⟩
end Go.Proofs.Ytemnipdmclohmaa
