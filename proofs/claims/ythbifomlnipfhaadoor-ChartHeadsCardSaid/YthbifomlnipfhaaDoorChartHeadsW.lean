/- How many events of others stand between; the chapter's example; the walk of the law ChartHeads. -/
import Derived.Test.YthbifomlnipfhaaDoorChA
import Derived.Deep.QuietTactic
import Derived.BigQuiet
namespace Go.Proofs.YthbifomlnipfhaaDoor
open Go.ChangeShapes Go.WideShapes Go.ChangeAt Go.RowKit Go.Deep
set_option linter.unusedVariables false

def gp (z : Nat → Int) (g : Int) : Nat → List Int × Int
  | 0 => ([], 0)
  | k + 1 => if z (k * 5 + 1) = g then ((gp z g k).1 ++ [(gp z g k).2], 0) else ((gp z g k).1, (gp z g k).2 + 1)
theorem gp_succ {z : Nat → Int} {g : Int} {k : Nat} {l : List Int} {o : Int} (h : gp z g k = (l, o)) : gp z g (k + 1) = if z (k * 5 + 1) = g then (l ++ [o], 0) else (l, o + 1) := by
  show (if z (k * 5 + 1) = g then ((gp z g k).1 ++ [(gp z g k).2], 0) else ((gp z g k).1, (gp z g k).2 + 1)) = _
  rw [h]
theorem gp_len (z : Nat → Int) (g : Int) : ∀ k, (gp z g k).1.length ≤ k
  | 0 => by simp [gp]
  | k + 1 => by
    have := gp_len z g k
    unfold gp
    split <;> simp <;> omega

set_option maxHeartbeats 4000000 in
theorem gaps_any (A0 : Option Addr) (len cap : Nat) (z : Nat → Int) (g : Int) (W : World) (hF : Flat W A0 len 5 z) (hm : len ≤ 100) :
    Calls Tryd.prog 9 #[.slice A0 len cap, .int .i64 g] W fun e W' => ∃ A c, e = .returned (.slice A (gp z g len).1.length c) ∧ Row W' W.heap.size 3 1 A (gp z g len).1.length c (ints (gp z g len).1) ∧ Below W.heap.size W W' := by
  go_enter Tryd.func9, Tryd.ntmps9
  go_wp2
  go_loopw [5, 6, 8, 11] (fun v o _ i wr => ∃ (k : Nat) (A : Option Addr) (c : Nat) (l : List Int) (oo : Int), k ≤ len ∧ i = .int .i64 k ∧ v = .slice A l.length c ∧ o = .int .i64 oo ∧ 0 ≤ oo ∧ oo ≤ k ∧ l.length ≤ k ∧ Hid (gp z g k = (l, oo)) ∧ Hid (Row wr W.heap.size 3 1 A l.length c (ints l)) ∧ Hid (Below W.heap.size W wr)) (fun _ _ _ i _ => len - (intOf i).toNat)
  case atStart => exact ⟨0, none, 0, [], 0, Nat.zero_le _, rfl, rfl, rfl, by omega, by omega, by simp, rfl, Row.nil _ _ _ _, Below.refl _ _⟩
  case round =>
    obtain ⟨k, A, c, l, oo, hk, rfl, rfl, rfl, h0, h1, hl, HG, HB, HW⟩ := hrel
    by_cases hlt : k < len
    · obtain ⟨b, of, rfl, hbl, hc⟩ := hF.2 (by omega)
      have hb := HW.out
      have hsz : W.heap.size ≤ wr.heap.size := hb.size
      have e0 : wr.cell? ⟨b, of + k * 5, none⟩ = some (.int .i64 (z (k * 5))) := (hb.cell (p := ⟨b, of + k * 5, none⟩) hbl).trans (hc (k * 5) (by omega)).1
      have e1 : wr.cell? ⟨b, of + k * 5 + 1, none⟩ = some (.int .i64 (z (k * 5 + 1))) := (hb.cell (p := ⟨b, of + k * 5 + 1, none⟩) hbl).trans (hc (k * 5 + 1) (by omega)).1
      have e2 : wr.cell? ⟨b, of + k * 5 + 2, none⟩ = some (.int .i64 (z (k * 5 + 2))) := (hb.cell (p := ⟨b, of + k * 5 + 2, none⟩) hbl).trans (hc (k * 5 + 2) (by omega)).1
      have e3 : wr.cell? ⟨b, of + k * 5 + 3, none⟩ = some (.int .i64 (z (k * 5 + 3))) := (hb.cell (p := ⟨b, of + k * 5 + 3, none⟩) hbl).trans (hc (k * 5 + 3) (by omega)).1
      have e4 : wr.cell? ⟨b, of + k * 5 + 4, none⟩ = some (.int .i64 (z (k * 5 + 4))) := (hb.cell (p := ⟨b, of + k * 5 + 4, none⟩) hbl).trans (hc (k * 5 + 4) (by omega)).1
      have hst := gp_succ (z := z) (g := g) (k := k) HG.out
      generalize z (k * 5) = p0 at e0
      generalize z (k * 5 + 1) = p1 at e1 hst
      generalize z (k * 5 + 2) = p2 at e2
      generalize z (k * 5 + 3) = p3 at e3
      generalize z (k * 5 + 4) = p4 at e4
      have k0 : (0 : Int) ≤ (k : Int) := by omega
      have k1 : (k : Int) < (len : Int) := by omega
      have hbw : b < wr.heap.size := by omega
      clear hF hc hb
      by_cases hpg : p1 = g
      · subst hpg
        rw [if_pos rfl] at hst
        have HS := Lib.hid hst
        clear hst
        go_wp2_with (at_builtin; refine wpList_app rfl (.tmp 21) (.tmp 23) rfl W.heap.size A l.length c l rfl ((HB.out.alloc _).alloc _) (some ⟨wr.heap.size + 1, 0, none⟩) 1 1 [oo] rfl ?c0 ?c1 ?c2 ?_; (case c0 => exact Rd.litn _ _ _ _ (by simp)); (case c1 => omega); (case c2 => simp; omega); intro A2 c2 w2 h4 h5 h6)
        refine ⟨⟨k + 1, A2, c2, l ++ [oo], 0, by omega, by go_num, by simp, rfl, by omega, by omega, by simp; omega, HS.out, ?_, ?_⟩, by simp [intOf]; omega⟩
        · show Row _ _ _ _ _ _ _ _
          rw [List.length_append]
          exact h4
        · exact (((Chg.ofBelow HW.out).alloc _).alloc _).grown h5 (fun g hg => by have := (HB.out.blk_lt g hg).1; exact .inl this) |>.below (Nat.le_refl _) (fun _ _ h => h)
      · rw [if_neg hpg] at hst
        have hd : (p1 != g) = true := by simpa using hpg
        have HS := Lib.hid hst
        clear hst hpg
        go_wp2
        exact ⟨⟨k + 1, A, c, l, oo + 1, by omega, by go_num, rfl, rfl, by omega, by omega, by omega, HS.out, HB.out.alloc _, HW.out.alloc HW.out.size _⟩, by simp [intOf]; omega⟩
    · obtain rfl : k = len := by omega
      have HGG := Lib.hid (show gp z g k = (l, oo) from HG.out)
      go_wp2
      go_ret
      rw [HGG.out]
      exact ⟨A, c, rfl, HB.out, HW.out⟩

set_option maxHeartbeats 4000000 in
theorem rgaps_any (A0 : Option Addr) (len cap : Nat) (z : Nat → Int) (g : Int) (W : World) (hF : Flat W A0 len 5 z) (hm : len ≤ 100) :
    Calls Tryd.prog 10 #[.slice A0 len cap, .int .i64 g] W fun e W' => ∃ A c, e = .returned (.slice A (gp z g len).1.length c) ∧ Row W' W.heap.size 3 1 A (gp z g len).1.length c (ints (gp z g len).1) ∧ Below W.heap.size W W' := by
  go_enter Tryd.func10, Tryd.ntmps10
  go_wp2
  go_loopw [5, 6, 7] (fun v o i wr => ∃ (k : Nat) (A : Option Addr) (c : Nat) (l : List Int) (oo : Int), k ≤ len ∧ i = .int .i64 k ∧ v = .slice A l.length c ∧ o = .int .i64 oo ∧ 0 ≤ oo ∧ oo ≤ k ∧ l.length ≤ k ∧ Hid (gp z g k = (l, oo)) ∧ Hid (Row wr W.heap.size 3 1 A l.length c (ints l)) ∧ Hid (Below W.heap.size W wr)) (fun _ _ i _ => len - (intOf i).toNat)
  case atStart => exact ⟨0, none, 0, [], 0, Nat.zero_le _, rfl, rfl, rfl, by omega, by omega, by simp, rfl, Row.nil _ _ _ _, Below.refl _ _⟩
  case round =>
    obtain ⟨k, A, c, l, oo, hk, rfl, rfl, rfl, h0, h1, hl, HG, HB, HW⟩ := hrel
    by_cases hlt : k < len
    · obtain ⟨b, of, rfl, hbl, hc⟩ := hF.2 (by omega)
      have hb := HW.out
      have hsz : W.heap.size ≤ wr.heap.size := hb.size
      skip
      have e1 : wr.cell? ⟨b, of + k * 5 + 1, none⟩ = some (.int .i64 (z (k * 5 + 1))) := (hb.cell (p := ⟨b, of + k * 5 + 1, none⟩) hbl).trans (hc (k * 5 + 1) (by omega)).1
      skip
      skip
      skip
      have hst := gp_succ (z := z) (g := g) (k := k) HG.out
      skip
      generalize z (k * 5 + 1) = p1 at e1 hst
      skip
      skip
      skip
      have k0 : (0 : Int) ≤ (k : Int) := by omega
      have k1 : (k : Int) < (len : Int) := by omega
      have hbw : b < wr.heap.size := by omega
      clear hF hc hb
      by_cases hpg : p1 = g
      · subst hpg
        rw [if_pos rfl] at hst
        have HS := Lib.hid hst
        clear hst
        go_wp2_with (at_builtin; refine wpList_app rfl (.tmp 23) (.tmp 25) rfl W.heap.size A l.length c l rfl (HB.out.alloc _) (some ⟨wr.heap.size, 0, none⟩) 1 1 [oo] rfl ?c0 ?c1 ?c2 ?_; (case c0 => exact Rd.lit _ _ _); (case c1 => omega); (case c2 => simp; omega); intro A2 c2 w2 h4 h5 h6)
        refine ⟨⟨k + 1, A2, c2, l ++ [oo], 0, by omega, by go_num, by simp, rfl, by omega, by omega, by simp; omega, HS.out, ?_, ?_⟩, by simp [intOf]; omega⟩
        · show Row _ _ _ _ _ _ _ _
          rw [List.length_append]
          exact h4
        · exact ((Chg.ofBelow HW.out).alloc _).grown h5 (fun g hg => by have := (HB.out.blk_lt g hg).1; exact .inl this) |>.below (Nat.le_refl _) (fun _ _ h => h)
      · rw [if_neg hpg] at hst
        have hd : (p1 != g) = true := by simpa using hpg
        have HS := Lib.hid hst
        clear hst hpg
        go_wp2
        exact ⟨⟨k + 1, A, c, l, oo + 1, by omega, by go_num, rfl, rfl, by omega, by omega, by omega, HS.out, HB, HW⟩, by simp [intOf]; omega⟩
    · obtain rfl : k = len := by omega
      have HGG := Lib.hid (show gp z g k = (l, oo) from HG.out)
      go_wp2
      go_ret
      rw [HGG.out]
      exact ⟨A, c, rfl, HB.out, HW.out⟩

theorem eop_nil (W : World) : Calls Tryd.prog 17 #[.agg #[.slice none 0 0], .agg #[.int .i64 1, .int .i64 0, .int .i64 0, .int .i64 0, .int .i64 0]] W fun e W' => e = .returned (.int .i64 (-1)) ∧ Below W.heap.size W W' := by
  go_enter Tryd.func17, Tryd.ntmps17
  go_wp2
  go_quiet (fail)
  go_wp2
  go_ret
  exact ⟨rfl, belowN (((Below.refl _ _).alloc (Nat.le_refl _) _).alloc (by simp) _) _⟩
theorem sign_nil (W : World) : Calls Tryd.prog 13 #[.agg #[.slice none 0 0], .agg #[.int .i64 1, .int .i64 0, .int .i64 0, .int .i64 0, .int .i64 0]] W fun e W' => e = .returned (.int .u8 40) ∧ Below W.heap.size W W' := by
  go_enter Tryd.func13, Tryd.ntmps13
  go_wp2_with fail
  refine (eop_nil _).mono ?_
  rintro e w1 ⟨rfl, hb1⟩
  have hB := (Blk.new (W.alloc (.cells #[.slice none 0 0] 31)) 40 #[.int .i64 1, .int .i64 0, .int .i64 0, .int .i64 0, .int .i64 0]).kept (Chg.ofBelow hb1) (by simp)
  have q0 := hB.cell 0
  simp at q0
  have HW := Lib.hid ((((Below.refl W.heap.size W).alloc (Nat.le_refl _) (.cells #[.slice none 0 0] 31)).alloc (by simp) (.cells #[.int .i64 1, .int .i64 0, .int .i64 0, .int .i64 0, .int .i64 0] 40)).trans (hb1.mono (by simp; omega)))
  clear hB hb1
  go_wp2
  go_ret
  exact ⟨rfl, HW.out⟩
set_option maxHeartbeats 1000000 in
theorem alive_any (W : World) : Calls Tryd.prog 5 #[] W fun e W' => e = .returned (.bool true) ∧ Below W.heap.size W W' := by
  have e1 : hdS 5 2 = ⟨#[124, 32, 124, 32, 124]⟩ := by decide
  have HE := Lib.hid e1
  clear e1
  go_enter Tryd.func5, Tryd.ntmps5
  go_wp2_with fail
  refine (show Calls Tryd.prog 6 #[.int .i64 5, .int .i64 2] W _ from head_in 5 2 (by omega) (by omega) (by omega) W).mono ?_
  rw [HE.out]
  rintro e w1 ⟨rfl, hb1⟩
  go_wp2_with (go_at_call 13; refine (sign_nil _).mono ?_; rintro e w2 ⟨rfl, hb2⟩)
  go_ret
  exact ⟨rfl, hb1.trans (hb2.mono hb1.size)⟩
set_option maxHeartbeats 4000000 in
theorem walk_chartHeads (a0 : Int) (a1 : Int) (a2 : Option Addr) (len2 cap2 : Nat) (z2 : Nat → Int) (a3 : Int) (w : World) (w0 : (Lit.int .i64 a0).wf = true) (w1 : (Lit.int .i64 a1).wf = true) (w2 : Flat w a2 len2 5 z2) (w3 : (Lit.int .i64 a3).wf = true) (hL : laidMetH Tryd.prog Rows.chartHeadsRow.laid w) :
    Calls Tryd.prog 3 #[.int .i64 a0, .int .i64 a1, .slice a2 len2 cap2, .int .i64 a3] w fun e w' => e = .returned (.bool true) ∧ Below w.heap.size w w' := by
  clear hL w0 w1 w3
  have hm := w2.1
  unfold maxLen at hm
  by_cases h100 : 100 < len2
  · go_enter Tryd.func3, Tryd.ntmps3
    go_wp2_with (go_at_call 5; refine (alive_any _).mono ?_; rintro e w' ⟨rfl, hb⟩)
    go_ret
    exact ⟨rfl, hb⟩
  · have hs : ∃ s : ByteArray, (∀ W, Calls Tryd.prog 6 #[.int .i64 a0, .int .i64 a1] W fun e W' => e = .returned (.string s) ∧ Below W.heap.size W W') ∧ (∀ W, Calls Tryd.prog 7 #[.int .i64 a0, .int .i64 a1] W fun e W' => e = .returned (.string s) ∧ Below W.heap.size W W') := by
      by_cases h : 0 ≤ a0 ∧ a0 ≤ 1000 ∧ 1 ≤ a1 ∧ a1 ≤ 200
      · obtain ⟨n, rfl⟩ : ∃ n : Nat, a0 = n := ⟨a0.toNat, by omega⟩
        obtain ⟨m, rfl⟩ : ∃ m : Nat, a1 = m := ⟨a1.toNat, by omega⟩
        exact ⟨_, fun W => head_in n m (by omega) (by omega) (by omega) W, fun W => rhead_in n m (by omega) (by omega) (by omega) W⟩
      · have h' : a0 < 0 ∨ (0 ≤ a0 ∧ (1000 < a0 ∨ (a0 ≤ 1000 ∧ (a1 < 1 ∨ (1 ≤ a1 ∧ 200 < a1))))) := by omega
        exact ⟨_, fun W => (head_out a0 a1 h' W).mono fun e W' ⟨he, hw⟩ => ⟨he, hw ▸ Below.refl _ _⟩, fun W => (rhead_out a0 a1 h' W).mono fun e W' ⟨he, hw⟩ => ⟨he, hw ▸ Below.refl _ _⟩⟩
    obtain ⟨s, hs1, hs2⟩ := hs
    have HS1 := Lib.hid hs1
    have HS2 := Lib.hid hs2
    have HF := Lib.hid w2
    have hgl := gp_len z2 a3 len2
    clear hs1 hs2 w2
    obtain ⟨l, hl⟩ : ∃ l, (gp z2 a3 len2).1 = l := ⟨_, rfl⟩
    have HL := Lib.hid hl
    have hln : l.length ≤ 100 := by rw [← hl]; omega
    clear hl hgl
    go_enter Tryd.func3, Tryd.ntmps3
    go_wp2_with fail
    refine (HS1.out w).mono ?_
    rintro e u1 ⟨rfl, hb1⟩
    go_wp2_with fail
    refine (HS2.out u1).mono ?_
    rintro e u2 ⟨rfl, hb2⟩
    have HB2 := Lib.hid (hb1.trans (hb2.mono hb1.size))
    have HF2 := Lib.hid (HF.out.below HB2.out)
    clear hb1 hb2
    go_wp2_with fail
    refine (gaps_any a2 len2 cap2 z2 a3 u2 HF2.out (by omega)).mono ?_
    rw [HL.out]
    rintro e u3 ⟨A3, c3, rfl, hr3, hb3⟩
    have HB3 := Lib.hid (HB2.out.trans (hb3.mono HB2.out.size))
    have HF3 := Lib.hid (HF.out.below HB3.out)
    have HR3 := Lib.hid hr3.rd
    clear hb3 hr3 HB2 HF2
    go_wp2_with fail
    refine (rgaps_any a2 len2 cap2 z2 a3 u3 HF3.out (by omega)).mono ?_
    rw [HL.out]
    rintro e u4 ⟨A4, c4, rfl, hr4, hb4⟩
    have HB4 := Lib.hid (HB3.out.trans (hb4.mono HB3.out.size))
    have HR4 := Lib.hid hr4.rd
    have HR3' := Lib.hid (HR3.out.heap hb4.size (fun g hg _ => hb4.block g hg))
    clear hb4 hr4 HB3 HF3 HR3
    go_wp2_with (first | (go_at_call 8; refine (same_yes _ _ _ _ _ _ l _ HR3'.out HR4.out (by omega)).mono ?_; rintro e u5 ⟨rfl, q, rfl⟩) | (go_at_call 5; refine (alive_any _).mono ?_; rintro e u6 ⟨rfl, hb6⟩))
    go_ret
    exact ⟨rfl, HB4.out.trans ((below_undrewN hb6).mono HB4.out.size)⟩
end Go.Proofs.YthbifomlnipfhaaDoor
