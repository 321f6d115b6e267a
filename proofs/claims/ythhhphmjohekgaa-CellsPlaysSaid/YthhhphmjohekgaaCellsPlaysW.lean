/- The walk of the law CellsPlays. -/
import Derived.Test.YthhhphmjohekgaaCellE
namespace Go.Proofs.Ythhhphmjohekgaa
open Go.ChangeShapes Go.WideShapes Go.ChangeAt Go.RowKit Go.Deep
set_option linter.unusedVariables false

/-- What holds at each round's head, of the cells and of the document's list. -/
def PKept (w wr : World) (n : Nat) (A : Option Addr) (c : Nat) (xs : List Int) (nn : Int) : Prop :=
  Cels wr (w.heap.size + 1) w.heap.size xs nn ∧ Row wr (w.heap.size + 2) 2 1 A n c (ints xs) ∧ Below w.heap.size w wr ∧ xs.length = n
def PRound (w : World) (n len : Nat) (x m i : Value) (wr : World) : Prop := ∃ (k : Nat) (A : Option Addr) (c : Nat) (xs : List Int) (nn : Int), k ≤ len ∧ i = .int .i64 k ∧ x = .slice A n c ∧ m = .int .i64 nn ∧ 0 ≤ nn ∧ nn ≤ k ∧ PKept w wr n A c xs nn
theorem PRound.step {w wr : World} {n len k : Nat} {A : Option Addr} {c : Nat} {xs : List Int} {nn : Int} (hk : k < len) (h0 : 0 ≤ nn) (h1 : nn ≤ k + 1) (h : PKept w wr n A c xs nn) : PRound w n len (.slice A n c) (.int .i64 nn) (.int .i64 ((k : Int) + 1)) wr :=
  ⟨k + 1, A, c, xs, nn, by omega, by go_num, rfl, rfl, h0, by omega, h⟩
theorem PKept.off {w wr w' : World} {n c : Nat} {A : Option Addr} {xs : List Int} {nn : Int} (h : PKept w wr n A c xs nn) (hc : Chg (fun _ => False) wr w') : PKept w w' n A c xs nn := by
  obtain ⟨h1, h2, h3, h4⟩ := h
  exact ⟨h1.kept hc (fun h => h) (fun h => h), h2.kept hc (fun _ _ h => h), h3.trans (hc.below h3.size (fun _ _ h => h.elim)), h4⟩
theorem PKept.both {w wr w1 w2 : World} {n c c' : Nat} {A A' : Option Addr} {xs ys : List Int} {nn nn' : Int} (h : PKept w wr n A c xs nn) (hc : Chg (fun _ => False) wr w1) (hr : Row w1 (w.heap.size + 2) 2 1 A' n c' (ints ys)) (ha : Aft w1 w2 (w.heap.size + 1) w.heap.size ys nn') (hl : ys.length = xs.length) : PKept w w2 n A' c' ys nn' := by
  obtain ⟨h1, h2, h3, h4⟩ := h
  refine ⟨ha.1, hr.kept ha.2 (fun g hg => by have := (hr.blk_lt g hg).1; omega), ?_, by omega⟩
  exact (h3.trans (hc.below h3.size (fun _ _ h => h.elim))).trans (ha.2.below (Nat.le_trans h3.size hc.size) (by rintro g _ (rfl | rfl) <;> omega))

set_option maxHeartbeats 8000000 in
theorem walk_cellsPlays (a0 : Int) (a1 : Option Addr) (len1 cap1 : Nat) (z1 : Nat → Int) (w : World) (w0 : (Lit.int .i64 a0).wf = true) (w1 : Flat w a1 len1 4 z1) :
    Calls Try.prog 3 #[.int .i64 a0, .slice a1 len1 cap1] w fun e w' => e = .returned (.bool true) ∧ Below w.heap.size w w' := by
  have hm := w1.1
  unfold maxLen at hm
  clear w0
  by_cases h60 : 60 < len1
  · go_enter Try.func3, Try.ntmps3
    go_wp2_with (go_at_call 6; refine (alive_any _).mono ?_; rintro e w' ⟨rfl, hb⟩)
    go_ret
    exact ⟨rfl, hb⟩
  · by_cases h30 : 30 < a0
    · by_cases hM : a0 ≤ 4096
      · go_enter Try.func3, Try.ntmps3
        go_wp2_with (go_at_call 6; refine (alive_any _).mono ?_; rintro e w' ⟨rfl, hb⟩)
        go_ret
        exact ⟨rfl, hb⟩
      · have h0 : 0 ≤ a0 := by omega
        go_enter Try.func3, Try.ntmps3
        go_wp2_with (first | (go_at_call 7; refine (cnew_out a0 _ (by omega)).mono ?_; rintro e w' ⟨rfl, rfl⟩) | (go_at_call 6; refine (alive_any _).mono ?_; rintro e w' ⟨rfl, hb⟩))
        go_ret
        exact ⟨rfl, hb⟩
    · by_cases hN : a0 < 0
      · go_enter Try.func3, Try.ntmps3
        go_wp2_with (first | (go_at_call 7; refine (cnew_out a0 _ (by omega)).mono ?_; rintro e w' ⟨rfl, rfl⟩) | (go_at_call 6; refine (alive_any _).mono ?_; rintro e w' ⟨rfl, hb⟩))
        go_ret
        exact ⟨rfl, hb⟩
      · obtain ⟨n, rfl⟩ : ∃ n : Nat, a0 = n := ⟨a0.toNat, by omega⟩
        have hn : n ≤ 30 := by omega
        clear h30 hN
        have i1 : ¬ (30 : Int) < n := by omega
        have i2 : (0 : Int) ≤ n := by omega
        have i3 : (n : Int) ≤ 4096 := by omega
        have hmk := run_make_row' (P := Try.prog) 26 2 (.int .i64 0) 8 Try.underlying26 int64_info rfl .i64 .i64 n (by omega) (by omega)
        go_enter Try.func3, Try.ntmps3
        go_wp2_with fail
        refine (cnew_in n w (by omega)).mono ?_
        rintro e v1 ⟨rfl, hC1, hb1⟩
        have hs1 := hC1.lt_.1
        have hz1 : w.heap.size + 2 ≤ v1.heap.size := by omega
        have hK0 : PKept w (v1.alloc (.cells (madeCells #[.int .i64 0] n) 2)) n (some ⟨v1.heap.size, 0, none⟩) n (List.replicate n 0) 0 := by
          refine ⟨hC1.alloc _, ?_, hb1.alloc hb1.size _, by simp⟩
          rw [made_ints]
          refine ⟨by simp, Nat.le_refl _, by unfold maxLen; omega, .inr ⟨v1.heap.size, _, rfl, by omega, Blk.new _ _ _, by simp, ?_⟩⟩
          simp [ints]
        have HK0 := Lib.hid hK0
        clear hK0 hC1 hb1 hs1 hz1
        go_wp2_with fail
        go_loopw [6, 7, 8] (fun x m i wr => PRound w n len1 x m i wr) (fun _ _ i _ => len1 - (intOf i).toNat)
        case atStart => exact ⟨0, _, _, _, 0, Nat.zero_le _, rfl, rfl, rfl, by omega, by omega, HK0.out⟩
        case round =>
          obtain ⟨k, A, c, xs, nn, hk, rfl, rfl, rfl, hn0, hn1, hK⟩ := hrel
          clear HK0
          by_cases hlt : k < len1
          · obtain ⟨b, of, rfl, hbl, hc⟩ := w1.2 (by omega)
            have hb : Below w.heap.size w wr := hK.2.2.1
            have hsz := hb.size
            have e0 : wr.cell? ⟨b, of + k * 4, none⟩ = some (.int .i64 (z1 (k * 4))) := (hb.cell (p := ⟨b, of + k * 4, none⟩) hbl).trans (hc (k * 4) (by omega)).1
            have e1 : wr.cell? ⟨b, of + k * 4 + 1, none⟩ = some (.int .i64 (z1 (k * 4 + 1))) := (hb.cell (p := ⟨b, of + k * 4 + 1, none⟩) hbl).trans (hc (k * 4 + 1) (by omega)).1
            have e2 : wr.cell? ⟨b, of + k * 4 + 2, none⟩ = some (.int .i64 (z1 (k * 4 + 2))) := (hb.cell (p := ⟨b, of + k * 4 + 2, none⟩) hbl).trans (hc (k * 4 + 2) (by omega)).1
            have e3 : wr.cell? ⟨b, of + k * 4 + 3, none⟩ = some (.int .i64 (z1 (k * 4 + 3))) := (hb.cell (p := ⟨b, of + k * 4 + 3, none⟩) hbl).trans (hc (k * 4 + 3) (by omega)).1
            generalize z1 (k * 4) = p0 at e0
            generalize z1 (k * 4 + 1) = p1 at e1
            generalize z1 (k * 4 + 2) = p2 at e2
            generalize z1 (k * 4 + 3) = p3 at e3
            have HK := Lib.hid hK
            have HL := Lib.hid hK.2.2.2
            clear hK w1 hc
            go_wp2_with fail
            refine (rdo_any A (w.heap.size + 2) n c p0 p1 p2 p3 xs wr HK.out.2.1 (by omega) (by have := HK.out.1.lt_.1; omega)).mono ?_
            rintro e v2 ⟨A', c', rfl, hr2, hc2⟩
            have f0 : v2.cell? ⟨b, of + k * 4, none⟩ = some (.int .i64 p0) := (hc2.cell (p := ⟨b, of + k * 4, none⟩) (by simp; omega) (fun h => h)).trans e0
            have f1 : v2.cell? ⟨b, of + k * 4 + 1, none⟩ = some (.int .i64 p1) := (hc2.cell (p := ⟨b, of + k * 4 + 1, none⟩) (by simp; omega) (fun h => h)).trans e1
            have f2 : v2.cell? ⟨b, of + k * 4 + 2, none⟩ = some (.int .i64 p2) := (hc2.cell (p := ⟨b, of + k * 4 + 2, none⟩) (by simp; omega) (fun h => h)).trans e2
            have f3 : v2.cell? ⟨b, of + k * 4 + 3, none⟩ = some (.int .i64 p3) := (hc2.cell (p := ⟨b, of + k * 4 + 3, none⟩) (by simp; omega) (fun h => h)).trans e3
            have hz2 : w.heap.size ≤ v2.heap.size := Nat.le_trans hsz hc2.size
            have HC2 := Lib.hid hc2
            have HR2 := Lib.hid hr2
            clear hc2 hr2 e0 e1 e2 e3
            go_wp2_with fail
            refine (do_any (w.heap.size + 1) w.heap.size p0 p1 p2 p3 nn xs v2 (HK.out.1.kept HC2.out (fun h => h) (fun h => h)) (by have := HL.out; omega) hn0 (by omega)).mono ?_
            rintro e v3 ⟨rfl, ha3⟩
            have hK3 := HK.out.both HC2.out HR2.out ha3 (actX_len _ _ _ _ _)
            have g1 : v3.cell? ⟨b, of + k * 4 + 1, none⟩ = some (.int .i64 p1) := (ha3.2.cell (p := ⟨b, of + k * 4 + 1, none⟩) (by simp; omega) (by simp; omega)).trans f1
            clear ha3 HC2 HR2 f0 f1 f2 f3
            generalize actX p0 p1 p2 p3 xs = ys at hK3
            generalize actV p0 p1 p2 p3 xs = av
            rcases in_or_out p1 xs with ⟨j, rfl, hj⟩ | hj
            · rw [cin_in rfl hj] at hK3
              have HK3 := Lib.hid hK3
              have HYL := Lib.hid hK3.2.2.2
              have j0 : (0 : Int) ≤ (j : Int) := by omega
              have j1 : j < n := by have := HL.out; omega
              have j2 : (j : Int) < (n : Int) := by omega
              clear hK3 HK hj
              go_wp2_with (first | (go_at_call 10; refine (ccount (w.heap.size + 1) w.heap.size ys (nn + 1) _ HK3.out.1).mono ?_; rintro e v4 ⟨rfl, rfl⟩) | (go_at_call 11; refine (like_yes (w.heap.size + 1) w.heap.size A' n c' ys (nn + 1) _ HK3.out.1 HK3.out.2.1.rd ?_ ?_ ?_).mono ?_; omega; omega; omega; rintro e v5 ⟨rfl, hc5⟩))
              go_roundw
              case rel => exact PRound.step hlt (by omega) (by omega) (HK3.out.off hc5)
              case measure => simp [intOf]; omega
            · rw [cin_out hj, Int.add_zero] at hK3
              have HK3 := Lib.hid hK3
              have HYL := Lib.hid hK3.2.2.2
              clear hK3 HK
              rcases hj with hj | hj
              · go_wp2_with (first | (go_at_call 10; refine (ccount (w.heap.size + 1) w.heap.size ys (nn) _ HK3.out.1).mono ?_; rintro e v4 ⟨rfl, rfl⟩) | (go_at_call 11; refine (like_yes (w.heap.size + 1) w.heap.size A' n c' ys (nn) _ HK3.out.1 HK3.out.2.1.rd ?_ ?_ ?_).mono ?_; omega; omega; omega; rintro e v5 ⟨rfl, hc5⟩))
                go_roundw
                case rel => exact PRound.step hlt (by omega) (by omega) (HK3.out.off hc5)
                case measure => simp [intOf]; omega
              · have j0 : 0 ≤ p1 := by omega
                have j1 : (n : Int) ≤ p1 := by have := HL.out; omega
                clear hj
                go_wp2_with (first | (go_at_call 10; refine (ccount (w.heap.size + 1) w.heap.size ys (nn) _ HK3.out.1).mono ?_; rintro e v4 ⟨rfl, rfl⟩) | (go_at_call 11; refine (like_yes (w.heap.size + 1) w.heap.size A' n c' ys (nn) _ HK3.out.1 HK3.out.2.1.rd ?_ ?_ ?_).mono ?_; omega; omega; omega; rintro e v5 ⟨rfl, hc5⟩))
                go_roundw
                case rel => exact PRound.step hlt (by omega) (by omega) (HK3.out.off hc5)
                case measure => simp [intOf]; omega
          · go_wp2_with (go_at_call 6; refine (alive_any _).mono ?_; rintro e w' ⟨rfl, hb2⟩)
            go_ret
            exact ⟨rfl, hK.2.2.1.trans (hb2.mono hK.2.2.1.size)⟩
end Go.Proofs.Ythhhphmjohekgaa
