/- The walk of the law IdleOnce. -/
import Derived.Test.YtoajaemiddgdpaaIdF
import Derived.Deep.RegionHeld3
namespace Go.Proofs.Ytoajaemiddgdpaa
open Go.ChangeShapes Go.WideShapes Go.ChangeAt Go.RowKit Go.Deep
set_option linter.unusedVariables false

set_option maxRecDepth 100000 in
set_option maxHeartbeats 16000000 in
theorem walk_idleOnce (a0 : Option Addr) (len0 cap0 : Nat) (z0 : Nat → Int) (w : World) (w0 : Flat w a0 len0 2 z0) :
    Calls Try.prog 4 #[.slice a0 len0 cap0] w fun e w' => e = .returned (.bool true) ∧ Below w.heap.size w w' := by
  have hm := w0.1
  unfold maxLen at hm
  by_cases h100 : 100 < len0
  · go_enter Try.func4, Try.ntmps4
    go_wp2_with (go_at_call 6; refine (alive_any _).mono ?_; rintro e w' ⟨rfl, hb⟩)
    go_ret
    exact ⟨rfl, hb⟩
  · have hmk := Lib.hid make_64
    go_enter Try.func4, Try.ntmps4
    go_wp2_with (go_at_call 7; refine (inew_in 64 _ (by omega)).mono ?_; rintro e w1 ⟨rfl, hI, hb⟩; have hmk1 := hmk.out w1)
    obtain ⟨T, hT⟩ : ∃ T, T = w1.heap.size := ⟨_, rfl⟩
    have h0 : Both w T [] (w1.alloc (.cells (trow []) 4)) := by
      refine ⟨hI.kept (S := fun _ => False) ((Chg.refl _ _).alloc _) (fun h => h) (fun h => h), ?_, hb.alloc hb.size _, ?_⟩
      · rw [hT]; exact Blk.new _ _ _
      · rw [hT]
        have := hI.1.lt
        omega
    rw [← hT]
    have H0 := Lib.hid h0
    clear h0 hI hb hmk1 hmk hT
    go_loopw [5] (fun i wr => Once w T len0 i wr) (fun i _ => len0 - (intOf i).toNat)
    case atStart => exact ⟨0, [], Nat.zero_le _, rfl, H0.out⟩
    case round =>
      clear H0
      obtain ⟨k, xs, hk, rfl, ht⟩ := hrel
      by_cases hlt : k < len0
      · obtain ⟨b, of, rfl, hbl, hc⟩ := w0.2 (by omega)
        have hb : Below w.heap.size w wr := ht.2.2.1
        have hsz := hb.size
        have e0 : wr.cell? ⟨b, of + k * 2, none⟩ = some (.int .i64 (z0 (k * 2))) := (hb.cell (p := ⟨b, of + k * 2, none⟩) hbl).trans (hc (k * 2) (by omega)).1
        have e1 : wr.cell? ⟨b, of + k * 2 + 1, none⟩ = some (.int .i64 (z0 (k * 2 + 1))) := (hb.cell (p := ⟨b, of + k * 2 + 1, none⟩) hbl).trans (hc (k * 2 + 1) (by omega)).1
        have hbn : b ≠ wr.heap.size := by omega
        have hbw : b < wr.heap.size := by omega
        generalize z0 (k * 2) = kd at e0
        generalize z0 (k * 2 + 1) = x at e1
        clear w0 hc hb hsz
        have hTw := ht.2.1.lt
        have hTn : T ≠ wr.heap.size := by omega
        have ht2 := ht.alloc (.cells #[.int .i64 kd, .int .i64 x] 30)
        have hLw := ht.1.1.lt
        have hRw := ht.1.2.1.lt
        have hTL := ht.2.2.2
        have q0 : wr.heap.size < (wr.alloc (.cells #[.int .i64 kd, .int .i64 x] 30)).heap.size := by simp
        have HA := Lib.hid (Blk.new wr 30 #[.int .i64 kd, .int .i64 x])
        have hnS : ¬ (wr.heap.size = w.heap.size + 1 ∨ wr.heap.size = w.heap.size) := by omega
        have hfT := fun j => ht.2.1.frozen j
        have HFT := Lib.hid hfT
        have HX := Lib.hid (show ∀ j, j < 64 → wr.cell? ⟨T, j, none⟩ = some (.bool (decide (j ∈ xs))) from fun j hj => by rw [ht.2.1.cell]; exact trow_at xs j hj)
        have HT := Lib.hid ht
        have HT2 := Lib.hid ht2
        clear hfT ht ht2
        by_cases hk0 : kd = 0
        · subst hk0
          by_cases hx0 : x < 0
          · have hx1 : ¬ 0 ≤ x := by omega
            go_wp2_with (go_at_call 15; refine (put_out _ _ 64 _ xs _ HT2.out.1 (by omega) (.inl hx0)).mono ?_; rintro e w1 ⟨rfl, rfl⟩)
            go_roundw
            case measure => simp [intOf]; omega
            case rel => exact Once.step hlt HT2.out
          · have hx1 : 0 ≤ x := by omega
            by_cases hx2 : 64 ≤ x
            · have hx3 : decide (x < 64) = false := by simp; omega
              go_wp2_with (go_at_call 15; refine (put_out _ _ 64 _ xs _ HT2.out.1 (by omega) (.inr hx2)).mono ?_; rintro e w1 ⟨rfl, rfl⟩)
              go_roundw
              case measure => simp [intOf]; omega
              case rel => exact Once.step hlt HT2.out
            · obtain ⟨y, rfl⟩ : ∃ y : Nat, x = y := ⟨x.toNat, by omega⟩
              have hy : y < 64 := by omega
              have hy1 : (y : Int) < 64 := by omega
              clear hx0 hx2
              by_cases hyx : y ∈ xs
              · have e2 := HX.out y hy
                rw [decide_eq_true hyx] at e2
                have f2 := HFT.out y
                obtain ⟨h5, _, _⟩ := Both.two HT.out HT.out.1 (Chg.refl _ _) hy (b := true) (ys := xs) (by intro j; split; (subst_vars; simpa using hyx); rfl)
                have HN := Lib.hid (h5.alloc (.cells #[.int .i64 0, .int .i64 y] 30))
                clear h5
                go_wp2_with (first
                  | (go_at_call 15; refine (put_old _ _ 64 _ xs _ HT2.out.1 (by omega) hy hyx).mono ?_; rintro e w1 ⟨rfl, rfl⟩)
                  | (go_at_call 16; refine (mod_in _ _ hy).mono ?_; rintro e w1 ⟨rfl, rfl⟩))
                go_roundw
                case measure => simp [intOf]; omega
                case rel => exact Once.step hlt HN.out
              · have hlen : xs.length < 1024 := by
                  have := len_le xs 64 HT.out.1.2.2.1 HT.out.1.2.2.2.1
                  omega
                go_wp2_with (first
                  | (go_at_call 15; refine (put_new _ _ 64 _ xs _ HT2.out.1 (by omega) hy hyx hlen).mono ?_; rintro e w1 ⟨rfl, hI1, hc1⟩; obtain ⟨h5, f2, e2⟩ := Both.two HT2.out hI1 hc1 hy (b := true) (ys := y :: xs) (by intro j; by_cases hj : j = y <;> simp [hj]); rw [decide_eq_false hyx] at e2; have e3 := (HA.out.kept hc1 hnS).cell 1; simp at e3; have HN := Lib.hid h5; clear h5; have HI := Lib.hid hI1; have HC := Lib.hid hc1; clear hI1 hc1)
                  | (go_at_call 16; refine (mod_in _ _ hy).mono ?_; rintro e w1 ⟨rfl, rfl⟩))
                go_roundw
                case measure => simp [intOf]; omega
                case rel => exact Once.step hlt HN.out
        · have d0 : (kd == 0) = false := by simpa using hk0
          by_cases hk1 : kd = 1
          · subst hk1
            rcases xs with _ | ⟨y, t⟩
            · go_wp2_with (go_at_call 17; refine (get_none _ _ 64 _ HT2.out.1).mono ?_; rintro e w1 ⟨rfl, rfl⟩)
              go_roundw
              case measure => simp [intOf]; omega
              case rel => exact Once.step hlt HT2.out
            · have hy : y < 64 := HT.out.1.2.2.2.1 y (by simp)
              have hy1 : (y : Int) < 64 := by omega
              have hy2 : (0 : Int) ≤ y := by omega
              have hyt : y ∉ t := (List.nodup_cons.1 HT.out.1.2.2.1).1
              go_wp2_with (go_at_call 17; refine (get_some _ _ 64 y t _ HT2.out.1 (by omega)).mono ?_; rintro e w1 ⟨rfl, hI1, hc1⟩; obtain ⟨h5, f2, e2⟩ := Both.two HT2.out hI1 hc1 hy (b := false) (ys := t) (by intro j; by_cases hj : j = y <;> simp [hj, hyt]); rw [decide_eq_true (by simp)] at e2; have HN := Lib.hid h5; clear h5; have HI := Lib.hid hI1; have HC := Lib.hid hc1; clear hI1 hc1)
              go_roundw
              case measure => simp [intOf]; omega
              case rel => exact Once.step hlt HN.out
          · have d1 : (kd == 1) = false := by simpa using hk1
            go_wp2_with fail
            go_roundw
            case measure => simp [intOf]; omega
            case rel => exact Once.step hlt HT2.out
      · have hI := Lib.hid ht
        clear ht w0
        go_wp2_with fail
        have Hx := Lib.hid (show cnt xs 64 = xs.length from cnt_all xs 64 hI.out.1.2.2.2.1)
        obtain ⟨wo, hwo⟩ : ∃ wo, wo = wr := ⟨_, rfl⟩
        subst hwo
        go_loopw [10, 11] (fun n i wr => Last w T xs n i wr) (fun _ i _ => 64 - (intOf i).toNat)
        case atStart => exact ⟨0, Nat.zero_le _, rfl, by rw [cnt_zero]; rfl, hI.out⟩
        case round =>
          clear hI
          obtain ⟨j, hj, rfl, rfl, hI0⟩ := hrel
          have hI := Lib.hid hI0
          clear hI0
          have HX := Lib.hid (show ∀ j, j < 64 → wr.cell? ⟨T, j, none⟩ = some (.bool (decide (j ∈ xs))) from fun j hj => by rw [hI.out.2.1.cell]; exact trow_at xs j hj)
          by_cases hlt2 : j < 64
          · have c1 := HX.out j hlt2
            have j0 : (0 : Int) ≤ j := by omega
            have j1 : (j : Int) < 64 := by omega
            have hcl := cnt_lek xs hI.out.1.2.2.1 j
            by_cases hjx : j ∈ xs
            · rw [decide_eq_true hjx] at c1
              go_wp2_with fail
              go_quiet ((go_at_call 13; exact Calls.quiet_of_same (has_yes _ _ 64 j xs _ (hI.out.drewN _).1 (by omega) hlt2 hjx)))
              go_wp2_with fail
              go_roundw
              case measure => simp [intOf]; omega
              case rel => exact Last.yes hlt2 hjx (hI.out.drewN _)
            · rw [decide_eq_false hjx] at c1
              go_wp2_with fail
              go_quiet ((go_at_call 13; exact Calls.quiet_of_same (has_no _ _ 64 j xs _ (hI.out.drewN _).1 (by omega) hlt2 hjx)))
              go_wp2_with fail
              go_roundw
              case measure => simp [intOf]; omega
              case rel => exact Last.no hlt2 hjx (hI.out.drewN _)
          · obtain rfl : j = 64 := by omega
            have hb := hI.out.2.2.1
            have Hb := Lib.hid hb
            clear hb
            rw [cnt_all xs 64 hI.out.1.2.2.2.1]
            go_wp2_with (first
              | (go_at_call 12; refine (len_at _ _ 64 xs _ hI.out.1).mono ?_; rintro e w1 ⟨rfl, rfl⟩)
              | (go_at_call 6; refine (alive_any _).mono ?_; rintro e w' ⟨rfl, hb2⟩))
            go_ret
            exact ⟨rfl, Hb.out.trans (hb2.mono Hb.out.size)⟩
end Go.Proofs.Ytoajaemiddgdpaa
