/- The walk of the law CellsApart. -/
import Derived.Test.YthhhphmjohekgaaCellD
namespace Go.Proofs.Ythhhphmjohekgaa
open Go.ChangeShapes Go.WideShapes Go.ChangeAt Go.RowKit Go.Deep
set_option linter.unusedVariables false

def cg (i : Int) (xs : List Int) : Int := if 0 ≤ i ∧ i < xs.length then xs.getD i.toNat 0 else 0
theorem cg_in {i : Int} {xs : List Int} {k : Nat} (hi : i = k) (hk : k < xs.length) : cg i xs = xs[k] := by subst hi; unfold cg; rw [if_pos (by omega)]; simp [hk]
theorem cg_out {i : Int} {xs : List Int} (hi : i < 0 ∨ (xs.length : Int) ≤ i) : cg i xs = 0 := by unfold cg; rw [if_neg (by omega)]
theorem cg_act {i at_ kd x y : Int} {xs : List Int} (h : i ≠ at_) : cg i (actX kd at_ x y xs) = cg i xs := by
  unfold cg
  rw [actX_len]
  split
  · unfold actX
    split
    · simp only [List.getD_eq_getElem?_getD]
      rw [List.getElem?_set_ne (by omega)]
    · rfl
  · rfl
theorem cin_le (i : Int) (xs : List Int) : 0 ≤ cin i xs ∧ cin i xs ≤ 1 := by unfold cin; split <;> omega
theorem load_any (L R : Nat) (xs : List Int) (n i v : Int) (W : World) (hC : Cels W L R xs n) (hv : cg i xs = v) (hm : xs.length ≤ 100000) (hn0 : 0 ≤ n) (hn1 : n < 1000000) :
    Calls Try.prog 12 #[.pointer (some ⟨L, 0, none⟩), .int .i64 i] W fun e W' => e = .returned (.int .i64 v) ∧ Aft W W' L R xs (n + cin i xs) := by
  subst hv
  rcases in_or_out i xs with ⟨k, rfl, hk⟩ | hi
  · rw [cg_in rfl hk, cin_in rfl hk]; exact load_in L R k xs n W hC hk hm hn0 hn1
  · rw [cg_out hi, cin_out hi, Int.add_zero]; exact load_out L R i xs n W hC hi
def sset (i x : Int) (xs : List Int) : List Int := if 0 ≤ i ∧ i < xs.length then xs.set i.toNat x else xs
theorem store_any (L R : Nat) (xs : List Int) (n i x : Int) (W : World) (hC : Cels W L R xs n) (hm : xs.length ≤ 100000) (hn0 : 0 ≤ n) (hn1 : n < 1000000) :
    Calls Try.prog 14 #[.pointer (some ⟨L, 0, none⟩), .int .i64 i, .int .i64 x] W fun e W' => e = .returned (.tuple #[]) ∧ Aft W W' L R (sset i x xs) (n + cin i xs) := by
  rcases in_or_out i xs with ⟨k, rfl, hk⟩ | hi
  · have e : sset k x xs = xs.set k x := by unfold sset; rw [if_pos (by omega)]; simp
    rw [e, cin_in rfl hk]; exact store_in L R k xs n x W hC hk hm hn0 hn1
  · have e : sset i x xs = xs := by unfold sset; rw [if_neg (by omega)]
    rw [e, cin_out hi, Int.add_zero]; exact store_out L R i xs n x W hC hi
theorem sset_len (i x : Int) (xs : List Int) : (sset i x xs).length = xs.length := by unfold sset; split <;> simp
theorem cg_sset {i x : Int} {xs : List Int} (h0 : 0 ≤ i) (h1 : i < xs.length) : cg i (sset i x xs) = x := by
  have e : sset i x xs = xs.set i.toNat x := by unfold sset; rw [if_pos (by omega)]
  rw [e]
  unfold cg
  rw [if_pos (by simp; omega)]
  have : i.toNat < xs.length := by omega
  simp [this]

/-- What holds of the cells at each round's head. -/
def Kept (w wr : World) (kd at_ x y : Int) (xs : List Int) (n : Int) : Prop :=
  Cels wr (w.heap.size + 1 + 1) (w.heap.size + 1) xs n ∧ Blk wr w.heap.size 30 #[.int .i64 kd, .int .i64 at_, .int .i64 x, .int .i64 y] ∧ Below w.heap.size w wr ∧ xs.length = 8
def Round (w : World) (kd at_ x y : Int) (len : Nat) (i : Value) (wr : World) : Prop := ∃ (k : Nat) (xs : List Int) (n : Int), k ≤ len ∧ i = .int .i64 k ∧ 0 ≤ n ∧ n ≤ k ∧ Kept w wr kd at_ x y xs n
theorem Kept.aft {w wr w' : World} {kd at_ x y n n' : Int} {xs ys : List Int} (h : Kept w wr kd at_ x y xs n) (ha : Aft wr w' (w.heap.size + 1 + 1) (w.heap.size + 1) ys n') (hl : ys.length = xs.length) : Kept w w' kd at_ x y ys n' := by
  obtain ⟨h1, h2, h3, h4⟩ := h
  exact ⟨ha.1, h2.kept ha.2 (by omega), ha.below h3 (by omega) (by omega) (Nat.le_refl _), by omega⟩
theorem Kept.off {w wr w' : World} {kd at_ x y n : Int} {xs : List Int} {S : Nat → Prop} (h : Kept w wr kd at_ x y xs n) (hc : Chg S wr w') (hS : ∀ g, S g → w.heap.size + 3 ≤ g) : Kept w w' kd at_ x y xs n := by
  obtain ⟨h1, h2, h3, h4⟩ := h
  exact ⟨h1.kept hc (fun h => by have := hS _ h; omega) (fun h => by have := hS _ h; omega), h2.kept hc (fun h => by have := hS _ h; omega), h3.trans (hc.below h3.size (fun g _ h => by have := hS _ h; omega)), h4⟩
theorem Round.step {w wr : World} {kd at_ x y n : Int} {xs : List Int} {len k : Nat} (hk : k < len) (h0 : 0 ≤ n) (h1 : n ≤ k + 1) (h : Kept w wr kd at_ x y xs n) : Round w kd at_ x y len (.int .i64 ((k : Int) + 1)) wr :=
  ⟨k + 1, xs, n, by omega, by go_num, h0, by omega, h⟩

set_option maxHeartbeats 4000000 in
theorem walk_cellsApart (a0 : Option Addr) (len0 cap0 : Nat) (z0 : Nat → Int) (kd at_ x y : Int) (ot : Int) (w : World) (w0 : Flat w a0 len0 4 z0) (w1_0 : (Lit.int .i64 kd).wf = true) (w1_1 : (Lit.int .i64 at_).wf = true) (w1_2 : (Lit.int .i64 x).wf = true) (w1_3 : (Lit.int .i64 y).wf = true) (w2 : (Lit.int .i64 ot).wf = true) :
    Calls Try.prog 4 #[.slice a0 len0 cap0, .agg #[.int .i64 kd, .int .i64 at_, .int .i64 x, .int .i64 y], .int .i64 ot] w fun e w' => e = .returned (.bool true) ∧ Below w.heap.size w w' := by
  have hm := w0.1
  unfold maxLen at hm
  clear w1_0 w1_1 w1_2 w1_3 w2
  by_cases h60 : 60 < len0
  · go_enter Try.func4, Try.ntmps4
    go_wp2_with (go_at_call 6; refine (alive_any _).mono ?_; rintro e w' ⟨rfl, hb⟩)
    go_ret
    exact ⟨rfl, ((Below.refl _ _).alloc (Nat.le_refl _) _).trans (hb.mono (by simp))⟩
  · go_enter Try.func4, Try.ntmps4
    go_wp2_with fail
    refine (show Calls Try.prog 7 #[.int .i64 8] (w.alloc (.cells #[.int .i64 kd, .int .i64 at_, .int .i64 x, .int .i64 y] 30)) _ from cnew_in 8 _ (by omega)).mono ?_
    rintro e w1 ⟨rfl, hC1, hb1⟩
    have hS : (w.alloc (.cells #[.int .i64 kd, .int .i64 at_, .int .i64 x, .int .i64 y] 30)).heap.size = w.heap.size + 1 := by simp
    rw [hS] at hC1 hb1
    have hK0 : Kept w w1 kd at_ x y (List.replicate 8 0) 0 := ⟨hC1, (Blk.new w _ _).kept (Chg.ofBelow hb1) (by omega), ((Below.refl _ _).alloc (Nat.le_refl _) _).trans (hb1.mono (by simp)), by simp⟩
    clear hC1 hb1 hS
    go_wp2_with fail
    go_loopw [8] (fun i wr => Round w kd at_ x y len0 i wr) (fun i _ => len0 - (intOf i).toNat)
    case atStart => exact ⟨0, _, 0, Nat.zero_le _, rfl, by omega, by omega, hK0⟩
    case round =>
      obtain ⟨k, xs, n, hk, rfl, hn0, hn1, hK⟩ := hrel
      clear hK0
      by_cases hlt : k < len0
      · obtain ⟨b, of, rfl, hbl, hc⟩ := w0.2 (by omega)
        have hb : Below w.heap.size w wr := hK.2.2.1
        have hsz := hb.size
        have e0 : wr.cell? ⟨b, of + k * 4, none⟩ = some (.int .i64 (z0 (k * 4))) := (hb.cell (p := ⟨b, of + k * 4, none⟩) hbl).trans (hc (k * 4) (by omega)).1
        have e1 : wr.cell? ⟨b, of + k * 4 + 1, none⟩ = some (.int .i64 (z0 (k * 4 + 1))) := (hb.cell (p := ⟨b, of + k * 4 + 1, none⟩) hbl).trans (hc (k * 4 + 1) (by omega)).1
        have e2 : wr.cell? ⟨b, of + k * 4 + 2, none⟩ = some (.int .i64 (z0 (k * 4 + 2))) := (hb.cell (p := ⟨b, of + k * 4 + 2, none⟩) hbl).trans (hc (k * 4 + 2) (by omega)).1
        have e3 : wr.cell? ⟨b, of + k * 4 + 3, none⟩ = some (.int .i64 (z0 (k * 4 + 3))) := (hb.cell (p := ⟨b, of + k * 4 + 3, none⟩) hbl).trans (hc (k * 4 + 3) (by omega)).1
        generalize z0 (k * 4) = p0 at e0
        generalize z0 (k * 4 + 1) = p1 at e1
        generalize z0 (k * 4 + 2) = p2 at e2
        generalize z0 (k * 4 + 3) = p3 at e3
        clear w0 hc
        have HK := Lib.hid hK
        have hl8 := hK.2.2.2
        have HL := Lib.hid hl8
        clear hK hl8 hb
        go_wp2_with (go_at_call 9; refine (do_any _ _ p0 p1 p2 p3 n xs _ HK.out.1 ?_ hn0 ?_).mono ?_; (have := HL.out; omega); omega; rintro e w1 ⟨rfl, ha⟩)
        go_roundw
        case rel =>
          have := cin_le p1 xs
          exact Round.step hlt (by omega) (by omega) (HK.out.aft ha (actX_len _ _ _ _ _))
        case measure => simp [intOf]; omega
      · have hl8 := hK.2.2.2
        have hn2 : n ≤ 60 := by omega
        clear hn1 hk w0
        obtain ⟨v0, hv0⟩ : ∃ v, cg ot xs = v := ⟨_, rfl⟩
        have HV := Lib.hid hv0
        have HL := Lib.hid hl8
        clear hv0 hl8
        have c1 := cin_le ot xs
        have HK := Lib.hid hK
        clear hK
        go_wp2_with fail
        refine (load_any _ _ xs n ot v0 wr HK.out.1 HV.out (by have := HL.out; omega) hn0 (by omega)).mono ?_
        rintro e w1 ⟨rfl, ha1⟩
        have HK1 := Lib.hid (HK.out.aft ha1 rfl)
        clear ha1
        obtain ⟨n1, hn1⟩ : ∃ n1, n + cin ot xs = n1 := ⟨_, rfl⟩
        rw [hn1] at HK1
        have b0 : 0 ≤ n1 ∧ n1 ≤ 61 := by omega
        clear hn1 c1
        go_wp2_with fail
        refine (ccopy _ _ xs n1 w1 HK1.out.1 (by have := HL.out; omega)).mono ?_
        rintro e w2 ⟨rfl, hD2, hb2⟩
        have hs1 := HK1.out.1.lt_.1
        have HK2 := Lib.hid (HK1.out.off (Chg.ofBelow hb2) (fun g hg => by have : w1.heap.size ≤ g := hg; omega))
        generalize w1.heap.size = q at hD2 hs1 hb2 ⊢
        have HD2 := Lib.hid hD2
        clear hD2 hb2 HK HK1
        have r0 := HK2.out.2.1.cell 0
        have r1 := HK2.out.2.1.cell 1
        have r2 := HK2.out.2.1.cell 2
        have r3 := HK2.out.2.1.cell 3
        simp at r0 r1 r2 r3
        go_wp2_with fail
        refine (do_any _ _ kd at_ x y n1 xs w2 HK2.out.1 (by have := HL.out; omega) b0.1 (by omega)).mono ?_
        rintro e w3 ⟨rfl, ha3⟩
        have c2 := cin_le at_ xs
        have HK3 := Lib.hid (HK2.out.aft ha3 (actX_len _ _ _ _ _))
        have HD3 := Lib.hid (HD2.out.kept ha3.2 (by omega) (by omega))
        clear ha3 HK2 HD2 r0 r1 r2 r3
        obtain ⟨n3, hn3⟩ : ∃ n3, n1 + cin at_ xs = n3 := ⟨_, rfl⟩
        rw [hn3] at HK3
        have b3 : 0 ≤ n3 ∧ n3 ≤ 62 := by omega
        clear hn3 c2
        have HA : Hid (ot ≠ at_ → cg ot (actX kd at_ x y xs) = v0) := fun h => (cg_act h).trans HV.out
        have hl2 : (actX kd at_ x y xs).length = 8 := (actX_len _ _ _ _ _).trans HL.out
        have HL2 := Lib.hid hl2
        clear hl2
        generalize actX kd at_ x y xs = ys at HK3 HA HL2
        have r1 := HK3.out.2.1.cell 1
        simp at r1
        have c5 := cin_le ot ys
        have c6 := cin_le ot xs
        by_cases ho : ot = at_
        · subst ho
          have HK4 := HK3
          have HD4 := HD3
          obtain ⟨n4, hn4⟩ : ∃ n4, n4 = n3 := ⟨_, rfl⟩
          obtain ⟨w4, hw4⟩ : ∃ w4, w4 = w3 := ⟨_, rfl⟩
          rw [← hn4] at HK4 b3
          rw [← hw4] at HK4 HD4 r1 ⊢
          have b4 : 0 ≤ n4 ∧ n4 ≤ 63 := by omega
          clear hn4 hw4 c5 HK3 HD3
          go_wp2_with fail
          refine (load_any _ _ xs n1 ot v0 w4 HD4.out HV.out (by have := HL.out; omega) b0.1 (by omega)).mono ?_
          rintro e w5 ⟨rfl, ha5⟩
          have HD5 := Lib.hid ha5.1
          have HK5 := Lib.hid (HK4.out.off ha5.2 (by rintro g (rfl | rfl) <;> omega))
          clear ha5 HK4 HD4
          obtain ⟨n5, hn5⟩ : ∃ n5, n1 + cin ot xs = n5 := ⟨_, rfl⟩
          rw [hn5] at HD5
          have b5 : 0 ≤ n5 ∧ n5 ≤ 62 := by omega
          clear hn5 c6
          have r2 := HK5.out.2.1.cell 1
          simp at r2
          go_wp2_with fail
          obtain ⟨v1, hv1⟩ : ∃ v, cg ot xs = v := ⟨_, rfl⟩
          refine (load_any _ _ xs n5 ot v1 w5 HD5.out hv1 (by have := HL.out; omega) b5.1 (by omega)).mono ?_
          rintro e w6 ⟨rfl, ha6⟩
          have c7 := cin_le ot xs
          have HD6 := Lib.hid ha6.1
          have HK6 := Lib.hid (HK5.out.off ha6.2 (by rintro g (rfl | rfl) <;> omega))
          clear ha6 HK5 HD5 r2 hv1
          obtain ⟨n6, hn6⟩ : ∃ n6, n5 + cin ot xs = n6 := ⟨_, rfl⟩
          rw [hn6] at HD6
          have b6 : 0 ≤ n6 ∧ n6 ≤ 63 := by omega
          clear hn6
          have r3 := HK6.out.2.1.cell 1
          simp at r3
          go_wp2_with fail
          refine (store_any _ _ xs n6 ot (wrap64 (v1 + 1)) w6 HD6.out (by have := HL.out; omega) b6.1 (by omega)).mono ?_
          rintro e w7 ⟨rfl, ha7⟩
          have HD7 := Lib.hid ha7.1
          have HK7 := Lib.hid (HK6.out.off ha7.2 (by rintro g (rfl | rfl) <;> omega))
          clear ha7 HK6 HD6 r3
          obtain ⟨n7, hn7⟩ : ∃ n7, n6 + cin ot xs = n7 := ⟨_, rfl⟩
          rw [hn7] at HD7
          have b7 : 0 ≤ n7 ∧ n7 ≤ 64 := by omega
          clear hn7 c7
          have r4 := HK7.out.2.1.cell 1
          simp at r4
          obtain ⟨zs, hzs⟩ : ∃ zs, zs = sset ot (wrap64 (v1 + 1)) xs := ⟨_, rfl⟩
          have HZ : Hid (0 ≤ ot → ot < 8 → cg ot zs = wrap64 (v1 + 1)) := fun h0 h1 => by rw [hzs]; exact cg_sset h0 (by rw [HL.out]; exact h1)
          have HZL : Hid (zs.length = 8) := by rw [hzs]; exact (sset_len _ _ _).trans HL.out
          rw [← hzs] at HD7
          clear hzs
          by_cases p0 : ot < 0
          · have HK8 := HK7
            obtain ⟨w8, hw8⟩ : ∃ w8, w8 = w7 := ⟨_, rfl⟩
            rw [← hw8] at HK8 r4 ⊢
            clear hw8 HK7 HD7
            have HK9 := HK8
            clear HK8
            go_wp2_with (go_at_call 6; refine (alive_any _).mono ?_; rintro e w' ⟨rfl, hbz⟩)
            go_ret
            exact ⟨rfl, HK9.out.2.2.1.trans (hbz.mono HK9.out.2.2.1.size)⟩
          · have p0' : 0 ≤ ot := by omega
            by_cases p1 : 8 ≤ ot
            · have HK8 := HK7
              obtain ⟨w8, hw8⟩ : ∃ w8, w8 = w7 := ⟨_, rfl⟩
              rw [← hw8] at HK8 r4 ⊢
              clear hw8 HK7 HD7
              have HK9 := HK8
              clear HK8
              go_wp2_with (go_at_call 6; refine (alive_any _).mono ?_; rintro e w' ⟨rfl, hbz⟩)
              go_ret
              exact ⟨rfl, HK9.out.2.2.1.trans (hbz.mono HK9.out.2.2.1.size)⟩
            · go_wp2_with fail
              refine (load_any _ _ zs n7 ot (wrap64 (v1 + 1)) w7 HD7.out (HZ.out (by omega) (by omega)) (by have := HZL.out; omega) b7.1 (by omega)).mono ?_
              rintro e w8 ⟨rfl, ha8⟩
              have HK8 := Lib.hid (HK7.out.off ha8.2 (by rintro g (rfl | rfl) <;> omega))
              have r5 := HK8.out.2.1.cell 1
              simp at r5
              clear ha8 HK7 r4
              have HK9 := HK8
              clear HK8
              go_wp2_with (go_at_call 6; refine (alive_any _).mono ?_; rintro e w' ⟨rfl, hbz⟩)
              go_ret
              exact ⟨rfl, HK9.out.2.2.1.trans (hbz.mono HK9.out.2.2.1.size)⟩
        · have ho' : (ot == at_) = false := by simpa using ho
          have HO := Lib.hid ho
          clear ho
          go_wp2_with fail
          refine (load_any _ _ ys n3 ot v0 w3 HK3.out.1 (HA.out HO.out) (by have := HL2.out; omega) b3.1 (by omega)).mono ?_
          rintro e w4 ⟨rfl, ha4⟩
          have HK4 := Lib.hid (HK3.out.aft ha4 rfl)
          have HD4 := Lib.hid (HD3.out.kept ha4.2 (by omega) (by omega))
          clear ha4 HK3 HD3 r1
          obtain ⟨n4, hn4⟩ : ∃ n4, n3 + cin ot ys = n4 := ⟨_, rfl⟩
          rw [hn4] at HK4
          have b4 : 0 ≤ n4 ∧ n4 ≤ 63 := by omega
          clear hn4 c5
          go_wp2_with fail
          refine (load_any _ _ xs n1 ot v0 w4 HD4.out HV.out (by have := HL.out; omega) b0.1 (by omega)).mono ?_
          rintro e w5 ⟨rfl, ha5⟩
          have HD5 := Lib.hid ha5.1
          have HK5 := Lib.hid (HK4.out.off ha5.2 (by rintro g (rfl | rfl) <;> omega))
          clear ha5 HK4 HD4
          obtain ⟨n5, hn5⟩ : ∃ n5, n1 + cin ot xs = n5 := ⟨_, rfl⟩
          rw [hn5] at HD5
          have b5 : 0 ≤ n5 ∧ n5 ≤ 62 := by omega
          clear hn5 c6
          have r2 := HK5.out.2.1.cell 1
          simp at r2
          go_wp2_with fail
          obtain ⟨v1, hv1⟩ : ∃ v, cg at_ xs = v := ⟨_, rfl⟩
          refine (load_any _ _ xs n5 at_ v1 w5 HD5.out hv1 (by have := HL.out; omega) b5.1 (by omega)).mono ?_
          rintro e w6 ⟨rfl, ha6⟩
          have c7 := cin_le at_ xs
          have HD6 := Lib.hid ha6.1
          have HK6 := Lib.hid (HK5.out.off ha6.2 (by rintro g (rfl | rfl) <;> omega))
          clear ha6 HK5 HD5 r2 hv1
          obtain ⟨n6, hn6⟩ : ∃ n6, n5 + cin at_ xs = n6 := ⟨_, rfl⟩
          rw [hn6] at HD6
          have b6 : 0 ≤ n6 ∧ n6 ≤ 63 := by omega
          clear hn6
          have r3 := HK6.out.2.1.cell 1
          simp at r3
          go_wp2_with fail
          refine (store_any _ _ xs n6 at_ (wrap64 (v1 + 1)) w6 HD6.out (by have := HL.out; omega) b6.1 (by omega)).mono ?_
          rintro e w7 ⟨rfl, ha7⟩
          have HD7 := Lib.hid ha7.1
          have HK7 := Lib.hid (HK6.out.off ha7.2 (by rintro g (rfl | rfl) <;> omega))
          clear ha7 HK6 HD6 r3
          obtain ⟨n7, hn7⟩ : ∃ n7, n6 + cin at_ xs = n7 := ⟨_, rfl⟩
          rw [hn7] at HD7
          have b7 : 0 ≤ n7 ∧ n7 ≤ 64 := by omega
          clear hn7 c7
          have r4 := HK7.out.2.1.cell 1
          simp at r4
          obtain ⟨zs, hzs⟩ : ∃ zs, zs = sset at_ (wrap64 (v1 + 1)) xs := ⟨_, rfl⟩
          have HZ : Hid (0 ≤ at_ → at_ < 8 → cg at_ zs = wrap64 (v1 + 1)) := fun h0 h1 => by rw [hzs]; exact cg_sset h0 (by rw [HL.out]; exact h1)
          have HZL : Hid (zs.length = 8) := by rw [hzs]; exact (sset_len _ _ _).trans HL.out
          rw [← hzs] at HD7
          clear hzs
          by_cases p0 : at_ < 0
          · have HK8 := HK7
            obtain ⟨w8, hw8⟩ : ∃ w8, w8 = w7 := ⟨_, rfl⟩
            rw [← hw8] at HK8 r4 ⊢
            clear hw8 HK7 HD7
            go_wp2_with fail
            refine (load_any _ _ ys n4 ot v0 w8 HK8.out.1 (HA.out HO.out) (by have := HL2.out; omega) b4.1 (by omega)).mono ?_
            rintro e w9 ⟨rfl, ha9⟩
            have HK9 := Lib.hid (HK8.out.aft ha9 rfl)
            clear ha9 HK8
            go_wp2_with (go_at_call 6; refine (alive_any _).mono ?_; rintro e w' ⟨rfl, hbz⟩)
            go_ret
            exact ⟨rfl, HK9.out.2.2.1.trans (hbz.mono HK9.out.2.2.1.size)⟩
          · have p0' : 0 ≤ at_ := by omega
            by_cases p1 : 8 ≤ at_
            · have HK8 := HK7
              obtain ⟨w8, hw8⟩ : ∃ w8, w8 = w7 := ⟨_, rfl⟩
              rw [← hw8] at HK8 r4 ⊢
              clear hw8 HK7 HD7
              go_wp2_with fail
              refine (load_any _ _ ys n4 ot v0 w8 HK8.out.1 (HA.out HO.out) (by have := HL2.out; omega) b4.1 (by omega)).mono ?_
              rintro e w9 ⟨rfl, ha9⟩
              have HK9 := Lib.hid (HK8.out.aft ha9 rfl)
              clear ha9 HK8
              go_wp2_with (go_at_call 6; refine (alive_any _).mono ?_; rintro e w' ⟨rfl, hbz⟩)
              go_ret
              exact ⟨rfl, HK9.out.2.2.1.trans (hbz.mono HK9.out.2.2.1.size)⟩
            · go_wp2_with fail
              refine (load_any _ _ zs n7 at_ (wrap64 (v1 + 1)) w7 HD7.out (HZ.out (by omega) (by omega)) (by have := HZL.out; omega) b7.1 (by omega)).mono ?_
              rintro e w8 ⟨rfl, ha8⟩
              have HK8 := Lib.hid (HK7.out.off ha8.2 (by rintro g (rfl | rfl) <;> omega))
              have r5 := HK8.out.2.1.cell 1
              simp at r5
              clear ha8 HK7 r4
              go_wp2_with fail
              refine (load_any _ _ ys n4 ot v0 w8 HK8.out.1 (HA.out HO.out) (by have := HL2.out; omega) b4.1 (by omega)).mono ?_
              rintro e w9 ⟨rfl, ha9⟩
              have HK9 := Lib.hid (HK8.out.aft ha9 rfl)
              clear ha9 HK8
              go_wp2_with (go_at_call 6; refine (alive_any _).mono ?_; rintro e w' ⟨rfl, hbz⟩)
              go_ret
              exact ⟨rfl, HK9.out.2.2.1.trans (hbz.mono HK9.out.2.2.1.size)⟩
end Go.Proofs.Ythhhphmjohekgaa
