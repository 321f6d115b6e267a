/- The walk of the law TicketPlays. -/
import Derived.Test.YtiabmkhkmhjkpaaTickB
namespace Go.Proofs.Ytiabmkhkmhjkpaa
open Go.ChangeShapes Go.WideShapes Go.ChangeAt Go.RowKit Go.Deep
set_option linter.unusedVariables false

theorem rep_get (k : Nat) (h : k < (List.replicate 4 (0 : Int)).length) : (List.replicate 4 (0 : Int))[k] = 0 := List.getElem_replicate _
theorem two_get0 {k : Nat} (hk : k ≤ 2) (a1 a2 : Int) : (((List.replicate 4 (0 : Int)).set k a1).set (k + 1) a2)[k]? = some a1 := by
  rw [List.getElem?_set_ne (by omega), List.getElem?_set_self (by simp; omega)]
theorem two_get1 {k : Nat} (hk : k ≤ 2) (a1 a2 : Int) : (((List.replicate 4 (0 : Int)).set k a1).set (k + 1) a2)[k + 1]? = some a2 := by
  rw [List.getElem?_set_self (by simp; omega)]
theorem load_0 (xs : List Int) (L R k : Nat) (n v : Int) (W : World) (hC : Cels W L R xs n) (hv : xs[k]? = some v) (hl : xs.length ≤ 100) (hn0 : 0 ≤ n) (hn1 : n < 50001) :
    Calls Try.prog 13 #[.pointer (some ⟨L, 0, none⟩), .int .i64 k] W fun e W' => e = .returned (.int .i64 v) ∧ Aft W W' L R xs (n + 1) := by
  obtain ⟨k0, e0⟩ := List.getElem?_eq_some_iff.1 hv
  exact load_at L R k xs n _ v k W hC rfl k0 e0 rfl (by omega) hn0 (by omega)
theorem load_1 (xs : List Int) (L R k : Nat) (n v : Int) (W : World) (hC : Cels W L R xs n) (hv : xs[k + 1]? = some v) (hl : xs.length ≤ 100) (hn0 : 0 ≤ n) (hn1 : n < 50001) :
    Calls Try.prog 13 #[.pointer (some ⟨L, 0, none⟩), .int .i64 ((k : Int) + 1)] W fun e W' => e = .returned (.int .i64 v) ∧ Aft W W' L R xs (n + 1) := by
  obtain ⟨k0, e0⟩ := List.getElem?_eq_some_iff.1 hv
  exact load_at L R (k + 1) xs n _ v ((k : Int) + 1) W hC (by omega) k0 e0 rfl (by omega) hn0 (by omega)
theorem tnew_out4 (L R : Nat) (i : Int) (W : World) (h : ∃ xs n, Cels W L R xs n ∧ xs.length = 4) (hi : i < 0 ∨ (4 : Int) - 1 ≤ i) :
    Calls Try.prog 9 #[.pointer (some ⟨L, 0, none⟩), .int .i64 i] W fun e W' => e = .returned (.pointer none) ∧ W' = W := by
  obtain ⟨xs, n, hC, hl⟩ := h
  exact tnew_out L R i xs n W hC (by omega) (by rw [hl]; exact hi)
def Round (w : World) (K at_ Q len : Nat) (i : Value) (wr : World) : Prop :=
  ∃ (k : Nat) (v0 v1 n : Int), k ≤ len ∧ i = .int .i64 k ∧ 0 ≤ n ∧ n ≤ 2 + 2 * (k : Int) ∧ Hid (Two wr K (w.heap.size + 1) w.heap.size at_ Q v0 v1 n ∧ Below w.heap.size w wr)
theorem lk_count (K L R at_ : Nat) (v0 v1 n : Int) (W : World) (h : Lk W K L R at_ v0 v1 n) : Calls Try.prog 10 #[.pointer (some ⟨L, 0, none⟩)] W fun e W' => e = .returned (.int .i64 n) ∧ W' = W := by
  obtain ⟨xs, _, hC, _⟩ := h
  exact ccount L R xs n W hC
theorem Round.step {w W w2 : World} {K at_ Q len k : Nat} {n : Int} {v0 v1 n' : Int} (hk : k < len) (h0 : 0 ≤ n) (h1 : n ≤ 2 + 2 * (k : Int)) (hb : Below w.heap.size w W) (hQ : w.heap.size ≤ Q)
    (h2 : n ≤ n') (h3 : n' ≤ n + 2) (hT : Two w2 K (w.heap.size + 1) w.heap.size at_ Q v0 v1 n') (hc : Chg (fun g => g = w.heap.size + 1 ∨ g = w.heap.size ∨ g = Q) W w2) : Round w K at_ Q len (.int .i64 ((k : Int) + 1)) w2 :=
  ⟨k + 1, v0, v1, n', by omega, by go_num, by omega, by omega, hT, hb.trans (hc.below hb.size (by rintro g _ (h | h | h) <;> omega))⟩

set_option maxRecDepth 100000 in
set_option maxHeartbeats 8000000 in
theorem walk_ticketPlays (a0 a1 a2 : Int) (a3 : Option Addr) (len3 cap3 : Nat) (z3 : Nat → Int) (w : World) (w0 : (Lit.int .i64 a0).wf = true) (w1 : (Lit.int .i64 a1).wf = true) (w2 : (Lit.int .i64 a2).wf = true) (w3 : Flat w a3 len3 2 z3) :
    Calls Try.prog 3 #[.int .i64 a0, .int .i64 a1, .int .i64 a2, .slice a3 len3 cap3] w fun e w' => e = .returned (.bool true) ∧ Below w.heap.size w w' := by
  have hm := w3.1
  unfold maxLen at hm
  clear w0 w1 w2
  by_cases h100 : 100 < len3
  · go_enter Try.func3, Try.ntmps3
    go_wp2_with (go_at_call 6; refine (alive_any _).mono ?_; rintro e w' ⟨rfl, hb⟩)
    go_ret
    exact ⟨rfl, hb⟩
  · by_cases hin : 0 ≤ a0 ∧ a0 ≤ 2
    · obtain ⟨k, rfl⟩ : ∃ k : Nat, a0 = k := ⟨a0.toNat, by omega⟩
      have hk2 : k ≤ 2 := by omega
      have i0 : (0 : Int) ≤ k := by omega
      have i1 : (k : Int) ≤ 2 := by omega
      clear hin
      go_enter Try.func3, Try.ntmps3
      go_wp2_with fail
      refine (show Calls Try.prog 7 #[.int .i64 4] w _ from cnew_in 4 w (by omega)).mono ?_
      rintro e v1 ⟨rfl, hC1, hb1⟩
      go_wp2_with fail
      refine (store_at (w.heap.size + 1) w.heap.size k _ ((List.replicate 4 0).set k a1) 0 1 a1 0 k v1 hC1 rfl (by simp; omega) (rep_get _ _) rfl rfl (by simp) (by omega) (by omega)).mono ?_
      rintro e v2 ⟨rfl, hA2⟩
      have hC2 := hA2.1
      have hb2 : Below w.heap.size w v2 := hb1.trans (hA2.2.below hb1.size (by rintro g _ (h | h) <;> omega))
      clear hA2 hC1 hb1
      go_wp2_with fail
      refine (store_at (w.heap.size + 1) w.heap.size (k + 1) _ (((List.replicate 4 0).set k a1).set (k + 1) a2) 1 2 a2 0 (k + 1) v2 hC2 (by omega) (by simp; omega) (by rw [List.getElem_set_ne (by omega)]; exact rep_get _ _) rfl rfl (by simp) (by omega) (by omega)).mono ?_
      rintro e v3 ⟨rfl, hA3⟩
      have hC3 := hA3.1
      have hb3 : Below w.heap.size w v3 := hb2.trans (hA3.2.below hb2.size (by rintro g _ (h | h) <;> omega))
      clear hA3 hC2 hb2
      have g0 : (((List.replicate 4 (0 : Int)).set k a1).set (k + 1) a2)[k]? = some a1 := two_get0 hk2 a1 a2
      have g1 : (((List.replicate 4 (0 : Int)).set k a1).set (k + 1) a2)[k + 1]? = some a2 := two_get1 hk2 a1 a2
      have gl : (((List.replicate 4 (0 : Int)).set k a1).set (k + 1) a2).length = 4 := by simp
      generalize (((List.replicate 4 (0 : Int)).set k a1).set (k + 1) a2) = xs at hC3 g0 g1 gl
      have HG0 := Lib.hid g0
      have HG1 := Lib.hid g1
      have HGL := Lib.hid gl
      have HC3 := Lib.hid hC3
      have HB3 := Lib.hid hb3
      clear g0 g1 gl hC3 hb3
      go_wp2_with fail
      refine (tnew_in (w.heap.size + 1) w.heap.size k xs 2 a1 a2 v3 HC3.out (by have := HGL.out; omega) HG0.out HG1.out).mono ?_
      rintro e v4 ⟨rfl, hL4, hc4⟩
      have hK0 : w.heap.size + 1 < v3.heap.size := HC3.out.lt_.1
      have hKlt := hL4.lt_.1
      generalize v3.heap.size = K at hL4 hK0 hKlt ⊢
      have HL4 := Lib.hid hL4
      have HC4 := Lib.hid (HC3.out.kept hc4 (fun h => h) (fun h => h))
      have HB4 := Lib.hid (HB3.out.trans (hc4.below HB3.out.size (fun _ _ h => h.elim)))
      clear hL4 hc4 HC3 HB3
      go_wp2_with (go_at_call 10; refine (ccount _ _ _ _ _ HC4.out).mono ?_; rintro e v5 ⟨rfl, hv5⟩; subst hv5)
      have hT0 : Two (v5.alloc (.cells #[.int .i64 a1, .int .i64 a2, .int .i64 2] 32)) K (w.heap.size + 1) w.heap.size k v5.heap.size a1 a2 2 :=
        ⟨HL4.out.kept (S := fun _ => False) ((Chg.refl _ _).alloc _) (fun h => h) (fun h => h) (fun h => h), Blk.new _ _ _, by omega, by omega, by omega⟩
      have hB0 : Below w.heap.size w (v5.alloc (.cells #[.int .i64 a1, .int .i64 a2, .int .i64 2] 32)) := HB4.out.alloc HB4.out.size _
      have hQ0 : w.heap.size ≤ v5.heap.size := HB4.out.size
      have HT0 := Lib.hid (And.intro hT0 hB0)
      clear hT0 hB0 HC4 HL4 HB4
      obtain ⟨Q, hQ⟩ : ∃ Q, v5.heap.size = Q := ⟨_, rfl⟩
      rw [hQ] at HT0 hQ0 ⊢
      generalize v5.alloc (.cells #[.int .i64 a1, .int .i64 a2, .int .i64 2] 32) = v6 at HT0 ⊢
      clear hQ hKlt
      go_loopw [12] (fun i wr => Round w K k Q len3 i wr) (fun i _ => len3 - (intOf i).toNat)
      case atStart => exact ⟨0, a1, a2, 2, Nat.zero_le _, rfl, by omega, by omega, HT0⟩
      case round =>
        obtain ⟨j, u0, u1, n, hj, rfl, hn0, hn1, HT⟩ := hrel
        clear HT0
        by_cases hlt : j < len3
        · obtain ⟨b, of, rfl, hbl, hc⟩ := w3.2 (by omega)
          have hb := HT.out.2
          have hsz := hb.size
          have e0 : wr.cell? ⟨b, of + j * 2, none⟩ = some (.int .i64 (z3 (j * 2))) := (hb.cell (p := ⟨b, of + j * 2, none⟩) hbl).trans (hc (j * 2) (by omega)).1
          have e1 : wr.cell? ⟨b, of + j * 2 + 1, none⟩ = some (.int .i64 (z3 (j * 2 + 1))) := (hb.cell (p := ⟨b, of + j * 2 + 1, none⟩) hbl).trans (hc (j * 2 + 1) (by omega)).1
          generalize z3 (j * 2) = p0 at e0
          generalize z3 (j * 2 + 1) = p1 at e1
          clear w3 hc hb
          have hs0 : wr.drew.cell? ⟨b, of + j * 2, none⟩ = some (.int .i64 p0) ∧ wr.drew.cell? ⟨b, of + j * 2 + 1, none⟩ = some (.int .i64 p1) := ⟨e0, e1⟩
          have i2 : (0 : Int) ≤ (j : Int) := by omega
          have i3 : (j : Int) < (len3 : Int) := by omega
          have i4 : n < 5000 := by omega
          go_wp2_with fail
          go_region_with
            (first
              | (go_at_call 11; refine (act_any K (w.heap.size + 1) w.heap.size k Q u0 u1 n p0 p1 _ HT.out.1.drew hn0 i4).mono ?_; rintro e w5 ⟨rfl, y0, y1, n', hy1, hy2, hT5, hc5⟩; obtain ⟨q0, q1, q2, f0, f1, f2⟩ := hT5.2.1.cells_; have hmany := hT5.1; have hs1 : w5.cell? ⟨b, of + j * 2, none⟩ = some (.int .i64 p0) ∧ w5.cell? ⟨b, of + j * 2 + 1, none⟩ = some (.int .i64 p1) := ⟨(hc5.cell (p := ⟨b, of + j * 2, none⟩) (by simp; omega) (by simp; omega)).trans hs0.1, (hc5.cell (p := ⟨b, of + j * 2 + 1, none⟩) (by simp; omega) (by simp; omega)).trans hs0.2⟩)
              | (go_at_call 10; refine (lk_count K (w.heap.size + 1) w.heap.size k y0 y1 n' _ hmany).mono ?_; rintro e w6 ⟨rfl, rfl⟩))
          all_goals go_simp
          all_goals go_wp2
          all_goals ((try go_big_round); refine ⟨?_, ?_⟩; exact Round.step hlt hn0 hn1 HT.out.2 hQ0 hy1 hy2 hT5 hc5.undrew; (simp [intOf]; omega))
        · obtain ⟨⟨hL, hR, hq1, hq2, hq3⟩, hb⟩ := HT.out
          obtain ⟨xs2, hKb, hC2, hl2, x0, x1⟩ := hL
          obtain ⟨q0, q1, q2, f0, f1, f2⟩ := hR.cells_
          have hQlt := Blk.lt hR
          have HC2 := Lib.hid hC2
          have HL2 := Lib.hid hl2
          have HX0 := Lib.hid x0
          have HX1 := Lib.hid x1
          have HR := Lib.hid hR
          clear hC2 hl2 x0 x1 hKb w3 HT hR
          go_wp2_with fail
          refine (ccopy (w.heap.size + 1) w.heap.size xs2 n wr HC2.out (by have := HL2.out; omega)).mono ?_
          rintro e w7 ⟨rfl, hD, hb7⟩
          have HQ7 := Lib.hid (HR.out.kept (Chg.ofBelow hb7) (show ¬ wr.heap.size ≤ Q by omega))
          have hb8 := Lib.hid (hb.trans (hb7.mono hb.size))
          have HD := Lib.hid hD
          generalize wr.heap.size = D at HD hD hQlt ⊢
          clear hD hb7 HC2 HR q0 q1 q2 hb
          obtain ⟨q0, q1, _⟩ := HQ7.out.cells_
          have hs0 : w7.drew.cell? ⟨Q, 0, none⟩ = some (.int .i64 u0) ∧ w7.drew.cell? ⟨Q, 1, none⟩ = some (.int .i64 u1) := ⟨q0, q1⟩
          have hwk : IntKind.i64.wrap ((k : Int) + 1) = (k : Int) + 1 := by rw [IntKind.wrap_i64]; omega
          have i5 : 0 ≤ n + 1 := by omega
          have i6 : n + 1 < 50001 := by omega
          have i2 : n < 50001 := by omega
          clear q0 q1
          go_wp2_with fail
          go_region_held3 (fun w' => w'.cell? ⟨Q, 0, none⟩ = some (.int .i64 u0) ∧ w'.cell? ⟨Q, 1, none⟩ = some (.int .i64 u1)) (first | assumption)
            ((first
              | (go_at_call 13; (with_reducible refine (load_0 xs2 (D + 1) D k n u0 _ HD.out.drew HX0.out HL2.out hn0 i2).mono ?_); rintro e w9 ⟨rfl, ha9⟩; have hC9 := ha9.1; have q9 := (HQ7.out.kept (W := w7.drew) ha9.2 (by omega)).cells_; have hs9 : w9.cell? ⟨Q, 0, none⟩ = some (.int .i64 u0) ∧ w9.cell? ⟨Q, 1, none⟩ = some (.int .i64 u1) := ⟨q9.1, q9.2.1⟩)
              | (go_at_call 13; (with_reducible refine (load_1 xs2 (D + 1) D k (n + 1) u1 _ hC9 HX1.out HL2.out i5 i6).mono ?_); rintro e w10 ⟨rfl, ha10⟩; have hR10 := HQ7.out.kept (W := w7.drew) (lk_chg ha9.2 ha10.2) (by omega); have q10 := hR10.cells_; have hQb : Q < w10.heap.size := Blk.lt hR10; have hs10 : w10.cell? ⟨Q, 0, none⟩ = some (.int .i64 u0) ∧ w10.cell? ⟨Q, 1, none⟩ = some (.int .i64 u1) := ⟨q10.1, q10.2.1⟩)
              | (go_at_call 6; refine (alive_any _).mono ?_; rintro e w11 ⟨rfl, hb11⟩; have hs11 : w11.cell? ⟨Q, 0, none⟩ = some (.int .i64 u0) ∧ w11.cell? ⟨Q, 1, none⟩ = some (.int .i64 u1) := ⟨(hb11.cell (p := ⟨Q, 0, none⟩) hQb).trans hs10.1, (hb11.cell (p := ⟨Q, 1, none⟩) hQb).trans hs10.2⟩)))
          all_goals go_simp
          all_goals go_wp2
          all_goals go_ret
          all_goals exact ⟨rfl, hb8.out.trans ((((lk_chg ha9.2 ha10.2).undrew).below (B := w.heap.size) hb8.out.size (by rintro g _ (h | h) <;> omega)).trans (hb11.mono (Nat.le_trans hb8.out.size (lk_chg ha9.2 ha10.2).undrew.size)))⟩
    · have hout : (a0 < 0 ∨ (((List.replicate 4 (0 : Int)).length : Nat) : Int) ≤ a0) ∨ a0 = 3 := by simp; omega
      have hno : a0 < 0 ∨ (4 : Int) - 1 ≤ a0 := by omega
      have HO := Lib.hid hout
      have HN := Lib.hid hno
      have hs : ∀ v1 : World, Cels v1 (w.heap.size + 1) w.heap.size (List.replicate 4 0) 0 → Below w.heap.size w v1 → Calls Try.prog 8 #[.pointer (some ⟨w.heap.size + 1, 0, none⟩), .int .i64 a0, .int .i64 a1] v1 fun e W' => e = .returned (.tuple #[]) ∧ Hid ((∃ xs n, Cels W' (w.heap.size + 1) w.heap.size xs n ∧ xs.length = 4) ∧ Below w.heap.size w W') := by
        intro v1 hC hb
        rcases HO.out with h | rfl
        · refine (store_out (w.heap.size + 1) w.heap.size a0 _ 0 a1 v1 hC h).mono ?_
          rintro e W' ⟨rfl, ha⟩
          exact ⟨rfl, ⟨_, _, ha.1, by simp⟩, hb.trans (ha.2.below hb.size (by rintro g _ (h | h) <;> omega))⟩
        · refine (store_at (w.heap.size + 1) w.heap.size 3 _ _ 0 1 a1 0 3 v1 hC rfl (by simp) (rep_get _ _) rfl rfl (by simp) (by omega) (by omega)).mono ?_
          rintro e W' ⟨rfl, ha⟩
          exact ⟨rfl, ⟨_, _, ha.1, by simp⟩, hb.trans (ha.2.below hb.size (by rintro g _ (h | h) <;> omega))⟩
      have HS := Lib.hid hs
      have hcase : a0 < 0 ∨ 0 ≤ a0 ∧ 2 < a0 := by omega
      clear hs hout hno hin w3
      rcases hcase with hcase | ⟨hcase, hcase2⟩
      all_goals
        go_enter Try.func3, Try.ntmps3
        go_wp2_with fail
        refine (show Calls Try.prog 7 #[.int .i64 4] w _ from cnew_in 4 w (by omega)).mono ?_
        rintro e v1 ⟨rfl, hC1, hb1⟩
        have HC1 := Lib.hid hC1
        have HB1 := Lib.hid hb1
        clear hC1 hb1
        go_wp2_with fail
        refine (HS.out v1 HC1.out HB1.out).mono ?_
        rintro e v2 ⟨rfl, HZ⟩
        clear HS HC1 HB1
        go_wp2_with (first | (go_at_call 9; refine (tnew_out4 (w.heap.size + 1) w.heap.size a0 v2 HZ.out.1 HN.out).mono ?_; rintro e v3 ⟨rfl, rfl⟩) | (go_at_call 6; refine (alive_any _).mono ?_; rintro e v4 ⟨rfl, hb4⟩))
        go_ret
        exact ⟨rfl, HZ.out.2.trans (hb4.mono HZ.out.2.size)⟩
end Go.Proofs.Ytiabmkhkmhjkpaa
