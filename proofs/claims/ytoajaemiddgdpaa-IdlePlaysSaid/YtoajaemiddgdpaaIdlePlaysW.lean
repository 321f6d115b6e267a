/- The walk of the law IdlePlays. -/
import Derived.Test.YtoajaemiddgdpaaIdI
namespace Go.Proofs.Ytoajaemiddgdpaa
open Go.ChangeShapes Go.WideShapes Go.ChangeAt Go.RowKit Go.Deep
set_option linter.unusedVariables false

def RoundI (w : World) (most len : Nat) (x i : Value) (wr : World) : Prop := ∃ (k : Nat) (xs : List Nat) (A : Option Addr) (c : Nat), k ≤ len ∧ i = .int .i64 k ∧ x = .slice A xs.length c ∧ Pl wr (w.heap.size + 1) w.heap.size most A c xs ∧ Below w.heap.size w wr
theorem RoundI.step {w wr w1 w2 : World} {most len k c q : Nat} {A : Option Addr} {xs : List Nat} (hk : k < len) (hp : Pl w1 (w.heap.size + 1) w.heap.size most A c xs) (hb : Below w.heap.size w wr) (hc : Chg (fun g => g = w.heap.size + 1 ∨ g = w.heap.size) wr w1) (hc2 : Chg (fun _ => False) w1 w2) :
    RoundI w most len (.slice A xs.length c) (.int .i64 ((k : Int) + 1)) (w2.drewN q) :=
  ⟨k + 1, xs, A, c, by omega, by go_num, rfl, hp.kept (S := fun _ => False) (hc2.drewN _) (fun h => h) (fun h => h) (fun _ _ h => h), belowN ((hb.trans (hc.below hb.size (by rintro k _ (rfl | rfl) <;> omega))).trans (hc2.below (Nat.le_trans hb.size hc.size) (fun _ _ h => h.elim))) _⟩
theorem has_idl (L R most : Nat) (i : Int) (xs : List Nat) (W : World) (h : Il W L R most xs) (hm : most ≤ 1024) : Calls Try.prog 13 #[.pointer (some ⟨L, 0, none⟩), .int .i64 i] W fun e W' => e = .returned (.bool (decide (i ∈ idl xs))) ∧ W' = W := by
  by_cases hr : i < 0 ∨ (most : Int) ≤ i
  · rw [decide_eq_false (idl_out xs i most h.2.2.2.1 hr)]
    exact has_out L R most i xs W h hm hr
  · obtain ⟨y, rfl⟩ : ∃ y : Nat, i = y := ⟨i.toNat, by omega⟩
    rw [idl_mem]
    exact has_at L R most y xs W h hm (by omega)
set_option maxRecDepth 100000 in
set_option maxHeartbeats 16000000 in
theorem walk_idlePlays (a0 : Int) (a1 : Option Addr) (len1 cap1 : Nat) (z1 : Nat → Int) (a2 : Int) (w : World) (w0 : (Lit.int .i64 a0).wf = true) (w1 : Flat w a1 len1 2 z1) (w2 : (Lit.int .i64 a2).wf = true) :
    Calls Try.prog 3 #[.int .i64 a0, .slice a1 len1 cap1, .int .i64 a2] w fun e w' => e = .returned (.bool true) ∧ Below w.heap.size w w' := by
  have hm := w1.1
  unfold maxLen at hm
  by_cases h100 : 100 < len1
  · go_enter Try.func3, Try.ntmps3
    go_wp2_with (go_at_call 6; refine (alive_any _).mono ?_; rintro e w' ⟨rfl, hb⟩)
    go_ret
    exact ⟨rfl, hb⟩
  · by_cases ho : a0 < 0 ∨ 1024 < a0
    · have Ho := Lib.hid ho
      by_cases h0 : a0 < 0
      · clear ho
        go_enter Try.func3, Try.ntmps3
        go_wp2_with (first
          | (go_at_call 6; refine (alive_any _).mono ?_; rintro e w' ⟨rfl, hb⟩)
          | (go_at_call 7; refine (inew_out _ _ Ho.out).mono ?_; rintro e w1 ⟨rfl, rfl⟩))
        go_ret
        exact ⟨rfl, hb⟩
      · have h1 : 1024 < a0 := by omega
        clear ho
        go_enter Try.func3, Try.ntmps3
        go_wp2_with (first
          | (go_at_call 6; refine (alive_any _).mono ?_; rintro e w' ⟨rfl, hb⟩)
          | (go_at_call 7; refine (inew_out _ _ Ho.out).mono ?_; rintro e w1 ⟨rfl, rfl⟩))
        go_ret
        exact ⟨rfl, hb⟩
    · obtain ⟨most, rfl⟩ : ∃ n : Nat, a0 = n := ⟨a0.toNat, by omega⟩
      have hmo : most ≤ 1024 := by omega
      have m0 : (0 : Int) ≤ most := by omega
      have m1 : (most : Int) ≤ 1024 := by omega
      clear ho w0 w2
      go_enter Try.func3, Try.ntmps3
      go_wp2_with (go_at_call 7; refine (inew_in most _ hmo).mono ?_; rintro e u1 ⟨rfl, hI, hb⟩; have HI := Lib.hid hI; have Hb := Lib.hid hb; clear hI hb)
      go_loopw [8, 9] (fun x i wr => RoundI w most len1 x i wr) (fun _ i _ => len1 - (intOf i).toNat)
      case atStart => exact ⟨0, [], none, 0, Nat.zero_le _, rfl, rfl, ⟨HI.out, Rd.nil _ _ _, Nat.le_refl _, Nat.zero_le _, fun g hg => by cases hg⟩, Hb.out⟩
      case round =>
        clear HI Hb
        obtain ⟨k, xs, A, c, hk, rfl, rfl, hp, hb⟩ := hrel
        by_cases hlt : k < len1
        · obtain ⟨b, of, rfl, hbl, hc⟩ := w1.2 (by omega)
          have e0 : wr.cell? ⟨b, of + k * 2, none⟩ = some (.int .i64 (z1 (k * 2))) := (hb.cell (p := ⟨b, of + k * 2, none⟩) hbl).trans (hc (k * 2) (by omega)).1
          have e1 : wr.cell? ⟨b, of + k * 2 + 1, none⟩ = some (.int .i64 (z1 (k * 2 + 1))) := (hb.cell (p := ⟨b, of + k * 2 + 1, none⟩) hbl).trans (hc (k * 2 + 1) (by omega)).1
          generalize z1 (k * 2) = kd at e0
          generalize z1 (k * 2 + 1) = x at e1
          clear w1 hc
          have HP := Lib.hid hp
          have HB := Lib.hid hb
          clear hp hb
          go_wp2_with fail
          refine (act_any _ _ most c A kd x xs _ HP.out hmo).mono ?_
          rintro e u2 ⟨A2, c2, ys, rfl, hp2, hc2⟩
          have HP2 := Lib.hid hp2
          have HC2 := Lib.hid hc2
          have hys : ys.length ≤ 1024 := hp2.1.2.2.2.2
          clear hp2 hc2 e0 e1
          rcases ys with _ | ⟨y, t⟩
          · go_wp2_with (first
              | (go_at_call 9; refine (peek_none _ _ most _ HP2.out.1).mono ?_; rintro e u3 ⟨rfl, rfl⟩)
              | (go_at_call 11; refine (all_none _ _ most _ HP2.out.1).mono ?_; rintro e u3 ⟨rfl, rfl⟩)
              | (go_at_call 10; refine (same_yes _ _ 0 0 _ _ [] _ (Rd.nil _ _ _) (Rd.nil _ _ _) (by omega)).mono ?_; rintro e u4 ⟨rfl, q, rfl⟩)
              | (go_at_call 12; refine (len_at _ _ most [] _ (HP2.out.1.kept ((Chg.refl (fun _ => False) _).drewN _) (fun h => h) (fun h => h))).mono ?_; rintro e u5 ⟨rfl, rfl⟩)
              | (go_at_call 13; refine (has_idl _ _ most a2 [] _ (HP2.out.1.kept ((Chg.refl (fun _ => False) _).drewN _) (fun h => h) (fun h => h)) hmo).mono ?_; rintro e u6 ⟨rfl, rfl⟩)
              | (go_at_call 14; refine (has_any _ 0 _ a2 [] _ (Rd.nil _ _ _) (by omega)).mono ?_; rintro e u7 ⟨rfl, rfl⟩))
            go_roundw
            case measure => simp [intOf]; omega
            case rel => exact RoundI.step (xs := []) hlt HP2.out HB.out HC2.out (Chg.refl _ _)
          · obtain ⟨b2, o2, rfl, hb2, hcc⟩ := HP2.out.2.1.at_ (by simp)
            have e0 := hcc 0 (by simp [idl])
            rw [show (idl (y :: t))[0]'(by simp [idl]) = (y : Int) from rfl] at e0
            simp only [Nat.add_zero] at e0
            obtain ⟨ys, hyt⟩ : ∃ ys, ys = y :: t := ⟨_, rfl⟩
            have hq0 : (0 : Int) < (ys.length : Int) := by rw [hyt, List.length_cons]; omega
            rw [← hyt] at HP2 hys ⊢
            have HY := Lib.hid hyt
            have hpk := fun (W : World) (hI : Il W (w.heap.size + 1) w.heap.size most ys) => peek_some (w.heap.size + 1) w.heap.size most y t W (hyt ▸ hI)
            have hal := fun (W : World) (hI : Il W (w.heap.size + 1) w.heap.size most ys) => all_some (w.heap.size + 1) w.heap.size most y t W (hyt ▸ hI) hmo
            rw [← hyt] at hal
            have HPK := Lib.hid hpk
            have HAL := Lib.hid hal
            obtain ⟨bv, hbv⟩ : ∃ bv, bv = decide (a2 ∈ idl ys) := ⟨_, rfl⟩
            have hha := fun (W : World) (hI : Il W (w.heap.size + 1) w.heap.size most ys) => has_idl (w.heap.size + 1) w.heap.size most a2 ys W hI hmo
            have hrh := fun (A : Option Addr) (c : Nat) (W : World) (hR : Rd W 1 A ys.length (ints (idl ys))) => has_any A ys.length c a2 (idl ys) W hR (by omega)
            rw [← hbv] at hha hrh
            have HHA := Lib.hid hha
            have HRH := Lib.hid hrh
            clear hcc hyt hpk hal hha hrh hbv
            have hkd : ∀ (u : World) (q : Nat), Chg (fun _ => False) u2 u → Pl (u.drewN q) (w.heap.size + 1) w.heap.size most (some ⟨b2, o2, none⟩) c2 ys := fun u q hu => HP2.out.kept (hu.drewN q) (fun h => h) (fun h => h) (fun _ _ h => h)
            have HKD := Lib.hid hkd
            clear hkd
            cases bv <;> (
              go_wp2_with (first
                | (go_at_call 9; refine (HPK.out _ HP2.out.1).mono ?_; rintro e u3 ⟨rfl, rfl⟩)
                | (go_at_call 11; refine (HAL.out _ HP2.out.1).mono ?_; rintro e u3 ⟨D, d, rfl, hr3, hc3⟩; have e4 := (hc3.cell (p := ⟨b2, o2, none⟩) hb2 (fun h => h)).trans e0; have HR3 := Lib.hid hr3; have HC3 := Lib.hid hc3; clear hr3 hc3)
                | (go_at_call 10; refine (same_yes _ _ _ _ _ _ (idl ys) _ HR3.out.rd (HKD.out _ 0 HC3.out).2.1 (by omega)).mono ?_; rintro e u4 ⟨rfl, q, rfl⟩)
                | (go_at_call 12; refine (len_at _ _ most ys _ (HKD.out _ _ HC3.out).1).mono ?_; rintro e u5 ⟨rfl, rfl⟩)
                | (go_at_call 13; refine (HHA.out _ (HKD.out _ _ HC3.out).1).mono ?_; rintro e u6 ⟨rfl, rfl⟩)
                | (go_at_call 14; refine (HRH.out _ _ _ (HKD.out _ _ HC3.out).2.1).mono ?_; rintro e u7 ⟨rfl, rfl⟩))
              go_roundw
              case measure => simp [intOf]; omega
              case rel => exact RoundI.step hlt HP2.out HB.out HC2.out HC3.out)
        · have HB := Lib.hid hb
          clear hp hb w1
          go_wp2_with (go_at_call 6; refine (alive_any _).mono ?_; rintro e w' ⟨rfl, hb2⟩)
          go_ret
          exact ⟨rfl, HB.out.trans (hb2.mono HB.out.size)⟩
end Go.Proofs.Ytoajaemiddgdpaa
