/- One act on both, walked. -/
import Derived.Test.YtoajaemiddgdpaaIdH
namespace Go.Proofs.Ytoajaemiddgdpaa
open Go.ChangeShapes Go.WideShapes Go.ChangeAt Go.RowKit Go.Deep
set_option linter.unusedVariables false

theorem Pl.out {W w' : World} {L R most c : Nat} {A : Option Addr} {ys : List Nat} {e : Ending} (he : e = .returned (.tuple #[.slice A ys.length c, .bool true])) (h : Pl w' L R most A c ys) (hc : Chg (fun g => g = L ∨ g = R) W w') : Aft W w' L R most e := ⟨A, c, ys, he, h, hc⟩
set_option maxHeartbeats 8000000 in
theorem act_any (L R most c : Nat) (A : Option Addr) (kd x : Int) (xs : List Nat) (W : World) (h : Pl W L R most A c xs) (hm : most ≤ 1024) :
    Calls Try.prog 8 #[.pointer (some ⟨L, 0, none⟩), .slice A xs.length c, .int .i64 most, .agg #[.int .i64 kd, .int .i64 x]] W (fun e W' => Aft W W' L R most e) := by
  have hL := h.1.1.lt
  have hR := h.1.2.1.lt
  have hne := h.1.ne
  have hnS : ¬ (W.heap.size = L ∨ W.heap.size = R) := by omega
  have hp : Pl (W.alloc (.cells #[.int .i64 kd, .int .i64 x] 30)) L R most A c xs := h.kept (S := fun _ => False) ((Chg.refl _ _).alloc _) (fun h => h) (fun h => h) (fun _ _ h => h)
  have hB := Blk.new W 30 #[.int .i64 kd, .int .i64 x]
  have hC : Chg (fun g => g = L ∨ g = R) W (W.alloc (.cells #[.int .i64 kd, .int .i64 x] 30)) := (Chg.refl _ _).alloc _
  have hxl : xs.length ≤ 1024 := h.1.2.2.2.2
  have HP := Lib.hid hp
  have HB := Lib.hid hB
  have HC := Lib.hid hC
  have hcm : c ≤ 9223372036854775807 := by have := h.2.2.2.1; unfold maxLen at this; omega
  have hlc : xs.length ≤ c := h.2.2.1
  clear hp hB hC h
  have keepC : ∀ w1 : World, Chg (fun g => g = L ∨ g = R) (W.alloc (.cells #[.int .i64 kd, .int .i64 x] 30)) w1 → Chg (fun g => g = L ∨ g = R) W w1 := fun w1 h1 => HC.out.trans h1 (fun _ _ h => h)
  have weak : ∀ w1 : World, Chg (fun _ => False) (W.alloc (.cells #[.int .i64 kd, .int .i64 x] 30)) w1 → Chg (fun g => g = L ∨ g = R) (W.alloc (.cells #[.int .i64 kd, .int .i64 x] 30)) w1 := fun w1 h1 => h1.mono (fun _ _ h => h.elim)
  have KC := Lib.hid keepC
  have WK := Lib.hid weak
  clear keepC weak
  by_cases hk0 : kd = 0
  · subst hk0
    by_cases hx0 : x < 0 ∨ (most : Int) ≤ x
    · have h1 := idl_out xs x most HP.out.1.2.2.2.1 hx0
      have hy : x < 0 ∨ (most : Int) ≤ x ∨ x ∈ idl xs := by omega
      have Hx := Lib.hid hx0
      have Hy := Lib.hid hy
      clear hx0 hy h1
      go_enter Try.func8, Try.ntmps8
      go_wp2_with (first
        | (go_at_call 19; refine (rput_no A _ _ _ _ (idl xs) _ HP.out.2.1 hxl Hy.out).mono ?_; rintro e w1 ⟨rfl, rfl⟩)
        | (go_at_call 15; refine (put_out _ _ most _ xs _ HP.out.1 hm Hx.out).mono ?_; rintro e w1 ⟨rfl, rfl⟩))
      go_ret2
      exact Pl.out rfl HP.out HC.out
    · obtain ⟨y, rfl⟩ : ∃ y : Nat, x = y := ⟨x.toNat, by omega⟩
      have hy : y < most := by omega
      clear hx0
      by_cases hyx : y ∈ xs
      · have hy2 : (y : Int) < 0 ∨ (most : Int) ≤ y ∨ (y : Int) ∈ idl xs := .inr (.inr (by have := idl_mem xs y; rw [decide_eq_true hyx] at this; simpa using this))
        have Hy := Lib.hid hy2
        have Hx := Lib.hid hyx
        clear hy2 hyx
        go_enter Try.func8, Try.ntmps8
        go_wp2_with (first
          | (go_at_call 19; refine (rput_no A _ _ _ _ (idl xs) _ HP.out.2.1 hxl Hy.out).mono ?_; rintro e w1 ⟨rfl, rfl⟩)
          | (go_at_call 15; refine (put_old _ _ most _ xs _ HP.out.1 hm hy Hx.out).mono ?_; rintro e w1 ⟨rfl, rfl⟩))
        go_ret2
        exact Pl.out rfl HP.out HC.out
      · have hy2 : (y : Int) ∉ idl xs := by have := idl_mem xs y; rw [decide_eq_false hyx] at this; simpa using this
        have hxl2 : xs.length < 1024 := by
          have := len_le (y :: xs) most (List.nodup_cons.2 ⟨hyx, HP.out.1.2.2.1⟩) (by intro z hz; rcases List.mem_cons.1 hz with rfl | hz; exact hy; exact HP.out.1.2.2.2.1 z hz)
          simp at this; omega
        have Hy := Lib.hid hy2
        have Hx := Lib.hid hyx
        have hy3 : (0 : Int) ≤ y := by omega
        have hy4 : (y : Int) < most := by omega
        clear hy2 hyx
        go_enter Try.func8, Try.ntmps8
        go_wp2_with (first
          | (go_at_call 19; refine (rput_new A _ _ _ _ (idl xs) _ HP.out.2.1 hxl hy3 hy4 Hy.out).mono ?_; rintro e w1 ⟨A1, c1, rfl, hr1, hc1⟩; have e3 := (HB.out.kept hc1 (fun h => h)).cell 1; simp at e3; have HR1 := Lib.hid hr1; have HC1 := Lib.hid hc1; clear hr1 hc1)
          | (go_at_call 15; refine (put_new _ _ most _ xs _ (HP.out.1.kept HC1.out (fun h => h) (fun h => h)) hm hy Hx.out hxl2).mono ?_; rintro e w2 ⟨rfl, hI2, hc2⟩; have HI2 := Lib.hid hI2; have HC2 := Lib.hid hc2; clear hI2 hc2))
        go_ret2
        obtain ⟨hn, hpl⟩ := Pl.of (ys := y :: xs) HI2.out HR1.out (by simp; omega) (by simp; omega) HC2.out
        exact Pl.out (by rw [← hn]; rfl) hpl (KC.out _ ((WK.out _ HC1.out).trans HC2.out (fun _ _ h => h)))
  · have d0 : (kd == 0) = false := by simpa using hk0
    by_cases hk1 : kd = 1
    · subst hk1
      rcases xs with _ | ⟨y, t⟩
      · go_enter Try.func8, Try.ntmps8
        go_wp2_with (go_at_call 17; refine (get_none _ _ most _ HP.out.1).mono ?_; rintro e w1 ⟨rfl, rfl⟩)
        go_ret2
        exact Pl.out rfl HP.out HC.out
      · obtain ⟨b, o, rfl, hb, hcc⟩ := HP.out.2.1.at_ (by simp)
        have e0 := hcc 0 (by simp [idl])
        rw [show (idl (y :: t))[0]'(by simp [idl]) = (y : Int) from rfl] at e0
        simp only [Nat.add_zero] at e0
        have hbg := HP.out.2.2.2.2 b rfl
        have hbW : b < W.heap.size ∨ b = W.heap.size := by simp at hb; omega
        have hnb : ¬ (b = L ∨ b = R) := by rintro (h | h); exact hbg.1 h; exact hbg.2.1 h
        have HNB := Lib.hid hnb
        clear hcc hnb
        obtain ⟨q, hq⟩ : ∃ q, (y :: t).length = q := ⟨_, rfl⟩
        have hqt : q - 1 = t.length := by rw [← hq]; rfl
        have hq0 : 0 < q := by rw [← hq]; simp
        rw [hq] at hlc hxl ⊢
        have HQ := Lib.hid hq
        have HQT := Lib.hid hqt
        have q0 : (1 : Int) ≤ q := by omega
        have q1 : (q : Int) ≤ 1024 := by omega
        have q2 : (q : Int) ≤ (c : Int) := by omega
        have q3 : ((q : Int) == 0) = false := by simp; omega
        clear hq hqt
        by_cases hc1 : c = 1
        · have hq1 : q = 1 := by omega
          subst hc1
          subst hq1
          go_enter Try.func8, Try.ntmps8
          go_wp2_with (go_at_call 17; refine (get_some _ _ most y t _ HP.out.1 hm).mono ?_; rintro e w1 ⟨rfl, hI1, hc1⟩; have e4 := (hc1.cell (p := ⟨b, o, none⟩) hb HNB.out).trans e0; have HI1 := Lib.hid hI1; have HC1 := Lib.hid hc1; clear hI1 hc1)
          go_quiet (fail)
          go_wp2_with fail
          go_ret2
          have ht : t = [] := List.eq_nil_of_length_eq_zero (by have := HQT.out; omega)
          subst ht
          exact Pl.out rfl ((HP.out.tail0 HI1.out HC1.out).kept ((Chg.refl (fun _ => False) _).drewN _) (fun h => h) (fun h => h) (fun _ _ h => h)) ((KC.out _ HC1.out).drewN _)
        · have c0 : (1 : Int) < (c : Int) := by omega
          have c1 : ((c : Int) == 1) = false := by simp; omega
          go_enter Try.func8, Try.ntmps8
          go_wp2_with (go_at_call 17; refine (get_some _ _ most y t _ HP.out.1 hm).mono ?_; rintro e w1 ⟨rfl, hI1, hc1⟩; have e4 := (hc1.cell (p := ⟨b, o, none⟩) hb HNB.out).trans e0; have HI1 := Lib.hid hI1; have HC1 := Lib.hid hc1; clear hI1 hc1)
          go_quiet (fail)
          go_wp2_with fail
          go_ret2
          exact Pl.out (by rw [← HQT.out]; rfl) ((HP.out.tail HI1.out HC1.out).kept ((Chg.refl (fun _ => False) _).drewN _) (fun h => h) (fun h => h) (fun _ _ h => h)) ((KC.out _ HC1.out).drewN _)
    · have d1 : (kd == 1) = false := by simpa using hk1
      by_cases hyx : ∃ y : Nat, x = y ∧ y ∈ xs
      · obtain ⟨y, rfl, hyx⟩ := hyx
        have hm1 : decide ((y : Int) ∈ idl xs) = true := by rw [idl_mem]; exact decide_eq_true hyx
        have hf : filt y (idl xs) = idl (xs.erase y) := by rw [idl_filt, erase_filter _ _ HP.out.1.2.2.1]
        have hd := fun W => rdrop_any A xs.length c y (idl xs) W
        rw [hm1, hf] at hd
        have HD := Lib.hid hd
        have Hx := Lib.hid hyx
        clear hd hm1 hf hyx
        go_enter Try.func8, Try.ntmps8
        go_wp2_with (first
          | (go_at_call 20; refine (HD.out _ HP.out.2.1 hxl).mono ?_; rintro e w1 ⟨A1, c1, rfl, hr1, hc1⟩; have e3 := (HB.out.kept hc1 (fun h => h)).cell 1; simp at e3; have HR1 := Lib.hid hr1; have HC1 := Lib.hid hc1; clear hr1 hc1)
          | (go_at_call 18; refine (drop_at _ _ most _ xs _ (HP.out.1.kept HC1.out (fun h => h) (fun h => h)) hm Hx.out).mono ?_; rintro e w2 ⟨rfl, hI2, hc2⟩; have HI2 := Lib.hid hI2; have HC2 := Lib.hid hc2; clear hI2 hc2))
        go_ret2
        obtain ⟨hn, hpl⟩ := Pl.of HI2.out HR1.out (by simp; omega) (by simp; omega) HC2.out
        exact Pl.out (by rw [← hn]; rfl) hpl (KC.out _ ((WK.out _ HC1.out).trans HC2.out (fun _ _ h => h)))
      · have hno : x ∉ idl xs := by
          intro hx
          obtain ⟨j, hj, hjk⟩ := List.mem_map.1 hx
          exact hyx ⟨j, hjk.symm, hj⟩
        have hm1 : decide (x ∈ idl xs) = false := decide_eq_false hno
        have hf : filt x (idl xs) = idl xs := filt_none _ _ hno
        have hd := fun W => rdrop_any A xs.length c x (idl xs) W
        rw [hm1, hf] at hd
        have HD := Lib.hid hd
        have hh : ∀ W, Il W L R most xs → Calls Try.prog 13 #[.pointer (some ⟨L, 0, none⟩), .int .i64 x] W fun e W' => e = .returned (.bool false) ∧ W' = W := fun W hI => by
          by_cases hr : x < 0 ∨ (most : Int) ≤ x
          · exact has_out L R most x xs W hI hm hr
          · obtain ⟨y, rfl⟩ : ∃ y : Nat, x = y := ⟨x.toNat, by omega⟩
            exact has_no L R most y xs W hI hm (by omega) (fun h => hyx ⟨y, rfl, h⟩)
        have HH := Lib.hid hh
        clear hd hm1 hf hyx hno hh
        go_enter Try.func8, Try.ntmps8
        go_wp2_with (first
          | (go_at_call 20; refine (HD.out _ HP.out.2.1 hxl).mono ?_; rintro e w1 ⟨A1, c1, rfl, hr1, hc1⟩; have e3 := (HB.out.kept hc1 (fun h => h)).cell 1; simp at e3; have HR1 := Lib.hid hr1; have HC1 := Lib.hid hc1; clear hr1 hc1)
          | (go_at_call 18; refine (drop_no L R most x xs _ (HH.out _ (HP.out.1.kept HC1.out (fun h => h) (fun h => h)))).mono ?_; rintro e w2 ⟨rfl, rfl⟩))
        go_ret2
        obtain ⟨hn, hpl⟩ := Pl.of (HP.out.1.kept HC1.out (fun h => h) (fun h => h)) HR1.out (by simp; omega) (by simp; omega) (Chg.refl _ _)
        exact Pl.out (by rw [← hn]; rfl) hpl (KC.out _ (WK.out _ HC1.out))
end Go.Proofs.Ytoajaemiddgdpaa
