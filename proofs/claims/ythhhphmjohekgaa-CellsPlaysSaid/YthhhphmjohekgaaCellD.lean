/- The chapter's example of shared cells; what any access does, by the program and by the document. -/
import Derived.Test.YthhhphmjohekgaaCellC
import Derived.Test.YthhhphmjohekgaaRapp64
namespace Go.Proofs.Ythhhphmjohekgaa
open Go.ChangeShapes Go.WideShapes Go.ChangeAt Go.RowKit Go.Deep
set_option linter.unusedVariables false

theorem Chg.pre {S : Nat → Prop} {w w1 w' : World} (h : Chg (fun _ => False) w w1) (h' : Chg S w1 w') : Chg S w w' := (h.mono (fun _ _ hh => hh.elim)).trans h' (fun _ _ hh => hh)
theorem Aft.below {B L R : Nat} {w W W' : World} {xs : List Int} {n : Int} (h : Aft W W' L R xs n) (hb : Below B w W) (h1 : B ≤ L) (h2 : B ≤ R) (hBw : B ≤ w.heap.size) : Below B w W' :=
  hb.trans (h.2.below (Nat.le_trans hBw hb.size) (by rintro k hk (rfl | rfl) <;> assumption))

set_option maxHeartbeats 1000000 in
theorem alive_any (W : World) : Calls Try.prog 6 #[] W fun e W' => e = .returned (.bool true) ∧ Below W.heap.size W W' := by
  go_enter Try.func6, Try.ntmps6
  go_wp2_with fail
  refine (show Calls Try.prog 7 #[.int .i64 1] W _ from cnew_in 1 W (by omega)).mono ?_
  rintro e w1 ⟨rfl, hC1, hb1⟩
  go_wp2_with fail
  refine (cas_hit_at (W.heap.size + 1) W.heap.size 0 _ [5] 0 1 0 5 0 0 w1 hC1 rfl (by decide) rfl rfl rfl rfl (by decide) (by decide) (by decide)).mono ?_
  rintro e w2 ⟨rfl, ha2⟩
  have hC2 := ha2.1
  go_wp2_with fail
  refine (cas_miss_at (W.heap.size + 1) W.heap.size 0 _ 1 2 0 6 5 0 w2 hC2 rfl (by decide) rfl rfl rfl (by decide) (by decide) (by decide)).mono ?_
  rintro e w3 ⟨rfl, ha3⟩
  have hC3 := ha3.1
  go_wp2_with fail
  refine (load_at (W.heap.size + 1) W.heap.size 0 _ 2 3 5 0 w3 hC3 rfl (by decide) rfl rfl (by decide) (by decide) (by decide)).mono ?_
  rintro e w4 ⟨rfl, ha4⟩
  have hC4 := ha4.1
  go_wp2_with (go_at_call 10; refine (ccount _ _ _ _ _ hC4).mono ?_; rintro e w5 ⟨rfl, rfl⟩)
  go_ret
  exact ⟨rfl, ha4.below (ha3.below (ha2.below hb1 (by omega) (by omega) (Nat.le_refl _)) (by omega) (by omega) (Nat.le_refl _)) (by omega) (by omega) (Nat.le_refl _)⟩

def opX (kd v x y : Int) : Int := if kd = 0 then v else if kd = 1 then x else if kd = 2 then (if v = x then y else v) else if kd = 3 then wadd v x else if kd = 4 then x else wmask v x y
def opV (kd v x y : Int) : Int := if kd = 0 then v else if kd = 1 then 0 else if kd = 2 then (if v = x then 1 else 0) else if kd = 3 then wadd v x else v
def actX (kd i x y : Int) (xs : List Int) : List Int := if 0 ≤ i ∧ i < xs.length then xs.set i.toNat (opX kd (xs.getD i.toNat 0) x y) else xs
def actV (kd i x y : Int) (xs : List Int) : Int := if 0 ≤ i ∧ i < xs.length then opV kd (xs.getD i.toNat 0) x y else 0
def cin (i : Int) (xs : List Int) : Int := if 0 ≤ i ∧ i < xs.length then 1 else 0
theorem actX_len (kd i x y : Int) (xs : List Int) : (actX kd i x y xs).length = xs.length := by unfold actX; split <;> simp
theorem in_or_out (i : Int) (xs : List Int) : (∃ k : Nat, i = k ∧ k < xs.length) ∨ (i < 0 ∨ (xs.length : Int) ≤ i) := by
  by_cases h : 0 ≤ i ∧ i < xs.length
  · exact .inl ⟨i.toNat, by omega, by omega⟩
  · exact .inr (by omega)
theorem actX_in {kd i x y : Int} {xs : List Int} {k : Nat} (hi : i = k) (hk : k < xs.length) : actX kd i x y xs = xs.set k (opX kd xs[k] x y) := by
  subst hi; unfold actX; rw [if_pos (by omega)]; simp [hk]
theorem actV_in {kd i x y : Int} {xs : List Int} {k : Nat} (hi : i = k) (hk : k < xs.length) : actV kd i x y xs = opV kd xs[k] x y := by
  subst hi; unfold actV; rw [if_pos (by omega)]; simp [hk]
theorem cin_in {i : Int} {xs : List Int} {k : Nat} (hi : i = k) (hk : k < xs.length) : cin i xs = 1 := by
  subst hi; unfold cin; rw [if_pos (by omega)]
theorem actX_out {kd i x y : Int} {xs : List Int} (hi : i < 0 ∨ (xs.length : Int) ≤ i) : actX kd i x y xs = xs := by unfold actX; rw [if_neg (by omega)]
theorem actV_out {kd i x y : Int} {xs : List Int} (hi : i < 0 ∨ (xs.length : Int) ≤ i) : actV kd i x y xs = 0 := by unfold actV; rw [if_neg (by omega)]
theorem cin_out {i : Int} {xs : List Int} (hi : i < 0 ∨ (xs.length : Int) ≤ i) : cin i xs = 0 := by unfold cin; rw [if_neg (by omega)]

def DoOk (W : World) (L R : Nat) (kd i x y : Int) (xs : List Int) (n : Int) (e : Ending) (W' : World) : Prop := e = .returned (.int .i64 (actV kd i x y xs)) ∧ Aft W W' L R (actX kd i x y xs) (n + cin i xs)
theorem DoOk.in_ {W W1 W' : World} {L R : Nat} {kd i x y n v : Int} {xs ys : List Int} {k : Nat} (hc : Chg (fun _ => False) W W1) (hi : i = k) (hk : k < xs.length) (hX : xs.set k (opX kd xs[k] x y) = ys) (hV : opV kd xs[k] x y = v) (h : Aft W1 W' L R ys (n + 1)) : DoOk W L R kd i x y xs n (.returned (.int .i64 v)) W' := by
  subst hX hV
  exact ⟨by rw [actV_in hi hk], by rw [actX_in hi hk, cin_in hi hk]; exact ⟨h.1, Chg.pre hc h.2⟩⟩
theorem DoOk.out_ {W W1 W' : World} {L R : Nat} {kd i x y n : Int} {xs : List Int} (hc : Chg (fun _ => False) W W1) (hi : i < 0 ∨ (xs.length : Int) ≤ i) (h : Aft W1 W' L R xs n) : DoOk W L R kd i x y xs n (.returned (.int .i64 0)) W' :=
  ⟨by rw [actV_out hi], by rw [actX_out hi, cin_out hi, Int.add_zero]; exact ⟨h.1, Chg.pre hc h.2⟩⟩

set_option maxHeartbeats 4000000 in
theorem do_in (L R k : Nat) (kd x y n : Int) (xs : List Int) (W : World) (hC : Cels W L R xs n) (hk : k < xs.length) (hm : xs.length ≤ 100000) (hn0 : 0 ≤ n) (hn1 : n < 1000000) :
    Calls Try.prog 9 #[.pointer (some ⟨L, 0, none⟩), .agg #[.int .i64 kd, .int .i64 k, .int .i64 x, .int .i64 y]] W (DoOk W L R kd k x y xs n) := by
  have hlt := hC.lt_
  have hC2 := hC.alloc (.cells #[.int .i64 kd, .int .i64 k, .int .i64 x, .int .i64 y] 30)
  have HX := Lib.hid hC2
  have HK := Lib.hid hk
  clear hC hC2 hk
  have fin : ∀ (v : Int) (ys : List Int) (w1 : World), xs.set k (opX kd (xs[k]'HK.out) x y) = ys → opV kd (xs[k]'HK.out) x y = v → Aft (W.alloc (.cells #[.int .i64 kd, .int .i64 k, .int .i64 x, .int .i64 y] 30)) w1 L R ys (n + 1) → DoOk W L R kd k x y xs n (.returned (.int .i64 v)) w1 :=
    fun v ys w1 h1 h2 h3 => DoOk.in_ ((Chg.refl _ _).alloc _) rfl HK.out h1 h2 h3
  have FIN := Lib.hid fin
  clear fin
  by_cases h0 : kd = 0
  · subst h0
    go_enter Try.func9, Try.ntmps9
    go_wp2_with (first | (go_at_call 12; refine (load_in L R k xs n _ HX.out HK.out hm hn0 hn1).mono ?_; rintro e w1 ⟨rfl, ha⟩) | (go_at_call 14; refine (store_in L R k xs n x _ HX.out HK.out hm hn0 hn1).mono ?_; rintro e w1 ⟨rfl, ha⟩) | (go_at_call 17; refine (add_in L R k xs n x _ HX.out HK.out hm hn0 hn1).mono ?_; rintro e w1 ⟨rfl, ha⟩) | (go_at_call 18; refine (swap_in L R k xs n x _ HX.out HK.out hm hn0 hn1).mono ?_; rintro e w1 ⟨rfl, ha⟩) | (go_at_call 19; refine (mask_in L R k xs n x y _ HX.out HK.out hm hn0 hn1).mono ?_; rintro e w1 ⟨rfl, ha⟩))
    go_ret
    exact FIN.out _ _ _ (by simp [opX]) (by simp [opV]) ha
  · by_cases h1 : kd = 1
    · subst h1
      go_enter Try.func9, Try.ntmps9
      go_wp2_with (first | (go_at_call 12; refine (load_in L R k xs n _ HX.out HK.out hm hn0 hn1).mono ?_; rintro e w1 ⟨rfl, ha⟩) | (go_at_call 14; refine (store_in L R k xs n x _ HX.out HK.out hm hn0 hn1).mono ?_; rintro e w1 ⟨rfl, ha⟩) | (go_at_call 17; refine (add_in L R k xs n x _ HX.out HK.out hm hn0 hn1).mono ?_; rintro e w1 ⟨rfl, ha⟩) | (go_at_call 18; refine (swap_in L R k xs n x _ HX.out HK.out hm hn0 hn1).mono ?_; rintro e w1 ⟨rfl, ha⟩) | (go_at_call 19; refine (mask_in L R k xs n x y _ HX.out HK.out hm hn0 hn1).mono ?_; rintro e w1 ⟨rfl, ha⟩))
      go_ret
      exact FIN.out _ _ _ (by simp [opX]) (by simp [opV]) ha
    · by_cases h2 : kd = 2
      · subst h2
        by_cases hv : xs[k]'HK.out = x
        · have HV := Lib.hid hv
          clear hv
          go_enter Try.func9, Try.ntmps9
          go_wp2_with (go_at_call 16; refine (cas_hit_in L R k xs n x y _ HX.out HK.out hm hn0 hn1 HV.out).mono ?_; rintro e w1 ⟨rfl, ha⟩)
          go_ret
          exact FIN.out _ _ _ (by simp [opX, HV.out]) (by simp [opV, HV.out]) ha
        · have HV := Lib.hid hv
          clear hv
          go_enter Try.func9, Try.ntmps9
          go_wp2_with (go_at_call 16; refine (cas_miss_in L R k xs n x y _ HX.out HK.out hm hn0 hn1 (by simpa using HV.out)).mono ?_; rintro e w1 ⟨rfl, ha⟩)
          go_ret
          exact FIN.out _ _ _ (by simp [opX, HV.out]) (by simp [opV, HV.out]) ha
      · have d0 : (kd == 0) = false := by simpa using h0
        have d1 : (kd == 1) = false := by simpa using h1
        have d2 : (kd == 2) = false := by simpa using h2
        by_cases h3 : kd = 3
        · subst h3
          go_enter Try.func9, Try.ntmps9
          go_wp2_with (first | (go_at_call 12; refine (load_in L R k xs n _ HX.out HK.out hm hn0 hn1).mono ?_; rintro e w1 ⟨rfl, ha⟩) | (go_at_call 14; refine (store_in L R k xs n x _ HX.out HK.out hm hn0 hn1).mono ?_; rintro e w1 ⟨rfl, ha⟩) | (go_at_call 17; refine (add_in L R k xs n x _ HX.out HK.out hm hn0 hn1).mono ?_; rintro e w1 ⟨rfl, ha⟩) | (go_at_call 18; refine (swap_in L R k xs n x _ HX.out HK.out hm hn0 hn1).mono ?_; rintro e w1 ⟨rfl, ha⟩) | (go_at_call 19; refine (mask_in L R k xs n x y _ HX.out HK.out hm hn0 hn1).mono ?_; rintro e w1 ⟨rfl, ha⟩))
          go_ret
          exact FIN.out _ _ _ (by simp [opX]) (by simp [opV]) ha
        · by_cases h4 : kd = 4
          · subst h4
            go_enter Try.func9, Try.ntmps9
            go_wp2_with (first | (go_at_call 12; refine (load_in L R k xs n _ HX.out HK.out hm hn0 hn1).mono ?_; rintro e w1 ⟨rfl, ha⟩) | (go_at_call 14; refine (store_in L R k xs n x _ HX.out HK.out hm hn0 hn1).mono ?_; rintro e w1 ⟨rfl, ha⟩) | (go_at_call 17; refine (add_in L R k xs n x _ HX.out HK.out hm hn0 hn1).mono ?_; rintro e w1 ⟨rfl, ha⟩) | (go_at_call 18; refine (swap_in L R k xs n x _ HX.out HK.out hm hn0 hn1).mono ?_; rintro e w1 ⟨rfl, ha⟩) | (go_at_call 19; refine (mask_in L R k xs n x y _ HX.out HK.out hm hn0 hn1).mono ?_; rintro e w1 ⟨rfl, ha⟩))
            go_ret
            exact FIN.out _ _ _ (by simp [opX]) (by simp [opV]) ha
          · have d3 : (kd == 3) = false := by simpa using h3
            have d4 : (kd == 4) = false := by simpa using h4
            have H0 := Lib.hid h0
            have H1 := Lib.hid h1
            have H2 := Lib.hid h2
            have H3 := Lib.hid h3
            have H4 := Lib.hid h4
            clear h0 h1 h2 h3 h4
            go_enter Try.func9, Try.ntmps9
            go_wp2_with (first | (go_at_call 12; refine (load_in L R k xs n _ HX.out HK.out hm hn0 hn1).mono ?_; rintro e w1 ⟨rfl, ha⟩) | (go_at_call 14; refine (store_in L R k xs n x _ HX.out HK.out hm hn0 hn1).mono ?_; rintro e w1 ⟨rfl, ha⟩) | (go_at_call 17; refine (add_in L R k xs n x _ HX.out HK.out hm hn0 hn1).mono ?_; rintro e w1 ⟨rfl, ha⟩) | (go_at_call 18; refine (swap_in L R k xs n x _ HX.out HK.out hm hn0 hn1).mono ?_; rintro e w1 ⟨rfl, ha⟩) | (go_at_call 19; refine (mask_in L R k xs n x y _ HX.out HK.out hm hn0 hn1).mono ?_; rintro e w1 ⟨rfl, ha⟩))
            go_ret
            exact FIN.out _ _ _ (by simp [opX, H0.out, H1.out, H2.out, H3.out, H4.out]) (by simp [opV, H0.out, H1.out, H2.out, H3.out]) ha
set_option maxHeartbeats 4000000 in
theorem do_out (L R : Nat) (kd i x y n : Int) (xs : List Int) (W : World) (hC : Cels W L R xs n) (hi : i < 0 ∨ (xs.length : Int) ≤ i) :
    Calls Try.prog 9 #[.pointer (some ⟨L, 0, none⟩), .agg #[.int .i64 kd, .int .i64 i, .int .i64 x, .int .i64 y]] W (DoOk W L R kd i x y xs n) := by
  have hlt := hC.lt_
  have hC2 := hC.alloc (.cells #[.int .i64 kd, .int .i64 i, .int .i64 x, .int .i64 y] 30)
  have HX := Lib.hid hC2
  have HI := Lib.hid hi
  clear hC hC2 hi
  have fin : ∀ (w1 : World), Aft (W.alloc (.cells #[.int .i64 kd, .int .i64 i, .int .i64 x, .int .i64 y] 30)) w1 L R xs n → DoOk W L R kd i x y xs n (.returned (.int .i64 0)) w1 :=
    fun w1 h3 => DoOk.out_ ((Chg.refl _ _).alloc _) HI.out h3
  have FIN := Lib.hid fin
  clear fin
  go_enter Try.func9, Try.ntmps9
  go_wp2_with (first | (go_at_call 12; refine (load_out L R i xs n _ HX.out HI.out).mono ?_; rintro e w1 ⟨rfl, ha⟩) | (go_at_call 14; refine (store_out L R i xs n x _ HX.out HI.out).mono ?_; rintro e w1 ⟨rfl, ha⟩) | (go_at_call 17; refine (add_out L R i xs n x _ HX.out HI.out).mono ?_; rintro e w1 ⟨rfl, ha⟩) | (go_at_call 18; refine (swap_out L R i xs n x _ HX.out HI.out).mono ?_; rintro e w1 ⟨rfl, ha⟩) | (go_at_call 19; refine (mask_out L R i xs n x y _ HX.out HI.out).mono ?_; rintro e w1 ⟨rfl, ha⟩) | (go_at_call 16; refine (cas_out L R i xs n x y _ HX.out HI.out).mono ?_; rintro e w1 ⟨rfl, ha⟩))
  all_goals go_ret
  all_goals exact FIN.out _ ha
theorem do_any (L R : Nat) (kd i x y n : Int) (xs : List Int) (W : World) (hC : Cels W L R xs n) (hm : xs.length ≤ 100000) (hn0 : 0 ≤ n) (hn1 : n < 1000000) :
    Calls Try.prog 9 #[.pointer (some ⟨L, 0, none⟩), .agg #[.int .i64 kd, .int .i64 i, .int .i64 x, .int .i64 y]] W (DoOk W L R kd i x y xs n) := by
  rcases in_or_out i xs with ⟨k, rfl, hk⟩ | hi
  · exact do_in L R k kd x y n xs W hC hk hm hn0 hn1
  · exact do_out L R kd i x y n xs W hC hi
end Go.Proofs.Ythhhphmjohekgaa
