/- The walk of the law VmStays. -/
import Derived.Test.YthdkbofnplnidaaDoorVmQ
import Derived.Test.YthdkbofnplnidaaDoorVmK
import Derived.Test.YthdkbofnplnidaaDoorVmD
import Derived.Test.YthdkbofnplnidaaDoorVmMakesW
namespace Go.Proofs.YthdkbofnplnidaaDoor
open Go.ChangeShapes Go.WideShapes Go.ChangeAt Go.RowKit Go.Deep
set_option linter.unusedVariables false
set_option linter.unusedSimpArgs false

section
variable {w : World} {A : Option Addr} {m : Nat} {Ac : Nat → Option Addr} {nc cc : Nat → Nat} {As : Nat → Option Addr} {ns cs : Nat → Nat} {code : Nat → List (List Int)} {safe : Nat → List Bool}
set_option maxRecDepth 100000 in
set_option maxHeartbeats 8000000 in
theorem light11 (c : Nat) (hP : PM w A m Ac nc cc As ns cs code safe) (hm : m ≤ maxLen) (f pc r0 r1 r2 r3 r4 r5 r6 r7 : Int) (D : Option Addr) (n cap : Nat) (d : Bool) (lb : Bool) (hlb : lb = true ↔ (LightP m nc ns ∧ n ≤ 40)) :
    Calls Tryd.prog 6 #[.agg #[.slice A m c], .agg #[.int .i64 f, .int .i64 pc, .int .i64 r0, .int .i64 r1, .int .i64 r2, .int .i64 r3, .int .i64 r4, .int .i64 r5, .int .i64 r6, .int .i64 r7, .slice D n cap, .bool d]] w fun e w' => e = .returned (.bool lb) ∧ Chg (fun _ => False) w w' := by
  have hc0 : Chg (fun _ => False) w ((w.alloc (.cells #[.slice A m c] 24)).alloc (.cells #[.int .i64 f, .int .i64 pc, .int .i64 r0, .int .i64 r1, .int .i64 r2, .int .i64 r3, .int .i64 r4, .int .i64 r5, .int .i64 r6, .int .i64 r7, .slice D n cap, .bool d] 28)) := ((Chg.refl _ _).alloc _).alloc _
  have HC0 := Lib.hid hc0
  have hT0 : Blk ((w.alloc (.cells #[.slice A m c] 24)).alloc (.cells #[.int .i64 f, .int .i64 pc, .int .i64 r0, .int .i64 r1, .int .i64 r2, .int .i64 r3, .int .i64 r4, .int .i64 r5, .int .i64 r6, .int .i64 r7, .slice D n cap, .bool d] 28)) (w.heap.size + 1) 28 #[.int .i64 f, .int .i64 pc, .int .i64 r0, .int .i64 r1, .int .i64 r2, .int .i64 r3, .int .i64 r4, .int .i64 r5, .int .i64 r6, .int .i64 r7, .slice D n cap, .bool d] := by
    have h := Blk.new (w.alloc (.cells #[.slice A m c] 24)) 28 #[.int .i64 f, .int .i64 pc, .int .i64 r0, .int .i64 r1, .int .i64 r2, .int .i64 r3, .int .i64 r4, .int .i64 r5, .int .i64 r6, .int .i64 r7, .slice D n cap, .bool d]
    rwa [show (w.alloc (.cells #[.slice A m c] 24)).heap.size = w.heap.size + 1 from by simp] at h
  have HT0 := Lib.hid hT0
  clear hT0
  by_cases hl : LightP m nc ns
  · have HL := Lib.hid (plight_yes c (hP.chg hc0) hl)
    clear hP hc0
    by_cases hn : n ≤ 40
    · obtain rfl : lb = true := hlb.2 ⟨hl, hn⟩
      have n1 : (n : Int) ≤ 40 := by omega
      have n2 : decide ((n : Int) ≤ 40) = true := decide_eq_true n1
      clear n1 hlb hn
      go_enter Tryd.func6, Tryd.ntmps6
      go_wp2_with (go_at_call 19; refine HL.out.mono ?_; rintro e w1 ⟨rfl, hc1⟩; have HC1 := Lib.hid (HC0.out.trans hc1 (fun _ _ h => h)); have t10 := (HT0.out.kept hc1 (fun h => h)).cell 10; have tl := (HT0.out.kept hc1 (fun h => h)).lt; simp at t10; clear hc1)
      go_ret
      exact ⟨rfl, HC1.out⟩
    · obtain rfl : lb = false := by cases lb with | false => rfl | true => exact absurd (hlb.1 rfl).2 hn
      have n1 : ¬ (n : Int) ≤ 40 := by omega
      have n2 : decide ((n : Int) ≤ 40) = false := decide_eq_false n1
      go_enter Tryd.func6, Tryd.ntmps6
      go_wp2_with (go_at_call 19; refine HL.out.mono ?_; rintro e w1 ⟨rfl, hc1⟩; have HC1 := Lib.hid (HC0.out.trans hc1 (fun _ _ h => h)); have t10 := (HT0.out.kept hc1 (fun h => h)).cell 10; have tl := (HT0.out.kept hc1 (fun h => h)).lt; simp at t10; clear hc1)
      go_ret
      exact ⟨rfl, HC1.out⟩
  · have HL := Lib.hid (plight_no c (hP.chg hc0) hm hl)
    obtain rfl : lb = false := by cases lb with | false => rfl | true => exact absurd (hlb.1 rfl).1 hl
    clear hP hc0
    go_enter Tryd.func6, Tryd.ntmps6
    go_wp2_with (go_at_call 19; refine HL.out.mono ?_; rintro e w1 ⟨rfl, hc1⟩; have HC1 := Lib.hid (HC0.out.trans hc1 (fun _ _ h => h)); clear hc1)
    go_ret
    exact ⟨rfl, HC1.out⟩
/-- How the law stands at its loop's head. -/
structure StOk (w2 wr : World) (N : Nat) (m : Nat) (nc : Nat → Nat) (code : Nat → List (List Int)) (safe : Nat → List Bool) (f pc : Int) (rs : List Int) (D : Option Addr) (n cap : Nat) (d : Bool) (es : List (List Int)) : Prop where
  l : rs.length = 8
  u : Uni 2 es
  le : es.length ≤ 40
  fit : fitsF m nc code safe f pc es d = true
  b : Blk wr (N + 1) 28 #[.int .i64 f, .int .i64 pc, .int .i64 (rs.getD 0 0), .int .i64 (rs.getD 1 0), .int .i64 (rs.getD 2 0), .int .i64 (rs.getD 3 0), .int .i64 (rs.getD 4 0), .int .i64 (rs.getD 5 0), .int .i64 (rs.getD 6 0), .int .i64 (rs.getD 7 0), .slice D n cap, .bool d]
  r : Rd wr 2 D n (kv es)
  far : 0 < n → ∀ g, blk D = some g → g ≠ N + 1
  ch : Chg (fun g => g = N + 1) w2 wr
theorem Rd.keptf {S : Nat → Prop} {w w' : World} {D : Option Addr} {n : Nat} {xs : List Value} (h : Rd w 2 D n xs) (hc : Chg S w w') (hf : 0 < n → ∀ g, blk D = some g → ¬ S g) : Rd w' 2 D n xs := by
  rcases Nat.eq_zero_or_pos n with h0 | h0
  · subst h0; exact ⟨h.1, fun h => absurd h (by omega)⟩
  · exact h.kept hc (hf h0)
set_option maxRecDepth 100000 in
set_option maxHeartbeats 64000000 in
theorem walk_vmStays' (c : Nat) (hP : PM w A m Ac nc cc As ns cs code safe) (hT : Tab w) (hmm : m ≤ maxLen) (f pc r0 r1 r2 r3 r4 r5 r6 r7 : Int) (D : Option Addr) (n cap : Nat) (d : Bool) (es : List (List Int)) (hu : Uni 2 es) (hD : Rd w 2 D n (kv es)) (hnm : n ≤ maxLen) (B : Option Addr) (la lc : Nat) (zs : List Int) (hZ : Rd w 1 B la (ints zs)) (hlm : la ≤ maxLen) :
    Calls Tryd.prog 5 #[.agg #[.slice A m c], .agg #[.int .i64 f, .int .i64 pc, .int .i64 r0, .int .i64 r1, .int .i64 r2, .int .i64 r3, .int .i64 r4, .int .i64 r5, .int .i64 r6, .int .i64 r7, .slice D n cap, .bool d], .slice B la lc] w fun e w' => e = .returned (.bool true) ∧ Below w.heap.size w w' := by
  have hc0 : Chg (fun _ => False) w ((w.alloc (.cells #[.slice A m c] 24)).alloc (.cells #[.int .i64 f, .int .i64 pc, .int .i64 r0, .int .i64 r1, .int .i64 r2, .int .i64 r3, .int .i64 r4, .int .i64 r5, .int .i64 r6, .int .i64 r7, .slice D n cap, .bool d] 28)) := ((Chg.refl _ _).alloc _).alloc _
  have HC0 := Lib.hid hc0
  have HT := Lib.hid hT
  have HB0 : Hid (Blk ((w.alloc (.cells #[.slice A m c] 24)).alloc (.cells #[.int .i64 f, .int .i64 pc, .int .i64 r0, .int .i64 r1, .int .i64 r2, .int .i64 r3, .int .i64 r4, .int .i64 r5, .int .i64 r6, .int .i64 r7, .slice D n cap, .bool d] 28)) w.heap.size 24 #[.slice A m c]) := Lib.hid ((Blk.new w 24 _).alloc _)
  have HT0 : Hid (Blk ((w.alloc (.cells #[.slice A m c] 24)).alloc (.cells #[.int .i64 f, .int .i64 pc, .int .i64 r0, .int .i64 r1, .int .i64 r2, .int .i64 r3, .int .i64 r4, .int .i64 r5, .int .i64 r6, .int .i64 r7, .slice D n cap, .bool d] 28)) (w.heap.size + 1) 28 #[.int .i64 f, .int .i64 pc, .int .i64 r0, .int .i64 r1, .int .i64 r2, .int .i64 r3, .int .i64 r4, .int .i64 r5, .int .i64 r6, .int .i64 r7, .slice D n cap, .bool d]) := Lib.hid (by
    have h := Blk.new (w.alloc (.cells #[.slice A m c] 24)) 28 #[.int .i64 f, .int .i64 pc, .int .i64 r0, .int .i64 r1, .int .i64 r2, .int .i64 r3, .int .i64 r4, .int .i64 r5, .int .i64 r6, .int .i64 r7, .slice D n cap, .bool d]
    rwa [show (w.alloc (.cells #[.slice A m c] 24)).heap.size = w.heap.size + 1 from by simp] at h)
  by_cases hl : LightP m nc ns ∧ n ≤ 40
  rotate_left
  · have HL := Lib.hid (light11 c (hP.chg hc0) hmm f pc r0 r1 r2 r3 r4 r5 r6 r7 D n cap d false (by simp [hl]))
    clear hP hD hZ hT hc0
    go_enter Tryd.func5, Tryd.ntmps5
    go_wp2_with (first
      | (go_at_call 6; refine HL.out.mono ?_; rintro e w1 ⟨rfl, hc1⟩; have HC1 := Lib.hid hc1; have hP1 := HB0.out.kept hc1 (fun h => h); have hT1 := HT0.out.kept hc1 (fun h => h); have p0 := hP1.cell 0; have t0 := hT1.cell 0; have t1 := hT1.cell 1; have t2 := hT1.cell 2; have t3 := hT1.cell 3; have t4 := hT1.cell 4; have t5 := hT1.cell 5; have t6 := hT1.cell 6; have t7 := hT1.cell 7; have t8 := hT1.cell 8; have t9 := hT1.cell 9; have t10 := hT1.cell 10; have t11 := hT1.cell 11; have tl := hT1.lt; have pl := hP1.lt; simp at p0 t0 t1 t2 t3 t4 t5 t6 t7 t8 t9 t10 t11; clear hc1 hP1 hT1)
      | (go_at_call 7; refine (alive_any _ (HT.out.chg (HC0.out.trans HC1.out (fun _ _ h => h)))).mono ?_; rintro e w9 ⟨rfl, hc9⟩; have HC9 := Lib.hid ((HC0.out.trans HC1.out (fun _ _ h => h)).trans hc9 (fun _ _ h => h)); clear hc9))
    go_ret
    exact ⟨rfl, HC9.out.toB⟩
  have HL := Lib.hid (light11 c (hP.chg hc0) hmm f pc r0 r1 r2 r3 r4 r5 r6 r7 D n cap d true (by simp [hl]))
  have hm : m ≤ 100 := by have := hl.1.1; omega
  have hn40 : n ≤ 40 := hl.2
  by_cases hla : 60 < la
  · have l1 : (60 : Int) < la := by omega
    have l2 : decide ((60 : Int) < la) = true := decide_eq_true l1
    clear hP hD hZ hT hc0
    go_enter Tryd.func5, Tryd.ntmps5
    go_wp2_with (first
      | (go_at_call 6; refine HL.out.mono ?_; rintro e w1 ⟨rfl, hc1⟩; have HC1 := Lib.hid hc1; have hP1 := HB0.out.kept hc1 (fun h => h); have hT1 := HT0.out.kept hc1 (fun h => h); have p0 := hP1.cell 0; have t0 := hT1.cell 0; have t1 := hT1.cell 1; have t2 := hT1.cell 2; have t3 := hT1.cell 3; have t4 := hT1.cell 4; have t5 := hT1.cell 5; have t6 := hT1.cell 6; have t7 := hT1.cell 7; have t8 := hT1.cell 8; have t9 := hT1.cell 9; have t10 := hT1.cell 10; have t11 := hT1.cell 11; have tl := hT1.lt; have pl := hP1.lt; simp at p0 t0 t1 t2 t3 t4 t5 t6 t7 t8 t9 t10 t11; clear hc1 hP1 hT1)
      | (go_at_call 7; refine (alive_any _ (HT.out.chg (HC0.out.trans HC1.out (fun _ _ h => h)))).mono ?_; rintro e w9 ⟨rfl, hc9⟩; have HC9 := Lib.hid ((HC0.out.trans HC1.out (fun _ _ h => h)).trans hc9 (fun _ _ h => h)); clear hc9))
    go_ret
    exact ⟨rfl, HC9.out.toB⟩
  have l1 : ¬ (60 : Int) < la := by omega
  have l2 : decide ((60 : Int) < la) = false := decide_eq_false l1
  have HF := Lib.hid (fun (V : World) (hc : Chg (fun _ => False) ((w.alloc (.cells #[.slice A m c] 24)).alloc (.cells #[.int .i64 f, .int .i64 pc, .int .i64 r0, .int .i64 r1, .int .i64 r2, .int .i64 r3, .int .i64 r4, .int .i64 r5, .int .i64 r6, .int .i64 r7, .slice D n cap, .bool d] 28)) V) => fits_any c (hP.chg (hc0.trans hc (fun _ _ h => h))) (hT.chg (hc0.trans hc (fun _ _ h => h))) hm f pc r0 r1 r2 r3 r4 r5 r6 r7 D n cap d es hu (hD.kept (hc0.trans hc (fun _ _ h => h)) (fun _ _ h => h)) (by omega))
  cases hfit : fitsF m nc code safe f pc es d with
  | false =>
    rw [hfit] at HF
    clear hP hD hZ hT hc0
    go_enter Tryd.func5, Tryd.ntmps5
    go_wp2_with (first
      | (go_at_call 6; refine HL.out.mono ?_; rintro e w1 ⟨rfl, hc1⟩; have HC1 := Lib.hid hc1; have hP1 := HB0.out.kept hc1 (fun h => h); have hT1 := HT0.out.kept hc1 (fun h => h); have p0 := hP1.cell 0; have t0 := hT1.cell 0; have t1 := hT1.cell 1; have t2 := hT1.cell 2; have t3 := hT1.cell 3; have t4 := hT1.cell 4; have t5 := hT1.cell 5; have t6 := hT1.cell 6; have t7 := hT1.cell 7; have t8 := hT1.cell 8; have t9 := hT1.cell 9; have t10 := hT1.cell 10; have t11 := hT1.cell 11; have tl := hT1.lt; have pl := hP1.lt; simp at p0 t0 t1 t2 t3 t4 t5 t6 t7 t8 t9 t10 t11; clear hc1 hP1 hT1)
      | (go_at_call 11; refine (HF.out w1 HC1.out).mono ?_; rintro e w2 ⟨rfl, hc2⟩; have HC2 := Lib.hid (HC1.out.trans hc2 (fun _ _ h => h)); clear hc2)
      | (go_at_call 7; refine (alive_any _ (HT.out.chg (HC0.out.trans HC2.out (fun _ _ h => h)))).mono ?_; rintro e w9 ⟨rfl, hc9⟩; have HC9 := Lib.hid ((HC0.out.trans HC2.out (fun _ _ h => h)).trans hc9 (fun _ _ h => h)); clear hc9))
    go_ret
    exact ⟨rfl, HC9.out.toB⟩
  | true =>
    rw [hfit] at HF
    have hdl := hD.lenk hu (by decide)
    have hzl := hZ.len
    have HPM := Lib.hid (fun (V : World) (hc : Chg (fun _ => False) w V) => hP.chg hc)
    have HTB2 := Lib.hid (fun (V : World) (hc : Chg (fun _ => False) w V) => hT.chg hc)
    have HZR := Lib.hid (fun (V : World) (hc : Chg (fun _ => False) w V) => hZ.kept hc (fun _ _ h => h))
    have HLC := Lib.hid (fun i (hi : i < m) => (hP.fn i hi).lenc)
    have HD0 := Lib.hid hD
    have HU0 := Lib.hid hu
    have HFIT := Lib.hid hfit
    clear hP hD hZ hT hc0 hfit
    go_enter Tryd.func5, Tryd.ntmps5
    go_wp2_with (first
      | (go_at_call 6; refine HL.out.mono ?_; rintro e w1 ⟨rfl, hc1⟩; have HC1 := Lib.hid hc1; have hP1 := HB0.out.kept hc1 (fun h => h); have hT1 := HT0.out.kept hc1 (fun h => h); have p0 := hP1.cell 0; have t0 := hT1.cell 0; have t1 := hT1.cell 1; have t2 := hT1.cell 2; have t3 := hT1.cell 3; have t4 := hT1.cell 4; have t5 := hT1.cell 5; have t6 := hT1.cell 6; have t7 := hT1.cell 7; have t8 := hT1.cell 8; have t9 := hT1.cell 9; have t10 := hT1.cell 10; have t11 := hT1.cell 11; have tl := hT1.lt; have pl := hP1.lt; simp at p0 t0 t1 t2 t3 t4 t5 t6 t7 t8 t9 t10 t11; clear hc1 hP1 hT1)
      | (go_at_call 11; refine (HF.out w1 HC1.out).mono ?_; rintro e w2 ⟨rfl, hc2⟩; have HC2 := Lib.hid (HC1.out.trans hc2 (fun _ _ h => h)); clear hc2))
    clear p0 t0 t1 t2 t3 t4 t5 t6 t7 t8 t9 t10 t11 tl pl
    have HB2 := Lib.hid (HB0.out.kept HC2.out (fun h => h))
    have HT2 := Lib.hid (HT0.out.kept HC2.out (fun h => h))
    have HCW : Hid (∀ V, Chg (fun g => g = w.heap.size + 1) w2 V → Chg (fun _ => False) w V) := Lib.hid (fun V hc => (HC0.out.trans HC2.out (fun _ _ h => h)).trans hc (fun k hk h => by have h' : k = w.heap.size + 1 := h; omega))
    have HST0 : Hid (StOk w2 w2 w.heap.size m nc code safe f pc [r0, r1, r2, r3, r4, r5, r6, r7] D n cap d es) := Lib.hid ⟨rfl, HU0.out, by omega, HFIT.out, HT2.out, HD0.out.kept (HC0.out.trans HC2.out (fun _ _ h => h)) (fun _ _ h => h), fun h0 g hg h => by
      obtain ⟨b, o, e, hb, _⟩ := HD0.out.2 h0
      rw [e] at hg
      simp at hg
      omega, Chg.refl _ _⟩
    clear HT2 HD0 HFIT HF HL HT0 HB0
    clear hl
    go_loopw [7] (fun iv wr => ∃ k : Nat, k ≤ la ∧ iv = .int .i64 k ∧ Hid (∃ f pc rs D n cap d es, StOk w2 wr w.heap.size m nc code safe f pc rs D n cap d es)) (fun iv _ => la - (intOf iv).toNat)
    case atStart => exact ⟨0, by omega, rfl, Lib.hid ⟨_, _, _, _, _, _, _, _, HST0.out⟩⟩
    case round =>
      obtain ⟨k, hk, rfl, HS⟩ := hrel
      clear HST0 hdl hn40 hnm HU0 hu HC0 HC1 HC2
      clear es
      have k0 : (0 : Int) ≤ k := by omega
      by_cases hlt : k < la
      · have k1 : (k : Int) < la := by omega
        have hkz : k < zs.length := by omega
        obtain ⟨f, pc, rs, D, n, cap, d, es, hSt⟩ := HS.out
        obtain ⟨r0, r1, r2, r3, r4, r5, r6, r7, rfl⟩ := eight hSt.l
        cases d with
        | false =>
          have HRD := Lib.hid hSt.r
          have HFR := Lib.hid hSt.far
          have HCR := Lib.hid hSt.ch
          have HU := Lib.hid hSt.u
          have HWR := Lib.hid (HCW.out wr hSt.ch)
          have hle := hSt.le
          have hln := hSt.r.lenk hSt.u (by decide)
          have hBr := HB2.out.kept hSt.ch (show ¬ w.heap.size = w.heap.size + 1 by omega)
          have HTB := Lib.hid hSt.b
          have p0 := hBr.cell 0
          have pl := hBr.lt
          have t0 := hSt.b.cell 0
          have t1 := hSt.b.cell 1
          have t2 := hSt.b.cell 2
          have t3 := hSt.b.cell 3
          have t4 := hSt.b.cell 4
          have t5 := hSt.b.cell 5
          have t6 := hSt.b.cell 6
          have t7 := hSt.b.cell 7
          have t8 := hSt.b.cell 8
          have t9 := hSt.b.cell 9
          have t10 := hSt.b.cell 10
          have t11 := hSt.b.cell 11
          have tl := hSt.b.lt
          simp at p0 t0 t1 t2 t3 t4 t5 t6 t7 t8 t9 t10 t11
          obtain ⟨bz, oz, hBz, bzl0, hzz⟩ := (HZR.out wr HWR.out).at_ (by omega)
          subst hBz
          have z0 := hzz k hkz
          have bzl := bzl0
          generalize zs[k] = z at *
          clear hzz hBr bzl0
          obtain ⟨fn, rfl⟩ : ∃ q : Nat, f = q := ⟨f.toNat, by have := (placeOk_iff.1 (fitsF_iff.1 hSt.fit).2.1).1; omega⟩
          obtain ⟨pn, rfl⟩ : ∃ q : Nat, pc = q := ⟨pc.toNat, by have := (placeOk_iff.1 (fitsF_iff.1 hSt.fit).2.1).2.2.1; omega⟩
          obtain ⟨hfm, hpn, a, ha, ia, f', pc', rs', es', d', hdo, hl', hu', he', hfit'⟩ := dook_fit (rs := [r0, r1, r2, r3, r4, r5, r6, r7]) HLC.out hSt.fit rfl hSt.u z
          have HST := Lib.hid (fun (V : World) (hc : Chg (fun _ => False) wr V) => step_row c (HPM.out V (HWR.out.trans hc (fun _ _ h => h))) (HTB2.out V (HWR.out.trans hc (fun _ _ h => h))) hm fn pn _ rfl D n cap es HU.out (HRD.out.kept hc (fun _ _ h => h)) (by omega) hSt.fit hfm hpn _ _ _ _ z a ha rfl ia rfl rfl rfl f' pc' rs' es' d' hdo)
          obtain ⟨s0, s1, s2, s3, s4, s5, s6, s7, rfl⟩ := eight hl'
          simp only [List.getD_cons_zero, List.getD_cons_succ] at HST
          generalize numF (ipart (code fn) pn 0) (a : Int) z [r0, r1, r2, r3, r4, r5, r6, r7] = num at *
          have HU3 := Lib.hid hu'
          have HF3 := Lib.hid hfit'
          have HFT := Lib.hid hSt.fit
          clear hdo hl' hu' hfit' ia
          clear hSt
          generalize (fn : Int) = f at *
          generalize (pn : Int) = pc at *
          go_wp2_with fail
          refine (tclone_any f pc r0 r1 r2 r3 r4 r5 r6 r7 D n cap false es wr HU.out HRD.out (by omega)).mono ?_
          rintro e1 v1 ⟨D1, c1, rfl, hr1, hc1⟩
          go_wp2_with fail
          obtain ⟨v2, hv2⟩ : ∃ v2, v2 = v1.alloc (.cells #[.int .i64 f, .int .i64 pc, .int .i64 r0, .int .i64 r1, .int .i64 r2, .int .i64 r3, .int .i64 r4, .int .i64 r5, .int .i64 r6, .int .i64 r7, .slice D1 n c1, .bool false] 28) := ⟨_, rfl⟩
          obtain ⟨X8, hX8⟩ : ∃ X8, X8 = v1.heap.size := ⟨_, rfl⟩
          have h8 : Blk v2 X8 28 #[.int .i64 f, .int .i64 pc, .int .i64 r0, .int .i64 r1, .int .i64 r2, .int .i64 r3, .int .i64 r4, .int .i64 r5, .int .i64 r6, .int .i64 r7, .slice D1 n c1, .bool false] := by rw [hv2, hX8]; exact Blk.new v1 28 _
          have hc2 : Chg (fun _ => False) wr v2 := by rw [hv2]; exact hc1.alloc (.cells #[.int .i64 f, .int .i64 pc, .int .i64 r0, .int .i64 r1, .int .i64 r2, .int .i64 r3, .int .i64 r4, .int .i64 r5, .int .i64 r6, .int .i64 r7, .slice D1 n c1, .bool false] 28)
          have HR1 : Hid (Rd v2 2 D1 n (kv es)) := Lib.hid (by rw [hv2]; exact hr1.rd.alloc (.cells #[.int .i64 f, .int .i64 pc, .int .i64 r0, .int .i64 r1, .int .i64 r2, .int .i64 r3, .int .i64 r4, .int .i64 r5, .int .i64 r6, .int .i64 r7, .slice D1 n c1, .bool false] 28))
          have H8 := Lib.hid h8
          have HC12 := Lib.hid hc2
          rw [← hv2, ← hX8]
          clear h8 hc2 hr1 hc1 hv2 hX8
          have hs0 : v2.drew.cell? ⟨w.heap.size, 0, none⟩ = some (.slice A m c) ∧ v2.drew.cell? ⟨w.heap.size + 1, 0, none⟩ = some (.int .i64 f) ∧ v2.drew.cell? ⟨w.heap.size + 1, 1, none⟩ = some (.int .i64 pc) ∧ v2.drew.cell? ⟨w.heap.size + 1, 2, none⟩ = some (.int .i64 r0) ∧ v2.drew.cell? ⟨w.heap.size + 1, 3, none⟩ = some (.int .i64 r1) ∧ v2.drew.cell? ⟨w.heap.size + 1, 4, none⟩ = some (.int .i64 r2) ∧ v2.drew.cell? ⟨w.heap.size + 1, 5, none⟩ = some (.int .i64 r3) ∧ v2.drew.cell? ⟨w.heap.size + 1, 6, none⟩ = some (.int .i64 r4) ∧ v2.drew.cell? ⟨w.heap.size + 1, 7, none⟩ = some (.int .i64 r5) ∧ v2.drew.cell? ⟨w.heap.size + 1, 8, none⟩ = some (.int .i64 r6) ∧ v2.drew.cell? ⟨w.heap.size + 1, 9, none⟩ = some (.int .i64 r7) ∧ v2.drew.cell? ⟨w.heap.size + 1, 10, none⟩ = some (.slice D n cap) ∧ v2.drew.cell? ⟨w.heap.size + 1, 11, none⟩ = some (.bool false) ∧ v2.drew.cell? ⟨bz, oz + k, none⟩ = some (.int .i64 z) := ⟨(HC12.out.cell (p := ⟨w.heap.size, 0, none⟩) pl (fun h => h)).trans p0, (HC12.out.cell (p := ⟨w.heap.size + 1, 0, none⟩) tl (fun h => h)).trans t0, (HC12.out.cell (p := ⟨w.heap.size + 1, 1, none⟩) tl (fun h => h)).trans t1, (HC12.out.cell (p := ⟨w.heap.size + 1, 2, none⟩) tl (fun h => h)).trans t2, (HC12.out.cell (p := ⟨w.heap.size + 1, 3, none⟩) tl (fun h => h)).trans t3, (HC12.out.cell (p := ⟨w.heap.size + 1, 4, none⟩) tl (fun h => h)).trans t4, (HC12.out.cell (p := ⟨w.heap.size + 1, 5, none⟩) tl (fun h => h)).trans t5, (HC12.out.cell (p := ⟨w.heap.size + 1, 6, none⟩) tl (fun h => h)).trans t6, (HC12.out.cell (p := ⟨w.heap.size + 1, 7, none⟩) tl (fun h => h)).trans t7, (HC12.out.cell (p := ⟨w.heap.size + 1, 8, none⟩) tl (fun h => h)).trans t8, (HC12.out.cell (p := ⟨w.heap.size + 1, 9, none⟩) tl (fun h => h)).trans t9, (HC12.out.cell (p := ⟨w.heap.size + 1, 10, none⟩) tl (fun h => h)).trans t10, (HC12.out.cell (p := ⟨w.heap.size + 1, 11, none⟩) tl (fun h => h)).trans t11, (HC12.out.cell (p := ⟨bz, _, none⟩) bzl (fun h => h)).trans z0⟩
          refine wp_region_held_drew (S := fun w' => w'.cell? ⟨w.heap.size, 0, none⟩ = some (.slice A m c) ∧ w'.cell? ⟨w.heap.size + 1, 0, none⟩ = some (.int .i64 f) ∧ w'.cell? ⟨w.heap.size + 1, 1, none⟩ = some (.int .i64 pc) ∧ w'.cell? ⟨w.heap.size + 1, 2, none⟩ = some (.int .i64 r0) ∧ w'.cell? ⟨w.heap.size + 1, 3, none⟩ = some (.int .i64 r1) ∧ w'.cell? ⟨w.heap.size + 1, 4, none⟩ = some (.int .i64 r2) ∧ w'.cell? ⟨w.heap.size + 1, 5, none⟩ = some (.int .i64 r3) ∧ w'.cell? ⟨w.heap.size + 1, 6, none⟩ = some (.int .i64 r4) ∧ w'.cell? ⟨w.heap.size + 1, 7, none⟩ = some (.int .i64 r5) ∧ w'.cell? ⟨w.heap.size + 1, 8, none⟩ = some (.int .i64 r6) ∧ w'.cell? ⟨w.heap.size + 1, 9, none⟩ = some (.int .i64 r7) ∧ w'.cell? ⟨w.heap.size + 1, 10, none⟩ = some (.slice D n cap) ∧ w'.cell? ⟨w.heap.size + 1, 11, none⟩ = some (.bool false) ∧ w'.cell? ⟨bz, oz + k, none⟩ = some (.int .i64 z)) (by kernel_rfl) hs0 (fun hHeld => ?_)
          refine wpAnyH_take (i := 0) (oi := Oper.mk _ _ _ _ _ _) (v := ?v1) rfl (by kernel_rfl) (by kernel_rfl) (by kernel_rfl) (fun _ _ _ h => h) (Or.inl ⟨by rfl, ?hy1⟩) (by assumption) ?rs1
          case hy1 => (intro w hSw; (try dsimp only at hSw); first | (go_simp <;> with_reducible rfl) | rfl)
          try simp only [Act.put, List.setIfInBounds_toArray, List.set_cons_zero, List.set_cons_succ]
          refine wpAnyH_take (i := 1) (oi := Oper.mk _ _ _ _ _ _) (v := ?v2) rfl (by kernel_rfl) (by kernel_rfl) (by kernel_rfl) (fun _ _ _ h => h) (Or.inl ⟨by rfl, ?hy2⟩) (by assumption) ?rs2
          case hy2 => (intro w hSw; (try dsimp only at hSw); first | (go_simp <;> with_reducible rfl) | rfl)
          try simp only [Act.put, List.setIfInBounds_toArray, List.set_cons_zero, List.set_cons_succ]
          refine wpAnyH_take (i := 2) (oi := Oper.mk _ _ _ _ _ _) (v := ?v3) rfl (by kernel_rfl) (by kernel_rfl) (by kernel_rfl) (fun _ _ _ h => h) (Or.inl ⟨by rfl, ?hy3⟩) (by assumption) ?rs3
          case hy3 => (intro w hSw; (try dsimp only at hSw); first | (go_simp <;> with_reducible rfl) | rfl)
          try simp only [Act.put, List.setIfInBounds_toArray, List.set_cons_zero, List.set_cons_succ]
          refine wpAnyH_take (i := 3) (oi := Oper.mk _ _ _ _ _ _) (v := ?v4) rfl (by kernel_rfl) (by kernel_rfl) (by kernel_rfl) (fun _ _ _ h => h) (Or.inl ⟨by rfl, ?hy4⟩) (by assumption) ?rs4
          case hy4 => (intro w hSw; (try dsimp only at hSw); first | (go_simp <;> with_reducible rfl) | rfl)
          try simp only [Act.put, List.setIfInBounds_toArray, List.set_cons_zero, List.set_cons_succ]
          refine wpAnyH_take (i := 4) (oi := Oper.mk _ _ _ _ _ _) (v := ?v5) rfl (by kernel_rfl) (by kernel_rfl) (by kernel_rfl) (fun _ _ _ h => h) (Or.inl ⟨by rfl, ?hy5⟩) (by assumption) ?rs5
          case hy5 => (intro w hSw; (try dsimp only at hSw); first | (go_simp <;> with_reducible rfl) | rfl)
          try simp only [Act.put, List.setIfInBounds_toArray, List.set_cons_zero, List.set_cons_succ]
          refine wpAnyH_take (i := 5) (oi := Oper.mk _ _ _ _ _ _) (v := ?v6) rfl (by kernel_rfl) (by kernel_rfl) (by kernel_rfl) (fun _ _ _ h => h) (Or.inl ⟨by rfl, ?hy6⟩) (by assumption) ?rs6
          case hy6 => (intro w hSw; (try dsimp only at hSw); first | (go_simp <;> with_reducible rfl) | rfl)
          try simp only [Act.put, List.setIfInBounds_toArray, List.set_cons_zero, List.set_cons_succ]
          refine wpAnyH_ready (rs := [6, 11]) (by kernel_rfl) (by simp) ?_
          refine AllReadyH.cons (o := Oper.mk _ _ _ _ _ _) rfl (fun K hK => ?_) ?_
          · go_simp
            go_at_call 10; refine (HST.out v2.drew HC12.out.drew).mono ?_; rintro e3 v3 ⟨D3, n3, c3, rfl, hr3, hc3⟩; have HC3 := Lib.hid (HC12.out.drew.trans hc3 (fun _ _ h => h)); have HK23 : Hid (Chg (fun _ => False) v2 v3) := Lib.hid ((Chg.refl (fun _ => False) v2).drew.trans hc3 (fun _ _ h => h)); have HR3 := Lib.hid hr3;  clear hc3 hr3; have hs3 : v3.cell? ⟨w.heap.size, 0, none⟩ = some (.slice A m c) ∧ v3.cell? ⟨w.heap.size + 1, 0, none⟩ = some (.int .i64 f) ∧ v3.cell? ⟨w.heap.size + 1, 1, none⟩ = some (.int .i64 pc) ∧ v3.cell? ⟨w.heap.size + 1, 2, none⟩ = some (.int .i64 r0) ∧ v3.cell? ⟨w.heap.size + 1, 3, none⟩ = some (.int .i64 r1) ∧ v3.cell? ⟨w.heap.size + 1, 4, none⟩ = some (.int .i64 r2) ∧ v3.cell? ⟨w.heap.size + 1, 5, none⟩ = some (.int .i64 r3) ∧ v3.cell? ⟨w.heap.size + 1, 6, none⟩ = some (.int .i64 r4) ∧ v3.cell? ⟨w.heap.size + 1, 7, none⟩ = some (.int .i64 r5) ∧ v3.cell? ⟨w.heap.size + 1, 8, none⟩ = some (.int .i64 r6) ∧ v3.cell? ⟨w.heap.size + 1, 9, none⟩ = some (.int .i64 r7) ∧ v3.cell? ⟨w.heap.size + 1, 10, none⟩ = some (.slice D n cap) ∧ v3.cell? ⟨w.heap.size + 1, 11, none⟩ = some (.bool false) ∧ v3.cell? ⟨bz, oz + k, none⟩ = some (.int .i64 z) := ⟨(HC3.out.cell (p := ⟨w.heap.size, 0, none⟩) pl (fun h => h)).trans p0, (HC3.out.cell (p := ⟨w.heap.size + 1, 0, none⟩) tl (fun h => h)).trans t0, (HC3.out.cell (p := ⟨w.heap.size + 1, 1, none⟩) tl (fun h => h)).trans t1, (HC3.out.cell (p := ⟨w.heap.size + 1, 2, none⟩) tl (fun h => h)).trans t2, (HC3.out.cell (p := ⟨w.heap.size + 1, 3, none⟩) tl (fun h => h)).trans t3, (HC3.out.cell (p := ⟨w.heap.size + 1, 4, none⟩) tl (fun h => h)).trans t4, (HC3.out.cell (p := ⟨w.heap.size + 1, 5, none⟩) tl (fun h => h)).trans t5, (HC3.out.cell (p := ⟨w.heap.size + 1, 6, none⟩) tl (fun h => h)).trans t6, (HC3.out.cell (p := ⟨w.heap.size + 1, 7, none⟩) tl (fun h => h)).trans t7, (HC3.out.cell (p := ⟨w.heap.size + 1, 8, none⟩) tl (fun h => h)).trans t8, (HC3.out.cell (p := ⟨w.heap.size + 1, 9, none⟩) tl (fun h => h)).trans t9, (HC3.out.cell (p := ⟨w.heap.size + 1, 10, none⟩) tl (fun h => h)).trans t10, (HC3.out.cell (p := ⟨w.heap.size + 1, 11, none⟩) tl (fun h => h)).trans t11, (HC3.out.cell (p := ⟨bz, _, none⟩) bzl (fun h => h)).trans z0⟩
            refine hK.out _ _ hs3 (fun hHeld => ?_)
            clear hK K
            try simp only [Act.put, List.setIfInBounds_toArray, List.set_cons_zero, List.set_cons_succ]
            refine wpAnyH_take (i := 7) (oi := Oper.mk _ _ _ _ _ _) (v := ?v7) rfl (by kernel_rfl) (by kernel_rfl) (by kernel_rfl) (fun _ _ _ h => h) (Or.inl ⟨by rfl, ?hy7⟩) (by assumption) ?rs7
            case hy7 => (intro w hSw; (try dsimp only at hSw); first | (go_simp <;> with_reducible rfl) | rfl)
            try simp only [Act.put, List.setIfInBounds_toArray, List.set_cons_zero, List.set_cons_succ]
            refine wpAnyH_take (i := 8) (oi := Oper.mk _ _ _ _ _ _) (v := ?v8) rfl (by kernel_rfl) (by kernel_rfl) (by kernel_rfl) (fun _ _ _ h => h) (Or.inl ⟨by rfl, ?hy8⟩) (by assumption) ?rs8
            case hy8 => (intro w hSw; (try dsimp only at hSw); first | (go_simp <;> with_reducible rfl) | rfl)
            try simp only [Act.put, List.setIfInBounds_toArray, List.set_cons_zero, List.set_cons_succ]
            refine wpAnyH_take (i := 9) (oi := Oper.mk _ _ _ _ _ _) (v := ?v9) rfl (by kernel_rfl) (by kernel_rfl) (by kernel_rfl) (fun _ _ _ h => h) (Or.inl ⟨by rfl, ?hy9⟩) (by assumption) ?rs9
            case hy9 => (intro w hSw; (try dsimp only at hSw); first | (go_simp <;> with_reducible rfl) | rfl)
            try simp only [Act.put, List.setIfInBounds_toArray, List.set_cons_zero, List.set_cons_succ]
            refine wpAnyH_take (i := 10) (oi := Oper.mk _ _ _ _ _ _) (v := ?v10) rfl (by kernel_rfl) (by kernel_rfl) (by kernel_rfl) (fun _ _ _ h => h) (Or.inl ⟨by rfl, ?hy10⟩) (by assumption) ?rs10
            case hy10 => (intro w hSw; (try dsimp only at hSw); first | (go_simp <;> with_reducible rfl) | rfl)
            try simp only [Act.put, List.setIfInBounds_toArray, List.set_cons_zero, List.set_cons_succ]
            refine wpAnyH_ready (rs := [11]) (by kernel_rfl) (by simp) ?_
            refine AllReadyH.cons (o := Oper.mk _ _ _ _ _ _) rfl (fun K hK => ?_) AllReadyH.nil
            go_simp
            skip
            refine hK.out _ _ ⟨((HC3.out.alloc _).cell (p := ⟨w.heap.size, 0, none⟩) pl (fun h => h)).trans p0, ((HC3.out.alloc _).cell (p := ⟨w.heap.size + 1, 0, none⟩) tl (fun h => h)).trans t0, ((HC3.out.alloc _).cell (p := ⟨w.heap.size + 1, 1, none⟩) tl (fun h => h)).trans t1, ((HC3.out.alloc _).cell (p := ⟨w.heap.size + 1, 2, none⟩) tl (fun h => h)).trans t2, ((HC3.out.alloc _).cell (p := ⟨w.heap.size + 1, 3, none⟩) tl (fun h => h)).trans t3, ((HC3.out.alloc _).cell (p := ⟨w.heap.size + 1, 4, none⟩) tl (fun h => h)).trans t4, ((HC3.out.alloc _).cell (p := ⟨w.heap.size + 1, 5, none⟩) tl (fun h => h)).trans t5, ((HC3.out.alloc _).cell (p := ⟨w.heap.size + 1, 6, none⟩) tl (fun h => h)).trans t6, ((HC3.out.alloc _).cell (p := ⟨w.heap.size + 1, 7, none⟩) tl (fun h => h)).trans t7, ((HC3.out.alloc _).cell (p := ⟨w.heap.size + 1, 8, none⟩) tl (fun h => h)).trans t8, ((HC3.out.alloc _).cell (p := ⟨w.heap.size + 1, 9, none⟩) tl (fun h => h)).trans t9, ((HC3.out.alloc _).cell (p := ⟨w.heap.size + 1, 10, none⟩) tl (fun h => h)).trans t10, ((HC3.out.alloc _).cell (p := ⟨w.heap.size + 1, 11, none⟩) tl (fun h => h)).trans t11, ((HC3.out.alloc _).cell (p := ⟨bz, _, none⟩) bzl (fun h => h)).trans z0⟩ (fun hHeld => ?_)
            clear hK K
            try simp only [Act.put, List.setIfInBounds_toArray, List.set_cons_zero, List.set_cons_succ]
            refine wpAnyH_ready (rs := [12]) (by kernel_rfl) (by simp) ?_
            refine AllReadyH.cons (o := Oper.mk _ _ _ _ _ _) rfl (fun K hK => ?_) AllReadyH.nil
            go_simp
            skip
            refine hK.out _ _ ⟨((HC3.out.alloc _).cell (p := ⟨w.heap.size, 0, none⟩) pl (fun h => h)).trans p0, ((HC3.out.alloc _).cell (p := ⟨w.heap.size + 1, 0, none⟩) tl (fun h => h)).trans t0, ((HC3.out.alloc _).cell (p := ⟨w.heap.size + 1, 1, none⟩) tl (fun h => h)).trans t1, ((HC3.out.alloc _).cell (p := ⟨w.heap.size + 1, 2, none⟩) tl (fun h => h)).trans t2, ((HC3.out.alloc _).cell (p := ⟨w.heap.size + 1, 3, none⟩) tl (fun h => h)).trans t3, ((HC3.out.alloc _).cell (p := ⟨w.heap.size + 1, 4, none⟩) tl (fun h => h)).trans t4, ((HC3.out.alloc _).cell (p := ⟨w.heap.size + 1, 5, none⟩) tl (fun h => h)).trans t5, ((HC3.out.alloc _).cell (p := ⟨w.heap.size + 1, 6, none⟩) tl (fun h => h)).trans t6, ((HC3.out.alloc _).cell (p := ⟨w.heap.size + 1, 7, none⟩) tl (fun h => h)).trans t7, ((HC3.out.alloc _).cell (p := ⟨w.heap.size + 1, 8, none⟩) tl (fun h => h)).trans t8, ((HC3.out.alloc _).cell (p := ⟨w.heap.size + 1, 9, none⟩) tl (fun h => h)).trans t9, ((HC3.out.alloc _).cell (p := ⟨w.heap.size + 1, 10, none⟩) tl (fun h => h)).trans t10, ((HC3.out.alloc _).cell (p := ⟨w.heap.size + 1, 11, none⟩) tl (fun h => h)).trans t11, ((HC3.out.alloc _).cell (p := ⟨bz, _, none⟩) bzl (fun h => h)).trans z0⟩ (fun hHeld => ?_)
            clear hK K
            try simp only [Act.put, List.setIfInBounds_toArray, List.set_cons_zero, List.set_cons_succ]
            refine wpAnyH_take (i := 13) (oi := Oper.mk _ _ _ _ _ _) (v := ?v13) rfl (by kernel_rfl) (by kernel_rfl) (by kernel_rfl) (fun _ _ _ h => h) (Or.inl ⟨by rfl, ?hy13⟩) (by assumption) ?rs13
            case hy13 => (intro w hSw; (try dsimp only at hSw); first | (go_simp <;> with_reducible rfl) | rfl)
            try simp only [Act.put, List.setIfInBounds_toArray, List.set_cons_zero, List.set_cons_succ]
            refine wpAnyH_take (i := 14) (oi := Oper.mk _ _ _ _ _ _) (v := ?v14) rfl (by kernel_rfl) (by kernel_rfl) (by kernel_rfl) (fun _ _ _ h => h) (Or.inl ⟨by rfl, ?hy14⟩) (by assumption) ?rs14
            case hy14 => (intro w hSw; (try dsimp only at hSw); first | (go_simp <;> with_reducible rfl) | rfl)
            try simp only [Act.put, List.setIfInBounds_toArray, List.set_cons_zero, List.set_cons_succ]
            refine wpAnyH_done (by kernel_rfl) ?_ _
            have HV : Hid (Blk (v3.alloc (.cells #[.int .i64 f', .int .i64 pc', .int .i64 s0, .int .i64 s1, .int .i64 s2, .int .i64 s3, .int .i64 s4, .int .i64 s5, .int .i64 s6, .int .i64 s7, .slice D3 n3 c3, .bool d'] 28)) v3.heap.size 28 #[.int .i64 f', .int .i64 pc', .int .i64 s0, .int .i64 s1, .int .i64 s2, .int .i64 s3, .int .i64 s4, .int .i64 s5, .int .i64 s6, .int .i64 s7, .slice D3 n3 c3, .bool d']) := Lib.hid (Blk.new v3 28 _)
            have HKV := Lib.hid (HC3.out.alloc (.cells #[.int .i64 f', .int .i64 pc', .int .i64 s0, .int .i64 s1, .int .i64 s2, .int .i64 s3, .int .i64 s4, .int .i64 s5, .int .i64 s6, .int .i64 s7, .slice D3 n3 c3, .bool d'] 28))
            have RV := Lib.hid (HR3.out.rd.alloc (.cells #[.int .i64 f', .int .i64 pc', .int .i64 s0, .int .i64 s1, .int .i64 s2, .int .i64 s3, .int .i64 s4, .int .i64 s5, .int .i64 s6, .int .i64 s7, .slice D3 n3 c3, .bool d'] 28))
            have LV : Hid (∀ g, blk D3 = some g → g ≠ w.heap.size + 1) := Lib.hid (fun g hg h => by have h1 := (HR3.out.blk_lt g hg).1; have h2 := HC12.out.size; simp at h1; omega)
            have HK2V : Hid (Chg (fun _ => False) v2 (v3.alloc (.cells #[.int .i64 f', .int .i64 pc', .int .i64 s0, .int .i64 s1, .int .i64 s2, .int .i64 s3, .int .i64 s4, .int .i64 s5, .int .i64 s6, .int .i64 s7, .slice D3 n3 c3, .bool d'] 28))) := Lib.hid (HK23.out.alloc _)
            obtain ⟨V, hV⟩ : ∃ V, V = v3.alloc (.cells #[.int .i64 f', .int .i64 pc', .int .i64 s0, .int .i64 s1, .int .i64 s2, .int .i64 s3, .int .i64 s4, .int .i64 s5, .int .i64 s6, .int .i64 s7, .slice D3 n3 c3, .bool d'] 28) := ⟨_, rfl⟩
            obtain ⟨X9, hX9⟩ : ∃ X9, X9 = v3.heap.size := ⟨_, rfl⟩
            rw [← hV, ← hX9] at HV
            rw [← hV] at HKV RV HK2V
            rw [← hV, ← hX9]
            clear hV hX9
            have q0 := HV.out.cell 0
            have q1 := HV.out.cell 1
            have q2 := HV.out.cell 2
            have q3 := HV.out.cell 3
            have q4 := HV.out.cell 4
            have q5 := HV.out.cell 5
            have q6 := HV.out.cell 6
            have q7 := HV.out.cell 7
            have q8 := HV.out.cell 8
            have q9 := HV.out.cell 9
            have q10 := HV.out.cell 10
            have q11 := HV.out.cell 11
            have ql := HV.out.lt
            have o0 := (H8.out.kept HK2V.out (fun h => h)).cell 0
            have o1 := (H8.out.kept HK2V.out (fun h => h)).cell 1
            have o2 := (H8.out.kept HK2V.out (fun h => h)).cell 2
            have o3 := (H8.out.kept HK2V.out (fun h => h)).cell 3
            have o4 := (H8.out.kept HK2V.out (fun h => h)).cell 4
            have o5 := (H8.out.kept HK2V.out (fun h => h)).cell 5
            have o6 := (H8.out.kept HK2V.out (fun h => h)).cell 6
            have o7 := (H8.out.kept HK2V.out (fun h => h)).cell 7
            have o8 := (H8.out.kept HK2V.out (fun h => h)).cell 8
            have o9 := (H8.out.kept HK2V.out (fun h => h)).cell 9
            have o10 := (H8.out.kept HK2V.out (fun h => h)).cell 10
            have o11 := (H8.out.kept HK2V.out (fun h => h)).cell 11
            have ol := (H8.out.kept HK2V.out (fun h => h)).lt
            simp at q0 o0 q1 o1 q2 o2 q3 o3 q4 o4 q5 o5 q6 o6 q7 o7 q8 o8 q9 o9 q10 o10 q11 o11
            have p1 := (HKV.out.cell (p := ⟨w.heap.size, 0, none⟩) pl (fun h => h)).trans p0
            have pl1 := Nat.lt_of_lt_of_le pl HKV.out.size
            have g0 := (HKV.out.cell (p := ⟨w.heap.size + 1, 0, none⟩) tl (fun h => h)).trans t0
            have g1 := (HKV.out.cell (p := ⟨w.heap.size + 1, 1, none⟩) tl (fun h => h)).trans t1
            have g2 := (HKV.out.cell (p := ⟨w.heap.size + 1, 2, none⟩) tl (fun h => h)).trans t2
            have g3 := (HKV.out.cell (p := ⟨w.heap.size + 1, 3, none⟩) tl (fun h => h)).trans t3
            have g4 := (HKV.out.cell (p := ⟨w.heap.size + 1, 4, none⟩) tl (fun h => h)).trans t4
            have g5 := (HKV.out.cell (p := ⟨w.heap.size + 1, 5, none⟩) tl (fun h => h)).trans t5
            have g6 := (HKV.out.cell (p := ⟨w.heap.size + 1, 6, none⟩) tl (fun h => h)).trans t6
            have g7 := (HKV.out.cell (p := ⟨w.heap.size + 1, 7, none⟩) tl (fun h => h)).trans t7
            have g8 := (HKV.out.cell (p := ⟨w.heap.size + 1, 8, none⟩) tl (fun h => h)).trans t8
            have g9 := (HKV.out.cell (p := ⟨w.heap.size + 1, 9, none⟩) tl (fun h => h)).trans t9
            have g10 := (HKV.out.cell (p := ⟨w.heap.size + 1, 10, none⟩) tl (fun h => h)).trans t10
            have g11 := (HKV.out.cell (p := ⟨w.heap.size + 1, 11, none⟩) tl (fun h => h)).trans t11
            have gl := Nat.lt_of_lt_of_le tl HKV.out.size
            have HSM := Lib.hid (show Calls Tryd.prog 17 #[.agg #[.int .i64 f, .int .i64 pc, .int .i64 r0, .int .i64 r1, .int .i64 r2, .int .i64 r3, .int .i64 r4, .int .i64 r5, .int .i64 r6, .int .i64 r7, .slice D n cap, .bool false], .agg #[.int .i64 f, .int .i64 pc, .int .i64 r0, .int .i64 r1, .int .i64 r2, .int .i64 r3, .int .i64 r4, .int .i64 r5, .int .i64 r6, .int .i64 r7, .slice D1 n c1, .bool false]] V (fun e W' => e = .returned (.bool true) ∧ Chg (fun _ => False) V W') from by
              have h := tsame_any f pc r0 r1 r2 r3 r4 r5 r6 r7 f pc r0 r1 r2 r3 r4 r5 r6 r7 D D1 n cap n c1 false false es es V HU.out HU.out (HRD.out.kept HKV.out (fun _ _ h => h)) (HR1.out.kept HK2V.out (fun _ _ h => h)) (by omega) (by omega)
              rwa [decide_eq_true (by simp)] at h)
            go_wp2_with fail
            refine HSM.out.mono ?_
            rintro e5 v5 ⟨rfl, hc5⟩
            have HC5 := Lib.hid (HKV.out.trans hc5 (fun _ _ h => h))
            have HV5 := Lib.hid (HV.out.kept hc5 (fun h => h))
            have R5 := Lib.hid (RV.out.kept hc5 (fun _ _ h => h))
            clear hc5 q0 o0 g0 q1 o1 g1 q2 o2 g2 q3 o3 g3 q4 o4 g4 q5 o5 g5 q6 o6 g6 q7 o7 g7 q8 o8 g8 q9 o9 g9 q10 o10 g10 q11 o11 g11 ql ol p1 pl1 gl
            have p5 := (HC5.out.cell (p := ⟨w.heap.size, 0, none⟩) pl (fun h => h)).trans p0
            have pl5 := Nat.lt_of_lt_of_le pl HC5.out.size
            have q0 := HV5.out.cell 0
            have q1 := HV5.out.cell 1
            have q2 := HV5.out.cell 2
            have q3 := HV5.out.cell 3
            have q4 := HV5.out.cell 4
            have q5 := HV5.out.cell 5
            have q6 := HV5.out.cell 6
            have q7 := HV5.out.cell 7
            have q8 := HV5.out.cell 8
            have q9 := HV5.out.cell 9
            have q10 := HV5.out.cell 10
            have q11 := HV5.out.cell 11
            have ql := HV5.out.lt
            simp at q0 q1 q2 q3 q4 q5 q6 q7 q8 q9 q10 q11
            have HFI := Lib.hid (show Calls Tryd.prog 11 #[.agg #[.slice A m c], .agg #[.int .i64 f', .int .i64 pc', .int .i64 s0, .int .i64 s1, .int .i64 s2, .int .i64 s3, .int .i64 s4, .int .i64 s5, .int .i64 s6, .int .i64 s7, .slice D3 n3 c3, .bool d']] v5 (fun e W' => e = .returned (.bool true) ∧ Chg (fun _ => False) v5 W') from by
              have h := fits_any c (HPM.out v5 (HWR.out.trans HC5.out (fun _ _ h => h))) (HTB2.out v5 (HWR.out.trans HC5.out (fun _ _ h => h))) hm f' pc' s0 s1 s2 s3 s4 s5 s6 s7 D3 n3 c3 d' es' HU3.out R5.out (by have := R5.out.lenk HU3.out (by decide); omega)
              rwa [HF3.out] at h)
            go_wp2_with fail
            refine HFI.out.mono ?_
            rintro e6 v6 ⟨rfl, hc6⟩
            have HC6 := Lib.hid (HC5.out.trans hc6 (fun _ _ h => h))
            have HV6 := Lib.hid (HV5.out.kept hc6 (fun h => h))
            have R6 := Lib.hid (R5.out.kept hc6 (fun _ _ h => h))
            clear hc6 q0 q1 q2 q3 q4 q5 q6 q7 q8 q9 q10 q11 ql p5 pl5
            have q0 := HV6.out.cell 0
            have q1 := HV6.out.cell 1
            have q2 := HV6.out.cell 2
            have q3 := HV6.out.cell 3
            have q4 := HV6.out.cell 4
            have q5 := HV6.out.cell 5
            have q6 := HV6.out.cell 6
            have q7 := HV6.out.cell 7
            have q8 := HV6.out.cell 8
            have q9 := HV6.out.cell 9
            have q10 := HV6.out.cell 10
            have q11 := HV6.out.cell 11
            have ql := HV6.out.lt
            simp at q0 q1 q2 q3 q4 q5 q6 q7 q8 q9 q10 q11
            have g0 := (HC6.out.cell (p := ⟨w.heap.size + 1, 0, none⟩) tl (fun h => h)).trans t0
            have j0 := (HC6.out.frozen (p := ⟨w.heap.size + 1, 0, none⟩) tl (fun h => h)).trans (HTB.out.frozen 0)
            have g1 := (HC6.out.cell (p := ⟨w.heap.size + 1, 1, none⟩) tl (fun h => h)).trans t1
            have j1 := (HC6.out.frozen (p := ⟨w.heap.size + 1, 1, none⟩) tl (fun h => h)).trans (HTB.out.frozen 1)
            have g2 := (HC6.out.cell (p := ⟨w.heap.size + 1, 2, none⟩) tl (fun h => h)).trans t2
            have j2 := (HC6.out.frozen (p := ⟨w.heap.size + 1, 2, none⟩) tl (fun h => h)).trans (HTB.out.frozen 2)
            have g3 := (HC6.out.cell (p := ⟨w.heap.size + 1, 3, none⟩) tl (fun h => h)).trans t3
            have j3 := (HC6.out.frozen (p := ⟨w.heap.size + 1, 3, none⟩) tl (fun h => h)).trans (HTB.out.frozen 3)
            have g4 := (HC6.out.cell (p := ⟨w.heap.size + 1, 4, none⟩) tl (fun h => h)).trans t4
            have j4 := (HC6.out.frozen (p := ⟨w.heap.size + 1, 4, none⟩) tl (fun h => h)).trans (HTB.out.frozen 4)
            have g5 := (HC6.out.cell (p := ⟨w.heap.size + 1, 5, none⟩) tl (fun h => h)).trans t5
            have j5 := (HC6.out.frozen (p := ⟨w.heap.size + 1, 5, none⟩) tl (fun h => h)).trans (HTB.out.frozen 5)
            have g6 := (HC6.out.cell (p := ⟨w.heap.size + 1, 6, none⟩) tl (fun h => h)).trans t6
            have j6 := (HC6.out.frozen (p := ⟨w.heap.size + 1, 6, none⟩) tl (fun h => h)).trans (HTB.out.frozen 6)
            have g7 := (HC6.out.cell (p := ⟨w.heap.size + 1, 7, none⟩) tl (fun h => h)).trans t7
            have j7 := (HC6.out.frozen (p := ⟨w.heap.size + 1, 7, none⟩) tl (fun h => h)).trans (HTB.out.frozen 7)
            have g8 := (HC6.out.cell (p := ⟨w.heap.size + 1, 8, none⟩) tl (fun h => h)).trans t8
            have j8 := (HC6.out.frozen (p := ⟨w.heap.size + 1, 8, none⟩) tl (fun h => h)).trans (HTB.out.frozen 8)
            have g9 := (HC6.out.cell (p := ⟨w.heap.size + 1, 9, none⟩) tl (fun h => h)).trans t9
            have j9 := (HC6.out.frozen (p := ⟨w.heap.size + 1, 9, none⟩) tl (fun h => h)).trans (HTB.out.frozen 9)
            have g10 := (HC6.out.cell (p := ⟨w.heap.size + 1, 10, none⟩) tl (fun h => h)).trans t10
            have j10 := (HC6.out.frozen (p := ⟨w.heap.size + 1, 10, none⟩) tl (fun h => h)).trans (HTB.out.frozen 10)
            have g11 := (HC6.out.cell (p := ⟨w.heap.size + 1, 11, none⟩) tl (fun h => h)).trans t11
            have j11 := (HC6.out.frozen (p := ⟨w.heap.size + 1, 11, none⟩) tl (fun h => h)).trans (HTB.out.frozen 11)
            have gl := Nat.lt_of_lt_of_le tl HC6.out.size
            go_wp2
            go_roundw
            case rel =>
              refine ⟨k + 1, by omega, by go_num, Lib.hid ⟨f', pc', [s0, s1, s2, s3, s4, s5, s6, s7], D3, n3, c3, d', es', ⟨rfl, HU3.out, by omega, HF3.out, Blk.set12 _ _ _ _ _ _ _ _ _ _ _ _ (HTB.out.kept HC6.out (fun h => h)), R6.out.keptf (chg12s _ _ _ _ _ _ _ _ _ _ _ _) (fun _ g hg h => LV.out g hg h), fun _ g hg => LV.out g hg, ?_⟩⟩⟩
              exact (HCR.out.trans HC6.out (fun _ _ h => h.elim)).trans (chg12s _ _ _ _ _ _ _ _ _ _ _ _) (fun _ _ h => h)
            case measure => simp [intOf]; omega
          refine AllReadyH.cons (o := Oper.mk _ _ _ _ _ _) rfl (fun K hK => ?_) AllReadyH.nil
          go_simp
          skip
          refine hK.out _ _ ⟨(((HC12.out.alloc (.cells #[.int .i64 0, .int .i64 0, .int .i64 0, .int .i64 0, .int .i64 0, .int .i64 0, .int .i64 0, .int .i64 0, .int .i64 0, .int .i64 0, .slice none 0 0, .bool false] 28)).drew).cell (p := ⟨w.heap.size, 0, none⟩) pl (fun h => h)).trans p0, (((HC12.out.alloc (.cells #[.int .i64 0, .int .i64 0, .int .i64 0, .int .i64 0, .int .i64 0, .int .i64 0, .int .i64 0, .int .i64 0, .int .i64 0, .int .i64 0, .slice none 0 0, .bool false] 28)).drew).cell (p := ⟨w.heap.size + 1, 0, none⟩) tl (fun h => h)).trans t0, (((HC12.out.alloc (.cells #[.int .i64 0, .int .i64 0, .int .i64 0, .int .i64 0, .int .i64 0, .int .i64 0, .int .i64 0, .int .i64 0, .int .i64 0, .int .i64 0, .slice none 0 0, .bool false] 28)).drew).cell (p := ⟨w.heap.size + 1, 1, none⟩) tl (fun h => h)).trans t1, (((HC12.out.alloc (.cells #[.int .i64 0, .int .i64 0, .int .i64 0, .int .i64 0, .int .i64 0, .int .i64 0, .int .i64 0, .int .i64 0, .int .i64 0, .int .i64 0, .slice none 0 0, .bool false] 28)).drew).cell (p := ⟨w.heap.size + 1, 2, none⟩) tl (fun h => h)).trans t2, (((HC12.out.alloc (.cells #[.int .i64 0, .int .i64 0, .int .i64 0, .int .i64 0, .int .i64 0, .int .i64 0, .int .i64 0, .int .i64 0, .int .i64 0, .int .i64 0, .slice none 0 0, .bool false] 28)).drew).cell (p := ⟨w.heap.size + 1, 3, none⟩) tl (fun h => h)).trans t3, (((HC12.out.alloc (.cells #[.int .i64 0, .int .i64 0, .int .i64 0, .int .i64 0, .int .i64 0, .int .i64 0, .int .i64 0, .int .i64 0, .int .i64 0, .int .i64 0, .slice none 0 0, .bool false] 28)).drew).cell (p := ⟨w.heap.size + 1, 4, none⟩) tl (fun h => h)).trans t4, (((HC12.out.alloc (.cells #[.int .i64 0, .int .i64 0, .int .i64 0, .int .i64 0, .int .i64 0, .int .i64 0, .int .i64 0, .int .i64 0, .int .i64 0, .int .i64 0, .slice none 0 0, .bool false] 28)).drew).cell (p := ⟨w.heap.size + 1, 5, none⟩) tl (fun h => h)).trans t5, (((HC12.out.alloc (.cells #[.int .i64 0, .int .i64 0, .int .i64 0, .int .i64 0, .int .i64 0, .int .i64 0, .int .i64 0, .int .i64 0, .int .i64 0, .int .i64 0, .slice none 0 0, .bool false] 28)).drew).cell (p := ⟨w.heap.size + 1, 6, none⟩) tl (fun h => h)).trans t6, (((HC12.out.alloc (.cells #[.int .i64 0, .int .i64 0, .int .i64 0, .int .i64 0, .int .i64 0, .int .i64 0, .int .i64 0, .int .i64 0, .int .i64 0, .int .i64 0, .slice none 0 0, .bool false] 28)).drew).cell (p := ⟨w.heap.size + 1, 7, none⟩) tl (fun h => h)).trans t7, (((HC12.out.alloc (.cells #[.int .i64 0, .int .i64 0, .int .i64 0, .int .i64 0, .int .i64 0, .int .i64 0, .int .i64 0, .int .i64 0, .int .i64 0, .int .i64 0, .slice none 0 0, .bool false] 28)).drew).cell (p := ⟨w.heap.size + 1, 8, none⟩) tl (fun h => h)).trans t8, (((HC12.out.alloc (.cells #[.int .i64 0, .int .i64 0, .int .i64 0, .int .i64 0, .int .i64 0, .int .i64 0, .int .i64 0, .int .i64 0, .int .i64 0, .int .i64 0, .slice none 0 0, .bool false] 28)).drew).cell (p := ⟨w.heap.size + 1, 9, none⟩) tl (fun h => h)).trans t9, (((HC12.out.alloc (.cells #[.int .i64 0, .int .i64 0, .int .i64 0, .int .i64 0, .int .i64 0, .int .i64 0, .int .i64 0, .int .i64 0, .int .i64 0, .int .i64 0, .slice none 0 0, .bool false] 28)).drew).cell (p := ⟨w.heap.size + 1, 10, none⟩) tl (fun h => h)).trans t10, (((HC12.out.alloc (.cells #[.int .i64 0, .int .i64 0, .int .i64 0, .int .i64 0, .int .i64 0, .int .i64 0, .int .i64 0, .int .i64 0, .int .i64 0, .int .i64 0, .slice none 0 0, .bool false] 28)).drew).cell (p := ⟨w.heap.size + 1, 11, none⟩) tl (fun h => h)).trans t11, (((HC12.out.alloc (.cells #[.int .i64 0, .int .i64 0, .int .i64 0, .int .i64 0, .int .i64 0, .int .i64 0, .int .i64 0, .int .i64 0, .int .i64 0, .int .i64 0, .slice none 0 0, .bool false] 28)).drew).cell (p := ⟨bz, _, none⟩) bzl (fun h => h)).trans z0⟩ (fun hHeld => ?_)
          clear hK K
          try simp only [Act.put, List.setIfInBounds_toArray, List.set_cons_zero, List.set_cons_succ]
          refine wpAnyH_ready (rs := [6]) (by kernel_rfl) (by simp) ?_
          refine AllReadyH.cons (o := Oper.mk _ _ _ _ _ _) rfl (fun K hK => ?_) AllReadyH.nil
          go_simp
          go_at_call 10; refine (HST.out (v2.alloc (.cells #[.int .i64 0, .int .i64 0, .int .i64 0, .int .i64 0, .int .i64 0, .int .i64 0, .int .i64 0, .int .i64 0, .int .i64 0, .int .i64 0, .slice none 0 0, .bool false] 28)).drew (HC12.out.alloc (.cells #[.int .i64 0, .int .i64 0, .int .i64 0, .int .i64 0, .int .i64 0, .int .i64 0, .int .i64 0, .int .i64 0, .int .i64 0, .int .i64 0, .slice none 0 0, .bool false] 28)).drew).mono ?_; rintro e3 v3 ⟨D3, n3, c3, rfl, hr3, hc3⟩; have HC3 := Lib.hid ((HC12.out.alloc (.cells #[.int .i64 0, .int .i64 0, .int .i64 0, .int .i64 0, .int .i64 0, .int .i64 0, .int .i64 0, .int .i64 0, .int .i64 0, .int .i64 0, .slice none 0 0, .bool false] 28)).drew.trans hc3 (fun _ _ h => h)); have HK23 : Hid (Chg (fun _ => False) v2 v3) := Lib.hid (((Chg.refl (fun _ => False) v2).alloc (.cells #[.int .i64 0, .int .i64 0, .int .i64 0, .int .i64 0, .int .i64 0, .int .i64 0, .int .i64 0, .int .i64 0, .int .i64 0, .int .i64 0, .slice none 0 0, .bool false] 28)).drew.trans hc3 (fun _ _ h => h)); have HR3 := Lib.hid hr3; have hzb := ((Blk.new v2 28 #[.int .i64 0, .int .i64 0, .int .i64 0, .int .i64 0, .int .i64 0, .int .i64 0, .int .i64 0, .int .i64 0, .int .i64 0, .int .i64 0, .slice none 0 0, .bool false]).drew).kept hc3 (fun h => h); have ZB := Lib.hid hzb; have z100 := hzb.cell 0; have y100 := hzb.frozen 0; have z101 := hzb.cell 1; have y101 := hzb.frozen 1; have z102 := hzb.cell 2; have y102 := hzb.frozen 2; have z103 := hzb.cell 3; have y103 := hzb.frozen 3; have z104 := hzb.cell 4; have y104 := hzb.frozen 4; have z105 := hzb.cell 5; have y105 := hzb.frozen 5; have z106 := hzb.cell 6; have y106 := hzb.frozen 6; have z107 := hzb.cell 7; have y107 := hzb.frozen 7; have z108 := hzb.cell 8; have y108 := hzb.frozen 8; have z109 := hzb.cell 9; have y109 := hzb.frozen 9; have z110 := hzb.cell 10; have y110 := hzb.frozen 10; have z111 := hzb.cell 11; have y111 := hzb.frozen 11; have zl100 := hzb.lt; simp at z100 z101 z102 z103 z104 z105 z106 z107 z108 z109 z110 z111; clear hzb;  clear hc3 hr3; have hs3 : v3.cell? ⟨w.heap.size, 0, none⟩ = some (.slice A m c) ∧ v3.cell? ⟨w.heap.size + 1, 0, none⟩ = some (.int .i64 f) ∧ v3.cell? ⟨w.heap.size + 1, 1, none⟩ = some (.int .i64 pc) ∧ v3.cell? ⟨w.heap.size + 1, 2, none⟩ = some (.int .i64 r0) ∧ v3.cell? ⟨w.heap.size + 1, 3, none⟩ = some (.int .i64 r1) ∧ v3.cell? ⟨w.heap.size + 1, 4, none⟩ = some (.int .i64 r2) ∧ v3.cell? ⟨w.heap.size + 1, 5, none⟩ = some (.int .i64 r3) ∧ v3.cell? ⟨w.heap.size + 1, 6, none⟩ = some (.int .i64 r4) ∧ v3.cell? ⟨w.heap.size + 1, 7, none⟩ = some (.int .i64 r5) ∧ v3.cell? ⟨w.heap.size + 1, 8, none⟩ = some (.int .i64 r6) ∧ v3.cell? ⟨w.heap.size + 1, 9, none⟩ = some (.int .i64 r7) ∧ v3.cell? ⟨w.heap.size + 1, 10, none⟩ = some (.slice D n cap) ∧ v3.cell? ⟨w.heap.size + 1, 11, none⟩ = some (.bool false) ∧ v3.cell? ⟨bz, oz + k, none⟩ = some (.int .i64 z) := ⟨(HC3.out.cell (p := ⟨w.heap.size, 0, none⟩) pl (fun h => h)).trans p0, (HC3.out.cell (p := ⟨w.heap.size + 1, 0, none⟩) tl (fun h => h)).trans t0, (HC3.out.cell (p := ⟨w.heap.size + 1, 1, none⟩) tl (fun h => h)).trans t1, (HC3.out.cell (p := ⟨w.heap.size + 1, 2, none⟩) tl (fun h => h)).trans t2, (HC3.out.cell (p := ⟨w.heap.size + 1, 3, none⟩) tl (fun h => h)).trans t3, (HC3.out.cell (p := ⟨w.heap.size + 1, 4, none⟩) tl (fun h => h)).trans t4, (HC3.out.cell (p := ⟨w.heap.size + 1, 5, none⟩) tl (fun h => h)).trans t5, (HC3.out.cell (p := ⟨w.heap.size + 1, 6, none⟩) tl (fun h => h)).trans t6, (HC3.out.cell (p := ⟨w.heap.size + 1, 7, none⟩) tl (fun h => h)).trans t7, (HC3.out.cell (p := ⟨w.heap.size + 1, 8, none⟩) tl (fun h => h)).trans t8, (HC3.out.cell (p := ⟨w.heap.size + 1, 9, none⟩) tl (fun h => h)).trans t9, (HC3.out.cell (p := ⟨w.heap.size + 1, 10, none⟩) tl (fun h => h)).trans t10, (HC3.out.cell (p := ⟨w.heap.size + 1, 11, none⟩) tl (fun h => h)).trans t11, (HC3.out.cell (p := ⟨bz, _, none⟩) bzl (fun h => h)).trans z0⟩
          refine hK.out _ _ hs3 (fun hHeld => ?_)
          clear hK K
          try simp only [Act.put, List.setIfInBounds_toArray, List.set_cons_zero, List.set_cons_succ]
          refine wpAnyH_take (i := 7) (oi := Oper.mk _ _ _ _ _ _) (v := ?v16) rfl (by kernel_rfl) (by kernel_rfl) (by kernel_rfl) (fun _ _ _ h => h) (Or.inl ⟨by rfl, ?hy16⟩) (by assumption) ?rs16
          case hy16 => (intro w hSw; (try dsimp only at hSw); first | (go_simp <;> with_reducible rfl) | rfl)
          try simp only [Act.put, List.setIfInBounds_toArray, List.set_cons_zero, List.set_cons_succ]
          refine wpAnyH_take (i := 8) (oi := Oper.mk _ _ _ _ _ _) (v := ?v17) rfl (by kernel_rfl) (by kernel_rfl) (by kernel_rfl) (fun _ _ _ h => h) (Or.inl ⟨by rfl, ?hy17⟩) (by assumption) ?rs17
          case hy17 => (intro w hSw; (try dsimp only at hSw); first | (go_simp <;> with_reducible rfl) | rfl)
          try simp only [Act.put, List.setIfInBounds_toArray, List.set_cons_zero, List.set_cons_succ]
          refine wpAnyH_take (i := 9) (oi := Oper.mk _ _ _ _ _ _) (v := ?v18) rfl (by kernel_rfl) (by kernel_rfl) (by kernel_rfl) (fun _ _ _ h => h) (Or.inl ⟨by rfl, ?hy18⟩) (by assumption) ?rs18
          case hy18 => (intro w hSw; (try dsimp only at hSw); first | (go_simp <;> with_reducible rfl) | rfl)
          try simp only [Act.put, List.setIfInBounds_toArray, List.set_cons_zero, List.set_cons_succ]
          refine wpAnyH_take (i := 10) (oi := Oper.mk _ _ _ _ _ _) (v := ?v19) rfl (by kernel_rfl) (by kernel_rfl) (by kernel_rfl) (fun _ _ _ h => h) (Or.inl ⟨by rfl, ?hy19⟩) (by assumption) ?rs19
          case hy19 => (intro w hSw; (try dsimp only at hSw); first | (go_simp <;> with_reducible rfl) | rfl)
          try simp only [Act.put, List.setIfInBounds_toArray, List.set_cons_zero, List.set_cons_succ]
          refine wpAnyH_ready (rs := [12]) (by kernel_rfl) (by simp) ?_
          refine AllReadyH.cons (o := Oper.mk _ _ _ _ _ _) rfl (fun K hK => ?_) AllReadyH.nil
          go_simp
          skip
          refine hK.out _ _ (by have hq : Chg (fun _ => False) wr ((((((((((((v3.setCell ⟨v2.heap.size, 0, none⟩ (.int .i64 f')).setCell ⟨v2.heap.size, 1, none⟩ (.int .i64 pc')).setCell ⟨v2.heap.size, 2, none⟩ (.int .i64 s0)).setCell ⟨v2.heap.size, 3, none⟩ (.int .i64 s1)).setCell ⟨v2.heap.size, 4, none⟩ (.int .i64 s2)).setCell ⟨v2.heap.size, 5, none⟩ (.int .i64 s3)).setCell ⟨v2.heap.size, 6, none⟩ (.int .i64 s4)).setCell ⟨v2.heap.size, 7, none⟩ (.int .i64 s5)).setCell ⟨v2.heap.size, 8, none⟩ (.int .i64 s6)).setCell ⟨v2.heap.size, 9, none⟩ (.int .i64 s7)).setCell ⟨v2.heap.size, 10, none⟩ (.slice D3 n3 c3)).setCell ⟨v2.heap.size, 11, none⟩ (.bool d')) := HC3.out.trans (chg12s _ _ _ _ _ _ _ _ _ _ _ _) (fun k hk h => by have h' : k = v2.heap.size := h; have := HC12.out.size; omega); exact ⟨(hq.cell (p := ⟨w.heap.size, 0, none⟩) pl (fun h => h)).trans p0, (hq.cell (p := ⟨w.heap.size + 1, 0, none⟩) tl (fun h => h)).trans t0, (hq.cell (p := ⟨w.heap.size + 1, 1, none⟩) tl (fun h => h)).trans t1, (hq.cell (p := ⟨w.heap.size + 1, 2, none⟩) tl (fun h => h)).trans t2, (hq.cell (p := ⟨w.heap.size + 1, 3, none⟩) tl (fun h => h)).trans t3, (hq.cell (p := ⟨w.heap.size + 1, 4, none⟩) tl (fun h => h)).trans t4, (hq.cell (p := ⟨w.heap.size + 1, 5, none⟩) tl (fun h => h)).trans t5, (hq.cell (p := ⟨w.heap.size + 1, 6, none⟩) tl (fun h => h)).trans t6, (hq.cell (p := ⟨w.heap.size + 1, 7, none⟩) tl (fun h => h)).trans t7, (hq.cell (p := ⟨w.heap.size + 1, 8, none⟩) tl (fun h => h)).trans t8, (hq.cell (p := ⟨w.heap.size + 1, 9, none⟩) tl (fun h => h)).trans t9, (hq.cell (p := ⟨w.heap.size + 1, 10, none⟩) tl (fun h => h)).trans t10, (hq.cell (p := ⟨w.heap.size + 1, 11, none⟩) tl (fun h => h)).trans t11, (hq.cell (p := ⟨bz, _, none⟩) bzl (fun h => h)).trans z0⟩) (fun hHeld => ?_)
          clear hK K
          try simp only [Act.put, List.setIfInBounds_toArray, List.set_cons_zero, List.set_cons_succ]
          refine wpAnyH_take (i := 13) (oi := Oper.mk _ _ _ _ _ _) (v := ?v21) rfl (by kernel_rfl) (by kernel_rfl) (by kernel_rfl) (fun _ _ _ h => h) (Or.inl ⟨by rfl, ?hy21⟩) (by assumption) ?rs21
          case hy21 => (intro w hSw; (try dsimp only at hSw); first | (go_simp <;> with_reducible rfl) | rfl)
          try simp only [Act.put, List.setIfInBounds_toArray, List.set_cons_zero, List.set_cons_succ]
          refine wpAnyH_take (i := 14) (oi := Oper.mk _ _ _ _ _ _) (v := ?v22) rfl (by kernel_rfl) (by kernel_rfl) (by kernel_rfl) (fun _ _ _ h => h) (Or.inl ⟨by rfl, ?hy22⟩) (by assumption) ?rs22
          case hy22 => (intro w hSw; (try dsimp only at hSw); first | (go_simp <;> with_reducible rfl) | rfl)
          try simp only [Act.put, List.setIfInBounds_toArray, List.set_cons_zero, List.set_cons_succ]
          refine wpAnyH_done (by kernel_rfl) ?_ _
          have HV : Hid (Blk ((((((((((((v3.setCell ⟨v2.heap.size, 0, none⟩ (.int .i64 f')).setCell ⟨v2.heap.size, 1, none⟩ (.int .i64 pc')).setCell ⟨v2.heap.size, 2, none⟩ (.int .i64 s0)).setCell ⟨v2.heap.size, 3, none⟩ (.int .i64 s1)).setCell ⟨v2.heap.size, 4, none⟩ (.int .i64 s2)).setCell ⟨v2.heap.size, 5, none⟩ (.int .i64 s3)).setCell ⟨v2.heap.size, 6, none⟩ (.int .i64 s4)).setCell ⟨v2.heap.size, 7, none⟩ (.int .i64 s5)).setCell ⟨v2.heap.size, 8, none⟩ (.int .i64 s6)).setCell ⟨v2.heap.size, 9, none⟩ (.int .i64 s7)).setCell ⟨v2.heap.size, 10, none⟩ (.slice D3 n3 c3)).setCell ⟨v2.heap.size, 11, none⟩ (.bool d')) v2.heap.size 28 #[.int .i64 f', .int .i64 pc', .int .i64 s0, .int .i64 s1, .int .i64 s2, .int .i64 s3, .int .i64 s4, .int .i64 s5, .int .i64 s6, .int .i64 s7, .slice D3 n3 c3, .bool d']) := Lib.hid (Blk.set12 _ _ _ _ _ _ _ _ _ _ _ _ ZB.out)
          have hkv : Chg (fun g => g = v2.heap.size) v3 ((((((((((((v3.setCell ⟨v2.heap.size, 0, none⟩ (.int .i64 f')).setCell ⟨v2.heap.size, 1, none⟩ (.int .i64 pc')).setCell ⟨v2.heap.size, 2, none⟩ (.int .i64 s0)).setCell ⟨v2.heap.size, 3, none⟩ (.int .i64 s1)).setCell ⟨v2.heap.size, 4, none⟩ (.int .i64 s2)).setCell ⟨v2.heap.size, 5, none⟩ (.int .i64 s3)).setCell ⟨v2.heap.size, 6, none⟩ (.int .i64 s4)).setCell ⟨v2.heap.size, 7, none⟩ (.int .i64 s5)).setCell ⟨v2.heap.size, 8, none⟩ (.int .i64 s6)).setCell ⟨v2.heap.size, 9, none⟩ (.int .i64 s7)).setCell ⟨v2.heap.size, 10, none⟩ (.slice D3 n3 c3)).setCell ⟨v2.heap.size, 11, none⟩ (.bool d')) := chg12s _ _ _ _ _ _ _ _ _ _ _ _
          have HKV : Hid (Chg (fun _ => False) wr ((((((((((((v3.setCell ⟨v2.heap.size, 0, none⟩ (.int .i64 f')).setCell ⟨v2.heap.size, 1, none⟩ (.int .i64 pc')).setCell ⟨v2.heap.size, 2, none⟩ (.int .i64 s0)).setCell ⟨v2.heap.size, 3, none⟩ (.int .i64 s1)).setCell ⟨v2.heap.size, 4, none⟩ (.int .i64 s2)).setCell ⟨v2.heap.size, 5, none⟩ (.int .i64 s3)).setCell ⟨v2.heap.size, 6, none⟩ (.int .i64 s4)).setCell ⟨v2.heap.size, 7, none⟩ (.int .i64 s5)).setCell ⟨v2.heap.size, 8, none⟩ (.int .i64 s6)).setCell ⟨v2.heap.size, 9, none⟩ (.int .i64 s7)).setCell ⟨v2.heap.size, 10, none⟩ (.slice D3 n3 c3)).setCell ⟨v2.heap.size, 11, none⟩ (.bool d'))) := Lib.hid (HC3.out.trans hkv (fun k hk h => by have h' : k = v2.heap.size := h; have := HC12.out.size; omega))
          have RV : Hid (Rd ((((((((((((v3.setCell ⟨v2.heap.size, 0, none⟩ (.int .i64 f')).setCell ⟨v2.heap.size, 1, none⟩ (.int .i64 pc')).setCell ⟨v2.heap.size, 2, none⟩ (.int .i64 s0)).setCell ⟨v2.heap.size, 3, none⟩ (.int .i64 s1)).setCell ⟨v2.heap.size, 4, none⟩ (.int .i64 s2)).setCell ⟨v2.heap.size, 5, none⟩ (.int .i64 s3)).setCell ⟨v2.heap.size, 6, none⟩ (.int .i64 s4)).setCell ⟨v2.heap.size, 7, none⟩ (.int .i64 s5)).setCell ⟨v2.heap.size, 8, none⟩ (.int .i64 s6)).setCell ⟨v2.heap.size, 9, none⟩ (.int .i64 s7)).setCell ⟨v2.heap.size, 10, none⟩ (.slice D3 n3 c3)).setCell ⟨v2.heap.size, 11, none⟩ (.bool d')) 2 D3 n3 (kv es')) := Lib.hid (HR3.out.rd.keptf hkv (fun _ g hg h => by have h1 := (HR3.out.blk_lt g hg).1; have h' : g = v2.heap.size := h; simp at h1; omega))
          have LV : Hid (∀ g, blk D3 = some g → g ≠ w.heap.size + 1) := Lib.hid (fun g hg h => by have h1 := (HR3.out.blk_lt g hg).1; have h2 := HC12.out.size; simp at h1; omega)
          have HK2V : Hid (Chg (fun _ => False) v2 ((((((((((((v3.setCell ⟨v2.heap.size, 0, none⟩ (.int .i64 f')).setCell ⟨v2.heap.size, 1, none⟩ (.int .i64 pc')).setCell ⟨v2.heap.size, 2, none⟩ (.int .i64 s0)).setCell ⟨v2.heap.size, 3, none⟩ (.int .i64 s1)).setCell ⟨v2.heap.size, 4, none⟩ (.int .i64 s2)).setCell ⟨v2.heap.size, 5, none⟩ (.int .i64 s3)).setCell ⟨v2.heap.size, 6, none⟩ (.int .i64 s4)).setCell ⟨v2.heap.size, 7, none⟩ (.int .i64 s5)).setCell ⟨v2.heap.size, 8, none⟩ (.int .i64 s6)).setCell ⟨v2.heap.size, 9, none⟩ (.int .i64 s7)).setCell ⟨v2.heap.size, 10, none⟩ (.slice D3 n3 c3)).setCell ⟨v2.heap.size, 11, none⟩ (.bool d'))) := Lib.hid (HK23.out.trans hkv (fun k hk h => by have h' : k = v2.heap.size := h; omega))
          obtain ⟨V, hV⟩ : ∃ V, V = ((((((((((((v3.setCell ⟨v2.heap.size, 0, none⟩ (.int .i64 f')).setCell ⟨v2.heap.size, 1, none⟩ (.int .i64 pc')).setCell ⟨v2.heap.size, 2, none⟩ (.int .i64 s0)).setCell ⟨v2.heap.size, 3, none⟩ (.int .i64 s1)).setCell ⟨v2.heap.size, 4, none⟩ (.int .i64 s2)).setCell ⟨v2.heap.size, 5, none⟩ (.int .i64 s3)).setCell ⟨v2.heap.size, 6, none⟩ (.int .i64 s4)).setCell ⟨v2.heap.size, 7, none⟩ (.int .i64 s5)).setCell ⟨v2.heap.size, 8, none⟩ (.int .i64 s6)).setCell ⟨v2.heap.size, 9, none⟩ (.int .i64 s7)).setCell ⟨v2.heap.size, 10, none⟩ (.slice D3 n3 c3)).setCell ⟨v2.heap.size, 11, none⟩ (.bool d')) := ⟨_, rfl⟩
          obtain ⟨X9, hX9⟩ : ∃ X9, X9 = v2.heap.size := ⟨_, rfl⟩
          rw [← hV, ← hX9] at HV
          rw [← hV] at HKV RV HK2V
          rw [← hV, ← hX9]
          clear hV hX9 hkv
          have q0 := HV.out.cell 0
          have q1 := HV.out.cell 1
          have q2 := HV.out.cell 2
          have q3 := HV.out.cell 3
          have q4 := HV.out.cell 4
          have q5 := HV.out.cell 5
          have q6 := HV.out.cell 6
          have q7 := HV.out.cell 7
          have q8 := HV.out.cell 8
          have q9 := HV.out.cell 9
          have q10 := HV.out.cell 10
          have q11 := HV.out.cell 11
          have ql := HV.out.lt
          have o0 := (H8.out.kept HK2V.out (fun h => h)).cell 0
          have o1 := (H8.out.kept HK2V.out (fun h => h)).cell 1
          have o2 := (H8.out.kept HK2V.out (fun h => h)).cell 2
          have o3 := (H8.out.kept HK2V.out (fun h => h)).cell 3
          have o4 := (H8.out.kept HK2V.out (fun h => h)).cell 4
          have o5 := (H8.out.kept HK2V.out (fun h => h)).cell 5
          have o6 := (H8.out.kept HK2V.out (fun h => h)).cell 6
          have o7 := (H8.out.kept HK2V.out (fun h => h)).cell 7
          have o8 := (H8.out.kept HK2V.out (fun h => h)).cell 8
          have o9 := (H8.out.kept HK2V.out (fun h => h)).cell 9
          have o10 := (H8.out.kept HK2V.out (fun h => h)).cell 10
          have o11 := (H8.out.kept HK2V.out (fun h => h)).cell 11
          have ol := (H8.out.kept HK2V.out (fun h => h)).lt
          simp at q0 o0 q1 o1 q2 o2 q3 o3 q4 o4 q5 o5 q6 o6 q7 o7 q8 o8 q9 o9 q10 o10 q11 o11
          have p1 := (HKV.out.cell (p := ⟨w.heap.size, 0, none⟩) pl (fun h => h)).trans p0
          have pl1 := Nat.lt_of_lt_of_le pl HKV.out.size
          have g0 := (HKV.out.cell (p := ⟨w.heap.size + 1, 0, none⟩) tl (fun h => h)).trans t0
          have g1 := (HKV.out.cell (p := ⟨w.heap.size + 1, 1, none⟩) tl (fun h => h)).trans t1
          have g2 := (HKV.out.cell (p := ⟨w.heap.size + 1, 2, none⟩) tl (fun h => h)).trans t2
          have g3 := (HKV.out.cell (p := ⟨w.heap.size + 1, 3, none⟩) tl (fun h => h)).trans t3
          have g4 := (HKV.out.cell (p := ⟨w.heap.size + 1, 4, none⟩) tl (fun h => h)).trans t4
          have g5 := (HKV.out.cell (p := ⟨w.heap.size + 1, 5, none⟩) tl (fun h => h)).trans t5
          have g6 := (HKV.out.cell (p := ⟨w.heap.size + 1, 6, none⟩) tl (fun h => h)).trans t6
          have g7 := (HKV.out.cell (p := ⟨w.heap.size + 1, 7, none⟩) tl (fun h => h)).trans t7
          have g8 := (HKV.out.cell (p := ⟨w.heap.size + 1, 8, none⟩) tl (fun h => h)).trans t8
          have g9 := (HKV.out.cell (p := ⟨w.heap.size + 1, 9, none⟩) tl (fun h => h)).trans t9
          have g10 := (HKV.out.cell (p := ⟨w.heap.size + 1, 10, none⟩) tl (fun h => h)).trans t10
          have g11 := (HKV.out.cell (p := ⟨w.heap.size + 1, 11, none⟩) tl (fun h => h)).trans t11
          have gl := Nat.lt_of_lt_of_le tl HKV.out.size
          have HSM := Lib.hid (show Calls Tryd.prog 17 #[.agg #[.int .i64 f, .int .i64 pc, .int .i64 r0, .int .i64 r1, .int .i64 r2, .int .i64 r3, .int .i64 r4, .int .i64 r5, .int .i64 r6, .int .i64 r7, .slice D n cap, .bool false], .agg #[.int .i64 f, .int .i64 pc, .int .i64 r0, .int .i64 r1, .int .i64 r2, .int .i64 r3, .int .i64 r4, .int .i64 r5, .int .i64 r6, .int .i64 r7, .slice D1 n c1, .bool false]] V (fun e W' => e = .returned (.bool true) ∧ Chg (fun _ => False) V W') from by
            have h := tsame_any f pc r0 r1 r2 r3 r4 r5 r6 r7 f pc r0 r1 r2 r3 r4 r5 r6 r7 D D1 n cap n c1 false false es es V HU.out HU.out (HRD.out.kept HKV.out (fun _ _ h => h)) (HR1.out.kept HK2V.out (fun _ _ h => h)) (by omega) (by omega)
            rwa [decide_eq_true (by simp)] at h)
          go_wp2_with fail
          refine HSM.out.mono ?_
          rintro e5 v5 ⟨rfl, hc5⟩
          have HC5 := Lib.hid (HKV.out.trans hc5 (fun _ _ h => h))
          have HV5 := Lib.hid (HV.out.kept hc5 (fun h => h))
          have R5 := Lib.hid (RV.out.kept hc5 (fun _ _ h => h))
          clear hc5 q0 o0 g0 q1 o1 g1 q2 o2 g2 q3 o3 g3 q4 o4 g4 q5 o5 g5 q6 o6 g6 q7 o7 g7 q8 o8 g8 q9 o9 g9 q10 o10 g10 q11 o11 g11 ql ol p1 pl1 gl
          have p5 := (HC5.out.cell (p := ⟨w.heap.size, 0, none⟩) pl (fun h => h)).trans p0
          have pl5 := Nat.lt_of_lt_of_le pl HC5.out.size
          have q0 := HV5.out.cell 0
          have q1 := HV5.out.cell 1
          have q2 := HV5.out.cell 2
          have q3 := HV5.out.cell 3
          have q4 := HV5.out.cell 4
          have q5 := HV5.out.cell 5
          have q6 := HV5.out.cell 6
          have q7 := HV5.out.cell 7
          have q8 := HV5.out.cell 8
          have q9 := HV5.out.cell 9
          have q10 := HV5.out.cell 10
          have q11 := HV5.out.cell 11
          have ql := HV5.out.lt
          simp at q0 q1 q2 q3 q4 q5 q6 q7 q8 q9 q10 q11
          have HFI := Lib.hid (show Calls Tryd.prog 11 #[.agg #[.slice A m c], .agg #[.int .i64 f', .int .i64 pc', .int .i64 s0, .int .i64 s1, .int .i64 s2, .int .i64 s3, .int .i64 s4, .int .i64 s5, .int .i64 s6, .int .i64 s7, .slice D3 n3 c3, .bool d']] v5 (fun e W' => e = .returned (.bool true) ∧ Chg (fun _ => False) v5 W') from by
            have h := fits_any c (HPM.out v5 (HWR.out.trans HC5.out (fun _ _ h => h))) (HTB2.out v5 (HWR.out.trans HC5.out (fun _ _ h => h))) hm f' pc' s0 s1 s2 s3 s4 s5 s6 s7 D3 n3 c3 d' es' HU3.out R5.out (by have := R5.out.lenk HU3.out (by decide); omega)
            rwa [HF3.out] at h)
          go_wp2_with fail
          refine HFI.out.mono ?_
          rintro e6 v6 ⟨rfl, hc6⟩
          have HC6 := Lib.hid (HC5.out.trans hc6 (fun _ _ h => h))
          have HV6 := Lib.hid (HV5.out.kept hc6 (fun h => h))
          have R6 := Lib.hid (R5.out.kept hc6 (fun _ _ h => h))
          clear hc6 q0 q1 q2 q3 q4 q5 q6 q7 q8 q9 q10 q11 ql p5 pl5
          have q0 := HV6.out.cell 0
          have q1 := HV6.out.cell 1
          have q2 := HV6.out.cell 2
          have q3 := HV6.out.cell 3
          have q4 := HV6.out.cell 4
          have q5 := HV6.out.cell 5
          have q6 := HV6.out.cell 6
          have q7 := HV6.out.cell 7
          have q8 := HV6.out.cell 8
          have q9 := HV6.out.cell 9
          have q10 := HV6.out.cell 10
          have q11 := HV6.out.cell 11
          have ql := HV6.out.lt
          simp at q0 q1 q2 q3 q4 q5 q6 q7 q8 q9 q10 q11
          have g0 := (HC6.out.cell (p := ⟨w.heap.size + 1, 0, none⟩) tl (fun h => h)).trans t0
          have j0 := (HC6.out.frozen (p := ⟨w.heap.size + 1, 0, none⟩) tl (fun h => h)).trans (HTB.out.frozen 0)
          have g1 := (HC6.out.cell (p := ⟨w.heap.size + 1, 1, none⟩) tl (fun h => h)).trans t1
          have j1 := (HC6.out.frozen (p := ⟨w.heap.size + 1, 1, none⟩) tl (fun h => h)).trans (HTB.out.frozen 1)
          have g2 := (HC6.out.cell (p := ⟨w.heap.size + 1, 2, none⟩) tl (fun h => h)).trans t2
          have j2 := (HC6.out.frozen (p := ⟨w.heap.size + 1, 2, none⟩) tl (fun h => h)).trans (HTB.out.frozen 2)
          have g3 := (HC6.out.cell (p := ⟨w.heap.size + 1, 3, none⟩) tl (fun h => h)).trans t3
          have j3 := (HC6.out.frozen (p := ⟨w.heap.size + 1, 3, none⟩) tl (fun h => h)).trans (HTB.out.frozen 3)
          have g4 := (HC6.out.cell (p := ⟨w.heap.size + 1, 4, none⟩) tl (fun h => h)).trans t4
          have j4 := (HC6.out.frozen (p := ⟨w.heap.size + 1, 4, none⟩) tl (fun h => h)).trans (HTB.out.frozen 4)
          have g5 := (HC6.out.cell (p := ⟨w.heap.size + 1, 5, none⟩) tl (fun h => h)).trans t5
          have j5 := (HC6.out.frozen (p := ⟨w.heap.size + 1, 5, none⟩) tl (fun h => h)).trans (HTB.out.frozen 5)
          have g6 := (HC6.out.cell (p := ⟨w.heap.size + 1, 6, none⟩) tl (fun h => h)).trans t6
          have j6 := (HC6.out.frozen (p := ⟨w.heap.size + 1, 6, none⟩) tl (fun h => h)).trans (HTB.out.frozen 6)
          have g7 := (HC6.out.cell (p := ⟨w.heap.size + 1, 7, none⟩) tl (fun h => h)).trans t7
          have j7 := (HC6.out.frozen (p := ⟨w.heap.size + 1, 7, none⟩) tl (fun h => h)).trans (HTB.out.frozen 7)
          have g8 := (HC6.out.cell (p := ⟨w.heap.size + 1, 8, none⟩) tl (fun h => h)).trans t8
          have j8 := (HC6.out.frozen (p := ⟨w.heap.size + 1, 8, none⟩) tl (fun h => h)).trans (HTB.out.frozen 8)
          have g9 := (HC6.out.cell (p := ⟨w.heap.size + 1, 9, none⟩) tl (fun h => h)).trans t9
          have j9 := (HC6.out.frozen (p := ⟨w.heap.size + 1, 9, none⟩) tl (fun h => h)).trans (HTB.out.frozen 9)
          have g10 := (HC6.out.cell (p := ⟨w.heap.size + 1, 10, none⟩) tl (fun h => h)).trans t10
          have j10 := (HC6.out.frozen (p := ⟨w.heap.size + 1, 10, none⟩) tl (fun h => h)).trans (HTB.out.frozen 10)
          have g11 := (HC6.out.cell (p := ⟨w.heap.size + 1, 11, none⟩) tl (fun h => h)).trans t11
          have j11 := (HC6.out.frozen (p := ⟨w.heap.size + 1, 11, none⟩) tl (fun h => h)).trans (HTB.out.frozen 11)
          have gl := Nat.lt_of_lt_of_le tl HC6.out.size
          go_wp2
          go_roundw
          case rel =>
            refine ⟨k + 1, by omega, by go_num, Lib.hid ⟨f', pc', [s0, s1, s2, s3, s4, s5, s6, s7], D3, n3, c3, d', es', ⟨rfl, HU3.out, by omega, HF3.out, Blk.set12 _ _ _ _ _ _ _ _ _ _ _ _ (HTB.out.kept HC6.out (fun h => h)), R6.out.keptf (chg12s _ _ _ _ _ _ _ _ _ _ _ _) (fun _ g hg h => LV.out g hg h), fun _ g hg => LV.out g hg, ?_⟩⟩⟩
            exact (HCR.out.trans HC6.out (fun _ _ h => h.elim)).trans (chg12s _ _ _ _ _ _ _ _ _ _ _ _) (fun _ _ h => h)
          case measure => simp [intOf]; omega
        | true =>
          have HRD := Lib.hid hSt.r
          have HFR := Lib.hid hSt.far
          have HCR := Lib.hid hSt.ch
          have HU := Lib.hid hSt.u
          have HWR := Lib.hid (HCW.out wr hSt.ch)
          have hle := hSt.le
          have hln := hSt.r.lenk hSt.u (by decide)
          have hBr := HB2.out.kept hSt.ch (show ¬ w.heap.size = w.heap.size + 1 by omega)
          have HTB := Lib.hid hSt.b
          have p0 := hBr.cell 0
          have pl := hBr.lt
          have t0 := hSt.b.cell 0
          have t1 := hSt.b.cell 1
          have t2 := hSt.b.cell 2
          have t3 := hSt.b.cell 3
          have t4 := hSt.b.cell 4
          have t5 := hSt.b.cell 5
          have t6 := hSt.b.cell 6
          have t7 := hSt.b.cell 7
          have t8 := hSt.b.cell 8
          have t9 := hSt.b.cell 9
          have t10 := hSt.b.cell 10
          have t11 := hSt.b.cell 11
          have tl := hSt.b.lt
          simp at p0 t0 t1 t2 t3 t4 t5 t6 t7 t8 t9 t10 t11
          obtain ⟨bz, oz, hBz, bzl0, hzz⟩ := (HZR.out wr HWR.out).at_ (by omega)
          subst hBz
          have z0 := hzz k hkz
          have bzl := bzl0
          generalize zs[k] = z at *
          clear hzz hBr bzl0
          have he' : es.length ≤ 40 := hle
          obtain ⟨num, hnum⟩ : ∃ num : Int, num = 0 := ⟨_, rfl⟩
          have HST := Lib.hid (fun (V : World) (hc : Chg (fun _ => False) wr V) => by
            have h := step_done c (HPM.out V (HWR.out.trans hc (fun _ _ h => h))) (HTB2.out V (HWR.out.trans hc (fun _ _ h => h))) hm f pc r0 r1 r2 r3 r4 r5 r6 r7 z D n cap es HU.out (HRD.out.kept hc (fun _ _ h => h)) (by omega) hSt.fit
            rwa [← hnum] at h)
          have HU3 := HU
          have HF3 := Lib.hid hSt.fit
          have HFT := Lib.hid hSt.fit
          clear hSt hnum
          go_wp2_with fail
          refine (tclone_any f pc r0 r1 r2 r3 r4 r5 r6 r7 D n cap true es wr HU.out HRD.out (by omega)).mono ?_
          rintro e1 v1 ⟨D1, c1, rfl, hr1, hc1⟩
          obtain ⟨v2, hv2⟩ : ∃ v2, v1.alloc (.cells #[.int .i64 f, .int .i64 pc, .int .i64 r0, .int .i64 r1, .int .i64 r2, .int .i64 r3, .int .i64 r4, .int .i64 r5, .int .i64 r6, .int .i64 r7, .slice D1 n c1, .bool true] 28) = v2 := ⟨_, rfl⟩
          have h8 : Blk v2 v1.heap.size 28 #[.int .i64 f, .int .i64 pc, .int .i64 r0, .int .i64 r1, .int .i64 r2, .int .i64 r3, .int .i64 r4, .int .i64 r5, .int .i64 r6, .int .i64 r7, .slice D1 n c1, .bool true] := hv2 ▸ Blk.new v1 28 #[.int .i64 f, .int .i64 pc, .int .i64 r0, .int .i64 r1, .int .i64 r2, .int .i64 r3, .int .i64 r4, .int .i64 r5, .int .i64 r6, .int .i64 r7, .slice D1 n c1, .bool true]
          have hc2 : Chg (fun _ => False) wr v2 := hv2 ▸ hc1.alloc (.cells #[.int .i64 f, .int .i64 pc, .int .i64 r0, .int .i64 r1, .int .i64 r2, .int .i64 r3, .int .i64 r4, .int .i64 r5, .int .i64 r6, .int .i64 r7, .slice D1 n c1, .bool true] 28)
          have HR1 : Hid (Rd v2 2 D1 n (kv es)) := Lib.hid (hv2 ▸ hr1.rd.alloc (.cells #[.int .i64 f, .int .i64 pc, .int .i64 r0, .int .i64 r1, .int .i64 r2, .int .i64 r3, .int .i64 r4, .int .i64 r5, .int .i64 r6, .int .i64 r7, .slice D1 n c1, .bool true] 28))
          have H8 := Lib.hid h8
          have HC12 := Lib.hid hc2
          obtain ⟨X8, hX8⟩ : ∃ X8, v1.heap.size = X8 := ⟨_, rfl⟩
          rw [hX8] at H8
          clear h8 hc2 hr1 hc1
          go_wp2_with fail
          have hs0 : v2.drew.cell? ⟨w.heap.size, 0, none⟩ = some (.slice A m c) ∧ v2.drew.cell? ⟨w.heap.size + 1, 0, none⟩ = some (.int .i64 f) ∧ v2.drew.cell? ⟨w.heap.size + 1, 1, none⟩ = some (.int .i64 pc) ∧ v2.drew.cell? ⟨w.heap.size + 1, 2, none⟩ = some (.int .i64 r0) ∧ v2.drew.cell? ⟨w.heap.size + 1, 3, none⟩ = some (.int .i64 r1) ∧ v2.drew.cell? ⟨w.heap.size + 1, 4, none⟩ = some (.int .i64 r2) ∧ v2.drew.cell? ⟨w.heap.size + 1, 5, none⟩ = some (.int .i64 r3) ∧ v2.drew.cell? ⟨w.heap.size + 1, 6, none⟩ = some (.int .i64 r4) ∧ v2.drew.cell? ⟨w.heap.size + 1, 7, none⟩ = some (.int .i64 r5) ∧ v2.drew.cell? ⟨w.heap.size + 1, 8, none⟩ = some (.int .i64 r6) ∧ v2.drew.cell? ⟨w.heap.size + 1, 9, none⟩ = some (.int .i64 r7) ∧ v2.drew.cell? ⟨w.heap.size + 1, 10, none⟩ = some (.slice D n cap) ∧ v2.drew.cell? ⟨w.heap.size + 1, 11, none⟩ = some (.bool true) ∧ v2.drew.cell? ⟨bz, oz + k, none⟩ = some (.int .i64 z) := ⟨(HC12.out.cell (p := ⟨w.heap.size, 0, none⟩) pl (fun h => h)).trans p0, (HC12.out.cell (p := ⟨w.heap.size + 1, 0, none⟩) tl (fun h => h)).trans t0, (HC12.out.cell (p := ⟨w.heap.size + 1, 1, none⟩) tl (fun h => h)).trans t1, (HC12.out.cell (p := ⟨w.heap.size + 1, 2, none⟩) tl (fun h => h)).trans t2, (HC12.out.cell (p := ⟨w.heap.size + 1, 3, none⟩) tl (fun h => h)).trans t3, (HC12.out.cell (p := ⟨w.heap.size + 1, 4, none⟩) tl (fun h => h)).trans t4, (HC12.out.cell (p := ⟨w.heap.size + 1, 5, none⟩) tl (fun h => h)).trans t5, (HC12.out.cell (p := ⟨w.heap.size + 1, 6, none⟩) tl (fun h => h)).trans t6, (HC12.out.cell (p := ⟨w.heap.size + 1, 7, none⟩) tl (fun h => h)).trans t7, (HC12.out.cell (p := ⟨w.heap.size + 1, 8, none⟩) tl (fun h => h)).trans t8, (HC12.out.cell (p := ⟨w.heap.size + 1, 9, none⟩) tl (fun h => h)).trans t9, (HC12.out.cell (p := ⟨w.heap.size + 1, 10, none⟩) tl (fun h => h)).trans t10, (HC12.out.cell (p := ⟨w.heap.size + 1, 11, none⟩) tl (fun h => h)).trans t11, (HC12.out.cell (p := ⟨bz, _, none⟩) bzl (fun h => h)).trans z0⟩
          refine wp_region_held_drew (S := fun w' => w'.cell? ⟨w.heap.size, 0, none⟩ = some (.slice A m c) ∧ w'.cell? ⟨w.heap.size + 1, 0, none⟩ = some (.int .i64 f) ∧ w'.cell? ⟨w.heap.size + 1, 1, none⟩ = some (.int .i64 pc) ∧ w'.cell? ⟨w.heap.size + 1, 2, none⟩ = some (.int .i64 r0) ∧ w'.cell? ⟨w.heap.size + 1, 3, none⟩ = some (.int .i64 r1) ∧ w'.cell? ⟨w.heap.size + 1, 4, none⟩ = some (.int .i64 r2) ∧ w'.cell? ⟨w.heap.size + 1, 5, none⟩ = some (.int .i64 r3) ∧ w'.cell? ⟨w.heap.size + 1, 6, none⟩ = some (.int .i64 r4) ∧ w'.cell? ⟨w.heap.size + 1, 7, none⟩ = some (.int .i64 r5) ∧ w'.cell? ⟨w.heap.size + 1, 8, none⟩ = some (.int .i64 r6) ∧ w'.cell? ⟨w.heap.size + 1, 9, none⟩ = some (.int .i64 r7) ∧ w'.cell? ⟨w.heap.size + 1, 10, none⟩ = some (.slice D n cap) ∧ w'.cell? ⟨w.heap.size + 1, 11, none⟩ = some (.bool true) ∧ w'.cell? ⟨bz, oz + k, none⟩ = some (.int .i64 z)) (by kernel_rfl) hs0 (fun hHeld => ?_)
          refine wpAnyH_take (i := 0) (oi := Oper.mk _ _ _ _ _ _) (v := ?v23) rfl (by kernel_rfl) (by kernel_rfl) (by kernel_rfl) (fun _ _ _ h => h) (Or.inl ⟨by rfl, ?hy23⟩) (by assumption) ?rs23
          case hy23 => (intro w hSw; (try dsimp only at hSw); first | (go_simp <;> with_reducible rfl) | rfl)
          try simp only [Act.put, List.setIfInBounds_toArray, List.set_cons_zero, List.set_cons_succ]
          refine wpAnyH_take (i := 1) (oi := Oper.mk _ _ _ _ _ _) (v := ?v24) rfl (by kernel_rfl) (by kernel_rfl) (by kernel_rfl) (fun _ _ _ h => h) (Or.inl ⟨by rfl, ?hy24⟩) (by assumption) ?rs24
          case hy24 => (intro w hSw; (try dsimp only at hSw); first | (go_simp <;> with_reducible rfl) | rfl)
          try simp only [Act.put, List.setIfInBounds_toArray, List.set_cons_zero, List.set_cons_succ]
          refine wpAnyH_take (i := 2) (oi := Oper.mk _ _ _ _ _ _) (v := ?v25) rfl (by kernel_rfl) (by kernel_rfl) (by kernel_rfl) (fun _ _ _ h => h) (Or.inl ⟨by rfl, ?hy25⟩) (by assumption) ?rs25
          case hy25 => (intro w hSw; (try dsimp only at hSw); first | (go_simp <;> with_reducible rfl) | rfl)
          try simp only [Act.put, List.setIfInBounds_toArray, List.set_cons_zero, List.set_cons_succ]
          refine wpAnyH_take (i := 3) (oi := Oper.mk _ _ _ _ _ _) (v := ?v26) rfl (by kernel_rfl) (by kernel_rfl) (by kernel_rfl) (fun _ _ _ h => h) (Or.inl ⟨by rfl, ?hy26⟩) (by assumption) ?rs26
          case hy26 => (intro w hSw; (try dsimp only at hSw); first | (go_simp <;> with_reducible rfl) | rfl)
          try simp only [Act.put, List.setIfInBounds_toArray, List.set_cons_zero, List.set_cons_succ]
          refine wpAnyH_take (i := 4) (oi := Oper.mk _ _ _ _ _ _) (v := ?v27) rfl (by kernel_rfl) (by kernel_rfl) (by kernel_rfl) (fun _ _ _ h => h) (Or.inl ⟨by rfl, ?hy27⟩) (by assumption) ?rs27
          case hy27 => (intro w hSw; (try dsimp only at hSw); first | (go_simp <;> with_reducible rfl) | rfl)
          try simp only [Act.put, List.setIfInBounds_toArray, List.set_cons_zero, List.set_cons_succ]
          refine wpAnyH_take (i := 5) (oi := Oper.mk _ _ _ _ _ _) (v := ?v28) rfl (by kernel_rfl) (by kernel_rfl) (by kernel_rfl) (fun _ _ _ h => h) (Or.inl ⟨by rfl, ?hy28⟩) (by assumption) ?rs28
          case hy28 => (intro w hSw; (try dsimp only at hSw); first | (go_simp <;> with_reducible rfl) | rfl)
          try simp only [Act.put, List.setIfInBounds_toArray, List.set_cons_zero, List.set_cons_succ]
          refine wpAnyH_ready (rs := [6, 11]) (by kernel_rfl) (by simp) ?_
          refine AllReadyH.cons (o := Oper.mk _ _ _ _ _ _) rfl (fun K hK => ?_) ?_
          · go_simp
            go_at_call 10; refine (HST.out v2.drew HC12.out.drew).mono ?_; rintro e3 v3 ⟨D3, n3, c3, rfl, hr3, hc3⟩; have HC3 := Lib.hid (HC12.out.drew.trans hc3 (fun _ _ h => h)); have HK23 : Hid (Chg (fun _ => False) v2 v3) := Lib.hid ((Chg.refl (fun _ => False) v2).drew.trans hc3 (fun _ _ h => h)); have HR3 := Lib.hid hr3;  clear hc3 hr3; have hs3 : v3.cell? ⟨w.heap.size, 0, none⟩ = some (.slice A m c) ∧ v3.cell? ⟨w.heap.size + 1, 0, none⟩ = some (.int .i64 f) ∧ v3.cell? ⟨w.heap.size + 1, 1, none⟩ = some (.int .i64 pc) ∧ v3.cell? ⟨w.heap.size + 1, 2, none⟩ = some (.int .i64 r0) ∧ v3.cell? ⟨w.heap.size + 1, 3, none⟩ = some (.int .i64 r1) ∧ v3.cell? ⟨w.heap.size + 1, 4, none⟩ = some (.int .i64 r2) ∧ v3.cell? ⟨w.heap.size + 1, 5, none⟩ = some (.int .i64 r3) ∧ v3.cell? ⟨w.heap.size + 1, 6, none⟩ = some (.int .i64 r4) ∧ v3.cell? ⟨w.heap.size + 1, 7, none⟩ = some (.int .i64 r5) ∧ v3.cell? ⟨w.heap.size + 1, 8, none⟩ = some (.int .i64 r6) ∧ v3.cell? ⟨w.heap.size + 1, 9, none⟩ = some (.int .i64 r7) ∧ v3.cell? ⟨w.heap.size + 1, 10, none⟩ = some (.slice D n cap) ∧ v3.cell? ⟨w.heap.size + 1, 11, none⟩ = some (.bool true) ∧ v3.cell? ⟨bz, oz + k, none⟩ = some (.int .i64 z) := ⟨(HC3.out.cell (p := ⟨w.heap.size, 0, none⟩) pl (fun h => h)).trans p0, (HC3.out.cell (p := ⟨w.heap.size + 1, 0, none⟩) tl (fun h => h)).trans t0, (HC3.out.cell (p := ⟨w.heap.size + 1, 1, none⟩) tl (fun h => h)).trans t1, (HC3.out.cell (p := ⟨w.heap.size + 1, 2, none⟩) tl (fun h => h)).trans t2, (HC3.out.cell (p := ⟨w.heap.size + 1, 3, none⟩) tl (fun h => h)).trans t3, (HC3.out.cell (p := ⟨w.heap.size + 1, 4, none⟩) tl (fun h => h)).trans t4, (HC3.out.cell (p := ⟨w.heap.size + 1, 5, none⟩) tl (fun h => h)).trans t5, (HC3.out.cell (p := ⟨w.heap.size + 1, 6, none⟩) tl (fun h => h)).trans t6, (HC3.out.cell (p := ⟨w.heap.size + 1, 7, none⟩) tl (fun h => h)).trans t7, (HC3.out.cell (p := ⟨w.heap.size + 1, 8, none⟩) tl (fun h => h)).trans t8, (HC3.out.cell (p := ⟨w.heap.size + 1, 9, none⟩) tl (fun h => h)).trans t9, (HC3.out.cell (p := ⟨w.heap.size + 1, 10, none⟩) tl (fun h => h)).trans t10, (HC3.out.cell (p := ⟨w.heap.size + 1, 11, none⟩) tl (fun h => h)).trans t11, (HC3.out.cell (p := ⟨bz, _, none⟩) bzl (fun h => h)).trans z0⟩
            refine hK.out _ _ hs3 (fun hHeld => ?_)
            clear hK K
            try simp only [Act.put, List.setIfInBounds_toArray, List.set_cons_zero, List.set_cons_succ]
            refine wpAnyH_take (i := 7) (oi := Oper.mk _ _ _ _ _ _) (v := ?v29) rfl (by kernel_rfl) (by kernel_rfl) (by kernel_rfl) (fun _ _ _ h => h) (Or.inl ⟨by rfl, ?hy29⟩) (by assumption) ?rs29
            case hy29 => (intro w hSw; (try dsimp only at hSw); first | (go_simp <;> with_reducible rfl) | rfl)
            try simp only [Act.put, List.setIfInBounds_toArray, List.set_cons_zero, List.set_cons_succ]
            refine wpAnyH_take (i := 8) (oi := Oper.mk _ _ _ _ _ _) (v := ?v30) rfl (by kernel_rfl) (by kernel_rfl) (by kernel_rfl) (fun _ _ _ h => h) (Or.inl ⟨by rfl, ?hy30⟩) (by assumption) ?rs30
            case hy30 => (intro w hSw; (try dsimp only at hSw); first | (go_simp <;> with_reducible rfl) | rfl)
            try simp only [Act.put, List.setIfInBounds_toArray, List.set_cons_zero, List.set_cons_succ]
            refine wpAnyH_take (i := 9) (oi := Oper.mk _ _ _ _ _ _) (v := ?v31) rfl (by kernel_rfl) (by kernel_rfl) (by kernel_rfl) (fun _ _ _ h => h) (Or.inl ⟨by rfl, ?hy31⟩) (by assumption) ?rs31
            case hy31 => (intro w hSw; (try dsimp only at hSw); first | (go_simp <;> with_reducible rfl) | rfl)
            try simp only [Act.put, List.setIfInBounds_toArray, List.set_cons_zero, List.set_cons_succ]
            refine wpAnyH_take (i := 10) (oi := Oper.mk _ _ _ _ _ _) (v := ?v32) rfl (by kernel_rfl) (by kernel_rfl) (by kernel_rfl) (fun _ _ _ h => h) (Or.inl ⟨by rfl, ?hy32⟩) (by assumption) ?rs32
            case hy32 => (intro w hSw; (try dsimp only at hSw); first | (go_simp <;> with_reducible rfl) | rfl)
            try simp only [Act.put, List.setIfInBounds_toArray, List.set_cons_zero, List.set_cons_succ]
            refine wpAnyH_ready (rs := [11]) (by kernel_rfl) (by simp) ?_
            refine AllReadyH.cons (o := Oper.mk _ _ _ _ _ _) rfl (fun K hK => ?_) AllReadyH.nil
            go_simp
            skip
            refine hK.out _ _ ⟨((HC3.out.alloc _).cell (p := ⟨w.heap.size, 0, none⟩) pl (fun h => h)).trans p0, ((HC3.out.alloc _).cell (p := ⟨w.heap.size + 1, 0, none⟩) tl (fun h => h)).trans t0, ((HC3.out.alloc _).cell (p := ⟨w.heap.size + 1, 1, none⟩) tl (fun h => h)).trans t1, ((HC3.out.alloc _).cell (p := ⟨w.heap.size + 1, 2, none⟩) tl (fun h => h)).trans t2, ((HC3.out.alloc _).cell (p := ⟨w.heap.size + 1, 3, none⟩) tl (fun h => h)).trans t3, ((HC3.out.alloc _).cell (p := ⟨w.heap.size + 1, 4, none⟩) tl (fun h => h)).trans t4, ((HC3.out.alloc _).cell (p := ⟨w.heap.size + 1, 5, none⟩) tl (fun h => h)).trans t5, ((HC3.out.alloc _).cell (p := ⟨w.heap.size + 1, 6, none⟩) tl (fun h => h)).trans t6, ((HC3.out.alloc _).cell (p := ⟨w.heap.size + 1, 7, none⟩) tl (fun h => h)).trans t7, ((HC3.out.alloc _).cell (p := ⟨w.heap.size + 1, 8, none⟩) tl (fun h => h)).trans t8, ((HC3.out.alloc _).cell (p := ⟨w.heap.size + 1, 9, none⟩) tl (fun h => h)).trans t9, ((HC3.out.alloc _).cell (p := ⟨w.heap.size + 1, 10, none⟩) tl (fun h => h)).trans t10, ((HC3.out.alloc _).cell (p := ⟨w.heap.size + 1, 11, none⟩) tl (fun h => h)).trans t11, ((HC3.out.alloc _).cell (p := ⟨bz, _, none⟩) bzl (fun h => h)).trans z0⟩ (fun hHeld => ?_)
            clear hK K
            try simp only [Act.put, List.setIfInBounds_toArray, List.set_cons_zero, List.set_cons_succ]
            refine wpAnyH_ready (rs := [12]) (by kernel_rfl) (by simp) ?_
            refine AllReadyH.cons (o := Oper.mk _ _ _ _ _ _) rfl (fun K hK => ?_) AllReadyH.nil
            go_simp
            skip
            refine hK.out _ _ ⟨((HC3.out.alloc _).cell (p := ⟨w.heap.size, 0, none⟩) pl (fun h => h)).trans p0, ((HC3.out.alloc _).cell (p := ⟨w.heap.size + 1, 0, none⟩) tl (fun h => h)).trans t0, ((HC3.out.alloc _).cell (p := ⟨w.heap.size + 1, 1, none⟩) tl (fun h => h)).trans t1, ((HC3.out.alloc _).cell (p := ⟨w.heap.size + 1, 2, none⟩) tl (fun h => h)).trans t2, ((HC3.out.alloc _).cell (p := ⟨w.heap.size + 1, 3, none⟩) tl (fun h => h)).trans t3, ((HC3.out.alloc _).cell (p := ⟨w.heap.size + 1, 4, none⟩) tl (fun h => h)).trans t4, ((HC3.out.alloc _).cell (p := ⟨w.heap.size + 1, 5, none⟩) tl (fun h => h)).trans t5, ((HC3.out.alloc _).cell (p := ⟨w.heap.size + 1, 6, none⟩) tl (fun h => h)).trans t6, ((HC3.out.alloc _).cell (p := ⟨w.heap.size + 1, 7, none⟩) tl (fun h => h)).trans t7, ((HC3.out.alloc _).cell (p := ⟨w.heap.size + 1, 8, none⟩) tl (fun h => h)).trans t8, ((HC3.out.alloc _).cell (p := ⟨w.heap.size + 1, 9, none⟩) tl (fun h => h)).trans t9, ((HC3.out.alloc _).cell (p := ⟨w.heap.size + 1, 10, none⟩) tl (fun h => h)).trans t10, ((HC3.out.alloc _).cell (p := ⟨w.heap.size + 1, 11, none⟩) tl (fun h => h)).trans t11, ((HC3.out.alloc _).cell (p := ⟨bz, _, none⟩) bzl (fun h => h)).trans z0⟩ (fun hHeld => ?_)
            clear hK K
            try simp only [Act.put, List.setIfInBounds_toArray, List.set_cons_zero, List.set_cons_succ]
            refine wpAnyH_take (i := 13) (oi := Oper.mk _ _ _ _ _ _) (v := ?v35) rfl (by kernel_rfl) (by kernel_rfl) (by kernel_rfl) (fun _ _ _ h => h) (Or.inl ⟨by rfl, ?hy35⟩) (by assumption) ?rs35
            case hy35 => (intro w hSw; (try dsimp only at hSw); first | (go_simp <;> with_reducible rfl) | rfl)
            try simp only [Act.put, List.setIfInBounds_toArray, List.set_cons_zero, List.set_cons_succ]
            refine wpAnyH_take (i := 14) (oi := Oper.mk _ _ _ _ _ _) (v := ?v36) rfl (by kernel_rfl) (by kernel_rfl) (by kernel_rfl) (fun _ _ _ h => h) (Or.inl ⟨by rfl, ?hy36⟩) (by assumption) ?rs36
            case hy36 => (intro w hSw; (try dsimp only at hSw); first | (go_simp <;> with_reducible rfl) | rfl)
            try simp only [Act.put, List.setIfInBounds_toArray, List.set_cons_zero, List.set_cons_succ]
            refine wpAnyH_done (by kernel_rfl) ?_ _
            have HV : Hid (Blk (v3.alloc (.cells #[.int .i64 f, .int .i64 pc, .int .i64 r0, .int .i64 r1, .int .i64 r2, .int .i64 r3, .int .i64 r4, .int .i64 r5, .int .i64 r6, .int .i64 r7, .slice D3 n3 c3, .bool true] 28)) v3.heap.size 28 #[.int .i64 f, .int .i64 pc, .int .i64 r0, .int .i64 r1, .int .i64 r2, .int .i64 r3, .int .i64 r4, .int .i64 r5, .int .i64 r6, .int .i64 r7, .slice D3 n3 c3, .bool true]) := Lib.hid (Blk.new v3 28 _)
            have HKV := Lib.hid (HC3.out.alloc (.cells #[.int .i64 f, .int .i64 pc, .int .i64 r0, .int .i64 r1, .int .i64 r2, .int .i64 r3, .int .i64 r4, .int .i64 r5, .int .i64 r6, .int .i64 r7, .slice D3 n3 c3, .bool true] 28))
            have RV := Lib.hid (HR3.out.rd.alloc (.cells #[.int .i64 f, .int .i64 pc, .int .i64 r0, .int .i64 r1, .int .i64 r2, .int .i64 r3, .int .i64 r4, .int .i64 r5, .int .i64 r6, .int .i64 r7, .slice D3 n3 c3, .bool true] 28))
            have LV : Hid (∀ g, blk D3 = some g → g ≠ w.heap.size + 1) := Lib.hid (fun g hg h => by have h1 := (HR3.out.blk_lt g hg).1; have h2 := HC12.out.size; simp at h1; omega)
            have HK2V : Hid (Chg (fun _ => False) v2 (v3.alloc (.cells #[.int .i64 f, .int .i64 pc, .int .i64 r0, .int .i64 r1, .int .i64 r2, .int .i64 r3, .int .i64 r4, .int .i64 r5, .int .i64 r6, .int .i64 r7, .slice D3 n3 c3, .bool true] 28))) := Lib.hid (HK23.out.alloc _)
            obtain ⟨V, hV⟩ : ∃ V, V = v3.alloc (.cells #[.int .i64 f, .int .i64 pc, .int .i64 r0, .int .i64 r1, .int .i64 r2, .int .i64 r3, .int .i64 r4, .int .i64 r5, .int .i64 r6, .int .i64 r7, .slice D3 n3 c3, .bool true] 28) := ⟨_, rfl⟩
            obtain ⟨X9, hX9⟩ : ∃ X9, X9 = v3.heap.size := ⟨_, rfl⟩
            rw [← hV, ← hX9] at HV
            rw [← hV] at HKV RV HK2V
            rw [← hV, ← hX9]
            clear hV hX9 hv2 hX8
            have q0 := HV.out.cell 0
            have q1 := HV.out.cell 1
            have q2 := HV.out.cell 2
            have q3 := HV.out.cell 3
            have q4 := HV.out.cell 4
            have q5 := HV.out.cell 5
            have q6 := HV.out.cell 6
            have q7 := HV.out.cell 7
            have q8 := HV.out.cell 8
            have q9 := HV.out.cell 9
            have q10 := HV.out.cell 10
            have q11 := HV.out.cell 11
            have ql := HV.out.lt
            have o0 := (H8.out.kept HK2V.out (fun h => h)).cell 0
            have o1 := (H8.out.kept HK2V.out (fun h => h)).cell 1
            have o2 := (H8.out.kept HK2V.out (fun h => h)).cell 2
            have o3 := (H8.out.kept HK2V.out (fun h => h)).cell 3
            have o4 := (H8.out.kept HK2V.out (fun h => h)).cell 4
            have o5 := (H8.out.kept HK2V.out (fun h => h)).cell 5
            have o6 := (H8.out.kept HK2V.out (fun h => h)).cell 6
            have o7 := (H8.out.kept HK2V.out (fun h => h)).cell 7
            have o8 := (H8.out.kept HK2V.out (fun h => h)).cell 8
            have o9 := (H8.out.kept HK2V.out (fun h => h)).cell 9
            have o10 := (H8.out.kept HK2V.out (fun h => h)).cell 10
            have o11 := (H8.out.kept HK2V.out (fun h => h)).cell 11
            have ol := (H8.out.kept HK2V.out (fun h => h)).lt
            simp at q0 o0 q1 o1 q2 o2 q3 o3 q4 o4 q5 o5 q6 o6 q7 o7 q8 o8 q9 o9 q10 o10 q11 o11
            have p1 := (HKV.out.cell (p := ⟨w.heap.size, 0, none⟩) pl (fun h => h)).trans p0
            have pl1 := Nat.lt_of_lt_of_le pl HKV.out.size
            have g0 := (HKV.out.cell (p := ⟨w.heap.size + 1, 0, none⟩) tl (fun h => h)).trans t0
            have g1 := (HKV.out.cell (p := ⟨w.heap.size + 1, 1, none⟩) tl (fun h => h)).trans t1
            have g2 := (HKV.out.cell (p := ⟨w.heap.size + 1, 2, none⟩) tl (fun h => h)).trans t2
            have g3 := (HKV.out.cell (p := ⟨w.heap.size + 1, 3, none⟩) tl (fun h => h)).trans t3
            have g4 := (HKV.out.cell (p := ⟨w.heap.size + 1, 4, none⟩) tl (fun h => h)).trans t4
            have g5 := (HKV.out.cell (p := ⟨w.heap.size + 1, 5, none⟩) tl (fun h => h)).trans t5
            have g6 := (HKV.out.cell (p := ⟨w.heap.size + 1, 6, none⟩) tl (fun h => h)).trans t6
            have g7 := (HKV.out.cell (p := ⟨w.heap.size + 1, 7, none⟩) tl (fun h => h)).trans t7
            have g8 := (HKV.out.cell (p := ⟨w.heap.size + 1, 8, none⟩) tl (fun h => h)).trans t8
            have g9 := (HKV.out.cell (p := ⟨w.heap.size + 1, 9, none⟩) tl (fun h => h)).trans t9
            have g10 := (HKV.out.cell (p := ⟨w.heap.size + 1, 10, none⟩) tl (fun h => h)).trans t10
            have g11 := (HKV.out.cell (p := ⟨w.heap.size + 1, 11, none⟩) tl (fun h => h)).trans t11
            have gl := Nat.lt_of_lt_of_le tl HKV.out.size
            have HSM := Lib.hid (show Calls Tryd.prog 17 #[.agg #[.int .i64 f, .int .i64 pc, .int .i64 r0, .int .i64 r1, .int .i64 r2, .int .i64 r3, .int .i64 r4, .int .i64 r5, .int .i64 r6, .int .i64 r7, .slice D n cap, .bool true], .agg #[.int .i64 f, .int .i64 pc, .int .i64 r0, .int .i64 r1, .int .i64 r2, .int .i64 r3, .int .i64 r4, .int .i64 r5, .int .i64 r6, .int .i64 r7, .slice D1 n c1, .bool true]] V (fun e W' => e = .returned (.bool true) ∧ Chg (fun _ => False) V W') from by
              have h := tsame_any f pc r0 r1 r2 r3 r4 r5 r6 r7 f pc r0 r1 r2 r3 r4 r5 r6 r7 D D1 n cap n c1 true true es es V HU.out HU.out (HRD.out.kept HKV.out (fun _ _ h => h)) (HR1.out.kept HK2V.out (fun _ _ h => h)) (by omega) (by omega)
              rwa [decide_eq_true (by simp)] at h)
            go_wp2_with fail
            refine HSM.out.mono ?_
            rintro e5 v5 ⟨rfl, hc5⟩
            have HC5 := Lib.hid (HKV.out.trans hc5 (fun _ _ h => h))
            have HV5 := Lib.hid (HV.out.kept hc5 (fun h => h))
            have R5 := Lib.hid (RV.out.kept hc5 (fun _ _ h => h))
            clear hc5 q0 o0 g0 q1 o1 g1 q2 o2 g2 q3 o3 g3 q4 o4 g4 q5 o5 g5 q6 o6 g6 q7 o7 g7 q8 o8 g8 q9 o9 g9 q10 o10 g10 q11 o11 g11 ql ol p1 pl1 gl
            have p5 := (HC5.out.cell (p := ⟨w.heap.size, 0, none⟩) pl (fun h => h)).trans p0
            have pl5 := Nat.lt_of_lt_of_le pl HC5.out.size
            have q0 := HV5.out.cell 0
            have q1 := HV5.out.cell 1
            have q2 := HV5.out.cell 2
            have q3 := HV5.out.cell 3
            have q4 := HV5.out.cell 4
            have q5 := HV5.out.cell 5
            have q6 := HV5.out.cell 6
            have q7 := HV5.out.cell 7
            have q8 := HV5.out.cell 8
            have q9 := HV5.out.cell 9
            have q10 := HV5.out.cell 10
            have q11 := HV5.out.cell 11
            have ql := HV5.out.lt
            simp at q0 q1 q2 q3 q4 q5 q6 q7 q8 q9 q10 q11
            have HFI := Lib.hid (show Calls Tryd.prog 11 #[.agg #[.slice A m c], .agg #[.int .i64 f, .int .i64 pc, .int .i64 r0, .int .i64 r1, .int .i64 r2, .int .i64 r3, .int .i64 r4, .int .i64 r5, .int .i64 r6, .int .i64 r7, .slice D3 n3 c3, .bool true]] v5 (fun e W' => e = .returned (.bool true) ∧ Chg (fun _ => False) v5 W') from by
              have h := fits_any c (HPM.out v5 (HWR.out.trans HC5.out (fun _ _ h => h))) (HTB2.out v5 (HWR.out.trans HC5.out (fun _ _ h => h))) hm f pc r0 r1 r2 r3 r4 r5 r6 r7 D3 n3 c3 true es HU3.out R5.out (by have := R5.out.lenk HU3.out (by decide); omega)
              rwa [HF3.out] at h)
            go_wp2_with fail
            refine HFI.out.mono ?_
            rintro e6 v6 ⟨rfl, hc6⟩
            have HC6 := Lib.hid (HC5.out.trans hc6 (fun _ _ h => h))
            have HV6 := Lib.hid (HV5.out.kept hc6 (fun h => h))
            have R6 := Lib.hid (R5.out.kept hc6 (fun _ _ h => h))
            clear hc6 q0 q1 q2 q3 q4 q5 q6 q7 q8 q9 q10 q11 ql p5 pl5
            have q0 := HV6.out.cell 0
            have q1 := HV6.out.cell 1
            have q2 := HV6.out.cell 2
            have q3 := HV6.out.cell 3
            have q4 := HV6.out.cell 4
            have q5 := HV6.out.cell 5
            have q6 := HV6.out.cell 6
            have q7 := HV6.out.cell 7
            have q8 := HV6.out.cell 8
            have q9 := HV6.out.cell 9
            have q10 := HV6.out.cell 10
            have q11 := HV6.out.cell 11
            have ql := HV6.out.lt
            simp at q0 q1 q2 q3 q4 q5 q6 q7 q8 q9 q10 q11
            have g0 := (HC6.out.cell (p := ⟨w.heap.size + 1, 0, none⟩) tl (fun h => h)).trans t0
            have j0 := (HC6.out.frozen (p := ⟨w.heap.size + 1, 0, none⟩) tl (fun h => h)).trans (HTB.out.frozen 0)
            have g1 := (HC6.out.cell (p := ⟨w.heap.size + 1, 1, none⟩) tl (fun h => h)).trans t1
            have j1 := (HC6.out.frozen (p := ⟨w.heap.size + 1, 1, none⟩) tl (fun h => h)).trans (HTB.out.frozen 1)
            have g2 := (HC6.out.cell (p := ⟨w.heap.size + 1, 2, none⟩) tl (fun h => h)).trans t2
            have j2 := (HC6.out.frozen (p := ⟨w.heap.size + 1, 2, none⟩) tl (fun h => h)).trans (HTB.out.frozen 2)
            have g3 := (HC6.out.cell (p := ⟨w.heap.size + 1, 3, none⟩) tl (fun h => h)).trans t3
            have j3 := (HC6.out.frozen (p := ⟨w.heap.size + 1, 3, none⟩) tl (fun h => h)).trans (HTB.out.frozen 3)
            have g4 := (HC6.out.cell (p := ⟨w.heap.size + 1, 4, none⟩) tl (fun h => h)).trans t4
            have j4 := (HC6.out.frozen (p := ⟨w.heap.size + 1, 4, none⟩) tl (fun h => h)).trans (HTB.out.frozen 4)
            have g5 := (HC6.out.cell (p := ⟨w.heap.size + 1, 5, none⟩) tl (fun h => h)).trans t5
            have j5 := (HC6.out.frozen (p := ⟨w.heap.size + 1, 5, none⟩) tl (fun h => h)).trans (HTB.out.frozen 5)
            have g6 := (HC6.out.cell (p := ⟨w.heap.size + 1, 6, none⟩) tl (fun h => h)).trans t6
            have j6 := (HC6.out.frozen (p := ⟨w.heap.size + 1, 6, none⟩) tl (fun h => h)).trans (HTB.out.frozen 6)
            have g7 := (HC6.out.cell (p := ⟨w.heap.size + 1, 7, none⟩) tl (fun h => h)).trans t7
            have j7 := (HC6.out.frozen (p := ⟨w.heap.size + 1, 7, none⟩) tl (fun h => h)).trans (HTB.out.frozen 7)
            have g8 := (HC6.out.cell (p := ⟨w.heap.size + 1, 8, none⟩) tl (fun h => h)).trans t8
            have j8 := (HC6.out.frozen (p := ⟨w.heap.size + 1, 8, none⟩) tl (fun h => h)).trans (HTB.out.frozen 8)
            have g9 := (HC6.out.cell (p := ⟨w.heap.size + 1, 9, none⟩) tl (fun h => h)).trans t9
            have j9 := (HC6.out.frozen (p := ⟨w.heap.size + 1, 9, none⟩) tl (fun h => h)).trans (HTB.out.frozen 9)
            have g10 := (HC6.out.cell (p := ⟨w.heap.size + 1, 10, none⟩) tl (fun h => h)).trans t10
            have j10 := (HC6.out.frozen (p := ⟨w.heap.size + 1, 10, none⟩) tl (fun h => h)).trans (HTB.out.frozen 10)
            have g11 := (HC6.out.cell (p := ⟨w.heap.size + 1, 11, none⟩) tl (fun h => h)).trans t11
            have j11 := (HC6.out.frozen (p := ⟨w.heap.size + 1, 11, none⟩) tl (fun h => h)).trans (HTB.out.frozen 11)
            have gl := Nat.lt_of_lt_of_le tl HC6.out.size
            have HSN := Lib.hid (show Calls Tryd.prog 17 #[.agg #[.int .i64 f, .int .i64 pc, .int .i64 r0, .int .i64 r1, .int .i64 r2, .int .i64 r3, .int .i64 r4, .int .i64 r5, .int .i64 r6, .int .i64 r7, .slice D3 n3 c3, .bool true], .agg #[.int .i64 f, .int .i64 pc, .int .i64 r0, .int .i64 r1, .int .i64 r2, .int .i64 r3, .int .i64 r4, .int .i64 r5, .int .i64 r6, .int .i64 r7, .slice D n cap, .bool true]] v6 (fun e W' => e = .returned (.bool true) ∧ Chg (fun _ => False) v6 W') from by
              have h := tsame_any f pc r0 r1 r2 r3 r4 r5 r6 r7 f pc r0 r1 r2 r3 r4 r5 r6 r7 D3 D n3 c3 n cap true true es es v6 HU.out HU.out R6.out (HRD.out.kept HC6.out (fun _ _ h => h)) (by have := R6.out.lenk HU.out (by decide); omega) (by omega)
              rwa [decide_eq_true (by simp)] at h)
            go_wp2_with fail
            refine HSN.out.mono ?_
            rintro e7 v7 ⟨rfl, hc7⟩
            have HC7 := Lib.hid (HC6.out.trans hc7 (fun _ _ h => h))
            have HV7 := Lib.hid (HV6.out.kept hc7 (fun h => h))
            have R7 := Lib.hid (R6.out.kept hc7 (fun _ _ h => h))
            clear hc7 q0 g0 j0 q1 g1 j1 q2 g2 j2 q3 g3 j3 q4 g4 j4 q5 g5 j5 q6 g6 j6 q7 g7 j7 q8 g8 j8 q9 g9 j9 q10 g10 j10 q11 g11 j11 ql gl
            have q0 := HV7.out.cell 0
            have q1 := HV7.out.cell 1
            have q2 := HV7.out.cell 2
            have q3 := HV7.out.cell 3
            have q4 := HV7.out.cell 4
            have q5 := HV7.out.cell 5
            have q6 := HV7.out.cell 6
            have q7 := HV7.out.cell 7
            have q8 := HV7.out.cell 8
            have q9 := HV7.out.cell 9
            have q10 := HV7.out.cell 10
            have q11 := HV7.out.cell 11
            have ql := HV7.out.lt
            simp at q0 q1 q2 q3 q4 q5 q6 q7 q8 q9 q10 q11
            have g0 := (HC7.out.cell (p := ⟨w.heap.size + 1, 0, none⟩) tl (fun h => h)).trans t0
            have j0 := (HC7.out.frozen (p := ⟨w.heap.size + 1, 0, none⟩) tl (fun h => h)).trans (HTB.out.frozen 0)
            have g1 := (HC7.out.cell (p := ⟨w.heap.size + 1, 1, none⟩) tl (fun h => h)).trans t1
            have j1 := (HC7.out.frozen (p := ⟨w.heap.size + 1, 1, none⟩) tl (fun h => h)).trans (HTB.out.frozen 1)
            have g2 := (HC7.out.cell (p := ⟨w.heap.size + 1, 2, none⟩) tl (fun h => h)).trans t2
            have j2 := (HC7.out.frozen (p := ⟨w.heap.size + 1, 2, none⟩) tl (fun h => h)).trans (HTB.out.frozen 2)
            have g3 := (HC7.out.cell (p := ⟨w.heap.size + 1, 3, none⟩) tl (fun h => h)).trans t3
            have j3 := (HC7.out.frozen (p := ⟨w.heap.size + 1, 3, none⟩) tl (fun h => h)).trans (HTB.out.frozen 3)
            have g4 := (HC7.out.cell (p := ⟨w.heap.size + 1, 4, none⟩) tl (fun h => h)).trans t4
            have j4 := (HC7.out.frozen (p := ⟨w.heap.size + 1, 4, none⟩) tl (fun h => h)).trans (HTB.out.frozen 4)
            have g5 := (HC7.out.cell (p := ⟨w.heap.size + 1, 5, none⟩) tl (fun h => h)).trans t5
            have j5 := (HC7.out.frozen (p := ⟨w.heap.size + 1, 5, none⟩) tl (fun h => h)).trans (HTB.out.frozen 5)
            have g6 := (HC7.out.cell (p := ⟨w.heap.size + 1, 6, none⟩) tl (fun h => h)).trans t6
            have j6 := (HC7.out.frozen (p := ⟨w.heap.size + 1, 6, none⟩) tl (fun h => h)).trans (HTB.out.frozen 6)
            have g7 := (HC7.out.cell (p := ⟨w.heap.size + 1, 7, none⟩) tl (fun h => h)).trans t7
            have j7 := (HC7.out.frozen (p := ⟨w.heap.size + 1, 7, none⟩) tl (fun h => h)).trans (HTB.out.frozen 7)
            have g8 := (HC7.out.cell (p := ⟨w.heap.size + 1, 8, none⟩) tl (fun h => h)).trans t8
            have j8 := (HC7.out.frozen (p := ⟨w.heap.size + 1, 8, none⟩) tl (fun h => h)).trans (HTB.out.frozen 8)
            have g9 := (HC7.out.cell (p := ⟨w.heap.size + 1, 9, none⟩) tl (fun h => h)).trans t9
            have j9 := (HC7.out.frozen (p := ⟨w.heap.size + 1, 9, none⟩) tl (fun h => h)).trans (HTB.out.frozen 9)
            have g10 := (HC7.out.cell (p := ⟨w.heap.size + 1, 10, none⟩) tl (fun h => h)).trans t10
            have j10 := (HC7.out.frozen (p := ⟨w.heap.size + 1, 10, none⟩) tl (fun h => h)).trans (HTB.out.frozen 10)
            have g11 := (HC7.out.cell (p := ⟨w.heap.size + 1, 11, none⟩) tl (fun h => h)).trans t11
            have j11 := (HC7.out.frozen (p := ⟨w.heap.size + 1, 11, none⟩) tl (fun h => h)).trans (HTB.out.frozen 11)
            have gl := Nat.lt_of_lt_of_le tl HC7.out.size
            go_wp2
            go_roundw
            case rel =>
              refine ⟨k + 1, by omega, by go_num, Lib.hid ⟨f, pc, [r0, r1, r2, r3, r4, r5, r6, r7], D3, n3, c3, true, es, ⟨rfl, HU3.out, by omega, HF3.out, Blk.set12 _ _ _ _ _ _ _ _ _ _ _ _ (HTB.out.kept HC7.out (fun h => h)), R7.out.keptf (chg12s _ _ _ _ _ _ _ _ _ _ _ _) (fun _ g hg h => LV.out g hg h), fun _ g hg => LV.out g hg, ?_⟩⟩⟩
              exact (HCR.out.trans HC7.out (fun _ _ h => h.elim)).trans (chg12s _ _ _ _ _ _ _ _ _ _ _ _) (fun _ _ h => h)
            case measure => simp [intOf]; omega
          refine AllReadyH.cons (o := Oper.mk _ _ _ _ _ _) rfl (fun K hK => ?_) AllReadyH.nil
          go_simp
          skip
          refine hK.out _ _ ⟨(((HC12.out.alloc (.cells #[.int .i64 0, .int .i64 0, .int .i64 0, .int .i64 0, .int .i64 0, .int .i64 0, .int .i64 0, .int .i64 0, .int .i64 0, .int .i64 0, .slice none 0 0, .bool false] 28)).drew).cell (p := ⟨w.heap.size, 0, none⟩) pl (fun h => h)).trans p0, (((HC12.out.alloc (.cells #[.int .i64 0, .int .i64 0, .int .i64 0, .int .i64 0, .int .i64 0, .int .i64 0, .int .i64 0, .int .i64 0, .int .i64 0, .int .i64 0, .slice none 0 0, .bool false] 28)).drew).cell (p := ⟨w.heap.size + 1, 0, none⟩) tl (fun h => h)).trans t0, (((HC12.out.alloc (.cells #[.int .i64 0, .int .i64 0, .int .i64 0, .int .i64 0, .int .i64 0, .int .i64 0, .int .i64 0, .int .i64 0, .int .i64 0, .int .i64 0, .slice none 0 0, .bool false] 28)).drew).cell (p := ⟨w.heap.size + 1, 1, none⟩) tl (fun h => h)).trans t1, (((HC12.out.alloc (.cells #[.int .i64 0, .int .i64 0, .int .i64 0, .int .i64 0, .int .i64 0, .int .i64 0, .int .i64 0, .int .i64 0, .int .i64 0, .int .i64 0, .slice none 0 0, .bool false] 28)).drew).cell (p := ⟨w.heap.size + 1, 2, none⟩) tl (fun h => h)).trans t2, (((HC12.out.alloc (.cells #[.int .i64 0, .int .i64 0, .int .i64 0, .int .i64 0, .int .i64 0, .int .i64 0, .int .i64 0, .int .i64 0, .int .i64 0, .int .i64 0, .slice none 0 0, .bool false] 28)).drew).cell (p := ⟨w.heap.size + 1, 3, none⟩) tl (fun h => h)).trans t3, (((HC12.out.alloc (.cells #[.int .i64 0, .int .i64 0, .int .i64 0, .int .i64 0, .int .i64 0, .int .i64 0, .int .i64 0, .int .i64 0, .int .i64 0, .int .i64 0, .slice none 0 0, .bool false] 28)).drew).cell (p := ⟨w.heap.size + 1, 4, none⟩) tl (fun h => h)).trans t4, (((HC12.out.alloc (.cells #[.int .i64 0, .int .i64 0, .int .i64 0, .int .i64 0, .int .i64 0, .int .i64 0, .int .i64 0, .int .i64 0, .int .i64 0, .int .i64 0, .slice none 0 0, .bool false] 28)).drew).cell (p := ⟨w.heap.size + 1, 5, none⟩) tl (fun h => h)).trans t5, (((HC12.out.alloc (.cells #[.int .i64 0, .int .i64 0, .int .i64 0, .int .i64 0, .int .i64 0, .int .i64 0, .int .i64 0, .int .i64 0, .int .i64 0, .int .i64 0, .slice none 0 0, .bool false] 28)).drew).cell (p := ⟨w.heap.size + 1, 6, none⟩) tl (fun h => h)).trans t6, (((HC12.out.alloc (.cells #[.int .i64 0, .int .i64 0, .int .i64 0, .int .i64 0, .int .i64 0, .int .i64 0, .int .i64 0, .int .i64 0, .int .i64 0, .int .i64 0, .slice none 0 0, .bool false] 28)).drew).cell (p := ⟨w.heap.size + 1, 7, none⟩) tl (fun h => h)).trans t7, (((HC12.out.alloc (.cells #[.int .i64 0, .int .i64 0, .int .i64 0, .int .i64 0, .int .i64 0, .int .i64 0, .int .i64 0, .int .i64 0, .int .i64 0, .int .i64 0, .slice none 0 0, .bool false] 28)).drew).cell (p := ⟨w.heap.size + 1, 8, none⟩) tl (fun h => h)).trans t8, (((HC12.out.alloc (.cells #[.int .i64 0, .int .i64 0, .int .i64 0, .int .i64 0, .int .i64 0, .int .i64 0, .int .i64 0, .int .i64 0, .int .i64 0, .int .i64 0, .slice none 0 0, .bool false] 28)).drew).cell (p := ⟨w.heap.size + 1, 9, none⟩) tl (fun h => h)).trans t9, (((HC12.out.alloc (.cells #[.int .i64 0, .int .i64 0, .int .i64 0, .int .i64 0, .int .i64 0, .int .i64 0, .int .i64 0, .int .i64 0, .int .i64 0, .int .i64 0, .slice none 0 0, .bool false] 28)).drew).cell (p := ⟨w.heap.size + 1, 10, none⟩) tl (fun h => h)).trans t10, (((HC12.out.alloc (.cells #[.int .i64 0, .int .i64 0, .int .i64 0, .int .i64 0, .int .i64 0, .int .i64 0, .int .i64 0, .int .i64 0, .int .i64 0, .int .i64 0, .slice none 0 0, .bool false] 28)).drew).cell (p := ⟨w.heap.size + 1, 11, none⟩) tl (fun h => h)).trans t11, (((HC12.out.alloc (.cells #[.int .i64 0, .int .i64 0, .int .i64 0, .int .i64 0, .int .i64 0, .int .i64 0, .int .i64 0, .int .i64 0, .int .i64 0, .int .i64 0, .slice none 0 0, .bool false] 28)).drew).cell (p := ⟨bz, _, none⟩) bzl (fun h => h)).trans z0⟩ (fun hHeld => ?_)
          clear hK K
          try simp only [Act.put, List.setIfInBounds_toArray, List.set_cons_zero, List.set_cons_succ]
          refine wpAnyH_ready (rs := [6]) (by kernel_rfl) (by simp) ?_
          refine AllReadyH.cons (o := Oper.mk _ _ _ _ _ _) rfl (fun K hK => ?_) AllReadyH.nil
          go_simp
          go_at_call 10; refine (HST.out (v2.alloc (.cells #[.int .i64 0, .int .i64 0, .int .i64 0, .int .i64 0, .int .i64 0, .int .i64 0, .int .i64 0, .int .i64 0, .int .i64 0, .int .i64 0, .slice none 0 0, .bool false] 28)).drew (HC12.out.alloc (.cells #[.int .i64 0, .int .i64 0, .int .i64 0, .int .i64 0, .int .i64 0, .int .i64 0, .int .i64 0, .int .i64 0, .int .i64 0, .int .i64 0, .slice none 0 0, .bool false] 28)).drew).mono ?_; rintro e3 v3 ⟨D3, n3, c3, rfl, hr3, hc3⟩; have HC3 := Lib.hid ((HC12.out.alloc (.cells #[.int .i64 0, .int .i64 0, .int .i64 0, .int .i64 0, .int .i64 0, .int .i64 0, .int .i64 0, .int .i64 0, .int .i64 0, .int .i64 0, .slice none 0 0, .bool false] 28)).drew.trans hc3 (fun _ _ h => h)); have HK23 : Hid (Chg (fun _ => False) v2 v3) := Lib.hid (((Chg.refl (fun _ => False) v2).alloc (.cells #[.int .i64 0, .int .i64 0, .int .i64 0, .int .i64 0, .int .i64 0, .int .i64 0, .int .i64 0, .int .i64 0, .int .i64 0, .int .i64 0, .slice none 0 0, .bool false] 28)).drew.trans hc3 (fun _ _ h => h)); have HR3 := Lib.hid hr3; have hzb := ((Blk.new v2 28 #[.int .i64 0, .int .i64 0, .int .i64 0, .int .i64 0, .int .i64 0, .int .i64 0, .int .i64 0, .int .i64 0, .int .i64 0, .int .i64 0, .slice none 0 0, .bool false]).drew).kept hc3 (fun h => h); have ZB := Lib.hid hzb; have z100 := hzb.cell 0; have y100 := hzb.frozen 0; have z101 := hzb.cell 1; have y101 := hzb.frozen 1; have z102 := hzb.cell 2; have y102 := hzb.frozen 2; have z103 := hzb.cell 3; have y103 := hzb.frozen 3; have z104 := hzb.cell 4; have y104 := hzb.frozen 4; have z105 := hzb.cell 5; have y105 := hzb.frozen 5; have z106 := hzb.cell 6; have y106 := hzb.frozen 6; have z107 := hzb.cell 7; have y107 := hzb.frozen 7; have z108 := hzb.cell 8; have y108 := hzb.frozen 8; have z109 := hzb.cell 9; have y109 := hzb.frozen 9; have z110 := hzb.cell 10; have y110 := hzb.frozen 10; have z111 := hzb.cell 11; have y111 := hzb.frozen 11; have zl100 := hzb.lt; simp at z100 z101 z102 z103 z104 z105 z106 z107 z108 z109 z110 z111; clear hzb;  clear hc3 hr3; have hs3 : v3.cell? ⟨w.heap.size, 0, none⟩ = some (.slice A m c) ∧ v3.cell? ⟨w.heap.size + 1, 0, none⟩ = some (.int .i64 f) ∧ v3.cell? ⟨w.heap.size + 1, 1, none⟩ = some (.int .i64 pc) ∧ v3.cell? ⟨w.heap.size + 1, 2, none⟩ = some (.int .i64 r0) ∧ v3.cell? ⟨w.heap.size + 1, 3, none⟩ = some (.int .i64 r1) ∧ v3.cell? ⟨w.heap.size + 1, 4, none⟩ = some (.int .i64 r2) ∧ v3.cell? ⟨w.heap.size + 1, 5, none⟩ = some (.int .i64 r3) ∧ v3.cell? ⟨w.heap.size + 1, 6, none⟩ = some (.int .i64 r4) ∧ v3.cell? ⟨w.heap.size + 1, 7, none⟩ = some (.int .i64 r5) ∧ v3.cell? ⟨w.heap.size + 1, 8, none⟩ = some (.int .i64 r6) ∧ v3.cell? ⟨w.heap.size + 1, 9, none⟩ = some (.int .i64 r7) ∧ v3.cell? ⟨w.heap.size + 1, 10, none⟩ = some (.slice D n cap) ∧ v3.cell? ⟨w.heap.size + 1, 11, none⟩ = some (.bool true) ∧ v3.cell? ⟨bz, oz + k, none⟩ = some (.int .i64 z) := ⟨(HC3.out.cell (p := ⟨w.heap.size, 0, none⟩) pl (fun h => h)).trans p0, (HC3.out.cell (p := ⟨w.heap.size + 1, 0, none⟩) tl (fun h => h)).trans t0, (HC3.out.cell (p := ⟨w.heap.size + 1, 1, none⟩) tl (fun h => h)).trans t1, (HC3.out.cell (p := ⟨w.heap.size + 1, 2, none⟩) tl (fun h => h)).trans t2, (HC3.out.cell (p := ⟨w.heap.size + 1, 3, none⟩) tl (fun h => h)).trans t3, (HC3.out.cell (p := ⟨w.heap.size + 1, 4, none⟩) tl (fun h => h)).trans t4, (HC3.out.cell (p := ⟨w.heap.size + 1, 5, none⟩) tl (fun h => h)).trans t5, (HC3.out.cell (p := ⟨w.heap.size + 1, 6, none⟩) tl (fun h => h)).trans t6, (HC3.out.cell (p := ⟨w.heap.size + 1, 7, none⟩) tl (fun h => h)).trans t7, (HC3.out.cell (p := ⟨w.heap.size + 1, 8, none⟩) tl (fun h => h)).trans t8, (HC3.out.cell (p := ⟨w.heap.size + 1, 9, none⟩) tl (fun h => h)).trans t9, (HC3.out.cell (p := ⟨w.heap.size + 1, 10, none⟩) tl (fun h => h)).trans t10, (HC3.out.cell (p := ⟨w.heap.size + 1, 11, none⟩) tl (fun h => h)).trans t11, (HC3.out.cell (p := ⟨bz, _, none⟩) bzl (fun h => h)).trans z0⟩
          refine hK.out _ _ hs3 (fun hHeld => ?_)
          clear hK K
          try simp only [Act.put, List.setIfInBounds_toArray, List.set_cons_zero, List.set_cons_succ]
          refine wpAnyH_take (i := 7) (oi := Oper.mk _ _ _ _ _ _) (v := ?v38) rfl (by kernel_rfl) (by kernel_rfl) (by kernel_rfl) (fun _ _ _ h => h) (Or.inl ⟨by rfl, ?hy38⟩) (by assumption) ?rs38
          case hy38 => (intro w hSw; (try dsimp only at hSw); first | (go_simp <;> with_reducible rfl) | rfl)
          try simp only [Act.put, List.setIfInBounds_toArray, List.set_cons_zero, List.set_cons_succ]
          refine wpAnyH_take (i := 8) (oi := Oper.mk _ _ _ _ _ _) (v := ?v39) rfl (by kernel_rfl) (by kernel_rfl) (by kernel_rfl) (fun _ _ _ h => h) (Or.inl ⟨by rfl, ?hy39⟩) (by assumption) ?rs39
          case hy39 => (intro w hSw; (try dsimp only at hSw); first | (go_simp <;> with_reducible rfl) | rfl)
          try simp only [Act.put, List.setIfInBounds_toArray, List.set_cons_zero, List.set_cons_succ]
          refine wpAnyH_take (i := 9) (oi := Oper.mk _ _ _ _ _ _) (v := ?v40) rfl (by kernel_rfl) (by kernel_rfl) (by kernel_rfl) (fun _ _ _ h => h) (Or.inl ⟨by rfl, ?hy40⟩) (by assumption) ?rs40
          case hy40 => (intro w hSw; (try dsimp only at hSw); first | (go_simp <;> with_reducible rfl) | rfl)
          try simp only [Act.put, List.setIfInBounds_toArray, List.set_cons_zero, List.set_cons_succ]
          refine wpAnyH_take (i := 10) (oi := Oper.mk _ _ _ _ _ _) (v := ?v41) rfl (by kernel_rfl) (by kernel_rfl) (by kernel_rfl) (fun _ _ _ h => h) (Or.inl ⟨by rfl, ?hy41⟩) (by assumption) ?rs41
          case hy41 => (intro w hSw; (try dsimp only at hSw); first | (go_simp <;> with_reducible rfl) | rfl)
          try simp only [Act.put, List.setIfInBounds_toArray, List.set_cons_zero, List.set_cons_succ]
          refine wpAnyH_ready (rs := [12]) (by kernel_rfl) (by simp) ?_
          refine AllReadyH.cons (o := Oper.mk _ _ _ _ _ _) rfl (fun K hK => ?_) AllReadyH.nil
          go_simp
          skip
          refine hK.out _ _ (by have hq : Chg (fun _ => False) wr ((((((((((((v3.setCell ⟨v2.heap.size, 0, none⟩ (.int .i64 f)).setCell ⟨v2.heap.size, 1, none⟩ (.int .i64 pc)).setCell ⟨v2.heap.size, 2, none⟩ (.int .i64 r0)).setCell ⟨v2.heap.size, 3, none⟩ (.int .i64 r1)).setCell ⟨v2.heap.size, 4, none⟩ (.int .i64 r2)).setCell ⟨v2.heap.size, 5, none⟩ (.int .i64 r3)).setCell ⟨v2.heap.size, 6, none⟩ (.int .i64 r4)).setCell ⟨v2.heap.size, 7, none⟩ (.int .i64 r5)).setCell ⟨v2.heap.size, 8, none⟩ (.int .i64 r6)).setCell ⟨v2.heap.size, 9, none⟩ (.int .i64 r7)).setCell ⟨v2.heap.size, 10, none⟩ (.slice D3 n3 c3)).setCell ⟨v2.heap.size, 11, none⟩ (.bool true)) := HC3.out.trans (chg12s _ _ _ _ _ _ _ _ _ _ _ _) (fun k hk h => by have h' : k = v2.heap.size := h; have := HC12.out.size; omega); exact ⟨(hq.cell (p := ⟨w.heap.size, 0, none⟩) pl (fun h => h)).trans p0, (hq.cell (p := ⟨w.heap.size + 1, 0, none⟩) tl (fun h => h)).trans t0, (hq.cell (p := ⟨w.heap.size + 1, 1, none⟩) tl (fun h => h)).trans t1, (hq.cell (p := ⟨w.heap.size + 1, 2, none⟩) tl (fun h => h)).trans t2, (hq.cell (p := ⟨w.heap.size + 1, 3, none⟩) tl (fun h => h)).trans t3, (hq.cell (p := ⟨w.heap.size + 1, 4, none⟩) tl (fun h => h)).trans t4, (hq.cell (p := ⟨w.heap.size + 1, 5, none⟩) tl (fun h => h)).trans t5, (hq.cell (p := ⟨w.heap.size + 1, 6, none⟩) tl (fun h => h)).trans t6, (hq.cell (p := ⟨w.heap.size + 1, 7, none⟩) tl (fun h => h)).trans t7, (hq.cell (p := ⟨w.heap.size + 1, 8, none⟩) tl (fun h => h)).trans t8, (hq.cell (p := ⟨w.heap.size + 1, 9, none⟩) tl (fun h => h)).trans t9, (hq.cell (p := ⟨w.heap.size + 1, 10, none⟩) tl (fun h => h)).trans t10, (hq.cell (p := ⟨w.heap.size + 1, 11, none⟩) tl (fun h => h)).trans t11, (hq.cell (p := ⟨bz, _, none⟩) bzl (fun h => h)).trans z0⟩) (fun hHeld => ?_)
          clear hK K
          try simp only [Act.put, List.setIfInBounds_toArray, List.set_cons_zero, List.set_cons_succ]
          refine wpAnyH_take (i := 13) (oi := Oper.mk _ _ _ _ _ _) (v := ?v43) rfl (by kernel_rfl) (by kernel_rfl) (by kernel_rfl) (fun _ _ _ h => h) (Or.inl ⟨by rfl, ?hy43⟩) (by assumption) ?rs43
          case hy43 => (intro w hSw; (try dsimp only at hSw); first | (go_simp <;> with_reducible rfl) | rfl)
          try simp only [Act.put, List.setIfInBounds_toArray, List.set_cons_zero, List.set_cons_succ]
          refine wpAnyH_take (i := 14) (oi := Oper.mk _ _ _ _ _ _) (v := ?v44) rfl (by kernel_rfl) (by kernel_rfl) (by kernel_rfl) (fun _ _ _ h => h) (Or.inl ⟨by rfl, ?hy44⟩) (by assumption) ?rs44
          case hy44 => (intro w hSw; (try dsimp only at hSw); first | (go_simp <;> with_reducible rfl) | rfl)
          try simp only [Act.put, List.setIfInBounds_toArray, List.set_cons_zero, List.set_cons_succ]
          refine wpAnyH_done (by kernel_rfl) ?_ _
          have HV : Hid (Blk ((((((((((((v3.setCell ⟨v2.heap.size, 0, none⟩ (.int .i64 f)).setCell ⟨v2.heap.size, 1, none⟩ (.int .i64 pc)).setCell ⟨v2.heap.size, 2, none⟩ (.int .i64 r0)).setCell ⟨v2.heap.size, 3, none⟩ (.int .i64 r1)).setCell ⟨v2.heap.size, 4, none⟩ (.int .i64 r2)).setCell ⟨v2.heap.size, 5, none⟩ (.int .i64 r3)).setCell ⟨v2.heap.size, 6, none⟩ (.int .i64 r4)).setCell ⟨v2.heap.size, 7, none⟩ (.int .i64 r5)).setCell ⟨v2.heap.size, 8, none⟩ (.int .i64 r6)).setCell ⟨v2.heap.size, 9, none⟩ (.int .i64 r7)).setCell ⟨v2.heap.size, 10, none⟩ (.slice D3 n3 c3)).setCell ⟨v2.heap.size, 11, none⟩ (.bool true)) v2.heap.size 28 #[.int .i64 f, .int .i64 pc, .int .i64 r0, .int .i64 r1, .int .i64 r2, .int .i64 r3, .int .i64 r4, .int .i64 r5, .int .i64 r6, .int .i64 r7, .slice D3 n3 c3, .bool true]) := Lib.hid (Blk.set12 _ _ _ _ _ _ _ _ _ _ _ _ ZB.out)
          have hkv : Chg (fun g => g = v2.heap.size) v3 ((((((((((((v3.setCell ⟨v2.heap.size, 0, none⟩ (.int .i64 f)).setCell ⟨v2.heap.size, 1, none⟩ (.int .i64 pc)).setCell ⟨v2.heap.size, 2, none⟩ (.int .i64 r0)).setCell ⟨v2.heap.size, 3, none⟩ (.int .i64 r1)).setCell ⟨v2.heap.size, 4, none⟩ (.int .i64 r2)).setCell ⟨v2.heap.size, 5, none⟩ (.int .i64 r3)).setCell ⟨v2.heap.size, 6, none⟩ (.int .i64 r4)).setCell ⟨v2.heap.size, 7, none⟩ (.int .i64 r5)).setCell ⟨v2.heap.size, 8, none⟩ (.int .i64 r6)).setCell ⟨v2.heap.size, 9, none⟩ (.int .i64 r7)).setCell ⟨v2.heap.size, 10, none⟩ (.slice D3 n3 c3)).setCell ⟨v2.heap.size, 11, none⟩ (.bool true)) := chg12s _ _ _ _ _ _ _ _ _ _ _ _
          have HKV : Hid (Chg (fun _ => False) wr ((((((((((((v3.setCell ⟨v2.heap.size, 0, none⟩ (.int .i64 f)).setCell ⟨v2.heap.size, 1, none⟩ (.int .i64 pc)).setCell ⟨v2.heap.size, 2, none⟩ (.int .i64 r0)).setCell ⟨v2.heap.size, 3, none⟩ (.int .i64 r1)).setCell ⟨v2.heap.size, 4, none⟩ (.int .i64 r2)).setCell ⟨v2.heap.size, 5, none⟩ (.int .i64 r3)).setCell ⟨v2.heap.size, 6, none⟩ (.int .i64 r4)).setCell ⟨v2.heap.size, 7, none⟩ (.int .i64 r5)).setCell ⟨v2.heap.size, 8, none⟩ (.int .i64 r6)).setCell ⟨v2.heap.size, 9, none⟩ (.int .i64 r7)).setCell ⟨v2.heap.size, 10, none⟩ (.slice D3 n3 c3)).setCell ⟨v2.heap.size, 11, none⟩ (.bool true))) := Lib.hid (HC3.out.trans hkv (fun k hk h => by have h' : k = v2.heap.size := h; have := HC12.out.size; omega))
          have RV : Hid (Rd ((((((((((((v3.setCell ⟨v2.heap.size, 0, none⟩ (.int .i64 f)).setCell ⟨v2.heap.size, 1, none⟩ (.int .i64 pc)).setCell ⟨v2.heap.size, 2, none⟩ (.int .i64 r0)).setCell ⟨v2.heap.size, 3, none⟩ (.int .i64 r1)).setCell ⟨v2.heap.size, 4, none⟩ (.int .i64 r2)).setCell ⟨v2.heap.size, 5, none⟩ (.int .i64 r3)).setCell ⟨v2.heap.size, 6, none⟩ (.int .i64 r4)).setCell ⟨v2.heap.size, 7, none⟩ (.int .i64 r5)).setCell ⟨v2.heap.size, 8, none⟩ (.int .i64 r6)).setCell ⟨v2.heap.size, 9, none⟩ (.int .i64 r7)).setCell ⟨v2.heap.size, 10, none⟩ (.slice D3 n3 c3)).setCell ⟨v2.heap.size, 11, none⟩ (.bool true)) 2 D3 n3 (kv es)) := Lib.hid (HR3.out.rd.keptf hkv (fun _ g hg h => by have h1 := (HR3.out.blk_lt g hg).1; have h' : g = v2.heap.size := h; simp at h1; omega))
          have LV : Hid (∀ g, blk D3 = some g → g ≠ w.heap.size + 1) := Lib.hid (fun g hg h => by have h1 := (HR3.out.blk_lt g hg).1; have h2 := HC12.out.size; simp at h1; omega)
          have HK2V : Hid (Chg (fun _ => False) v2 ((((((((((((v3.setCell ⟨v2.heap.size, 0, none⟩ (.int .i64 f)).setCell ⟨v2.heap.size, 1, none⟩ (.int .i64 pc)).setCell ⟨v2.heap.size, 2, none⟩ (.int .i64 r0)).setCell ⟨v2.heap.size, 3, none⟩ (.int .i64 r1)).setCell ⟨v2.heap.size, 4, none⟩ (.int .i64 r2)).setCell ⟨v2.heap.size, 5, none⟩ (.int .i64 r3)).setCell ⟨v2.heap.size, 6, none⟩ (.int .i64 r4)).setCell ⟨v2.heap.size, 7, none⟩ (.int .i64 r5)).setCell ⟨v2.heap.size, 8, none⟩ (.int .i64 r6)).setCell ⟨v2.heap.size, 9, none⟩ (.int .i64 r7)).setCell ⟨v2.heap.size, 10, none⟩ (.slice D3 n3 c3)).setCell ⟨v2.heap.size, 11, none⟩ (.bool true))) := Lib.hid (HK23.out.trans hkv (fun k hk h => by have h' : k = v2.heap.size := h; omega))
          obtain ⟨V, hV⟩ : ∃ V, V = ((((((((((((v3.setCell ⟨v2.heap.size, 0, none⟩ (.int .i64 f)).setCell ⟨v2.heap.size, 1, none⟩ (.int .i64 pc)).setCell ⟨v2.heap.size, 2, none⟩ (.int .i64 r0)).setCell ⟨v2.heap.size, 3, none⟩ (.int .i64 r1)).setCell ⟨v2.heap.size, 4, none⟩ (.int .i64 r2)).setCell ⟨v2.heap.size, 5, none⟩ (.int .i64 r3)).setCell ⟨v2.heap.size, 6, none⟩ (.int .i64 r4)).setCell ⟨v2.heap.size, 7, none⟩ (.int .i64 r5)).setCell ⟨v2.heap.size, 8, none⟩ (.int .i64 r6)).setCell ⟨v2.heap.size, 9, none⟩ (.int .i64 r7)).setCell ⟨v2.heap.size, 10, none⟩ (.slice D3 n3 c3)).setCell ⟨v2.heap.size, 11, none⟩ (.bool true)) := ⟨_, rfl⟩
          obtain ⟨X9, hX9⟩ : ∃ X9, X9 = v2.heap.size := ⟨_, rfl⟩
          rw [← hV, ← hX9] at HV
          rw [← hV] at HKV RV HK2V
          rw [← hV, ← hX9]
          clear hV hX9 hkv hv2 hX8
          have q0 := HV.out.cell 0
          have q1 := HV.out.cell 1
          have q2 := HV.out.cell 2
          have q3 := HV.out.cell 3
          have q4 := HV.out.cell 4
          have q5 := HV.out.cell 5
          have q6 := HV.out.cell 6
          have q7 := HV.out.cell 7
          have q8 := HV.out.cell 8
          have q9 := HV.out.cell 9
          have q10 := HV.out.cell 10
          have q11 := HV.out.cell 11
          have ql := HV.out.lt
          have o0 := (H8.out.kept HK2V.out (fun h => h)).cell 0
          have o1 := (H8.out.kept HK2V.out (fun h => h)).cell 1
          have o2 := (H8.out.kept HK2V.out (fun h => h)).cell 2
          have o3 := (H8.out.kept HK2V.out (fun h => h)).cell 3
          have o4 := (H8.out.kept HK2V.out (fun h => h)).cell 4
          have o5 := (H8.out.kept HK2V.out (fun h => h)).cell 5
          have o6 := (H8.out.kept HK2V.out (fun h => h)).cell 6
          have o7 := (H8.out.kept HK2V.out (fun h => h)).cell 7
          have o8 := (H8.out.kept HK2V.out (fun h => h)).cell 8
          have o9 := (H8.out.kept HK2V.out (fun h => h)).cell 9
          have o10 := (H8.out.kept HK2V.out (fun h => h)).cell 10
          have o11 := (H8.out.kept HK2V.out (fun h => h)).cell 11
          have ol := (H8.out.kept HK2V.out (fun h => h)).lt
          simp at q0 o0 q1 o1 q2 o2 q3 o3 q4 o4 q5 o5 q6 o6 q7 o7 q8 o8 q9 o9 q10 o10 q11 o11
          have p1 := (HKV.out.cell (p := ⟨w.heap.size, 0, none⟩) pl (fun h => h)).trans p0
          have pl1 := Nat.lt_of_lt_of_le pl HKV.out.size
          have g0 := (HKV.out.cell (p := ⟨w.heap.size + 1, 0, none⟩) tl (fun h => h)).trans t0
          have g1 := (HKV.out.cell (p := ⟨w.heap.size + 1, 1, none⟩) tl (fun h => h)).trans t1
          have g2 := (HKV.out.cell (p := ⟨w.heap.size + 1, 2, none⟩) tl (fun h => h)).trans t2
          have g3 := (HKV.out.cell (p := ⟨w.heap.size + 1, 3, none⟩) tl (fun h => h)).trans t3
          have g4 := (HKV.out.cell (p := ⟨w.heap.size + 1, 4, none⟩) tl (fun h => h)).trans t4
          have g5 := (HKV.out.cell (p := ⟨w.heap.size + 1, 5, none⟩) tl (fun h => h)).trans t5
          have g6 := (HKV.out.cell (p := ⟨w.heap.size + 1, 6, none⟩) tl (fun h => h)).trans t6
          have g7 := (HKV.out.cell (p := ⟨w.heap.size + 1, 7, none⟩) tl (fun h => h)).trans t7
          have g8 := (HKV.out.cell (p := ⟨w.heap.size + 1, 8, none⟩) tl (fun h => h)).trans t8
          have g9 := (HKV.out.cell (p := ⟨w.heap.size + 1, 9, none⟩) tl (fun h => h)).trans t9
          have g10 := (HKV.out.cell (p := ⟨w.heap.size + 1, 10, none⟩) tl (fun h => h)).trans t10
          have g11 := (HKV.out.cell (p := ⟨w.heap.size + 1, 11, none⟩) tl (fun h => h)).trans t11
          have gl := Nat.lt_of_lt_of_le tl HKV.out.size
          have HSM := Lib.hid (show Calls Tryd.prog 17 #[.agg #[.int .i64 f, .int .i64 pc, .int .i64 r0, .int .i64 r1, .int .i64 r2, .int .i64 r3, .int .i64 r4, .int .i64 r5, .int .i64 r6, .int .i64 r7, .slice D n cap, .bool true], .agg #[.int .i64 f, .int .i64 pc, .int .i64 r0, .int .i64 r1, .int .i64 r2, .int .i64 r3, .int .i64 r4, .int .i64 r5, .int .i64 r6, .int .i64 r7, .slice D1 n c1, .bool true]] V (fun e W' => e = .returned (.bool true) ∧ Chg (fun _ => False) V W') from by
            have h := tsame_any f pc r0 r1 r2 r3 r4 r5 r6 r7 f pc r0 r1 r2 r3 r4 r5 r6 r7 D D1 n cap n c1 true true es es V HU.out HU.out (HRD.out.kept HKV.out (fun _ _ h => h)) (HR1.out.kept HK2V.out (fun _ _ h => h)) (by omega) (by omega)
            rwa [decide_eq_true (by simp)] at h)
          go_wp2_with fail
          refine HSM.out.mono ?_
          rintro e5 v5 ⟨rfl, hc5⟩
          have HC5 := Lib.hid (HKV.out.trans hc5 (fun _ _ h => h))
          have HV5 := Lib.hid (HV.out.kept hc5 (fun h => h))
          have R5 := Lib.hid (RV.out.kept hc5 (fun _ _ h => h))
          clear hc5 q0 o0 g0 q1 o1 g1 q2 o2 g2 q3 o3 g3 q4 o4 g4 q5 o5 g5 q6 o6 g6 q7 o7 g7 q8 o8 g8 q9 o9 g9 q10 o10 g10 q11 o11 g11 ql ol p1 pl1 gl
          have p5 := (HC5.out.cell (p := ⟨w.heap.size, 0, none⟩) pl (fun h => h)).trans p0
          have pl5 := Nat.lt_of_lt_of_le pl HC5.out.size
          have q0 := HV5.out.cell 0
          have q1 := HV5.out.cell 1
          have q2 := HV5.out.cell 2
          have q3 := HV5.out.cell 3
          have q4 := HV5.out.cell 4
          have q5 := HV5.out.cell 5
          have q6 := HV5.out.cell 6
          have q7 := HV5.out.cell 7
          have q8 := HV5.out.cell 8
          have q9 := HV5.out.cell 9
          have q10 := HV5.out.cell 10
          have q11 := HV5.out.cell 11
          have ql := HV5.out.lt
          simp at q0 q1 q2 q3 q4 q5 q6 q7 q8 q9 q10 q11
          have HFI := Lib.hid (show Calls Tryd.prog 11 #[.agg #[.slice A m c], .agg #[.int .i64 f, .int .i64 pc, .int .i64 r0, .int .i64 r1, .int .i64 r2, .int .i64 r3, .int .i64 r4, .int .i64 r5, .int .i64 r6, .int .i64 r7, .slice D3 n3 c3, .bool true]] v5 (fun e W' => e = .returned (.bool true) ∧ Chg (fun _ => False) v5 W') from by
            have h := fits_any c (HPM.out v5 (HWR.out.trans HC5.out (fun _ _ h => h))) (HTB2.out v5 (HWR.out.trans HC5.out (fun _ _ h => h))) hm f pc r0 r1 r2 r3 r4 r5 r6 r7 D3 n3 c3 true es HU3.out R5.out (by have := R5.out.lenk HU3.out (by decide); omega)
            rwa [HF3.out] at h)
          go_wp2_with fail
          refine HFI.out.mono ?_
          rintro e6 v6 ⟨rfl, hc6⟩
          have HC6 := Lib.hid (HC5.out.trans hc6 (fun _ _ h => h))
          have HV6 := Lib.hid (HV5.out.kept hc6 (fun h => h))
          have R6 := Lib.hid (R5.out.kept hc6 (fun _ _ h => h))
          clear hc6 q0 q1 q2 q3 q4 q5 q6 q7 q8 q9 q10 q11 ql p5 pl5
          have q0 := HV6.out.cell 0
          have q1 := HV6.out.cell 1
          have q2 := HV6.out.cell 2
          have q3 := HV6.out.cell 3
          have q4 := HV6.out.cell 4
          have q5 := HV6.out.cell 5
          have q6 := HV6.out.cell 6
          have q7 := HV6.out.cell 7
          have q8 := HV6.out.cell 8
          have q9 := HV6.out.cell 9
          have q10 := HV6.out.cell 10
          have q11 := HV6.out.cell 11
          have ql := HV6.out.lt
          simp at q0 q1 q2 q3 q4 q5 q6 q7 q8 q9 q10 q11
          have g0 := (HC6.out.cell (p := ⟨w.heap.size + 1, 0, none⟩) tl (fun h => h)).trans t0
          have j0 := (HC6.out.frozen (p := ⟨w.heap.size + 1, 0, none⟩) tl (fun h => h)).trans (HTB.out.frozen 0)
          have g1 := (HC6.out.cell (p := ⟨w.heap.size + 1, 1, none⟩) tl (fun h => h)).trans t1
          have j1 := (HC6.out.frozen (p := ⟨w.heap.size + 1, 1, none⟩) tl (fun h => h)).trans (HTB.out.frozen 1)
          have g2 := (HC6.out.cell (p := ⟨w.heap.size + 1, 2, none⟩) tl (fun h => h)).trans t2
          have j2 := (HC6.out.frozen (p := ⟨w.heap.size + 1, 2, none⟩) tl (fun h => h)).trans (HTB.out.frozen 2)
          have g3 := (HC6.out.cell (p := ⟨w.heap.size + 1, 3, none⟩) tl (fun h => h)).trans t3
          have j3 := (HC6.out.frozen (p := ⟨w.heap.size + 1, 3, none⟩) tl (fun h => h)).trans (HTB.out.frozen 3)
          have g4 := (HC6.out.cell (p := ⟨w.heap.size + 1, 4, none⟩) tl (fun h => h)).trans t4
          have j4 := (HC6.out.frozen (p := ⟨w.heap.size + 1, 4, none⟩) tl (fun h => h)).trans (HTB.out.frozen 4)
          have g5 := (HC6.out.cell (p := ⟨w.heap.size + 1, 5, none⟩) tl (fun h => h)).trans t5
          have j5 := (HC6.out.frozen (p := ⟨w.heap.size + 1, 5, none⟩) tl (fun h => h)).trans (HTB.out.frozen 5)
          have g6 := (HC6.out.cell (p := ⟨w.heap.size + 1, 6, none⟩) tl (fun h => h)).trans t6
          have j6 := (HC6.out.frozen (p := ⟨w.heap.size + 1, 6, none⟩) tl (fun h => h)).trans (HTB.out.frozen 6)
          have g7 := (HC6.out.cell (p := ⟨w.heap.size + 1, 7, none⟩) tl (fun h => h)).trans t7
          have j7 := (HC6.out.frozen (p := ⟨w.heap.size + 1, 7, none⟩) tl (fun h => h)).trans (HTB.out.frozen 7)
          have g8 := (HC6.out.cell (p := ⟨w.heap.size + 1, 8, none⟩) tl (fun h => h)).trans t8
          have j8 := (HC6.out.frozen (p := ⟨w.heap.size + 1, 8, none⟩) tl (fun h => h)).trans (HTB.out.frozen 8)
          have g9 := (HC6.out.cell (p := ⟨w.heap.size + 1, 9, none⟩) tl (fun h => h)).trans t9
          have j9 := (HC6.out.frozen (p := ⟨w.heap.size + 1, 9, none⟩) tl (fun h => h)).trans (HTB.out.frozen 9)
          have g10 := (HC6.out.cell (p := ⟨w.heap.size + 1, 10, none⟩) tl (fun h => h)).trans t10
          have j10 := (HC6.out.frozen (p := ⟨w.heap.size + 1, 10, none⟩) tl (fun h => h)).trans (HTB.out.frozen 10)
          have g11 := (HC6.out.cell (p := ⟨w.heap.size + 1, 11, none⟩) tl (fun h => h)).trans t11
          have j11 := (HC6.out.frozen (p := ⟨w.heap.size + 1, 11, none⟩) tl (fun h => h)).trans (HTB.out.frozen 11)
          have gl := Nat.lt_of_lt_of_le tl HC6.out.size
          have HSN := Lib.hid (show Calls Tryd.prog 17 #[.agg #[.int .i64 f, .int .i64 pc, .int .i64 r0, .int .i64 r1, .int .i64 r2, .int .i64 r3, .int .i64 r4, .int .i64 r5, .int .i64 r6, .int .i64 r7, .slice D3 n3 c3, .bool true], .agg #[.int .i64 f, .int .i64 pc, .int .i64 r0, .int .i64 r1, .int .i64 r2, .int .i64 r3, .int .i64 r4, .int .i64 r5, .int .i64 r6, .int .i64 r7, .slice D n cap, .bool true]] v6 (fun e W' => e = .returned (.bool true) ∧ Chg (fun _ => False) v6 W') from by
            have h := tsame_any f pc r0 r1 r2 r3 r4 r5 r6 r7 f pc r0 r1 r2 r3 r4 r5 r6 r7 D3 D n3 c3 n cap true true es es v6 HU.out HU.out R6.out (HRD.out.kept HC6.out (fun _ _ h => h)) (by have := R6.out.lenk HU.out (by decide); omega) (by omega)
            rwa [decide_eq_true (by simp)] at h)
          go_wp2_with fail
          refine HSN.out.mono ?_
          rintro e7 v7 ⟨rfl, hc7⟩
          have HC7 := Lib.hid (HC6.out.trans hc7 (fun _ _ h => h))
          have HV7 := Lib.hid (HV6.out.kept hc7 (fun h => h))
          have R7 := Lib.hid (R6.out.kept hc7 (fun _ _ h => h))
          clear hc7 q0 g0 j0 q1 g1 j1 q2 g2 j2 q3 g3 j3 q4 g4 j4 q5 g5 j5 q6 g6 j6 q7 g7 j7 q8 g8 j8 q9 g9 j9 q10 g10 j10 q11 g11 j11 ql gl
          have q0 := HV7.out.cell 0
          have q1 := HV7.out.cell 1
          have q2 := HV7.out.cell 2
          have q3 := HV7.out.cell 3
          have q4 := HV7.out.cell 4
          have q5 := HV7.out.cell 5
          have q6 := HV7.out.cell 6
          have q7 := HV7.out.cell 7
          have q8 := HV7.out.cell 8
          have q9 := HV7.out.cell 9
          have q10 := HV7.out.cell 10
          have q11 := HV7.out.cell 11
          have ql := HV7.out.lt
          simp at q0 q1 q2 q3 q4 q5 q6 q7 q8 q9 q10 q11
          have g0 := (HC7.out.cell (p := ⟨w.heap.size + 1, 0, none⟩) tl (fun h => h)).trans t0
          have j0 := (HC7.out.frozen (p := ⟨w.heap.size + 1, 0, none⟩) tl (fun h => h)).trans (HTB.out.frozen 0)
          have g1 := (HC7.out.cell (p := ⟨w.heap.size + 1, 1, none⟩) tl (fun h => h)).trans t1
          have j1 := (HC7.out.frozen (p := ⟨w.heap.size + 1, 1, none⟩) tl (fun h => h)).trans (HTB.out.frozen 1)
          have g2 := (HC7.out.cell (p := ⟨w.heap.size + 1, 2, none⟩) tl (fun h => h)).trans t2
          have j2 := (HC7.out.frozen (p := ⟨w.heap.size + 1, 2, none⟩) tl (fun h => h)).trans (HTB.out.frozen 2)
          have g3 := (HC7.out.cell (p := ⟨w.heap.size + 1, 3, none⟩) tl (fun h => h)).trans t3
          have j3 := (HC7.out.frozen (p := ⟨w.heap.size + 1, 3, none⟩) tl (fun h => h)).trans (HTB.out.frozen 3)
          have g4 := (HC7.out.cell (p := ⟨w.heap.size + 1, 4, none⟩) tl (fun h => h)).trans t4
          have j4 := (HC7.out.frozen (p := ⟨w.heap.size + 1, 4, none⟩) tl (fun h => h)).trans (HTB.out.frozen 4)
          have g5 := (HC7.out.cell (p := ⟨w.heap.size + 1, 5, none⟩) tl (fun h => h)).trans t5
          have j5 := (HC7.out.frozen (p := ⟨w.heap.size + 1, 5, none⟩) tl (fun h => h)).trans (HTB.out.frozen 5)
          have g6 := (HC7.out.cell (p := ⟨w.heap.size + 1, 6, none⟩) tl (fun h => h)).trans t6
          have j6 := (HC7.out.frozen (p := ⟨w.heap.size + 1, 6, none⟩) tl (fun h => h)).trans (HTB.out.frozen 6)
          have g7 := (HC7.out.cell (p := ⟨w.heap.size + 1, 7, none⟩) tl (fun h => h)).trans t7
          have j7 := (HC7.out.frozen (p := ⟨w.heap.size + 1, 7, none⟩) tl (fun h => h)).trans (HTB.out.frozen 7)
          have g8 := (HC7.out.cell (p := ⟨w.heap.size + 1, 8, none⟩) tl (fun h => h)).trans t8
          have j8 := (HC7.out.frozen (p := ⟨w.heap.size + 1, 8, none⟩) tl (fun h => h)).trans (HTB.out.frozen 8)
          have g9 := (HC7.out.cell (p := ⟨w.heap.size + 1, 9, none⟩) tl (fun h => h)).trans t9
          have j9 := (HC7.out.frozen (p := ⟨w.heap.size + 1, 9, none⟩) tl (fun h => h)).trans (HTB.out.frozen 9)
          have g10 := (HC7.out.cell (p := ⟨w.heap.size + 1, 10, none⟩) tl (fun h => h)).trans t10
          have j10 := (HC7.out.frozen (p := ⟨w.heap.size + 1, 10, none⟩) tl (fun h => h)).trans (HTB.out.frozen 10)
          have g11 := (HC7.out.cell (p := ⟨w.heap.size + 1, 11, none⟩) tl (fun h => h)).trans t11
          have j11 := (HC7.out.frozen (p := ⟨w.heap.size + 1, 11, none⟩) tl (fun h => h)).trans (HTB.out.frozen 11)
          have gl := Nat.lt_of_lt_of_le tl HC7.out.size
          go_wp2
          go_roundw
          case rel =>
            refine ⟨k + 1, by omega, by go_num, Lib.hid ⟨f, pc, [r0, r1, r2, r3, r4, r5, r6, r7], D3, n3, c3, true, es, ⟨rfl, HU3.out, by omega, HF3.out, Blk.set12 _ _ _ _ _ _ _ _ _ _ _ _ (HTB.out.kept HC7.out (fun h => h)), R7.out.keptf (chg12s _ _ _ _ _ _ _ _ _ _ _ _) (fun _ g hg h => LV.out g hg h), fun _ g hg => LV.out g hg, ?_⟩⟩⟩
            exact (HCR.out.trans HC7.out (fun _ _ h => h.elim)).trans (chg12s _ _ _ _ _ _ _ _ _ _ _ _) (fun _ _ h => h)
          case measure => simp [intOf]; omega
      · have hkl : k = la := by omega
        obtain ⟨f, pc, rs, D, n, cap, d, es, hSt⟩ := HS.out
        have HCE := Lib.hid (HCW.out wr hSt.ch)
        clear hSt HS
        go_wp2_with (go_at_call 7; refine (alive_any _ (HTB2.out _ HCE.out)).mono ?_; rintro e w9 ⟨rfl, hc9⟩; have HC9 := Lib.hid (HCE.out.trans hc9 (fun _ _ h => h)); clear hc9)
        go_ret
        exact ⟨rfl, HC9.out.toB⟩
end
theorem walk_vmStays (cs0 : List Value) (d0 : ShProg.Den) (cs1 : List Value) (d1 : ShTh.Den) (a2 : Option Addr) (len2 cap2 : Nat) (z2 : Nat → Int) (w : World) (hL0 : Lies w ShProg cs0 d0) (hL1 : Lies w ShTh cs1 d1) (w2 : Ints .i64 w a2 len2 z2) (hL : laidMetH Tryd.prog Rows.vmStaysRow.laid w) :
    Calls Tryd.prog 5 #[Sh.val ShProg cs0, Sh.val ShTh cs1, .slice a2 len2 cap2] w fun e w' => e = .returned (.bool true) ∧ Below w.heap.size w w' := by
  obtain ⟨A, m, c, Ac, nc, cc, As, ns, cs, code, safe, h1, hm, hP⟩ := open_prog hL0
  obtain ⟨f, pc, r0, r1, r2, r3, r4, r5, r6, r7, D, n, cap, d, es, e0, g1, g2, g3, g4⟩ := open_thread hL1
  rw [h1, e0]
  exact walk_vmStays' c hP (tab_of_laid hL) hm f pc r0 r1 r2 r3 r4 r5 r6 r7 D n cap d es g3 g4 (Nat.le_trans g1 g2) a2 len2 cap2 _ (Rd.of_ints w2) w2.1
end Go.Proofs.YthdkbofnplnidaaDoor
