/- Whether a thread fits. -/
import Derived.Test.YthdkbofnplnidaaDoorVmA
namespace Go.Proofs.YthdkbofnplnidaaDoor
open Go.ChangeShapes Go.WideShapes Go.ChangeAt Go.RowKit Go.Deep
set_option linter.unusedVariables false
set_option linter.unusedSimpArgs false

theorem two {e : List Int} (h : e.length = 2) : e = [e.getD 0 0, e.getD 1 0] := by
  match e, h with
  | [a, b], _ => rfl
theorem first_one (p : List Int → Bool) : ∀ es : List (List Int), (∀ (k : Nat) (hk : k < es.length), p es[k] = false) ∨ ∃ (m : Nat) (hm : m < es.length), p es[m] = true ∧ ∀ (k : Nat) (hk : k < es.length), k < m → p es[k] = false
  | [] => .inl fun k hk => absurd hk (by simp)
  | e :: r => by
    by_cases he : p e = true
    · exact .inr ⟨0, by simp, he, fun k _ hk => absurd hk (by omega)⟩
    · have hef : p e = false := by simpa using he
      rcases first_one p r with h | ⟨m, hm, ht, h⟩
      · left; intro k hk
        match k, hk with
        | 0, _ => exact hef
        | k + 1, hk => exact h k (by simpa using hk)
      · refine .inr ⟨m + 1, by simpa using hm, ht, fun k hk hlt => ?_⟩
        match k, hk, hlt with
        | 0, _, _ => exact hef
        | k + 1, hk, hlt => exact h k (by simpa using hk) (by omega)
theorem any_no {p : List Int → Bool} {es : List (List Int)} (h : ∀ (k : Nat) (hk : k < es.length), p es[k] = false) : es.any p = false := by
  rw [List.any_eq_false]
  intro e he
  obtain ⟨k, hk, rfl⟩ := List.getElem_of_mem he
  simp [h k hk]
theorem any_yes {p : List Int → Bool} {es : List (List Int)} {m : Nat} (hm : m < es.length) (h : p es[m] = true) : es.any p = true := List.any_eq_true.2 ⟨_, List.getElem_mem hm, h⟩
structure WB (w : World) (B1 c : Nat) (A : Option Addr) (m : Nat) (Ac : Nat → Option Addr) (nc cc : Nat → Nat) (As : Nat → Option Addr) (ns cs : Nat → Nat) (code : Nat → List (List Int)) (safe : Nat → List Bool) : Prop where
  p : PM w A m Ac nc cc As ns cs code safe
  b : Blk w B1 24 #[.slice A m c]
abbrev fnW (B1 : Nat) : Value := .func (.func 25) #[] #[.pointer (some ⟨B1, 0, none⟩)]
section
variable {B1 c : Nat} {W : World} {A : Option Addr} {m : Nat} {Ac : Nat → Option Addr} {nc cc : Nat → Nat} {As : Nat → Option Addr} {ns cs : Nat → Nat} {code : Nat → List (List Int)} {safe : Nat → List Bool}
theorem WB.chg {w w' : World} (h : WB w B1 c A m Ac nc cc As ns cs code safe) (hc : Chg (fun _ => False) w w') : WB w' B1 c A m Ac nc cc As ns cs code safe := ⟨h.p.chg hc, h.b.kept hc (fun h => h)⟩
theorem wrong_e {w : World} (h : WB w B1 c A m Ac nc cc As ns cs code safe) (hm : m ≤ 100) (e : List Int) :
    Calls Tryd.prog 25 (#[.agg #[.int .i64 (e.getD 0 0), .int .i64 (e.getD 1 0)]] ++ #[.pointer (some ⟨B1, 0, none⟩)]) w fun r W' => r = .returned (.bool (wrongP m nc e)) ∧ Chg (fun _ => False) w W' := wrong_any B1 c (e.getD 0 0) (e.getD 1 0) h.p h.b hm
set_option maxRecDepth 100000 in
set_option maxHeartbeats 4000000 in
theorem idx_none (D : Option Addr) (n cap : Nat) (es : List (List Int)) (W : World) (hu : Uni 2 es) (hD : Rd W 2 D n (kv es)) (hn : n ≤ 1000) (hO : WB W B1 c A m Ac nc cc As ns cs code safe) (hm : m ≤ 100) (h : ∀ (k : Nat) (hk : k < es.length), wrongP m nc es[k] = false) :
    Calls Tryd.prog 35 #[.slice D n cap, fnW B1] W fun e W' => e = .returned (.int .i64 (-1)) ∧ Chg (fun _ => False) W W' := by
  have hlen := hD.lenk hu (by decide)
  have HA := Lib.hid (fun (V : World) (hc : Chg (fun _ => False) W V) => hD.kept hc (fun _ _ h => h))
  have HO := Lib.hid (fun (V : World) (hc : Chg (fun _ => False) W V) => hO.chg hc)
  have HU := Lib.hid hu
  have HH := Lib.hid h
  clear hD hO hu h
  go_enter Tryd.func35, Tryd.ntmps35
  go_wp2_with fail
  go_loopw [8] (fun iv wr => ∃ k : Nat, k ≤ n ∧ iv = .int .i64 k ∧ Hid (Chg (fun _ => False) W wr)) (fun iv _ => n - (intOf iv).toNat)
  case atStart => exact ⟨0, by omega, rfl, Lib.hid (Chg.refl _ _)⟩
  case round =>
    obtain ⟨k, hk, rfl, HC⟩ := hrel
    have k0 : (0 : Int) ≤ k := by omega
    by_cases hlt : k < n
    · have k1 : (k : Int) < n := by omega
      have hke : k < es.length := by omega
      obtain ⟨_, b, o, rfl, hb, hcc⟩ := (HA.out wr HC.out).getk HU.out (by decide) (by omega)
      have c0 := hcc k hke 0 (by decide)
      have c1 := hcc k hke 1 (by decide)
      simp only [Nat.add_zero] at c0
      rw [← Nat.add_assoc] at c1
      have HK := Lib.hid (wrong_e (HO.out wr HC.out) hm es[k])
      rw [HH.out k hke] at HK
      generalize (es[k]).getD 0 0 = x0 at *
      generalize (es[k]).getD 1 0 = x1 at *
      clear hcc
      go_wp2_with (go_at_call 25; refine HK.out.mono ?_; rintro e w1 ⟨rfl, hc1⟩; have HC1 := Lib.hid (HC.out.trans hc1 (fun _ _ h => h)); clear hc1)
      go_roundw
      case rel => exact ⟨k + 1, by omega, by go_num, HC1⟩
      case measure => simp [intOf]; omega
    · go_wp2
      go_ret
      exact ⟨rfl, HC.out⟩
set_option maxRecDepth 100000 in
set_option maxHeartbeats 4000000 in
theorem idx_some (D : Option Addr) (n cap : Nat) (es : List (List Int)) (W : World) (hu : Uni 2 es) (hD : Rd W 2 D n (kv es)) (hn : n ≤ 1000) (hO : WB W B1 c A m Ac nc cc As ns cs code safe) (hm : m ≤ 100) (q : Nat) (hq : q < es.length) (ht : wrongP m nc es[q] = true) (h : ∀ (k : Nat) (hk : k < es.length), k < q → wrongP m nc es[k] = false) :
    Calls Tryd.prog 35 #[.slice D n cap, fnW B1] W fun e W' => e = .returned (.int .i64 (q : Int)) ∧ Chg (fun _ => False) W W' := by
  have hlen := hD.lenk hu (by decide)
  have HA := Lib.hid (fun (V : World) (hc : Chg (fun _ => False) W V) => hD.kept hc (fun _ _ h => h))
  have HO := Lib.hid (fun (V : World) (hc : Chg (fun _ => False) W V) => hO.chg hc)
  have HU := Lib.hid hu
  have HH := Lib.hid h
  clear hD hO hu h
  have HT := Lib.hid ht
  clear ht
  go_enter Tryd.func35, Tryd.ntmps35
  go_wp2_with fail
  go_loopw [8] (fun iv wr => ∃ k : Nat, k ≤ q ∧ iv = .int .i64 k ∧ Hid (Chg (fun _ => False) W wr)) (fun iv _ => n - (intOf iv).toNat)
  case atStart => exact ⟨0, by omega, rfl, Lib.hid (Chg.refl _ _)⟩
  case round =>
    obtain ⟨k, hk, rfl, HC⟩ := hrel
    have k0 : (0 : Int) ≤ k := by omega
    by_cases hlt : k < q
    · have k1 : (k : Int) < n := by omega
      have hke : k < es.length := by omega
      obtain ⟨_, b, o, rfl, hb, hcc⟩ := (HA.out wr HC.out).getk HU.out (by decide) (by omega)
      have c0 := hcc k hke 0 (by decide)
      have c1 := hcc k hke 1 (by decide)
      simp only [Nat.add_zero] at c0
      rw [← Nat.add_assoc] at c1
      have HK := Lib.hid (wrong_e (HO.out wr HC.out) hm es[k])
      rw [HH.out k hke hlt] at HK
      generalize (es[k]).getD 0 0 = x0 at *
      generalize (es[k]).getD 1 0 = x1 at *
      clear hcc
      go_wp2_with (go_at_call 25; refine HK.out.mono ?_; rintro e w1 ⟨rfl, hc1⟩; have HC1 := Lib.hid (HC.out.trans hc1 (fun _ _ h => h)); clear hc1)
      go_roundw
      case rel => exact ⟨k + 1, by omega, by go_num, HC1⟩
      case measure => simp [intOf]; omega
    · obtain rfl : k = q := by omega
      have k1 : (k : Int) < n := by omega
      have hke : k < es.length := by omega
      obtain ⟨_, b, o, rfl, hb, hcc⟩ := (HA.out wr HC.out).getk HU.out (by decide) (by omega)
      have c0 := hcc k hke 0 (by decide)
      have c1 := hcc k hke 1 (by decide)
      simp only [Nat.add_zero] at c0
      rw [← Nat.add_assoc] at c1
      have HK := Lib.hid (wrong_e (HO.out wr HC.out) hm es[k])
      rw [HT.out] at HK
      generalize (es[k]).getD 0 0 = x0 at *
      generalize (es[k]).getD 1 0 = x1 at *
      clear hcc
      go_wp2_with (go_at_call 25; refine HK.out.mono ?_; rintro e w1 ⟨rfl, hc1⟩; have HC1 := Lib.hid (HC.out.trans hc1 (fun _ _ h => h)); clear hc1)
      go_ret
      exact ⟨rfl, HC1.out⟩
theorem contains_any (D : Option Addr) (n cap : Nat) (es : List (List Int)) (W : World) (hu : Uni 2 es) (hD : Rd W 2 D n (kv es)) (hn : n ≤ 1000) (hO : WB W B1 c A m Ac nc cc As ns cs code safe) (hm : m ≤ 100) :
    Calls Tryd.prog 26 #[.slice D n cap, fnW B1] W fun e W' => e = .returned (.bool (es.any (wrongP m nc))) ∧ Chg (fun _ => False) W W' := by
  rcases first_one (wrongP m nc) es with h | ⟨q, hq, ht, h⟩
  · have HI := Lib.hid (idx_none D n cap es W hu hD hn hO hm h)
    rw [any_no h]
    clear hD hO h
    go_enter Tryd.func26, Tryd.ntmps26
    go_wp2_with (go_at_call 35; refine HI.out.mono ?_; rintro e w1 ⟨rfl, hc1⟩)
    go_ret
    exact ⟨rfl, hc1⟩
  · have HI := Lib.hid (idx_some D n cap es W hu hD hn hO hm q hq ht h)
    rw [any_yes hq ht]
    have q0 : (0 : Int) ≤ q := by omega
    clear hD hO h ht
    go_enter Tryd.func26, Tryd.ntmps26
    go_wp2_with (go_at_call 35; refine HI.out.mono ?_; rintro e w1 ⟨rfl, hc1⟩)
    go_ret
    exact ⟨rfl, hc1⟩
def fitsF (m : Nat) (nc : Nat → Nat) (code : Nat → List (List Int)) (safe : Nat → List Bool) (f pc : Int) (es : List (List Int)) (d : Bool) : Bool :=
  decide ((progF m code safe).2.2 = 0) && (d || (placeOk m nc f pc && (decide (es.length ≤ 16) && !es.any (wrongP m nc))))
set_option maxRecDepth 100000 in
set_option maxHeartbeats 16000000 in
theorem fits_any (c : Nat) (hP : PM W A m Ac nc cc As ns cs code safe) (hT : Tab W) (hm : m ≤ 100) (f pc r0 r1 r2 r3 r4 r5 r6 r7 : Int) (D : Option Addr) (n cap : Nat) (d : Bool) (es : List (List Int)) (hu : Uni 2 es) (hD : Rd W 2 D n (kv es)) (hn : n ≤ 1000) :
    Calls Tryd.prog 11 #[.agg #[.slice A m c], .agg #[.int .i64 f, .int .i64 pc, .int .i64 r0, .int .i64 r1, .int .i64 r2, .int .i64 r3, .int .i64 r4, .int .i64 r5, .int .i64 r6, .int .i64 r7, .slice D n cap, .bool d]] W fun e W' => e = .returned (.bool (fitsF m nc code safe f pc es d)) ∧ Chg (fun _ => False) W W' := by
  have hln := hD.lenk hu (by decide)
  have hcb : Chg (fun _ => False) W ((W.alloc (.cells #[.slice A m c] 24)).alloc (.cells #[.int .i64 f, .int .i64 pc, .int .i64 r0, .int .i64 r1, .int .i64 r2, .int .i64 r3, .int .i64 r4, .int .i64 r5, .int .i64 r6, .int .i64 r7, .slice D n cap, .bool d] 28)) := ((Chg.refl _ _).alloc _).alloc _
  have HCB := Lib.hid hcb
  have HT0 : Hid (Blk ((W.alloc (.cells #[.slice A m c] 24)).alloc (.cells #[.int .i64 f, .int .i64 pc, .int .i64 r0, .int .i64 r1, .int .i64 r2, .int .i64 r3, .int .i64 r4, .int .i64 r5, .int .i64 r6, .int .i64 r7, .slice D n cap, .bool d] 28)) (W.heap.size + 1) 28 #[.int .i64 f, .int .i64 pc, .int .i64 r0, .int .i64 r1, .int .i64 r2, .int .i64 r3, .int .i64 r4, .int .i64 r5, .int .i64 r6, .int .i64 r7, .slice D n cap, .bool d]) := Lib.hid (by
    have h := Blk.new (W.alloc (.cells #[.slice A m c] 24)) 28 #[.int .i64 f, .int .i64 pc, .int .i64 r0, .int .i64 r1, .int .i64 r2, .int .i64 r3, .int .i64 r4, .int .i64 r5, .int .i64 r6, .int .i64 r7, .slice D n cap, .bool d]
    rwa [show (W.alloc (.cells #[.slice A m c] 24)).heap.size = W.heap.size + 1 from by simp] at h)
  have HO : Hid (WB ((W.alloc (.cells #[.slice A m c] 24)).alloc (.cells #[.int .i64 f, .int .i64 pc, .int .i64 r0, .int .i64 r1, .int .i64 r2, .int .i64 r3, .int .i64 r4, .int .i64 r5, .int .i64 r6, .int .i64 r7, .slice D n cap, .bool d] 28)) W.heap.size c A m Ac nc cc As ns cs code safe) := Lib.hid ⟨hP.chg hcb, (Blk.new W 24 _).alloc _⟩
  have HD := Lib.hid (hD.kept hcb (fun _ _ h => h))
  have HV := Lib.hid (vcheck_any c (hP.chg hcb) (hT.chg hcb) (by unfold maxLen; omega))
  have hfit : fitsF m nc code safe f pc es d = (decide ((progF m code safe).2.2 = 0) && (d || (placeOk m nc f pc && (decide (n ≤ 16) && !es.any (wrongP m nc))))) := by rw [← hln]; rfl
  rw [hfit]
  clear hfit hP hT hcb hD
  generalize progF m code safe = r at *
  obtain ⟨ra, rb, rc⟩ := r
  by_cases hr : rc = 0
  · subst hr
    cases d with
    | true =>
      have e : (decide (((ra, rb, (0 : Int)) : Int × Int × Int).2.2 = 0) && (true || (placeOk m nc f pc && (decide (n ≤ 16) && !es.any (wrongP m nc))))) = true := by simp
      rw [e]
      go_enter Tryd.func11, Tryd.ntmps11
      go_wp2_with (first
        | (go_at_call 24; refine HV.out.mono ?_; rintro e w1 ⟨rfl, hc1⟩; have HC1 := Lib.hid (HCB.out.trans hc1 (fun _ _ h => h)); have HT1 := HT0.out.kept hc1 (fun h => h); have t0 := HT1.cell 0; have t1 := HT1.cell 1; have t2 := HT1.cell 2; have t3 := HT1.cell 3; have t4 := HT1.cell 4; have t5 := HT1.cell 5; have t6 := HT1.cell 6; have t7 := HT1.cell 7; have t8 := HT1.cell 8; have t9 := HT1.cell 9; have t10 := HT1.cell 10; have t11 := HT1.cell 11; have tl := HT1.lt; simp at t0 t1 t2 t3 t4 t5 t6 t7 t8 t9 t10 t11; have HO1 := Lib.hid (HO.out.chg hc1); have HD1 := Lib.hid (HD.out.kept hc1 (fun _ _ h => h)); clear hc1 HT1)
        | fail)
      go_ret
      exact ⟨rfl, HC1.out⟩
    | false =>
      cases hpo : placeOk m nc f pc with
      | false =>
        have HPO := Lib.hid hpo
        have e : (decide (((ra, rb, (0 : Int)) : Int × Int × Int).2.2 = 0) && (false || (false && (decide (n ≤ 16) && !es.any (wrongP m nc))))) = false := by simp
        rw [e]
        go_enter Tryd.func11, Tryd.ntmps11
        go_wp2_with (first
          | (go_at_call 24; refine HV.out.mono ?_; rintro e w1 ⟨rfl, hc1⟩; have HC1 := Lib.hid (HCB.out.trans hc1 (fun _ _ h => h)); have HT1 := HT0.out.kept hc1 (fun h => h); have t0 := HT1.cell 0; have t1 := HT1.cell 1; have t2 := HT1.cell 2; have t3 := HT1.cell 3; have t4 := HT1.cell 4; have t5 := HT1.cell 5; have t6 := HT1.cell 6; have t7 := HT1.cell 7; have t8 := HT1.cell 8; have t9 := HT1.cell 9; have t10 := HT1.cell 10; have t11 := HT1.cell 11; have tl := HT1.lt; simp at t0 t1 t2 t3 t4 t5 t6 t7 t8 t9 t10 t11; have HO1 := Lib.hid (HO.out.chg hc1); have HD1 := Lib.hid (HD.out.kept hc1 (fun _ _ h => h)); clear hc1 HT1)
          | (go_at_call 25; refine (wrong_any W.heap.size c f pc HO1.out.p HO1.out.b hm).mono ?_; rw [HPO.out]; rintro e w2 ⟨rfl, hc2⟩; have HC2 := Lib.hid (HC1.out.trans hc2 (fun _ _ h => h)); have u10 := (hc2.cell (p := ⟨W.heap.size + 1, 10, none⟩) tl (fun h => h)).trans t10; have ul := Nat.lt_of_lt_of_le tl hc2.size; have HO2 := Lib.hid (HO1.out.chg hc2); have HD2 := Lib.hid (HD1.out.kept hc2 (fun _ _ h => h)); clear hc2)
          | fail)
        go_ret
        exact ⟨rfl, HC2.out⟩
      | true =>
        have HPO := Lib.hid hpo
        by_cases h16 : n ≤ 16
        · have n16 : (n : Int) ≤ 16 := by omega
          have d16 : decide ((n : Int) ≤ 16) = true := decide_eq_true n16
          have e : (decide (((ra, rb, (0 : Int)) : Int × Int × Int).2.2 = 0) && (false || (true && (decide (n ≤ 16) && !es.any (wrongP m nc))))) = !es.any (wrongP m nc) := by rw [decide_eq_true h16]; simp
          rw [e]
          go_enter Tryd.func11, Tryd.ntmps11
          go_wp2_with (first
            | (go_at_call 24; refine HV.out.mono ?_; rintro e w1 ⟨rfl, hc1⟩; have HC1 := Lib.hid (HCB.out.trans hc1 (fun _ _ h => h)); have HT1 := HT0.out.kept hc1 (fun h => h); have t0 := HT1.cell 0; have t1 := HT1.cell 1; have t2 := HT1.cell 2; have t3 := HT1.cell 3; have t4 := HT1.cell 4; have t5 := HT1.cell 5; have t6 := HT1.cell 6; have t7 := HT1.cell 7; have t8 := HT1.cell 8; have t9 := HT1.cell 9; have t10 := HT1.cell 10; have t11 := HT1.cell 11; have tl := HT1.lt; simp at t0 t1 t2 t3 t4 t5 t6 t7 t8 t9 t10 t11; have HO1 := Lib.hid (HO.out.chg hc1); have HD1 := Lib.hid (HD.out.kept hc1 (fun _ _ h => h)); clear hc1 HT1)
            | (go_at_call 26; refine (contains_any D n cap es w2 hu HD2.out (by omega) HO2.out hm).mono ?_; rintro e w3 ⟨rfl, hc3⟩; have HC3 := Lib.hid (HC2.out.trans hc3 (fun _ _ h => h)); clear hc3)
            | (go_at_call 25; refine (wrong_any W.heap.size c f pc HO1.out.p HO1.out.b hm).mono ?_; rw [HPO.out]; rintro e w2 ⟨rfl, hc2⟩; have HC2 := Lib.hid (HC1.out.trans hc2 (fun _ _ h => h)); have u10 := (hc2.cell (p := ⟨W.heap.size + 1, 10, none⟩) tl (fun h => h)).trans t10; have ul := Nat.lt_of_lt_of_le tl hc2.size; have HO2 := Lib.hid (HO1.out.chg hc2); have HD2 := Lib.hid (HD1.out.kept hc2 (fun _ _ h => h)); clear hc2)
            | fail)
          go_ret
          exact ⟨rfl, HC3.out⟩
        · have n16 : ¬ (n : Int) ≤ 16 := by omega
          have d16 : decide ((n : Int) ≤ 16) = false := decide_eq_false n16
          have e : (decide (((ra, rb, (0 : Int)) : Int × Int × Int).2.2 = 0) && (false || (true && (decide (n ≤ 16) && !es.any (wrongP m nc))))) = false := by rw [decide_eq_false h16]; simp
          rw [e]
          go_enter Tryd.func11, Tryd.ntmps11
          go_wp2_with (first
            | (go_at_call 24; refine HV.out.mono ?_; rintro e w1 ⟨rfl, hc1⟩; have HC1 := Lib.hid (HCB.out.trans hc1 (fun _ _ h => h)); have HT1 := HT0.out.kept hc1 (fun h => h); have t0 := HT1.cell 0; have t1 := HT1.cell 1; have t2 := HT1.cell 2; have t3 := HT1.cell 3; have t4 := HT1.cell 4; have t5 := HT1.cell 5; have t6 := HT1.cell 6; have t7 := HT1.cell 7; have t8 := HT1.cell 8; have t9 := HT1.cell 9; have t10 := HT1.cell 10; have t11 := HT1.cell 11; have tl := HT1.lt; simp at t0 t1 t2 t3 t4 t5 t6 t7 t8 t9 t10 t11; have HO1 := Lib.hid (HO.out.chg hc1); have HD1 := Lib.hid (HD.out.kept hc1 (fun _ _ h => h)); clear hc1 HT1)
            | (go_at_call 25; refine (wrong_any W.heap.size c f pc HO1.out.p HO1.out.b hm).mono ?_; rw [HPO.out]; rintro e w2 ⟨rfl, hc2⟩; have HC2 := Lib.hid (HC1.out.trans hc2 (fun _ _ h => h)); have u10 := (hc2.cell (p := ⟨W.heap.size + 1, 10, none⟩) tl (fun h => h)).trans t10; have ul := Nat.lt_of_lt_of_le tl hc2.size; have HO2 := Lib.hid (HO1.out.chg hc2); have HD2 := Lib.hid (HD1.out.kept hc2 (fun _ _ h => h)); clear hc2)
            | fail)
          go_ret
          exact ⟨rfl, HC2.out⟩
  · have hrd : (rc == 0) = false := beq_eq_false_iff_ne.2 hr
    have e : (decide (((ra, rb, rc) : Int × Int × Int).2.2 = 0) && (d || (placeOk m nc f pc && (decide (n ≤ 16) && !es.any (wrongP m nc))))) = false := by simp [hr]
    rw [e]
    go_enter Tryd.func11, Tryd.ntmps11
    go_wp2_with (first
      | (go_at_call 24; refine HV.out.mono ?_; rintro e w1 ⟨rfl, hc1⟩; have HC1 := Lib.hid (HCB.out.trans hc1 (fun _ _ h => h)); have HT1 := HT0.out.kept hc1 (fun h => h); have t0 := HT1.cell 0; have t1 := HT1.cell 1; have t2 := HT1.cell 2; have t3 := HT1.cell 3; have t4 := HT1.cell 4; have t5 := HT1.cell 5; have t6 := HT1.cell 6; have t7 := HT1.cell 7; have t8 := HT1.cell 8; have t9 := HT1.cell 9; have t10 := HT1.cell 10; have t11 := HT1.cell 11; have tl := HT1.lt; simp at t0 t1 t2 t3 t4 t5 t6 t7 t8 t9 t10 t11; have HO1 := Lib.hid (HO.out.chg hc1); have HD1 := Lib.hid (HD.out.kept hc1 (fun _ _ h => h)); clear hc1 HT1)
      | fail)
    go_ret
    exact ⟨rfl, HC1.out⟩
end
end Go.Proofs.YthdkbofnplnidaaDoor
