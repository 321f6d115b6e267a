/- The document's answer to one act. -/
import Derived.Test.YtemnipdmclohmaaPsH
namespace Go.Proofs.Ytemnipdmclohmaa
open Go.ChangeShapes Go.WideShapes Go.ChangeAt Go.RowKit Go.Deep
set_option linter.unusedVariables false

def DoP (base : Nat) (W : World) (x : List (Int × Int) × Int) (e : Ending) (W' : World) : Prop :=
  ∃ B' c', e = .returned (.tuple #[.slice B' x.1.length c', .int .i64 x.2]) ∧ Xl W' base B' c' x.1 ∧ Chg (fun _ => False) W W'
theorem chg_in (qs : List (Int × Int)) (k : Nat) (m : Int) (ok : Int × Int → Bool) (nx : Int × Int → Int × Int) (hk : k < qs.length) (h0 : 0 ≤ m) (h1 : m < 64) : chg qs k m ok nx = if ok qs[k] = true then (qs.set k (nx qs[k]), 0) else (qs, 9) := by
  unfold chg
  rw [if_neg (by omega), if_neg (by omega), Int.toNat_natCast, getD_at qs hk]
theorem chg_off (qs : List (Int × Int)) (p m : Int) (ok : Int × Int → Bool) (nx : Int × Int → Int × Int) (hp : p < 0 ∨ (qs.length : Int) ≤ p) : chg qs p m ok nx = (qs, 8) := by
  unfold chg
  rw [if_pos hp]
theorem chg_rng (qs : List (Int × Int)) (k : Nat) (m : Int) (ok : Int × Int → Bool) (nx : Int × Int → Int × Int) (hk : k < qs.length) (hm : m < 0 ∨ 64 ≤ m) : chg qs k m ok nx = (qs, 2) := by
  unfold chg
  rw [if_neg (by omega), if_pos hm]
set_option maxRecDepth 100000 in
set_option maxHeartbeats 4000000 in
theorem do_off (base : Nat) (B : Option Addr) (c : Nat) (kd p m : Int) (qs : List (Int × Int)) (W : World) (hX : Xl W base B c qs) (hl : qs.length ≤ 256) (h6 : ¬ kd = 6) (hp : p < 0 ∨ (qs.length : Int) ≤ p) :
    Calls Try.prog 9 #[.slice B qs.length c, .agg #[.int .i64 kd, .int .i64 p, .int .i64 m]] W (DoP base W (qs, 8)) := by
  have HX := Lib.hid hX
  clear hX
  have h6' : (kd == 6) = false := by simpa using h6
  go_enter Try.func9, Try.ntmps9
  by_cases h0 : p < 0
  · go_wp2
    go_returns
    exact ⟨B, c, rfl, HX.out.same ((Chg.refl _ _).alloc _), (Chg.refl _ _).alloc _⟩
  · have h1 : (qs.length : Int) ≤ p := by omega
    go_wp2
    go_returns
    exact ⟨B, c, rfl, HX.out.same ((Chg.refl _ _).alloc _), (Chg.refl _ _).alloc _⟩
set_option maxRecDepth 100000 in
set_option maxHeartbeats 4000000 in
theorem do_rng0 (base : Nat) (B : Option Addr) (c k : Nat) (m : Int) (qs : List (Int × Int)) (W : World) (hX : Xl W base B c qs) (hl : qs.length ≤ 256) (hk : k < qs.length) (hm : m < 0 ∨ 64 ≤ m) :
    Calls Try.prog 9 #[.slice B qs.length c, .agg #[.int .i64 0, .int .i64 k, .int .i64 m]] W (DoP base W (qs, 2)) := by
  have HX := Lib.hid hX
  clear hX
  have k0 : (0 : Int) ≤ (k : Int) := by omega
  have k1 : (k : Int) < (qs.length : Int) := by omega
  go_enter Try.func9, Try.ntmps9
  by_cases h0 : m < 0
  · go_wp2
    go_returns
    exact ⟨B, c, rfl, HX.out.same ((Chg.refl _ _).alloc _), (Chg.refl _ _).alloc _⟩
  · have h1 : 64 ≤ m := by omega
    go_wp2
    go_returns
    exact ⟨B, c, rfl, HX.out.same ((Chg.refl _ _).alloc _), (Chg.refl _ _).alloc _⟩
set_option maxRecDepth 100000 in
set_option maxHeartbeats 4000000 in
theorem do_rng2 (base : Nat) (B : Option Addr) (c k : Nat) (m : Int) (qs : List (Int × Int)) (W : World) (hX : Xl W base B c qs) (hl : qs.length ≤ 256) (hk : k < qs.length) (hm : m < 0 ∨ 64 ≤ m) :
    Calls Try.prog 9 #[.slice B qs.length c, .agg #[.int .i64 2, .int .i64 k, .int .i64 m]] W (DoP base W (qs, 2)) := by
  have HX := Lib.hid hX
  clear hX
  have k0 : (0 : Int) ≤ (k : Int) := by omega
  have k1 : (k : Int) < (qs.length : Int) := by omega
  go_enter Try.func9, Try.ntmps9
  by_cases h0 : m < 0
  · go_wp2
    go_returns
    exact ⟨B, c, rfl, HX.out.same ((Chg.refl _ _).alloc _), (Chg.refl _ _).alloc _⟩
  · have h1 : 64 ≤ m := by omega
    go_wp2
    go_returns
    exact ⟨B, c, rfl, HX.out.same ((Chg.refl _ _).alloc _), (Chg.refl _ _).alloc _⟩
set_option maxRecDepth 100000 in
set_option maxHeartbeats 4000000 in
theorem do_0a (base : Nat) (B : Option Addr) (c k : Nat) (b : Int) (m : Int) (qs : List (Int × Int)) (W : World) (hX : Xl W base B c qs) (hB : base ≤ W.heap.size) (hl : qs.length ≤ 256) (hk : k < qs.length) (hq : qs[k] = (0, b)) (h0 : 0 ≤ m) (h1 : m < 64) :
    Calls Try.prog 9 #[.slice B qs.length c, .agg #[.int .i64 0, .int .i64 k, .int .i64 m]] W (DoP base W (qs.set k (1, m), 0)) := by
  obtain ⟨b0, o, rfl, hbl, hcs⟩ := hX.rd.at2 (by omega)
  have HX := Lib.hid hX
  have HRD := Lib.hid ((hX.rd.alloc (.cells #[.int .i64 0, .int .i64 k, .int .i64 m] 34)).alloc (.cells #[.int .i64 0, .int .i64 b] 29))
  have HB := Lib.hid hB
  obtain ⟨e0, e1⟩ := hcs k hk
  rw [hq] at e0 e1
  have HK := Lib.hid hk
  have k0 : (0 : Int) ≤ (k : Int) := by omega
  have k1 : (k : Int) < (qs.length : Int) := by omega
  clear hX hB hcs hq
  go_enter Try.func9, Try.ntmps9
  go_wp2_with ((go_at_call 20; refine (with_at (some ⟨b0, o, none⟩) _ c k _ _ qs _ HRD.out rfl HK.out hl).mono ?_; rintro e w1 ⟨B', c', rfl, hx, hc⟩))
  go_returns
  exact ⟨B', c', by simp, Row.lower hx (Nat.le_trans HB.out (by simp <;> omega)), Chg.pre (((Chg.refl _ _).alloc _).alloc _) hc⟩
set_option maxRecDepth 100000 in
set_option maxHeartbeats 4000000 in
theorem do_0b (base : Nat) (B : Option Addr) (c k : Nat) (a b : Int) (m : Int) (qs : List (Int × Int)) (W : World) (hX : Xl W base B c qs) (hB : base ≤ W.heap.size) (hl : qs.length ≤ 256) (hk : k < qs.length) (hq : qs[k] = (a, b)) (h0 : 0 ≤ m) (h1 : m < 64) (ha : ¬ a = 0) :
    Calls Try.prog 9 #[.slice B qs.length c, .agg #[.int .i64 0, .int .i64 k, .int .i64 m]] W (DoP base W (qs, 9)) := by
  obtain ⟨b0, o, rfl, hbl, hcs⟩ := hX.rd.at2 (by omega)
  have HX := Lib.hid hX
  have HRD := Lib.hid ((hX.rd.alloc (.cells #[.int .i64 0, .int .i64 k, .int .i64 m] 34)).alloc (.cells #[.int .i64 a, .int .i64 b] 29))
  have HB := Lib.hid hB
  obtain ⟨e0, e1⟩ := hcs k hk
  rw [hq] at e0 e1
  have HK := Lib.hid hk
  have k0 : (0 : Int) ≤ (k : Int) := by omega
  have k1 : (k : Int) < (qs.length : Int) := by omega
  clear hX hB hcs hq
  go_enter Try.func9, Try.ntmps9
  go_wp2_with (fail)
  go_returns
  exact ⟨_, c, rfl, HX.out.same (((Chg.refl _ _).alloc _).alloc _), ((Chg.refl _ _).alloc _).alloc _⟩
set_option maxRecDepth 100000 in
set_option maxHeartbeats 4000000 in
theorem do_1a (base : Nat) (B : Option Addr) (c k : Nat) (b : Int) (m : Int) (qs : List (Int × Int)) (W : World) (hX : Xl W base B c qs) (hB : base ≤ W.heap.size) (hl : qs.length ≤ 256) (hk : k < qs.length) (hq : qs[k] = (1, b)) :
    Calls Try.prog 9 #[.slice B qs.length c, .agg #[.int .i64 1, .int .i64 k, .int .i64 m]] W (DoP base W (qs.set k (2, b), 0)) := by
  obtain ⟨b0, o, rfl, hbl, hcs⟩ := hX.rd.at2 (by omega)
  have HX := Lib.hid hX
  have HRD := Lib.hid ((hX.rd.alloc (.cells #[.int .i64 1, .int .i64 k, .int .i64 m] 34)).alloc (.cells #[.int .i64 1, .int .i64 b] 29))
  have HB := Lib.hid hB
  obtain ⟨e0, e1⟩ := hcs k hk
  rw [hq] at e0 e1
  have HK := Lib.hid hk
  have k0 : (0 : Int) ≤ (k : Int) := by omega
  have k1 : (k : Int) < (qs.length : Int) := by omega
  clear hX hB hcs hq
  go_enter Try.func9, Try.ntmps9
  go_wp2_with ((go_at_call 20; refine (with_at (some ⟨b0, o, none⟩) _ c k _ _ qs _ HRD.out rfl HK.out hl).mono ?_; rintro e w1 ⟨B', c', rfl, hx, hc⟩))
  go_returns
  exact ⟨B', c', by simp, Row.lower hx (Nat.le_trans HB.out (by simp <;> omega)), Chg.pre (((Chg.refl _ _).alloc _).alloc _) hc⟩
set_option maxRecDepth 100000 in
set_option maxHeartbeats 4000000 in
theorem do_1b (base : Nat) (B : Option Addr) (c k : Nat) (a b : Int) (m : Int) (qs : List (Int × Int)) (W : World) (hX : Xl W base B c qs) (hB : base ≤ W.heap.size) (hl : qs.length ≤ 256) (hk : k < qs.length) (hq : qs[k] = (a, b)) (ha : ¬ a = 1) :
    Calls Try.prog 9 #[.slice B qs.length c, .agg #[.int .i64 1, .int .i64 k, .int .i64 m]] W (DoP base W (qs, 9)) := by
  obtain ⟨b0, o, rfl, hbl, hcs⟩ := hX.rd.at2 (by omega)
  have HX := Lib.hid hX
  have HRD := Lib.hid ((hX.rd.alloc (.cells #[.int .i64 1, .int .i64 k, .int .i64 m] 34)).alloc (.cells #[.int .i64 a, .int .i64 b] 29))
  have HB := Lib.hid hB
  obtain ⟨e0, e1⟩ := hcs k hk
  rw [hq] at e0 e1
  have HK := Lib.hid hk
  have k0 : (0 : Int) ≤ (k : Int) := by omega
  have k1 : (k : Int) < (qs.length : Int) := by omega
  clear hX hB hcs hq
  go_enter Try.func9, Try.ntmps9
  go_wp2_with (fail)
  go_returns
  exact ⟨_, c, rfl, HX.out.same (((Chg.refl _ _).alloc _).alloc _), ((Chg.refl _ _).alloc _).alloc _⟩
set_option maxRecDepth 100000 in
set_option maxHeartbeats 4000000 in
theorem do_2a (base : Nat) (B : Option Addr) (c k : Nat) (m : Int) (qs : List (Int × Int)) (W : World) (hX : Xl W base B c qs) (hB : base ≤ W.heap.size) (hl : qs.length ≤ 256) (hk : k < qs.length) (hq : qs[k] = (2, m)) (h0 : 0 ≤ m) (h1 : m < 64) :
    Calls Try.prog 9 #[.slice B qs.length c, .agg #[.int .i64 2, .int .i64 k, .int .i64 m]] W (DoP base W (qs.set k (1, m), 0)) := by
  obtain ⟨b0, o, rfl, hbl, hcs⟩ := hX.rd.at2 (by omega)
  have HX := Lib.hid hX
  have HRD := Lib.hid ((hX.rd.alloc (.cells #[.int .i64 2, .int .i64 k, .int .i64 m] 34)).alloc (.cells #[.int .i64 2, .int .i64 m] 29))
  have HB := Lib.hid hB
  obtain ⟨e0, e1⟩ := hcs k hk
  rw [hq] at e0 e1
  have HK := Lib.hid hk
  have k0 : (0 : Int) ≤ (k : Int) := by omega
  have k1 : (k : Int) < (qs.length : Int) := by omega
  clear hX hB hcs hq
  go_enter Try.func9, Try.ntmps9
  go_wp2_with ((go_at_call 20; refine (with_at (some ⟨b0, o, none⟩) _ c k _ _ qs _ HRD.out rfl HK.out hl).mono ?_; rintro e w1 ⟨B', c', rfl, hx, hc⟩))
  go_returns
  exact ⟨B', c', by simp, Row.lower hx (Nat.le_trans HB.out (by simp <;> omega)), Chg.pre (((Chg.refl _ _).alloc _).alloc _) hc⟩
set_option maxRecDepth 100000 in
set_option maxHeartbeats 4000000 in
theorem do_2b (base : Nat) (B : Option Addr) (c k : Nat) (b : Int) (m : Int) (qs : List (Int × Int)) (W : World) (hX : Xl W base B c qs) (hB : base ≤ W.heap.size) (hl : qs.length ≤ 256) (hk : k < qs.length) (hq : qs[k] = (2, b)) (h0 : 0 ≤ m) (h1 : m < 64) (hb : ¬ b = m) :
    Calls Try.prog 9 #[.slice B qs.length c, .agg #[.int .i64 2, .int .i64 k, .int .i64 m]] W (DoP base W (qs, 9)) := by
  obtain ⟨b0, o, rfl, hbl, hcs⟩ := hX.rd.at2 (by omega)
  have HX := Lib.hid hX
  have HRD := Lib.hid ((hX.rd.alloc (.cells #[.int .i64 2, .int .i64 k, .int .i64 m] 34)).alloc (.cells #[.int .i64 2, .int .i64 b] 29))
  have HB := Lib.hid hB
  obtain ⟨e0, e1⟩ := hcs k hk
  rw [hq] at e0 e1
  have HK := Lib.hid hk
  have k0 : (0 : Int) ≤ (k : Int) := by omega
  have k1 : (k : Int) < (qs.length : Int) := by omega
  clear hX hB hcs hq
  go_enter Try.func9, Try.ntmps9
  go_wp2_with (fail)
  go_returns
  exact ⟨_, c, rfl, HX.out.same (((Chg.refl _ _).alloc _).alloc _), ((Chg.refl _ _).alloc _).alloc _⟩
set_option maxRecDepth 100000 in
set_option maxHeartbeats 4000000 in
theorem do_2c (base : Nat) (B : Option Addr) (c k : Nat) (a b : Int) (m : Int) (qs : List (Int × Int)) (W : World) (hX : Xl W base B c qs) (hB : base ≤ W.heap.size) (hl : qs.length ≤ 256) (hk : k < qs.length) (hq : qs[k] = (a, b)) (h0 : 0 ≤ m) (h1 : m < 64) (ha : ¬ a = 2) :
    Calls Try.prog 9 #[.slice B qs.length c, .agg #[.int .i64 2, .int .i64 k, .int .i64 m]] W (DoP base W (qs, 9)) := by
  obtain ⟨b0, o, rfl, hbl, hcs⟩ := hX.rd.at2 (by omega)
  have HX := Lib.hid hX
  have HRD := Lib.hid ((hX.rd.alloc (.cells #[.int .i64 2, .int .i64 k, .int .i64 m] 34)).alloc (.cells #[.int .i64 a, .int .i64 b] 29))
  have HB := Lib.hid hB
  obtain ⟨e0, e1⟩ := hcs k hk
  rw [hq] at e0 e1
  have HK := Lib.hid hk
  have k0 : (0 : Int) ≤ (k : Int) := by omega
  have k1 : (k : Int) < (qs.length : Int) := by omega
  clear hX hB hcs hq
  go_enter Try.func9, Try.ntmps9
  go_wp2_with (fail)
  go_returns
  exact ⟨_, c, rfl, HX.out.same (((Chg.refl _ _).alloc _).alloc _), ((Chg.refl _ _).alloc _).alloc _⟩
set_option maxRecDepth 100000 in
set_option maxHeartbeats 4000000 in
theorem do_3a (base : Nat) (B : Option Addr) (c k : Nat) (b : Int) (m : Int) (qs : List (Int × Int)) (W : World) (hX : Xl W base B c qs) (hB : base ≤ W.heap.size) (hl : qs.length ≤ 256) (hk : k < qs.length) (hq : qs[k] = (1, b)) :
    Calls Try.prog 9 #[.slice B qs.length c, .agg #[.int .i64 3, .int .i64 k, .int .i64 m]] W (DoP base W (qs.set k (0, -1), 0)) := by
  obtain ⟨b0, o, rfl, hbl, hcs⟩ := hX.rd.at2 (by omega)
  have HX := Lib.hid hX
  have HRD := Lib.hid ((hX.rd.alloc (.cells #[.int .i64 3, .int .i64 k, .int .i64 m] 34)).alloc (.cells #[.int .i64 1, .int .i64 b] 29))
  have HB := Lib.hid hB
  obtain ⟨e0, e1⟩ := hcs k hk
  rw [hq] at e0 e1
  have HK := Lib.hid hk
  have k0 : (0 : Int) ≤ (k : Int) := by omega
  have k1 : (k : Int) < (qs.length : Int) := by omega
  clear hX hB hcs hq
  go_enter Try.func9, Try.ntmps9
  go_wp2_with ((go_at_call 20; refine (with_at (some ⟨b0, o, none⟩) _ c k _ _ qs _ HRD.out rfl HK.out hl).mono ?_; rintro e w1 ⟨B', c', rfl, hx, hc⟩))
  go_returns
  exact ⟨B', c', by simp, Row.lower hx (Nat.le_trans HB.out (by simp <;> omega)), Chg.pre (((Chg.refl _ _).alloc _).alloc _) hc⟩
set_option maxRecDepth 100000 in
set_option maxHeartbeats 4000000 in
theorem do_3b (base : Nat) (B : Option Addr) (c k : Nat) (a b : Int) (m : Int) (qs : List (Int × Int)) (W : World) (hX : Xl W base B c qs) (hB : base ≤ W.heap.size) (hl : qs.length ≤ 256) (hk : k < qs.length) (hq : qs[k] = (a, b)) (ha : ¬ a = 1) :
    Calls Try.prog 9 #[.slice B qs.length c, .agg #[.int .i64 3, .int .i64 k, .int .i64 m]] W (DoP base W (qs, 9)) := by
  obtain ⟨b0, o, rfl, hbl, hcs⟩ := hX.rd.at2 (by omega)
  have HX := Lib.hid hX
  have HRD := Lib.hid ((hX.rd.alloc (.cells #[.int .i64 3, .int .i64 k, .int .i64 m] 34)).alloc (.cells #[.int .i64 a, .int .i64 b] 29))
  have HB := Lib.hid hB
  obtain ⟨e0, e1⟩ := hcs k hk
  rw [hq] at e0 e1
  have HK := Lib.hid hk
  have k0 : (0 : Int) ≤ (k : Int) := by omega
  have k1 : (k : Int) < (qs.length : Int) := by omega
  clear hX hB hcs hq
  go_enter Try.func9, Try.ntmps9
  go_wp2_with (fail)
  go_returns
  exact ⟨_, c, rfl, HX.out.same (((Chg.refl _ _).alloc _).alloc _), ((Chg.refl _ _).alloc _).alloc _⟩
set_option maxRecDepth 100000 in
set_option maxHeartbeats 4000000 in
theorem do_4a (base : Nat) (B : Option Addr) (c k : Nat) (b : Int) (m : Int) (qs : List (Int × Int)) (W : World) (hX : Xl W base B c qs) (hB : base ≤ W.heap.size) (hl : qs.length ≤ 256) (hk : k < qs.length) (hq : qs[k] = (2, b)) :
    Calls Try.prog 9 #[.slice B qs.length c, .agg #[.int .i64 4, .int .i64 k, .int .i64 m]] W (DoP base W (qs.set k (3, -1), 0)) := by
  obtain ⟨b0, o, rfl, hbl, hcs⟩ := hX.rd.at2 (by omega)
  have HX := Lib.hid hX
  have HRD := Lib.hid ((hX.rd.alloc (.cells #[.int .i64 4, .int .i64 k, .int .i64 m] 34)).alloc (.cells #[.int .i64 2, .int .i64 b] 29))
  have HB := Lib.hid hB
  obtain ⟨e0, e1⟩ := hcs k hk
  rw [hq] at e0 e1
  have HK := Lib.hid hk
  have k0 : (0 : Int) ≤ (k : Int) := by omega
  have k1 : (k : Int) < (qs.length : Int) := by omega
  clear hX hB hcs hq
  go_enter Try.func9, Try.ntmps9
  go_wp2_with ((go_at_call 20; refine (with_at (some ⟨b0, o, none⟩) _ c k _ _ qs _ HRD.out rfl HK.out hl).mono ?_; rintro e w1 ⟨B', c', rfl, hx, hc⟩))
  go_returns
  exact ⟨B', c', by simp, Row.lower hx (Nat.le_trans HB.out (by simp <;> omega)), Chg.pre (((Chg.refl _ _).alloc _).alloc _) hc⟩
set_option maxRecDepth 100000 in
set_option maxHeartbeats 4000000 in
theorem do_4b (base : Nat) (B : Option Addr) (c k : Nat) (b : Int) (m : Int) (qs : List (Int × Int)) (W : World) (hX : Xl W base B c qs) (hB : base ≤ W.heap.size) (hl : qs.length ≤ 256) (hk : k < qs.length) (hq : qs[k] = (0, b)) :
    Calls Try.prog 9 #[.slice B qs.length c, .agg #[.int .i64 4, .int .i64 k, .int .i64 m]] W (DoP base W (qs.set k (3, b), 0)) := by
  obtain ⟨b0, o, rfl, hbl, hcs⟩ := hX.rd.at2 (by omega)
  have HX := Lib.hid hX
  have HRD := Lib.hid ((hX.rd.alloc (.cells #[.int .i64 4, .int .i64 k, .int .i64 m] 34)).alloc (.cells #[.int .i64 0, .int .i64 b] 29))
  have HB := Lib.hid hB
  obtain ⟨e0, e1⟩ := hcs k hk
  rw [hq] at e0 e1
  have HK := Lib.hid hk
  have k0 : (0 : Int) ≤ (k : Int) := by omega
  have k1 : (k : Int) < (qs.length : Int) := by omega
  clear hX hB hcs hq
  go_enter Try.func9, Try.ntmps9
  go_wp2_with ((go_at_call 20; refine (with_at (some ⟨b0, o, none⟩) _ c k _ _ qs _ HRD.out rfl HK.out hl).mono ?_; rintro e w1 ⟨B', c', rfl, hx, hc⟩))
  go_returns
  exact ⟨B', c', by simp, Row.lower hx (Nat.le_trans HB.out (by simp <;> omega)), Chg.pre (((Chg.refl _ _).alloc _).alloc _) hc⟩
set_option maxRecDepth 100000 in
set_option maxHeartbeats 4000000 in
theorem do_4c (base : Nat) (B : Option Addr) (c k : Nat) (b : Int) (m : Int) (qs : List (Int × Int)) (W : World) (hX : Xl W base B c qs) (hB : base ≤ W.heap.size) (hl : qs.length ≤ 256) (hk : k < qs.length) (hq : qs[k] = (1, b)) :
    Calls Try.prog 9 #[.slice B qs.length c, .agg #[.int .i64 4, .int .i64 k, .int .i64 m]] W (DoP base W (qs.set k (3, b), 0)) := by
  obtain ⟨b0, o, rfl, hbl, hcs⟩ := hX.rd.at2 (by omega)
  have HX := Lib.hid hX
  have HRD := Lib.hid ((hX.rd.alloc (.cells #[.int .i64 4, .int .i64 k, .int .i64 m] 34)).alloc (.cells #[.int .i64 1, .int .i64 b] 29))
  have HB := Lib.hid hB
  obtain ⟨e0, e1⟩ := hcs k hk
  rw [hq] at e0 e1
  have HK := Lib.hid hk
  have k0 : (0 : Int) ≤ (k : Int) := by omega
  have k1 : (k : Int) < (qs.length : Int) := by omega
  clear hX hB hcs hq
  go_enter Try.func9, Try.ntmps9
  go_wp2_with ((go_at_call 20; refine (with_at (some ⟨b0, o, none⟩) _ c k _ _ qs _ HRD.out rfl HK.out hl).mono ?_; rintro e w1 ⟨B', c', rfl, hx, hc⟩))
  go_returns
  exact ⟨B', c', by simp, Row.lower hx (Nat.le_trans HB.out (by simp <;> omega)), Chg.pre (((Chg.refl _ _).alloc _).alloc _) hc⟩
set_option maxRecDepth 100000 in
set_option maxHeartbeats 4000000 in
theorem do_4d (base : Nat) (B : Option Addr) (c k : Nat) (a b : Int) (m : Int) (qs : List (Int × Int)) (W : World) (hX : Xl W base B c qs) (hB : base ≤ W.heap.size) (hl : qs.length ≤ 256) (hk : k < qs.length) (hq : qs[k] = (a, b)) (ha : ¬ a = 2) (ha0 : ¬ a = 0) (ha1 : ¬ a = 1) :
    Calls Try.prog 9 #[.slice B qs.length c, .agg #[.int .i64 4, .int .i64 k, .int .i64 m]] W (DoP base W (qs, 9)) := by
  obtain ⟨b0, o, rfl, hbl, hcs⟩ := hX.rd.at2 (by omega)
  have HX := Lib.hid hX
  have HRD := Lib.hid ((hX.rd.alloc (.cells #[.int .i64 4, .int .i64 k, .int .i64 m] 34)).alloc (.cells #[.int .i64 a, .int .i64 b] 29))
  have HB := Lib.hid hB
  obtain ⟨e0, e1⟩ := hcs k hk
  rw [hq] at e0 e1
  have HK := Lib.hid hk
  have k0 : (0 : Int) ≤ (k : Int) := by omega
  have k1 : (k : Int) < (qs.length : Int) := by omega
  clear hX hB hcs hq
  have hx0 : (a == 0) = false := by simpa using ha0
  have hx1 : (a == 1) = false := by simpa using ha1
  go_enter Try.func9, Try.ntmps9
  go_wp2_with (fail)
  go_returns
  exact ⟨_, c, rfl, HX.out.same (((Chg.refl _ _).alloc _).alloc _), ((Chg.refl _ _).alloc _).alloc _⟩
set_option maxRecDepth 100000 in
set_option maxHeartbeats 4000000 in
theorem do_5a (base : Nat) (B : Option Addr) (c k : Nat) (b : Int) (m : Int) (qs : List (Int × Int)) (W : World) (hX : Xl W base B c qs) (hB : base ≤ W.heap.size) (hl : qs.length ≤ 256) (hk : k < qs.length) (hq : qs[k] = (3, b)) (hb : b < 0) :
    Calls Try.prog 9 #[.slice B qs.length c, .agg #[.int .i64 5, .int .i64 k, .int .i64 m]] W (DoP base W (qs.set k (0, -1), 0)) := by
  obtain ⟨b0, o, rfl, hbl, hcs⟩ := hX.rd.at2 (by omega)
  have HX := Lib.hid hX
  have HRD := Lib.hid ((hX.rd.alloc (.cells #[.int .i64 5, .int .i64 k, .int .i64 m] 34)).alloc (.cells #[.int .i64 3, .int .i64 b] 29))
  have HB := Lib.hid hB
  obtain ⟨e0, e1⟩ := hcs k hk
  rw [hq] at e0 e1
  have HK := Lib.hid hk
  have k0 : (0 : Int) ≤ (k : Int) := by omega
  have k1 : (k : Int) < (qs.length : Int) := by omega
  clear hX hB hcs hq
  go_enter Try.func9, Try.ntmps9
  go_wp2_with ((go_at_call 20; refine (with_at (some ⟨b0, o, none⟩) _ c k _ _ qs _ HRD.out rfl HK.out hl).mono ?_; rintro e w1 ⟨B', c', rfl, hx, hc⟩))
  go_returns
  exact ⟨B', c', by simp, Row.lower hx (Nat.le_trans HB.out (by simp <;> omega)), Chg.pre (((Chg.refl _ _).alloc _).alloc _) hc⟩
set_option maxRecDepth 100000 in
set_option maxHeartbeats 4000000 in
theorem do_5b (base : Nat) (B : Option Addr) (c k : Nat) (b : Int) (m : Int) (qs : List (Int × Int)) (W : World) (hX : Xl W base B c qs) (hB : base ≤ W.heap.size) (hl : qs.length ≤ 256) (hk : k < qs.length) (hq : qs[k] = (3, b)) (hb : ¬ b < 0) :
    Calls Try.prog 9 #[.slice B qs.length c, .agg #[.int .i64 5, .int .i64 k, .int .i64 m]] W (DoP base W (qs.set k (1, b), 0)) := by
  obtain ⟨b0, o, rfl, hbl, hcs⟩ := hX.rd.at2 (by omega)
  have HX := Lib.hid hX
  have HRD := Lib.hid ((hX.rd.alloc (.cells #[.int .i64 5, .int .i64 k, .int .i64 m] 34)).alloc (.cells #[.int .i64 3, .int .i64 b] 29))
  have HB := Lib.hid hB
  obtain ⟨e0, e1⟩ := hcs k hk
  rw [hq] at e0 e1
  have HK := Lib.hid hk
  have k0 : (0 : Int) ≤ (k : Int) := by omega
  have k1 : (k : Int) < (qs.length : Int) := by omega
  clear hX hB hcs hq
  go_enter Try.func9, Try.ntmps9
  go_wp2_with ((go_at_call 20; refine (with_at (some ⟨b0, o, none⟩) _ c k _ _ qs _ HRD.out rfl HK.out hl).mono ?_; rintro e w1 ⟨B', c', rfl, hx, hc⟩))
  go_returns
  exact ⟨B', c', by simp, Row.lower hx (Nat.le_trans HB.out (by simp <;> omega)), Chg.pre (((Chg.refl _ _).alloc _).alloc _) hc⟩
set_option maxRecDepth 100000 in
set_option maxHeartbeats 4000000 in
theorem do_5c (base : Nat) (B : Option Addr) (c k : Nat) (a b : Int) (m : Int) (qs : List (Int × Int)) (W : World) (hX : Xl W base B c qs) (hB : base ≤ W.heap.size) (hl : qs.length ≤ 256) (hk : k < qs.length) (hq : qs[k] = (a, b)) (ha : ¬ a = 3) :
    Calls Try.prog 9 #[.slice B qs.length c, .agg #[.int .i64 5, .int .i64 k, .int .i64 m]] W (DoP base W (qs, 9)) := by
  obtain ⟨b0, o, rfl, hbl, hcs⟩ := hX.rd.at2 (by omega)
  have HX := Lib.hid hX
  have HRD := Lib.hid ((hX.rd.alloc (.cells #[.int .i64 5, .int .i64 k, .int .i64 m] 34)).alloc (.cells #[.int .i64 a, .int .i64 b] 29))
  have HB := Lib.hid hB
  obtain ⟨e0, e1⟩ := hcs k hk
  rw [hq] at e0 e1
  have HK := Lib.hid hk
  have k0 : (0 : Int) ≤ (k : Int) := by omega
  have k1 : (k : Int) < (qs.length : Int) := by omega
  clear hX hB hcs hq
  go_enter Try.func9, Try.ntmps9
  go_wp2_with (fail)
  go_returns
  exact ⟨_, c, rfl, HX.out.same (((Chg.refl _ _).alloc _).alloc _), ((Chg.refl _ _).alloc _).alloc _⟩
end Go.Proofs.Ytemnipdmclohmaa
