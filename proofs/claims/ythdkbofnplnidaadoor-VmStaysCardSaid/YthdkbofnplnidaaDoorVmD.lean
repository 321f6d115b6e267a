/- Whether threads are the same, by the program and by the document. -/
import Derived.Test.YthdkbofnplnidaaDoorVmC
namespace Go.Proofs.YthdkbofnplnidaaDoor
open Go.ChangeShapes Go.WideShapes Go.ChangeAt Go.RowKit Go.Deep
set_option linter.unusedVariables false
set_option linter.unusedSimpArgs false

theorem two' {e : List Int} (h : e.length = 2) : e = [e.getD 0 0, e.getD 1 0] := by
  match e, h with
  | [a, b], _ => rfl
set_option maxRecDepth 100000 in
set_option maxHeartbeats 4000000 in
theorem fequal_any (A D : Option Addr) (n m c d : Nat) (xs ys : List (List Int)) (W : World) (hu : Uni 2 xs) (hv : Uni 2 ys) (hA : Rd W 2 A n (kv xs)) (hD : Rd W 2 D m (kv ys)) (hn : n ≤ 1000) (hm : m ≤ 1000) :
    Calls Tryd.prog 29 #[.slice A n c, .slice D m d] W fun e W' => e = .returned (.bool (decide (xs = ys))) ∧ ∃ q, W' = W.drewN q := by
  have hn1 := hA.lenk hu (by decide)
  have hn2 := hD.lenk hv (by decide)
  by_cases hnm : n = m
  · subst hnm
    go_enter Tryd.func29, Tryd.ntmps29
    go_wp2
    go_loopw [13] (fun i wr => (∃ k : Nat, k ≤ n ∧ i = .int .i64 k ∧ Hid (xs.take k = ys.take k)) ∧ ∃ q, wr = W.drewN q) (fun i _ => n - (intOf i).toNat)
    case atStart => exact ⟨⟨0, Nat.zero_le _, rfl, Lib.hid rfl⟩, 0, rfl⟩
    case round =>
      obtain ⟨⟨k, hk, rfl, HT⟩, q, rfl⟩ := hrel
      by_cases hlt : k < n
      · have hkx : k < xs.length := by omega
        have hky : k < ys.length := by omega
        obtain ⟨_, b, o, rfl, hb, hc⟩ := hA.getk hu (by decide) (by omega)
        obtain ⟨_, b', o', rfl, hb', hc'⟩ := hD.getk hv (by decide) (by omega)
        have c0 := hc k hkx 0 (by decide)
        have c1 := hc k hkx 1 (by decide)
        have d0 := hc' k hky 0 (by decide)
        have d1 := hc' k hky 1 (by decide)
        simp only [Nat.add_zero] at c0 d0
        rw [← Nat.add_assoc] at c1 d1
        have h3 := two' (hu _ (List.getElem_mem hkx))
        have g3 := two' (hv _ (List.getElem_mem hky))
        have HX := Lib.hid (fun (h : xs[k] = ys[k]) => show xs.take (k + 1) = ys.take (k + 1) from by rw [List.take_succ_eq_append_getElem hkx, List.take_succ_eq_append_getElem hky, HT.out, h])
        have HN := Lib.hid (fun (h : xs[k] ≠ ys[k]) => show xs ≠ ys from fun e => h (by subst e; rfl))
        generalize (xs[k]).getD 0 0 = x0 at *
        generalize (xs[k]).getD 1 0 = x1 at *
        generalize (ys[k]).getD 0 0 = y0 at *
        generalize (ys[k]).getD 1 0 = y1 at *
        generalize xs[k] = ek at *
        generalize ys[k] = fk at *
        subst h3
        subst g3
        have hi0 : (0 : Int) ≤ (k : Int) := by omega
        have hi1 : (k : Int) < (n : Int) := by omega
        clear hA hD hc hc' hu hv
        by_cases h0 : x0 = y0
        · subst h0
          by_cases h1 : x1 = y1
          · subst h1
            have HE := Lib.hid (HX.out rfl)
            clear HX HN
            go_wp2
            go_quiet (fail)
            go_wp2
            go_roundw
            case rel => exact ⟨⟨k + 1, by omega, by go_num, HE⟩, _, rfl⟩
            case measure => simp [intOf]; omega
          · have e1 : (x1 == y1) = false := beq_eq_false_iff_ne.2 h1
            have HE := Lib.hid (HN.out (by simp [h1]))
            clear HX HN
            go_wp2
            go_quiet (fail)
            go_wp2
            go_ret
            exact ⟨ret_bool (decide_eq_false HE.out).symm, q + nq, by rw [World.drewN_drewN]⟩
        · have e0 : (x0 == y0) = false := beq_eq_false_iff_ne.2 h0
          have HE := Lib.hid (HN.out (by simp [h0]))
          clear HX HN
          go_wp2
          go_quiet (fail)
          go_wp2
          go_ret
          exact ⟨ret_bool (decide_eq_false HE.out).symm, q + nq, by rw [World.drewN_drewN]⟩
      · have hkn : k = n := by omega
        have HE := Lib.hid (show xs = ys from by have := HT.out; rwa [List.take_of_length_le (by omega), List.take_of_length_le (by omega)] at this)
        go_wp2
        go_ret
        exact ⟨ret_bool (decide_eq_true HE.out).symm, q, rfl⟩
  · have hne : xs ≠ ys := fun e => hnm (by rw [← hn1, ← hn2, e])
    have HE := Lib.hid hne
    have x0 : ((n : Int) == (m : Int)) = false := beq_eq_false_iff_ne.2 (by omega)
    have x1 : (n == m) = false := beq_eq_false_iff_ne.2 hnm
    clear hne hA hD
    go_enter Tryd.func29, Tryd.ntmps29
    go_wp2
    go_ret
    exact ⟨ret_bool (decide_eq_false HE.out).symm, 0, rfl⟩
@[go_sem] theorem eqR (r0 r1 r2 r3 r4 r5 r6 r7 q0 q1 q2 q3 q4 q5 q6 q7 : Int) (w : World) : (Op.equalIn 10000 25 (.agg #[.int .i64 r0, .int .i64 r1, .int .i64 r2, .int .i64 r3, .int .i64 r4, .int .i64 r5, .int .i64 r6, .int .i64 r7]) (.agg #[.int .i64 q0, .int .i64 q1, .int .i64 q2, .int .i64 q3, .int .i64 q4, .int .i64 q5, .int .i64 q6, .int .i64 q7])).run Tryd.prog w = .ok (r0 == q0 && (r1 == q1 && (r2 == q2 && (r3 == q3 && (r4 == q4 && (r5 == q5 && (r6 == q6 && r7 == q7))))))) w := by
  have u3 := Tryd.underlying2
  have a3 := Tryd.isAgg2
  have z3 := Tryd.sizeOf2
  rw [show (10000 : Nat) = 9999 + 1 from rfl, Op.equalIn]
  simp only [Sem.run_bind, run_underlying Tryd.underlying25, Result.andThen_ok]
  simp only [Std.Legacy.Range.forIn_eq_forIn_range', Std.Legacy.Range.size, Nat.sub_zero, Nat.add_sub_cancel, Nat.div_one, List.range'_succ, List.range'_zero, List.forIn_cons, List.forIn_nil]
  go_simp
  by_cases h0 : r0 = q0
  rotate_left
  · simp [h0]
  subst h0
  by_cases h1 : r1 = q1
  rotate_left
  · simp [h1]
  subst h1
  by_cases h2 : r2 = q2
  rotate_left
  · simp [h2]
  subst h2
  by_cases h3 : r3 = q3
  rotate_left
  · simp [h3]
  subst h3
  by_cases h4 : r4 = q4
  rotate_left
  · simp [h4]
  subst h4
  by_cases h5 : r5 = q5
  rotate_left
  · simp [h5]
  subst h5
  by_cases h6 : r6 = q6
  rotate_left
  · simp [h6]
  subst h6
  by_cases h7 : r7 = q7
  rotate_left
  · simp [h7]
  subst h7
  simp
set_option maxRecDepth 100000 in
set_option maxHeartbeats 16000000 in
theorem tsame_any (f pc r0 r1 r2 r3 r4 r5 r6 r7 g pd q0 q1 q2 q3 q4 q5 q6 q7 : Int) (D E : Option Addr) (n c m c2 : Nat) (d d2 : Bool) (es fs : List (List Int)) (W : World) (hu : Uni 2 es) (hv : Uni 2 fs) (hD : Rd W 2 D n (kv es)) (hE : Rd W 2 E m (kv fs)) (hn : n ≤ 1000) (hm : m ≤ 1000) :
    Calls Tryd.prog 17 #[.agg #[.int .i64 f, .int .i64 pc, .int .i64 r0, .int .i64 r1, .int .i64 r2, .int .i64 r3, .int .i64 r4, .int .i64 r5, .int .i64 r6, .int .i64 r7, .slice D n c, .bool d], .agg #[.int .i64 g, .int .i64 pd, .int .i64 q0, .int .i64 q1, .int .i64 q2, .int .i64 q3, .int .i64 q4, .int .i64 q5, .int .i64 q6, .int .i64 q7, .slice E m c2, .bool d2]] W fun e W' => e = .returned (.bool (decide (f = g ∧ pc = pd ∧ r0 = q0 ∧ r1 = q1 ∧ r2 = q2 ∧ r3 = q3 ∧ r4 = q4 ∧ r5 = q5 ∧ r6 = q6 ∧ r7 = q7 ∧ d = d2 ∧ es = fs))) ∧ Chg (fun _ => False) W W' := by
  have hc0 : Chg (fun _ => False) W ((W.alloc (.cells #[.int .i64 f, .int .i64 pc, .int .i64 r0, .int .i64 r1, .int .i64 r2, .int .i64 r3, .int .i64 r4, .int .i64 r5, .int .i64 r6, .int .i64 r7, .slice D n c, .bool d] 28)).alloc (.cells #[.int .i64 g, .int .i64 pd, .int .i64 q0, .int .i64 q1, .int .i64 q2, .int .i64 q3, .int .i64 q4, .int .i64 q5, .int .i64 q6, .int .i64 q7, .slice E m c2, .bool d2] 28)) := ((Chg.refl _ _).alloc _).alloc _
  have HC0 := Lib.hid hc0
  have hD1 := hD.kept hc0 (fun _ _ h => h)
  have hE1 := hE.kept hc0 (fun _ _ h => h)
  clear hD hE hc0
  obtain ⟨bb, hbb⟩ : ∃ bb, bb = (decide (f = g ∧ pc = pd ∧ r0 = q0 ∧ r1 = q1 ∧ r2 = q2 ∧ r3 = q3 ∧ r4 = q4 ∧ r5 = q5 ∧ r6 = q6 ∧ r7 = q7 ∧ d = d2 ∧ es = fs)) := ⟨_, rfl⟩
  rw [← hbb]
  by_cases h0 : f = g
  rotate_left
  · have e : bb = false := by rw [hbb]; exact decide_eq_false (fun h => h0 (h.1))
    rw [e]
    have e0 : (f == g) = false := beq_eq_false_iff_ne.2 h0
    clear e hbb hD1 hE1 hu hv
    go_enter Tryd.func17, Tryd.ntmps17
    go_wp2
    go_ret
    exact ⟨rfl, HC0.out⟩
  subst h0
  by_cases h1 : pc = pd
  rotate_left
  · have e : bb = false := by rw [hbb]; exact decide_eq_false (fun h => h1 (h.2.1))
    rw [e]
    have e1 : (pc == pd) = false := beq_eq_false_iff_ne.2 h1
    clear e hbb hD1 hE1 hu hv
    go_enter Tryd.func17, Tryd.ntmps17
    go_wp2
    go_ret
    exact ⟨rfl, HC0.out⟩
  subst h1
  by_cases h2 : r0 = q0
  rotate_left
  · have e : bb = false := by rw [hbb]; exact decide_eq_false (fun h => h2 (h.2.2.1))
    rw [e]
    have e2 : (r0 == q0) = false := beq_eq_false_iff_ne.2 h2
    clear e hbb hD1 hE1 hu hv
    go_enter Tryd.func17, Tryd.ntmps17
    go_wp2
    go_ret
    exact ⟨rfl, HC0.out⟩
  subst h2
  by_cases h3 : r1 = q1
  rotate_left
  · have e : bb = false := by rw [hbb]; exact decide_eq_false (fun h => h3 (h.2.2.2.1))
    rw [e]
    have e3 : (r1 == q1) = false := beq_eq_false_iff_ne.2 h3
    clear e hbb hD1 hE1 hu hv
    go_enter Tryd.func17, Tryd.ntmps17
    go_wp2
    go_ret
    exact ⟨rfl, HC0.out⟩
  subst h3
  by_cases h4 : r2 = q2
  rotate_left
  · have e : bb = false := by rw [hbb]; exact decide_eq_false (fun h => h4 (h.2.2.2.2.1))
    rw [e]
    have e4 : (r2 == q2) = false := beq_eq_false_iff_ne.2 h4
    clear e hbb hD1 hE1 hu hv
    go_enter Tryd.func17, Tryd.ntmps17
    go_wp2
    go_ret
    exact ⟨rfl, HC0.out⟩
  subst h4
  by_cases h5 : r3 = q3
  rotate_left
  · have e : bb = false := by rw [hbb]; exact decide_eq_false (fun h => h5 (h.2.2.2.2.2.1))
    rw [e]
    have e5 : (r3 == q3) = false := beq_eq_false_iff_ne.2 h5
    clear e hbb hD1 hE1 hu hv
    go_enter Tryd.func17, Tryd.ntmps17
    go_wp2
    go_ret
    exact ⟨rfl, HC0.out⟩
  subst h5
  by_cases h6 : r4 = q4
  rotate_left
  · have e : bb = false := by rw [hbb]; exact decide_eq_false (fun h => h6 (h.2.2.2.2.2.2.1))
    rw [e]
    have e6 : (r4 == q4) = false := beq_eq_false_iff_ne.2 h6
    clear e hbb hD1 hE1 hu hv
    go_enter Tryd.func17, Tryd.ntmps17
    go_wp2
    go_ret
    exact ⟨rfl, HC0.out⟩
  subst h6
  by_cases h7 : r5 = q5
  rotate_left
  · have e : bb = false := by rw [hbb]; exact decide_eq_false (fun h => h7 (h.2.2.2.2.2.2.2.1))
    rw [e]
    have e7 : (r5 == q5) = false := beq_eq_false_iff_ne.2 h7
    clear e hbb hD1 hE1 hu hv
    go_enter Tryd.func17, Tryd.ntmps17
    go_wp2
    go_ret
    exact ⟨rfl, HC0.out⟩
  subst h7
  by_cases h8 : r6 = q6
  rotate_left
  · have e : bb = false := by rw [hbb]; exact decide_eq_false (fun h => h8 (h.2.2.2.2.2.2.2.2.1))
    rw [e]
    have e8 : (r6 == q6) = false := beq_eq_false_iff_ne.2 h8
    clear e hbb hD1 hE1 hu hv
    go_enter Tryd.func17, Tryd.ntmps17
    go_wp2
    go_ret
    exact ⟨rfl, HC0.out⟩
  subst h8
  by_cases h9 : r7 = q7
  rotate_left
  · have e : bb = false := by rw [hbb]; exact decide_eq_false (fun h => h9 (h.2.2.2.2.2.2.2.2.2.1))
    rw [e]
    have e9 : (r7 == q7) = false := beq_eq_false_iff_ne.2 h9
    clear e hbb hD1 hE1 hu hv
    go_enter Tryd.func17, Tryd.ntmps17
    go_wp2
    go_ret
    exact ⟨rfl, HC0.out⟩
  subst h9
  by_cases h10 : d = d2
  rotate_left
  · have e : bb = false := by rw [hbb]; exact decide_eq_false (fun h => h10 (h.2.2.2.2.2.2.2.2.2.2.1))
    rw [e]
    clear e hbb hD1 hE1 hu hv
    cases d <;> cases d2 <;> first | (exact absurd rfl h10) | (go_enter Tryd.func17, Tryd.ntmps17; go_wp2; go_ret; exact ⟨rfl, HC0.out⟩)
  subst h10
  have HQ := Lib.hid (fequal_any D E n m c c2 es fs _ hu hv hD1 hE1 hn hm)
  have hdec : bb = decide (es = fs) := by rw [hbb]; simp
  rw [hdec]
  clear hdec hbb hD1 hE1 hu hv
  generalize decide (es = fs) = bc at *
  cases d
  all_goals
    go_enter Tryd.func17, Tryd.ntmps17
    go_wp2_with (go_at_call 29; refine HQ.out.mono ?_; rintro e w1 ⟨rfl, q, rfl⟩)
    go_ret
    exact ⟨rfl, HC0.out.drewN _⟩
set_option maxRecDepth 100000 in
set_option maxHeartbeats 16000000 in
theorem rtsame_any (f pc r0 r1 r2 r3 r4 r5 r6 r7 g pd q0 q1 q2 q3 q4 q5 q6 q7 : Int) (D E : Option Addr) (n c m c2 : Nat) (d d2 : Bool) (es fs : List (List Int)) (W : World) (hu : Uni 2 es) (hv : Uni 2 fs) (hD : Rd W 2 D n (kv es)) (hE : Rd W 2 E m (kv fs)) (hn : n ≤ 1000) (hm : m ≤ 1000) :
    Calls Tryd.prog 12 #[.agg #[.int .i64 f, .int .i64 pc, .int .i64 r0, .int .i64 r1, .int .i64 r2, .int .i64 r3, .int .i64 r4, .int .i64 r5, .int .i64 r6, .int .i64 r7, .slice D n c, .bool d], .agg #[.int .i64 g, .int .i64 pd, .int .i64 q0, .int .i64 q1, .int .i64 q2, .int .i64 q3, .int .i64 q4, .int .i64 q5, .int .i64 q6, .int .i64 q7, .slice E m c2, .bool d2]] W fun e W' => e = .returned (.bool (decide (f = g ∧ pc = pd ∧ r0 = q0 ∧ r1 = q1 ∧ r2 = q2 ∧ r3 = q3 ∧ r4 = q4 ∧ r5 = q5 ∧ r6 = q6 ∧ r7 = q7 ∧ d = d2 ∧ es = fs))) ∧ Chg (fun _ => False) W W' := by
  have hc0 : Chg (fun _ => False) W ((W.alloc (.cells #[.int .i64 f, .int .i64 pc, .int .i64 r0, .int .i64 r1, .int .i64 r2, .int .i64 r3, .int .i64 r4, .int .i64 r5, .int .i64 r6, .int .i64 r7, .slice D n c, .bool d] 28)).alloc (.cells #[.int .i64 g, .int .i64 pd, .int .i64 q0, .int .i64 q1, .int .i64 q2, .int .i64 q3, .int .i64 q4, .int .i64 q5, .int .i64 q6, .int .i64 q7, .slice E m c2, .bool d2] 28)) := ((Chg.refl _ _).alloc _).alloc _
  have HC0 := Lib.hid hc0
  have hD1 := hD.kept hc0 (fun _ _ h => h)
  have hE1 := hE.kept hc0 (fun _ _ h => h)
  clear hD hE hc0
  obtain ⟨bb, hbb⟩ : ∃ bb, bb = (decide (f = g ∧ pc = pd ∧ r0 = q0 ∧ r1 = q1 ∧ r2 = q2 ∧ r3 = q3 ∧ r4 = q4 ∧ r5 = q5 ∧ r6 = q6 ∧ r7 = q7 ∧ d = d2 ∧ es = fs)) := ⟨_, rfl⟩
  rw [← hbb]
  by_cases h0 : f = g
  rotate_left
  · have e : bb = false := by rw [hbb]; exact decide_eq_false (fun h => h0 (h.1))
    rw [e]
    have e0 : (f == g) = false := beq_eq_false_iff_ne.2 h0
    clear e hbb hD1 hE1 hu hv
    go_enter Tryd.func12, Tryd.ntmps12
    go_wp2
    go_ret
    exact ⟨rfl, HC0.out⟩
  subst h0
  by_cases h1 : pc = pd
  rotate_left
  · have e : bb = false := by rw [hbb]; exact decide_eq_false (fun h => h1 (h.2.1))
    rw [e]
    have e1 : (pc == pd) = false := beq_eq_false_iff_ne.2 h1
    clear e hbb hD1 hE1 hu hv
    go_enter Tryd.func12, Tryd.ntmps12
    go_wp2
    go_ret
    exact ⟨rfl, HC0.out⟩
  subst h1
  by_cases h2 : r0 = q0
  rotate_left
  · have e : bb = false := by rw [hbb]; exact decide_eq_false (fun h => h2 (h.2.2.1))
    rw [e]
    have e2 : (r0 == q0) = false := beq_eq_false_iff_ne.2 h2
    clear e hbb hD1 hE1 hu hv
    go_enter Tryd.func12, Tryd.ntmps12
    go_wp2
    go_ret
    exact ⟨rfl, HC0.out⟩
  subst h2
  by_cases h3 : r1 = q1
  rotate_left
  · have e : bb = false := by rw [hbb]; exact decide_eq_false (fun h => h3 (h.2.2.2.1))
    rw [e]
    have e3 : (r1 == q1) = false := beq_eq_false_iff_ne.2 h3
    clear e hbb hD1 hE1 hu hv
    go_enter Tryd.func12, Tryd.ntmps12
    go_wp2
    go_ret
    exact ⟨rfl, HC0.out⟩
  subst h3
  by_cases h4 : r2 = q2
  rotate_left
  · have e : bb = false := by rw [hbb]; exact decide_eq_false (fun h => h4 (h.2.2.2.2.1))
    rw [e]
    have e4 : (r2 == q2) = false := beq_eq_false_iff_ne.2 h4
    clear e hbb hD1 hE1 hu hv
    go_enter Tryd.func12, Tryd.ntmps12
    go_wp2
    go_ret
    exact ⟨rfl, HC0.out⟩
  subst h4
  by_cases h5 : r3 = q3
  rotate_left
  · have e : bb = false := by rw [hbb]; exact decide_eq_false (fun h => h5 (h.2.2.2.2.2.1))
    rw [e]
    have e5 : (r3 == q3) = false := beq_eq_false_iff_ne.2 h5
    clear e hbb hD1 hE1 hu hv
    go_enter Tryd.func12, Tryd.ntmps12
    go_wp2
    go_ret
    exact ⟨rfl, HC0.out⟩
  subst h5
  by_cases h6 : r4 = q4
  rotate_left
  · have e : bb = false := by rw [hbb]; exact decide_eq_false (fun h => h6 (h.2.2.2.2.2.2.1))
    rw [e]
    have e6 : (r4 == q4) = false := beq_eq_false_iff_ne.2 h6
    clear e hbb hD1 hE1 hu hv
    go_enter Tryd.func12, Tryd.ntmps12
    go_wp2
    go_ret
    exact ⟨rfl, HC0.out⟩
  subst h6
  by_cases h7 : r5 = q5
  rotate_left
  · have e : bb = false := by rw [hbb]; exact decide_eq_false (fun h => h7 (h.2.2.2.2.2.2.2.1))
    rw [e]
    have e7 : (r5 == q5) = false := beq_eq_false_iff_ne.2 h7
    clear e hbb hD1 hE1 hu hv
    go_enter Tryd.func12, Tryd.ntmps12
    go_wp2
    go_ret
    exact ⟨rfl, HC0.out⟩
  subst h7
  by_cases h8 : r6 = q6
  rotate_left
  · have e : bb = false := by rw [hbb]; exact decide_eq_false (fun h => h8 (h.2.2.2.2.2.2.2.2.1))
    rw [e]
    have e8 : (r6 == q6) = false := beq_eq_false_iff_ne.2 h8
    clear e hbb hD1 hE1 hu hv
    go_enter Tryd.func12, Tryd.ntmps12
    go_wp2
    go_ret
    exact ⟨rfl, HC0.out⟩
  subst h8
  by_cases h9 : r7 = q7
  rotate_left
  · have e : bb = false := by rw [hbb]; exact decide_eq_false (fun h => h9 (h.2.2.2.2.2.2.2.2.2.1))
    rw [e]
    have e9 : (r7 == q7) = false := beq_eq_false_iff_ne.2 h9
    clear e hbb hD1 hE1 hu hv
    go_enter Tryd.func12, Tryd.ntmps12
    go_wp2
    go_ret
    exact ⟨rfl, HC0.out⟩
  subst h9
  by_cases h10 : d = d2
  rotate_left
  · have e : bb = false := by rw [hbb]; exact decide_eq_false (fun h => h10 (h.2.2.2.2.2.2.2.2.2.2.1))
    rw [e]
    clear e hbb hD1 hE1 hu hv
    cases d <;> cases d2 <;> first | (exact absurd rfl h10) | (go_enter Tryd.func12, Tryd.ntmps12; go_wp2; go_ret; exact ⟨rfl, HC0.out⟩)
  subst h10
  have hlD := hD1.lenk hu (by decide)
  have hlE := hE1.lenk hv (by decide)
  have hdec : bb = decide (es = fs) := by rw [hbb]; simp
  have hdd : (d != d) = false := by cases d <;> rfl
  by_cases hnm : n = m
  · subst hnm
    clear hbb
    go_enter Tryd.func12, Tryd.ntmps12
    go_wp2
    go_loopw [5] (fun i wr => (∃ k : Nat, k ≤ n ∧ i = .int .i64 k ∧ Hid (es.take k = fs.take k)) ∧ ∃ q, wr = ((W.alloc (.cells #[.int .i64 f, .int .i64 pc, .int .i64 r0, .int .i64 r1, .int .i64 r2, .int .i64 r3, .int .i64 r4, .int .i64 r5, .int .i64 r6, .int .i64 r7, .slice D n c, .bool d] 28)).alloc (.cells #[.int .i64 f, .int .i64 pc, .int .i64 r0, .int .i64 r1, .int .i64 r2, .int .i64 r3, .int .i64 r4, .int .i64 r5, .int .i64 r6, .int .i64 r7, .slice E n c2, .bool d] 28)).drewN q) (fun i _ => n - (intOf i).toNat)
    case atStart => exact ⟨⟨0, Nat.zero_le _, rfl, Lib.hid rfl⟩, 0, rfl⟩
    case round =>
      obtain ⟨⟨k, hk, rfl, HT⟩, q, rfl⟩ := hrel
      by_cases hlt : k < n
      · have hkx : k < es.length := by omega
        have hky : k < fs.length := by omega
        obtain ⟨_, b, o, rfl, hb, hc⟩ := hD1.getk hu (by decide) (by omega)
        obtain ⟨_, b', o', rfl, hb', hc'⟩ := hE1.getk hv (by decide) (by omega)
        have c0 := hc k hkx 0 (by decide)
        have c1 := hc k hkx 1 (by decide)
        have d0 := hc' k hky 0 (by decide)
        have d1 := hc' k hky 1 (by decide)
        simp only [Nat.add_zero] at c0 d0
        rw [← Nat.add_assoc] at c1 d1
        have h3 := two' (hu _ (List.getElem_mem hkx))
        have g3 := two' (hv _ (List.getElem_mem hky))
        have HX := Lib.hid (fun (h : es[k] = fs[k]) => show es.take (k + 1) = fs.take (k + 1) from by rw [List.take_succ_eq_append_getElem hkx, List.take_succ_eq_append_getElem hky, HT.out, h])
        have HN := Lib.hid (fun (h : es[k] ≠ fs[k]) => show bb = false from by rw [hdec]; exact decide_eq_false (fun e => h (by subst e; rfl)))
        generalize (es[k]).getD 0 0 = x0 at *
        generalize (es[k]).getD 1 0 = x1 at *
        generalize (fs[k]).getD 0 0 = y0 at *
        generalize (fs[k]).getD 1 0 = y1 at *
        generalize es[k] = ek at *
        generalize fs[k] = fk at *
        subst h3
        subst g3
        have hi0 : (0 : Int) ≤ (k : Int) := by omega
        have hi1 : (k : Int) < (n : Int) := by omega
        clear hD1 hE1 hc hc' hu hv hdec
        by_cases h0 : x0 = y0
        · subst h0
          by_cases h1 : x1 = y1
          · subst h1
            have HE := Lib.hid (HX.out rfl)
            clear HX HN
            go_wp2
            go_quiet (fail)
            go_wp2
            go_roundw
            case rel => exact ⟨⟨k + 1, by omega, by go_num, HE⟩, _, rfl⟩
            case measure => simp [intOf]; omega
          · have e1 : (x1 == y1) = false := beq_eq_false_iff_ne.2 h1
            have HE := Lib.hid (HN.out (by simp [h1]))
            clear HX HN
            go_wp2
            go_quiet (fail)
            go_wp2
            go_ret
            exact ⟨ret_bool HE.out.symm, (HC0.out.drewN q).drewN nq⟩
        · have e0 : (x0 == y0) = false := beq_eq_false_iff_ne.2 h0
          have HE := Lib.hid (HN.out (by simp [h0]))
          clear HX HN
          go_wp2
          go_quiet (fail)
          go_wp2
          go_ret
          exact ⟨ret_bool HE.out.symm, (HC0.out.drewN q).drewN nq⟩
      · have hkn : k = n := by omega
        have HE := Lib.hid (show bb = true from by rw [hdec]; exact decide_eq_true (by have := HT.out; rwa [List.take_of_length_le (by omega), List.take_of_length_le (by omega)] at this))
        clear hdec
        go_wp2
        go_ret
        exact ⟨ret_bool HE.out.symm, HC0.out.drewN q⟩
  · have HE := Lib.hid (show bb = false from by rw [hdec]; exact decide_eq_false (fun e => hnm (by rw [← hlD, ← hlE, e])))
    have x0 : ((n : Int) == (m : Int)) = false := beq_eq_false_iff_ne.2 (by omega)
    have x1 : (n == m) = false := beq_eq_false_iff_ne.2 hnm
    clear hD1 hE1 hdec hbb hu hv
    go_enter Tryd.func12, Tryd.ntmps12
    go_wp2
    go_ret
    exact ⟨ret_bool HE.out.symm, HC0.out⟩
end Go.Proofs.YthdkbofnplnidaaDoor
