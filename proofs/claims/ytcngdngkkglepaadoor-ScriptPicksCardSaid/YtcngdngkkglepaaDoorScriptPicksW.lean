/- The walk of the law ScriptPicks. -/
import Derived.Test.YtcngdngkkglepaaDoorScpC
import Derived.Test.YtcngdngkkglepaaDoorScrC
import Derived.Test.YtcngdngkkglepaaDoorShape
import Derived.DataShut
namespace Go.Proofs.YtcngdngkkglepaaDoor
open Go.ChangeShapes Go.WideShapes Go.ChangeAt Go.RowKit Go.Deep
set_option linter.unusedVariables false
set_option linter.unusedSimpArgs false

abbrev ShE : Sh := .st (.cons (.int .i64) (.cons (.int .i64) (.cons (.int .i64) .nil)))
theorem open_entries {w : World} {cs0 : List Value} {d0 : (Sh.sl ShE).Den} (h : Lies w (.sl ShE) cs0 d0) : ∃ A n c es, Sh.val (.sl ShE) cs0 = .slice A n c ∧ n ≤ c ∧ c ≤ maxLen ∧ Uni 3 es ∧ Rd w 3 A n (kv es) := by
  obtain ⟨A, c, rfl, h1, h2, h3⟩ := h
  obtain ⟨l, hl⟩ : ∃ l : List (Int × Int × Int × Unit), l = d0 := ⟨_, rfl⟩
  have hn : @List.length ShE.Den d0 = l.length := by rw [hl]; rfl
  rw [hn] at h1 h3 ⊢
  have hu : Uni 3 (l.map fun e => [e.1, e.2.1, e.2.2.1]) := by
    intro e he
    obtain ⟨x, _, rfl⟩ := List.mem_map.1 he
    rfl
  refine ⟨A, l.length, c, l.map fun e => [e.1, e.2.1, e.2.2.1], rfl, h1, h2, hu, ?_⟩
  refine ⟨by rw [kv_length hu, List.length_map], fun h0 => ?_⟩
  obtain ⟨b, o, rfl, hb, hel⟩ := h3 h0
  refine ⟨b, o, rfl, hb, fun j u hj => ?_⟩
  have hjl : j < l.length * 3 := by
    have := (List.getElem?_eq_some_iff.1 hj).1
    rwa [kv_length hu, List.length_map] at this
  have hi : j / 3 < l.length := by omega
  have hr : j % 3 < 3 := Nat.mod_lt _ (by decide)
  have hg := kv_get hu (j / 3) (j % 3) (by simpa using hi) hr
  rw [show j / 3 * 3 + j % 3 = j by omega, hj] at hg
  have he : (show List ShE.Den from d0)[j / 3]? = some l[j / 3] := by rw [← hl]; exact List.getElem?_eq_getElem hi
  obtain ⟨cs', g1, g2, g3⟩ := hel (j / 3) _ he
  obtain ⟨c1, r1, rfl, _, ⟨rfl, _⟩, c2, r2, rfl, _, ⟨rfl, _⟩, c4, r4, rfl, _, ⟨rfl, _⟩, hnil⟩ := g3
  have hcell : ∀ r, r < 3 → w.cell? ⟨b, o + j / 3 * 3 + r, none⟩ = some (.int .i64 ([l[j / 3].1, l[j / 3].2.1, l[j / 3].2.2.1].getD r 0))
    | 0, _ => g2 0 _ rfl
    | 1, _ => g2 1 _ rfl
    | 2, _ => g2 2 _ rfl
  have := hcell (j % 3) hr
  rw [Nat.add_assoc, show j / 3 * 3 + j % 3 = j by omega] at this
  rw [this, hg]
  simp
def OwR (W : World) (live pick : Int) (es : List (List Int)) (n : Nat) (lv iv : Value) (wr : World) : Prop :=
  ∃ (k : Nat) (A : Option Addr) (c : Nat), k ≤ n ∧ iv = .int .i64 k ∧ lv = .slice A (keep live pick (es.take k)).length c ∧ Row wr W.heap.size 31 3 A (keep live pick (es.take k)).length c (kv (keep live pick (es.take k))) ∧ Chg (fun _ => False) W wr
theorem red_three {live : Int} {e : List Int} : red live e = [modOf (e.getD 0 0) live, modOf (e.getD 1 0) 65, e.getD 2 0] := rfl
set_option maxRecDepth 100000 in
set_option maxHeartbeats 16000000 in
theorem walk_scriptPicks' (A B : Option Addr) (n m c d : Nat) (xs ys : List (List Int)) (live pick : Int) (w : World) (hu : Uni 3 xs) (hv : Uni 3 ys) (hA : Rd w 3 A n (kv xs)) (hB : Rd w 3 B m (kv ys)) (hl : live ≤ 9223372036854775807) (hnm : n ≤ maxLen) (hmm : m ≤ maxLen) :
    Calls Tryd.prog 4 #[.slice A n c, .slice B m d, .int .i64 live, .int .i64 pick] w fun e w' => e = .returned (.bool true) ∧ Below w.heap.size w w' := by
  have hln := hA.lenk hu (by decide)
  have hlm := hB.lenk hv (by decide)
  by_cases hn : 60 < n
  · have n1 : decide ((60 : Int) < n) = true := decide_eq_true (by omega)
    have n2 : (60 : Int) < n := by omega
    clear hA hB
    go_enter Tryd.func4, Tryd.ntmps4
    go_wp2_with (go_at_call 8; refine (alive_any _).mono ?_; rintro e w2 ⟨rfl, hc2⟩; have HC2 := Lib.hid hc2; clear hc2)
    go_ret
    exact ⟨rfl, HC2.out.below (Nat.le_refl _) (fun _ _ h => h.elim)⟩
  by_cases hm : 60 < m
  · have n1 : decide ((60 : Int) < n) = false := decide_eq_false (by omega)
    have m1 : decide ((60 : Int) < m) = true := decide_eq_true (by omega)
    have n2 : ¬ (60 : Int) < n := by omega
    have m2 : (60 : Int) < m := by omega
    clear hA hB
    go_enter Tryd.func4, Tryd.ntmps4
    go_wp2_with (go_at_call 8; refine (alive_any _).mono ?_; rintro e w2 ⟨rfl, hc2⟩; have HC2 := Lib.hid hc2; clear hc2)
    go_ret
    exact ⟨rfl, HC2.out.below (Nat.le_refl _) (fun _ _ h => h.elim)⟩
  · have n2 : ¬ (60 : Int) < n := by omega
    have m2 : ¬ (60 : Int) < m := by omega
    have HA := Lib.hid (fun (V : World) (hc : Chg (fun _ => False) w V) => hA.kept hc (fun _ _ h => h))
    have HB := Lib.hid (fun (V : World) (hc : Chg (fun _ => False) w V) => hB.kept hc (fun _ _ h => h))
    have HU := Lib.hid hu
    have HV := Lib.hid hv
    clear hA hB hu hv
    go_enter Tryd.func4, Tryd.ntmps4
    go_wp2_with fail
    go_loopw [9, 10] (fun lv iv wr => OwR w live pick xs n lv iv wr) (fun _ iv _ => n - (intOf iv).toNat)
    case atStart => exact ⟨0, none, 0, Nat.zero_le _, rfl, by simp [keep], by rw [show keep live pick (xs.take 0) = [] from by simp [keep]]; exact Row.nil _ _ _ _, Chg.refl _ _⟩
    case round =>
      obtain ⟨k, A', c', hk, rfl, rfl, hr, hc⟩ := hrel
      have k0 : (0 : Int) ≤ k := by omega
      have HR := Lib.hid hr
      have HC := Lib.hid hc
      have hsz := hc.size
      clear hr hc
      by_cases hlt : k < n
      · have k1 : (k : Int) < n := by omega
        have hke : k < xs.length := by omega
        obtain ⟨_, b, o, rfl, hb, hcc⟩ := (HA.out w (Chg.refl _ _)).getk HU.out (by decide) (by omega)
        have c0 := hcc k hke 0 (by decide)
        have c1 := hcc k hke 1 (by decide)
        have c2 := hcc k hke 2 (by decide)
        simp only [Nat.add_zero] at c0
        rw [← Nat.add_assoc] at c1 c2
        have h3 := three (HU.out _ (List.getElem_mem hke))
        have HY := Lib.hid (@keep_yes live pick xs k hke)
        have HN := Lib.hid (@keep_no live pick xs k hke)
        have hol := keep_len live pick (xs.take k)
        rw [List.length_take] at hol
        have hol2 : (keep live pick (xs.take k)).length ≤ k := by omega
        have HP := Lib.hid (fun V => reduce_any ((xs[k]).getD 0 0) ((xs[k]).getD 1 0) ((xs[k]).getD 2 0) live V hl)
        have HQ := Lib.hid (fun V => rreduce_any ((xs[k]).getD 0 0) ((xs[k]).getD 1 0) ((xs[k]).getD 2 0) live V hl)
        have hot : other live pick xs[k] = (modOf ((xs[k]).getD 0 0) live != pick) := rfl
        have HOT := Lib.hid hot
        clear hot
        generalize modOf ((xs[k]).getD 0 0) live = y0 at *
        generalize modOf ((xs[k]).getD 1 0) 65 = y1 at *
        generalize other live pick xs[k] = ot at *
        generalize (xs[k]).getD 0 0 = x0 at *
        generalize (xs[k]).getD 1 0 = x1 at *
        generalize (xs[k]).getD 2 0 = x2 at *
        generalize xs[k] = ek at *
        subst h3
        clear hcc hol
        have r0 := (HC.out.cell (p := ⟨b, _, none⟩) hb (fun h => h)).trans c0
        have r1 := (HC.out.cell (p := ⟨b, _, none⟩) hb (fun h => h)).trans c1
        have r2 := (HC.out.cell (p := ⟨b, _, none⟩) hb (fun h => h)).trans c2
        have hbw : b < wr.heap.size := by omega
        go_wp2_with (go_at_call 14; refine (HQ.out _).mono ?_; rintro e w1 ⟨rfl, hc1⟩; have HC1 := Lib.hid (HC.out.trans hc1 (fun _ _ h => h)); have HR1 := Lib.hid (HR.out.kept hc1 (fun _ _ h => h)); clear hc1)
        obtain ⟨X, hX⟩ : ∃ X, X = w1.heap.size := ⟨_, rfl⟩
        obtain ⟨w2, hw2⟩ : ∃ w2, w2 = w1.alloc (.cells #[.int .i64 y0, .int .i64 y1, .int .i64 x2] 31) := ⟨_, rfl⟩
        have HX : Hid (Blk w2 X 31 #[.int .i64 y0, .int .i64 y1, .int .i64 x2]) := Lib.hid (by rw [hw2, hX]; exact Blk.new w1 31 _)
        have HC2 : Hid (Chg (fun _ => False) w w2) := Lib.hid (by rw [hw2]; exact HC1.out.alloc _)
        have HR2 : Hid (Row w2 w.heap.size 31 3 A' (keep live pick (xs.take k)).length c' (kv (keep live pick (xs.take k)))) := Lib.hid (by rw [hw2]; exact HR1.out.alloc _)
        rw [← hw2, ← hX]
        clear hw2 hX
        have x0' := HX.out.cell 0
        have x1' := HX.out.cell 1
        have x2' := HX.out.cell 2
        have xl := HX.out.lt
        simp at x0' x1' x2'
        have hs1 : w2.drew.cell? ⟨b, o + k * 3, none⟩ = some (.int .i64 x0) ∧ w2.drew.cell? ⟨b, o + k * 3 + 1, none⟩ = some (.int .i64 x1) ∧ w2.drew.cell? ⟨b, o + k * 3 + 2, none⟩ = some (.int .i64 x2) ∧ w2.drew.cell? ⟨X, 0, none⟩ = some (.int .i64 y0) ∧ w2.drew.cell? ⟨X, 1, none⟩ = some (.int .i64 y1) ∧ w2.drew.cell? ⟨X, 2, none⟩ = some (.int .i64 x2) := ⟨(HC2.out.cell (p := ⟨b, _, none⟩) hb (fun h => h)).trans c0, (HC2.out.cell (p := ⟨b, _, none⟩) hb (fun h => h)).trans c1, (HC2.out.cell (p := ⟨b, _, none⟩) hb (fun h => h)).trans c2, x0', x1', x2'⟩
        refine wp_region_held_drew (S := fun w' => w'.cell? ⟨b, o + k * 3, none⟩ = some (.int .i64 x0) ∧ w'.cell? ⟨b, o + k * 3 + 1, none⟩ = some (.int .i64 x1) ∧ w'.cell? ⟨b, o + k * 3 + 2, none⟩ = some (.int .i64 x2) ∧ w'.cell? ⟨X, 0, none⟩ = some (.int .i64 y0) ∧ w'.cell? ⟨X, 1, none⟩ = some (.int .i64 y1) ∧ w'.cell? ⟨X, 2, none⟩ = some (.int .i64 x2)) (by kernel_rfl) hs1 (fun hHeld => ?_)
        refine wpAnyH_take (i := 0) (oi := Oper.mk _ _ _ _ _ _) (v := ?v1) rfl (by kernel_rfl) (by kernel_rfl) (by kernel_rfl) (fun _ _ _ h => h) (Or.inl ⟨by rfl, ?hy1⟩) (by assumption) ?rs1
        case hy1 => (intro w hSw; (try dsimp only at hSw); first | (go_simp <;> with_reducible rfl) | rfl)
        try simp only [Act.put, List.setIfInBounds_toArray, List.set_cons_zero, List.set_cons_succ]
        refine wpAnyH_take (i := 1) (oi := Oper.mk _ _ _ _ _ _) (v := ?v2) rfl (by kernel_rfl) (by kernel_rfl) (by kernel_rfl) (fun _ _ _ h => h) (Or.inl ⟨by rfl, ?hy2⟩) (by assumption) ?rs2
        case hy2 => (intro w hSw; (try dsimp only at hSw); first | (go_simp <;> with_reducible rfl) | rfl)
        try simp only [Act.put, List.setIfInBounds_toArray, List.set_cons_zero, List.set_cons_succ]
        refine wpAnyH_take (i := 2) (oi := Oper.mk _ _ _ _ _ _) (v := ?v3) rfl (by kernel_rfl) (by kernel_rfl) (by kernel_rfl) (fun _ _ _ h => h) (Or.inl ⟨by rfl, ?hy3⟩) (by assumption) ?rs3
        case hy3 => (intro w hSw; (try dsimp only at hSw); first | (go_simp <;> with_reducible rfl) | rfl)
        try simp only [Act.put, List.setIfInBounds_toArray, List.set_cons_zero, List.set_cons_succ]
        refine wpAnyH_take (i := 3) (oi := Oper.mk _ _ _ _ _ _) (v := ?v4) rfl (by kernel_rfl) (by kernel_rfl) (by kernel_rfl) (fun _ _ _ h => h) (Or.inl ⟨by rfl, ?hy4⟩) (by assumption) ?rs4
        case hy4 => (intro w hSw; (try dsimp only at hSw); first | (go_simp <;> with_reducible rfl) | rfl)
        try simp only [Act.put, List.setIfInBounds_toArray, List.set_cons_zero, List.set_cons_succ]
        refine wpAnyH_take (i := 4) (oi := Oper.mk _ _ _ _ _ _) (v := ?v5) rfl (by kernel_rfl) (by kernel_rfl) (by kernel_rfl) (fun _ _ _ h => h) (Or.inl ⟨by rfl, ?hy5⟩) (by assumption) ?rs5
        case hy5 => (intro w hSw; (try dsimp only at hSw); first | (go_simp <;> with_reducible rfl) | rfl)
        try simp only [Act.put, List.setIfInBounds_toArray, List.set_cons_zero, List.set_cons_succ]
        refine wpAnyH_take (i := 6) (oi := Oper.mk _ _ _ _ _ _) (v := ?v6) rfl (by kernel_rfl) (by kernel_rfl) (by kernel_rfl) (fun _ _ _ h => h) (Or.inl ⟨by rfl, ?hy6⟩) (by assumption) ?rs6
        case hy6 => (intro w hSw; (try dsimp only at hSw); first | (go_simp <;> with_reducible rfl) | rfl)
        try simp only [Act.put, List.setIfInBounds_toArray, List.set_cons_zero, List.set_cons_succ]
        refine wpAnyH_ready (rs := [5]) (by kernel_rfl) (by simp) ?_
        refine AllReadyH.cons (o := Oper.mk _ _ _ _ _ _) rfl (fun K hK => ?_) AllReadyH.nil
        go_simp
        go_at_call 15; refine (HP.out _).mono ?_; rintro e w3 ⟨rfl, hc3⟩; have HC3 := Lib.hid (HC2.out.drew.trans hc3 (fun _ _ h => h)); have HR3 := Lib.hid (HR2.out.drew.kept hc3 (fun _ _ h => h)); have z0 := (hc3.cell (p := ⟨X, 0, none⟩) xl (fun h => h)).trans x0'; have z1 := (hc3.cell (p := ⟨X, 1, none⟩) xl (fun h => h)).trans x1'; have z2 := (hc3.cell (p := ⟨X, 2, none⟩) xl (fun h => h)).trans x2'; have v0 := (HC3.out.cell (p := ⟨b, _, none⟩) hb (fun h => h)).trans c0; have v1 := (HC3.out.cell (p := ⟨b, _, none⟩) hb (fun h => h)).trans c1; have v2 := (HC3.out.cell (p := ⟨b, _, none⟩) hb (fun h => h)).trans c2; have hs2 : w3.cell? ⟨b, o + k * 3, none⟩ = some (.int .i64 x0) ∧ w3.cell? ⟨b, o + k * 3 + 1, none⟩ = some (.int .i64 x1) ∧ w3.cell? ⟨b, o + k * 3 + 2, none⟩ = some (.int .i64 x2) ∧ w3.cell? ⟨X, 0, none⟩ = some (.int .i64 y0) ∧ w3.cell? ⟨X, 1, none⟩ = some (.int .i64 y1) ∧ w3.cell? ⟨X, 2, none⟩ = some (.int .i64 x2) := ⟨v0, v1, v2, z0, z1, z2⟩; have zl := Nat.lt_of_lt_of_le xl hc3.size; have vb := Nat.lt_of_lt_of_le hb HC3.out.size; have wl := HC3.out.size; clear hc3
        refine hK.out _ _ hs2 (fun hHeld => ?_)
        clear hK K
        try simp only [Act.put, List.setIfInBounds_toArray, List.set_cons_zero, List.set_cons_succ]
        refine wpAnyH_take (i := 7) (oi := Oper.mk _ _ _ _ _ _) (v := ?v8) rfl (by kernel_rfl) (by kernel_rfl) (by kernel_rfl) (fun _ _ _ h => h) (Or.inl ⟨by rfl, ?hy8⟩) (by assumption) ?rs8
        case hy8 => (intro w hSw; (try dsimp only at hSw); first | (go_simp <;> with_reducible rfl) | rfl)
        try simp only [Act.put, List.setIfInBounds_toArray, List.set_cons_zero, List.set_cons_succ]
        refine wpAnyH_done (by kernel_rfl) ?_ _
        by_cases hp : y0 = pick
        · have hpd : (y0 == pick) = true := beq_iff_eq.2 hp
          have HE := Lib.hid (HY.out (by rw [HOT.out]; simp [hp]))
          subst hp
          clear HY HN
          generalize keep live y0 (xs.take k) = l at *
          go_wp2_with (at_builtin; refine wpList_apE rfl (.tmp 45) (.tmp 50) rfl rfl w.heap.size A' l.length c' l rfl (HR3.out.alloc _) _ 1 1 [[x0, x1, x2]] rfl (Rd.litk _ [x0, x1, x2] _ _ rfl 3 rfl _ rfl) ?_ ?_ ?_; (next => omega); (next => simp; omega); intro A4 c4 w4 g1 g2 g3; have HX4 := Lib.hid g1; have HZ : Hid (Chg (fun _ => False) w w4) := Lib.hid ((HC3.out.alloc _).grown g2 (fun g hg => .inr ((HR3.out.blk_lt g hg).1))); clear g1 g2 g3)
          go_roundw
          case rel => exact ⟨k + 1, A4, c4, by omega, by go_num, by rw [HE.out]; simp, by rw [HE.out]; simpa using HX4.out, HZ.out⟩
          case measure => simp [intOf]; omega
        · have hpd : (y0 == pick) = false := beq_eq_false_iff_ne.2 hp
          have HE := Lib.hid (HN.out (by rw [HOT.out]; simp [hp]))
          clear HY HN
          go_wp2
          go_roundw
          case rel => exact ⟨k + 1, A', c', by omega, by go_num, by rw [HE.out], by rw [HE.out]; exact HR3.out, HC3.out⟩
          case measure => simp [intOf]; omega
      · have hkn : k = n := by omega
        have ht : xs.take k = xs := List.take_of_length_le (by omega)
        rw [ht] at HR ⊢
        have HKU := Lib.hid (keep_uni (live := live) (pick := pick) HU.out)
        have hkl := keep_len live pick xs
        have hkl2 : (keep live pick xs).length ≤ 60 := by omega
        have HO := Lib.hid (fun (V : World) (hc : Chg (fun _ => False) w V) => only_any (live := live) (pick := pick) A n c xs V HU.out (HA.out V hc) (by omega) hl)
        have HSS := Lib.hid (fun (V : World) (hc : Chg (fun _ => False) w V) => ssame_any A B n m c d xs ys V HU.out HV.out (HA.out V hc) (HB.out V hc) (by omega) (by omega))
        have HRS := Lib.hid (fun (V : World) (hc : Chg (fun _ => False) w V) => rsame_any A B n m c d xs ys V HU.out HV.out (HA.out V hc) (HB.out V hc) (by omega) (by omega))
        have HKK := Lib.hid (fun (V : World) (A1 A2 : Option Addr) (m1 c1 c2 : Nat) (h1 : Rd V 3 A1 m1 (kv (keep live pick xs))) (h2 : Rd V 3 A2 (keep live pick xs).length (kv (keep live pick xs))) => by
          have hm1 := h1.lenk HKU.out (by decide)
          have h := rsame_any A1 A2 m1 (keep live pick xs).length c1 c2 _ _ V HKU.out HKU.out h1 h2 (by omega) (by omega)
          rwa [decide_eq_true (rfl : keep live pick xs = keep live pick xs)] at h)
        generalize decide (xs = ys) = bb at *
        generalize keep live pick xs = l at *
        clear ht
        go_wp2_with fail
        refine (HO.out _ HC.out).mono ?_
        rintro e v1 ⟨A1, m1, c1, rfl, hr1, hc1⟩
        have K1 := Lib.hid (HC.out.trans hc1 (fun _ _ h => h))
        have M1 := Lib.hid hr1
        have N1 := Lib.hid (HR.out.rd.kept hc1 (fun _ _ h => h))
        clear hr1 hc1
        go_wp2_with fail
        refine (HKK.out _ _ _ _ _ _ M1.out N1.out).mono ?_
        rintro e v2 ⟨rfl, q2, rfl⟩
        have K2 := Lib.hid (K1.out.drewN q2)
        go_wp2_with fail
        refine (HSS.out _ K2.out).mono ?_
        rintro e v3 ⟨rfl, q3, rfl⟩
        have K3 := Lib.hid (K1.out.drewN (q2 + q3))
        go_wp2_with fail
        refine (HRS.out _ K3.out).mono ?_
        rintro e v4 ⟨rfl, q4, rfl⟩
        have K4 := Lib.hid (K1.out.drewN (q2 + q3 + q4))
        have hbb : (bb == bb) = true := by simp
        go_wp2_with fail
        refine (alive_any _).mono ?_
        rintro e v5 ⟨rfl, hc5⟩
        have K5 := Lib.hid (K4.out.trans hc5 (fun _ _ h => h))
        clear hc5
        go_wp2
        go_ret
        exact ⟨rfl, K5.out.below (Nat.le_refl _) (fun _ _ h => h.elim)⟩
theorem walk_scriptPicks (cs0 : List Value) (d0 : (Sh.sl ShE).Den) (cs1 : List Value) (d1 : (Sh.sl ShE).Den) (a2 a3 : Int) (w : World) (hL0 : Lies w (.sl ShE) cs0 d0) (hL1 : Lies w (.sl ShE) cs1 d1) (w2 : (Lit.int .i64 a2).wf = true) (w3 : (Lit.int .i64 a3).wf = true) (hL : laidMetH Tryd.prog Rows.scriptPicksRow.laid w) :
    Calls Tryd.prog 4 #[Sh.val (.sl ShE) cs0, Sh.val (.sl ShE) cs1, .int .i64 a2, .int .i64 a3] w fun e w' => e = .returned (.bool true) ∧ Below w.heap.size w w' := by
  obtain ⟨A, n, c, a, e0, h1, h2, h3, h4⟩ := open_entries hL0
  obtain ⟨B, m, d, b, e1, g1, g2, g3, g4⟩ := open_entries hL1
  rw [e0, e1]
  exact walk_scriptPicks' A B n m c d a b a2 a3 w h3 g3 h4 g4 (((Lit.wf_int_iff .i64 a2).1 w2).2) (Nat.le_trans h1 h2) (Nat.le_trans g1 g2)
end Go.Proofs.YtcngdngkkglepaaDoor
