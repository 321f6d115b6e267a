/- What the document says of any access; are cells as they must be? -/
import Derived.Test.YthhhphmjohekgaaCellD
import Derived.Deep.RegionHeld3
namespace Go.Proofs.Ythhhphmjohekgaa
open Go.ChangeShapes Go.WideShapes Go.ChangeAt Go.RowKit Go.Deep
set_option linter.unusedVariables false

theorem Row.open_ {w : World} {base n c : Nat} {E : TypeId} {A : Option Addr} {xs : List Int} (h : Row w base E 1 A n c (ints xs)) (hn : 0 < n) :
    ∃ g, A = some ⟨g, 0, none⟩ ∧ base ≤ g ∧ g < w.heap.size ∧ (∀ k (hk : k < xs.length), w.cell? ⟨g, k, none⟩ = some (.int .i64 xs[k])) ∧ (∀ k, w.frozen? ⟨g, k, none⟩ = false) ∧
      ∀ k v, Row (w.setCell ⟨g, k, none⟩ (.int .i64 v)) base E 1 (some ⟨g, 0, none⟩) n c (ints (xs.set k v)) := by
  have hl : xs.length = n := by simpa using h.1
  rcases h.2.2.2 with ⟨_, h0, _⟩ | ⟨g, cur, rfl, hb, hg, hcs, ht⟩
  · omega
  · refine ⟨g, rfl, hb, hg.lt, fun k hk => ?_, hg.frozen, fun k v => ⟨by simp [hl], h.2.1, h.2.2.1, .inr ⟨g, _, rfl, hb, hg.set_ k (.int .i64 v), by simpa using hcs, ?_⟩⟩⟩
    · rw [hg.cell k]
      have := congrArg (·[k]?) ht
      simp only [List.getElem?_take] at this
      rw [if_pos (by omega)] at this
      rw [← Array.getElem?_toList, this, ints_get _ _ hk]
    · rw [Array.toList_setIfInBounds, List.take_set, ht]
      simp [ints, List.map_set]

def RDo (W : World) (base : Nat) (kd i x y : Int) (xs : List Int) (n : Nat) (e : Ending) (W' : World) : Prop :=
  ∃ A' c', e = .returned (.tuple #[.slice A' n c', .int .i64 (actV kd i x y xs)]) ∧ Row W' base 2 1 A' n c' (ints (actX kd i x y xs)) ∧ Chg (fun _ => False) W W'

theorem rdo_out (A : Option Addr) (base n c : Nat) (kd i x y : Int) (xs : List Int) (W : World) (hA : Row W base 2 1 A n c (ints xs)) (hi : i < 0 ∨ (xs.length : Int) ≤ i) :
    Calls Try.prog 8 #[.slice A n c, .agg #[.int .i64 kd, .int .i64 i, .int .i64 x, .int .i64 y]] W (RDo W base kd i x y xs n) := by
  have hl : xs.length = n := by simpa using hA.1
  have fin : RDo W base kd i x y xs n (.returned (.tuple #[.slice A n c, .int .i64 0])) (W.alloc (.cells #[.int .i64 kd, .int .i64 i, .int .i64 x, .int .i64 y] 30)) :=
    ⟨A, c, by rw [actV_out hi], by rw [actX_out hi]; exact hA.alloc _, (Chg.refl _ _).alloc _⟩
  have FIN := Lib.hid fin
  clear fin hA
  rw [hl] at hi
  clear hl
  rcases hi with h | h
  · go_enter Try.func8, Try.ntmps8
    go_wp2
    go_ret2
    exact FIN.out
  · have h0 : 0 ≤ i := by omega
    have d : decide (n ≤ i) = true := decide_eq_true h
    go_enter Try.func8, Try.ntmps8
    go_wp2
    go_ret2
    exact FIN.out


theorem app_open {W w2 : World} {A2 : Option Addr} {n c2 k g0 : Nat} {kd x y v : Int} {xs : List Int} (hl : xs.length = n) (hk : k < xs.length) (hv : v = xs[k]) (hg0 : g0 < W.heap.size) (e0 : W.cell? ⟨g0, k, none⟩ = some (.int .i64 v))
    (h1 : Row w2 (W.heap.size + 1) 2 1 A2 (0 + n) c2 (ints ([] ++ xs))) (h2 : ((W.alloc (.cells #[.int .i64 kd, .int .i64 k, .int .i64 x, .int .i64 y] 30)).alloc (.cells #[] 2)).grownBy w2 (blk (some ⟨W.heap.size + 1, 0, none⟩))) :
    ∃ g, A2 = some ⟨g, 0, none⟩ ∧ W.heap.size + 1 ≤ g ∧ Hid (∀ k v, Row (w2.setCell ⟨g, k, none⟩ (.int .i64 v)) (W.heap.size + 1) 2 1 (some ⟨g, 0, none⟩) n c2 (ints (xs.set k v))) ∧ Hid (Row w2 (W.heap.size + 1) 2 1 (some ⟨g, 0, none⟩) n c2 (ints xs)) ∧
      w2.cell? ⟨g, k, none⟩ = some (.int .i64 v) ∧ w2.frozen? ⟨g, k, none⟩ = false ∧ Hid (Chg (fun _ => False) W w2) ∧ w2.cell? ⟨W.heap.size, 0, none⟩ = some (.int .i64 kd) ∧ w2.cell? ⟨W.heap.size, 1, none⟩ = some (.int .i64 k) ∧ w2.cell? ⟨W.heap.size, 2, none⟩ = some (.int .i64 x) ∧ w2.cell? ⟨W.heap.size, 3, none⟩ = some (.int .i64 y) ∧ w2.cell? ⟨g0, k, none⟩ = some (.int .i64 v) := by
  rw [Nat.zero_add, List.nil_append] at h1
  obtain ⟨g, rfl, hg, hg', hc, hf, hs⟩ := h1.open_ (by omega)
  have hc0 : Chg (fun _ => False) W ((W.alloc (.cells #[.int .i64 kd, .int .i64 k, .int .i64 x, .int .i64 y] 30)).alloc (.cells #[] 2)) := ((Chg.refl _ _).alloc _).alloc _
  have hc2 : Chg (fun _ => False) W w2 := hc0.grown h2 (fun g h => by simp at h; omega)
  have hB := ((Blk.new W 30 #[.int .i64 kd, .int .i64 k, .int .i64 x, .int .i64 y]).alloc (.cells #[] 2)).grown h2 (by simp)
  refine ⟨g, rfl, hg, hs, h1, by rw [hv]; exact hc k hk, hf k, hc2, ?_, ?_, ?_, ?_, ?_⟩
  · rw [hB.cell]; rfl
  · rw [hB.cell]; rfl
  · rw [hB.cell]; rfl
  · rw [hB.cell]; rfl
  · exact (hc2.cell (p := ⟨g0, k, none⟩) hg0 (fun h => h)).trans e0

set_option maxHeartbeats 8000000 in
theorem rdo_in (A : Option Addr) (base n c k : Nat) (kd x y : Int) (xs : List Int) (W : World) (hA : Row W base 2 1 A n c (ints xs)) (hk : k < n) (hm : n ≤ 100000) (hb : base ≤ W.heap.size) :
    Calls Try.prog 8 #[.slice A n c, .agg #[.int .i64 kd, .int .i64 k, .int .i64 x, .int .i64 y]] W (RDo W base kd k x y xs n) := by
  have hl : xs.length = n := by simpa using hA.1
  have hkl : k < xs.length := by omega
  obtain ⟨g0, rfl, hg0, hg1, hc0, _, _⟩ := hA.open_ (by omega)
  obtain ⟨v, hv⟩ : ∃ v : Int, v = xs[k]'hkl := ⟨_, rfl⟩
  have e0 : W.cell? ⟨g0, k, none⟩ = some (.int .i64 v) := by rw [hv]; exact hc0 k hkl
  have hA1 := hA.alloc (.cells #[.int .i64 kd, .int .i64 k, .int .i64 x, .int .i64 y] 30)
  have hrow0 : Row ((W.alloc (.cells #[.int .i64 kd, .int .i64 k, .int .i64 x, .int .i64 y] 30)).alloc (.cells #[] 2)) (W.heap.size + 1) 2 1 (some ⟨W.heap.size + 1, 0, none⟩) 0 0 (ints []) := ⟨rfl, Nat.le_refl _, Nat.zero_le _, .inr ⟨W.heap.size + 1, #[], rfl, Nat.le_refl _, by simpa using Blk.new (W.alloc (.cells #[.int .i64 kd, .int .i64 k, .int .i64 x, .int .i64 y] 30)) 2 #[], by simp, rfl⟩⟩
  have fin : ∀ (v' u : Int) (c' g : Nat) (w1 w2 : World), (∀ k v, Row (w1.setCell ⟨g, k, none⟩ (.int .i64 v)) (W.heap.size + 1) 2 1 (some ⟨g, 0, none⟩) n c' (ints (xs.set k v))) → Chg (fun _ => False) W w1 → W.heap.size ≤ g → v' = opX kd v x y → u = opV kd v x y → (∃ q, w2 = (w1.setCell ⟨g, k, none⟩ (.int .i64 v')).drewN q) → RDo W base kd k x y xs n (.returned (.tuple #[.slice (some ⟨g, 0, none⟩) n c', .int .i64 u])) w2 := by
    rintro v' u c' g w1 w2 hr hc hg rfl rfl ⟨q, rfl⟩
    subst hv
    exact ⟨_, _, by rw [actV_in rfl hkl], by rw [actX_in rfl hkl]; exact ((hr _ _).lower (by omega)).drewN q, (hc.setCell (.inr hg) _).drewN q⟩
  have fin2 : ∀ (u : Int) (c' g : Nat) (w1 : World), Row w1 (W.heap.size + 1) 2 1 (some ⟨g, 0, none⟩) n c' (ints xs) → Chg (fun _ => False) W w1 → v = opX kd v x y → u = opV kd v x y → RDo W base kd k x y xs n (.returned (.tuple #[.slice (some ⟨g, 0, none⟩) n c', .int .i64 u])) w1 := by
    rintro u c' g w1 hr hc hv' rfl
    subst hv
    refine ⟨_, _, by rw [actV_in rfl hkl], ?_, hc⟩
    rw [actX_in rfl hkl, ← hv', List.set_getElem_self]; exact hr.lower (by omega)
  have FIN := Lib.hid fin
  have FIN2 := Lib.hid fin2
  have HROW := Lib.hid hrow0
  have HA := Lib.hid hA1
  have HK := Lib.hid hkl
  have HL := Lib.hid hl
  have HV := Lib.hid hv
  have hi0 : (0 : Int) ≤ (k : Int) := by omega
  have hi1 : (k : Int) < (n : Int) := by omega
  clear fin fin2 hrow0 hA hA1 hc0 hl hv
  by_cases h0 : kd = 0
  · subst h0
    go_enter Try.func8, Try.ntmps8
    go_wp2_with (at_builtin; refine wpList_app64 rfl (.tmp 19) (.tmp 20) rfl (W.heap.size + 1) _ 0 0 [] rfl HROW.out (some ⟨g0, 0, none⟩) n c xs rfl ((HA.out.alloc _).rd) ?c1 ?c2 ?_; (case c1 => omega); (case c2 => simp); intro A2 c2 w2 h1 h2 h3; obtain ⟨g, rfl, hgb, HS, HR, q0, q1, HC2, b0, b1, b2, b3, e1⟩ := app_open HL.out HK.out HV.out hg1 e0 h1 h2; clear h1 h2 h3)
    go_ret2
    exact FIN2.out _ _ _ _ HR.out HC2.out (by simp [opX]) (by simp [opV])
  by_cases h1 : kd = 1
  · subst h1
    go_enter Try.func8, Try.ntmps8
    go_wp2_with (at_builtin; refine wpList_app64 rfl (.tmp 19) (.tmp 20) rfl (W.heap.size + 1) _ 0 0 [] rfl HROW.out (some ⟨g0, 0, none⟩) n c xs rfl ((HA.out.alloc _).rd) ?c1 ?c2 ?_; (case c1 => omega); (case c2 => simp); intro A2 c2 w2 h1 h2 h3; obtain ⟨g, rfl, hgb, HS, HR, q0, q1, HC2, b0, b1, b2, b3, e1⟩ := app_open HL.out HK.out HV.out hg1 e0 h1 h2; clear h1 h2 h3)
    go_ret2
    exact FIN.out _ _ _ _ _ _ HS.out HC2.out (by omega) (by simp [opX]) (by simp [opV]) ⟨0, rfl⟩
  by_cases h2 : kd = 2
  · subst h2
    by_cases hvx : v = x
    · subst hvx
      go_enter Try.func8, Try.ntmps8
      go_wp2_with (at_builtin; refine wpList_app64 rfl (.tmp 19) (.tmp 20) rfl (W.heap.size + 1) _ 0 0 [] rfl HROW.out (some ⟨g0, 0, none⟩) n c xs rfl ((HA.out.alloc _).rd) ?c1 ?c2 ?_; (case c1 => omega); (case c2 => simp); intro A2 c2 w2 h1 h2 h3; obtain ⟨g, rfl, hgb, HS, HR, q0, q1, HC2, b0, b1, b2, b3, e1⟩ := app_open HL.out HK.out HV.out hg1 e0 h1 h2; clear h1 h2 h3)
      go_ret2
      exact FIN.out _ _ _ _ _ _ HS.out HC2.out (by omega) (by simp [opX]) (by simp [opV]) ⟨0, rfl⟩
    · have dv : (v == x) = false := by simpa using hvx
      have DV := Lib.hid hvx
      clear hvx
      go_enter Try.func8, Try.ntmps8
      go_wp2_with (at_builtin; refine wpList_app64 rfl (.tmp 19) (.tmp 20) rfl (W.heap.size + 1) _ 0 0 [] rfl HROW.out (some ⟨g0, 0, none⟩) n c xs rfl ((HA.out.alloc _).rd) ?c1 ?c2 ?_; (case c1 => omega); (case c2 => simp); intro A2 c2 w2 h1 h2 h3; obtain ⟨g, rfl, hgb, HS, HR, q0, q1, HC2, b0, b1, b2, b3, e1⟩ := app_open HL.out HK.out HV.out hg1 e0 h1 h2; clear h1 h2 h3)
      go_ret2
      exact FIN2.out _ _ _ _ HR.out HC2.out (by simp [opX, DV.out]) (by simp [opV, DV.out])
  have d0 : (kd == 0) = false := by simpa using h0
  have d1 : (kd == 1) = false := by simpa using h1
  have d2 : (kd == 2) = false := by simpa using h2
  by_cases h3 : kd = 3
  · subst h3
    go_enter Try.func8, Try.ntmps8
    go_wp2_with (at_builtin; refine wpList_app64 rfl (.tmp 19) (.tmp 20) rfl (W.heap.size + 1) _ 0 0 [] rfl HROW.out (some ⟨g0, 0, none⟩) n c xs rfl ((HA.out.alloc _).rd) ?c1 ?c2 ?_; (case c1 => omega); (case c2 => simp); intro A2 c2 w2 h1 h2 h3; obtain ⟨g, rfl, hgb, HS, HR, q0, q1, HC2, b0, b1, b2, b3, e1⟩ := app_open HL.out HK.out HV.out hg1 e0 h1 h2; clear h1 h2 h3)
    go_quiet (fail)
    go_wp2
    go_ret2
    exact FIN.out _ _ _ _ _ _ HS.out HC2.out (by omega) (by simp [opX, wadd]) (by simp [opV, wadd]) ⟨_, rfl⟩
  by_cases h4 : kd = 4
  · subst h4
    go_enter Try.func8, Try.ntmps8
    go_wp2_with (at_builtin; refine wpList_app64 rfl (.tmp 19) (.tmp 20) rfl (W.heap.size + 1) _ 0 0 [] rfl HROW.out (some ⟨g0, 0, none⟩) n c xs rfl ((HA.out.alloc _).rd) ?c1 ?c2 ?_; (case c1 => omega); (case c2 => simp); intro A2 c2 w2 h1 h2 h3; obtain ⟨g, rfl, hgb, HS, HR, q0, q1, HC2, b0, b1, b2, b3, e1⟩ := app_open HL.out HK.out HV.out hg1 e0 h1 h2; clear h1 h2 h3)
    go_ret2
    exact FIN.out _ _ _ _ _ _ HS.out HC2.out (by omega) (by simp [opX]) (by simp [opV]) ⟨0, rfl⟩
  have H0 := Lib.hid h0
  have H1 := Lib.hid h1
  have H2 := Lib.hid h2
  have H3 := Lib.hid h3
  have H4 := Lib.hid h4
  have d3 : (kd == 3) = false := by simpa using h3
  have d4 : (kd == 4) = false := by simpa using h4
  clear h0 h1 h2 h3 h4
  go_enter Try.func8, Try.ntmps8
  go_wp2_with (at_builtin; refine wpList_app64 rfl (.tmp 19) (.tmp 20) rfl (W.heap.size + 1) _ 0 0 [] rfl HROW.out (some ⟨g0, 0, none⟩) n c xs rfl ((HA.out.alloc _).rd) ?c1 ?c2 ?_; (case c1 => omega); (case c2 => simp); intro A2 c2 w2 h1 h2 h3; obtain ⟨g, rfl, hgb, HS, HR, q0, q1, HC2, b0, b1, b2, b3, e1⟩ := app_open HL.out HK.out HV.out hg1 e0 h1 h2; clear h1 h2 h3)
  go_ret2
  exact FIN.out _ _ _ _ _ _ HS.out HC2.out (by omega) (by simp [opX, wmask, H0.out, H1.out, H2.out, H3.out, H4.out]) (by simp [opV, H0.out, H1.out, H2.out, H3.out]) ⟨0, rfl⟩
theorem rdo_any (A : Option Addr) (base n c : Nat) (kd i x y : Int) (xs : List Int) (W : World) (hA : Row W base 2 1 A n c (ints xs)) (hm : n ≤ 100000) (hb : base ≤ W.heap.size) :
    Calls Try.prog 8 #[.slice A n c, .agg #[.int .i64 kd, .int .i64 i, .int .i64 x, .int .i64 y]] W (RDo W base kd i x y xs n) := by
  have hl : xs.length = n := by simpa using hA.1
  rcases in_or_out i xs with ⟨k, rfl, hk⟩ | hi
  · exact rdo_in A base n c k kd x y xs W hA (by omega) hm hb
  · exact rdo_out A base n c kd i x y xs W hA hi

theorem like_yes (L R : Nat) (A : Option Addr) (m c : Nat) (xs : List Int) (n : Int) (W : World) (hC : Cels W L R xs n) (hA : Rd W 1 A m (ints xs)) (hm : m ≤ 4096) (hn0 : 0 ≤ n) (hn1 : n < 10000) :
    Calls Try.prog 11 #[.pointer (some ⟨L, 0, none⟩), .slice A m c] W fun e W' => e = .returned (.bool true) ∧ Chg (fun _ => False) W W' := by
  have hl : xs.length = m := by simpa using hA.1
  have hCW : ∀ wr, Hid (Chg (fun g => W.heap.size ≤ g) W wr) → Cels wr L R xs n := fun wr hc => hC.kept hc.out (by have := hC.lt_.1; show ¬ W.heap.size ≤ L; omega) (by have := hC.lt_.2; show ¬ W.heap.size ≤ R; omega)
  have HCW := Lib.hid hCW
  clear hCW
  go_enter Try.func11, Try.ntmps11
  go_wp2_with fail
  refine (ccopy _ _ xs n W hC (by omega)).mono ?_
  rintro e w1 ⟨rfl, hD, hb⟩
  have hc1 : Chg (fun g => W.heap.size ≤ g) W w1 := Chg.ofBelow hb
  have hs1 := hb.size
  clear hb
  go_wp2_with fail
  go_loopw [6] (fun i wr => ∃ (k : Nat) (n' : Int), k ≤ m ∧ i = .int .i64 k ∧ 0 ≤ n' ∧ n' ≤ n + k ∧ Hid (Cels wr (W.heap.size + 1) W.heap.size xs n') ∧ Hid (Chg (fun g => W.heap.size ≤ g) W wr)) (fun i _ => m - (intOf i).toNat)
  case atStart => exact ⟨0, n, Nat.zero_le _, rfl, hn0, by omega, hD, hc1⟩
  case round =>
    obtain ⟨k, n', hk, rfl, hn2, hn3, HD, HC⟩ := hrel
    clear hD hc1
    by_cases hlt : k < m
    · obtain ⟨b, o, rfl, hb, hc⟩ := hA.at_ (by omega)
      have hkx : k < xs.length := by omega
      have e0 : wr.cell? ⟨b, o + k, none⟩ = some (.int .i64 xs[k]) := (HC.out.cell (p := ⟨b, o + k, none⟩) hb (by simpa using hb)).trans (hc k hkx)
      obtain ⟨z, hz⟩ : ∃ z, xs[k] = z := ⟨_, rfl⟩
      rw [hz] at e0
      have HZ := Lib.hid hz
      have HL := Lib.hid hl
      have HK := Lib.hid hkx
      have hi0 : (0 : Int) ≤ (k : Int) := by omega
      have hi1 : (k : Int) < (m : Int) := by omega
      have hbw : b < wr.heap.size := Nat.lt_of_lt_of_le hb HC.out.size
      clear hz hc hl hA
      go_wp2_with fail
      go_region_held3 (fun w' => w'.cell? ⟨b, o + k, none⟩ = some (.int .i64 z)) (first | assumption | exact (ha.2.cell (p := ⟨b, o + k, none⟩) hbw (by show ¬ (b = _ ∨ b = _); omega)).trans e0)
        ((go_at_call 12; refine (load_in _ _ k xs n' _ HD.out.drew HK.out ?_ hn2 ?_).mono ?_; (have := HL.out; omega); omega; rw [HZ.out]; rintro e u1 ⟨rfl, ha⟩))
      all_goals go_simp
      all_goals go_wp2
      all_goals go_roundw
      case rel => exact ⟨k + 1, n' + 1, by omega, by go_num, by omega, by omega, ha.1, Chg.trans (S := fun g => W.heap.size ≤ g) HC.out.drew ha.2 (by rintro g hg (h | h) <;> (show W.heap.size ≤ g; omega))⟩
      case measure => simp [intOf]; omega
    · have HL := Lib.hid hl
      clear hl
      have hd : ((xs.length : Int) == (m : Int)) = true := by have := HL.out; rw [this]; simp
      go_wp2_with (go_at_call 15; refine (clen L R xs n _ (HCW.out wr HC)).mono ?_; rintro e w2 ⟨rfl, rfl⟩)
      go_ret
      exact ⟨rfl, HC.out.mono (fun g hg h => by have : W.heap.size ≤ g := h; omega)⟩
end Go.Proofs.Ythhhphmjohekgaa
