/- A program that came in; whether it is light. -/
import Derived.Test.YthdkbofnplnidaaDoorVaK
import Derived.Test.YthdkbofnplnidaaDoorShape
namespace Go.Proofs.YthdkbofnplnidaaDoor
open Go.ChangeShapes Go.WideShapes Go.ChangeAt Go.RowKit Go.Deep
set_option linter.unusedVariables false
set_option linter.unusedSimpArgs false

abbrev ShInstr : Sh := .st (.cons (.int .i64) (.cons (.int .i64) (.cons (.int .i64) (.cons (.int .i64) (.cons (.int .i64) .nil)))))
abbrev ShFunc : Sh := .st (.cons (.sl ShInstr) (.cons (.sl .bool) .nil))
abbrev ShProg : Sh := .st (.cons (.sl ShFunc) .nil)
def il (d : ShInstr.Den) : List Int := match (show Int × Int × Int × Int × Int × Unit from d) with
  | (a, b, c, e, f, _) => [a, b, c, e, f]
theorem il_len (d : ShInstr.Den) : (il d).length = 5 := rfl
theorem code_of_lies {w : World} {cs : List Value} {d : List ShInstr.Den} (h : Lies w (.sl ShInstr) cs (show (Sh.sl ShInstr).Den from d)) : ∃ A c, cs = [.slice A d.length c] ∧ d.length ≤ c ∧ c ≤ maxLen ∧ Rd w 5 A d.length (kv (d.map il)) ∧ Uni 5 (d.map il) := by
  obtain ⟨A, c, rfl, h1, h2, h3⟩ := h
  have hu : Uni 5 (d.map il) := fun e he => by obtain ⟨x, _, rfl⟩ := List.mem_map.1 he; exact il_len x
  refine ⟨A, c, rfl, h1, h2, ⟨by rw [kv_length hu]; simp, fun hn => ?_⟩, hu⟩
  obtain ⟨b, o, rfl, hb, hi⟩ := h3 hn
  refine ⟨b, o, rfl, hb, fun j u hj => ?_⟩
  have hjl : j < (kv (d.map il)).length := (List.getElem?_eq_some_iff.1 hj).1
  rw [kv_length hu, List.length_map] at hjl
  have hq : j / 5 < d.length := (Nat.div_lt_iff_lt_mul (by decide)).2 hjl
  have hr : j % 5 < 5 := Nat.mod_lt _ (by decide)
  have hje : j / 5 * 5 + j % 5 = j := by have := Nat.div_add_mod j 5; omega
  obtain ⟨cs', g1, g2, g3⟩ := hi (j / 5) d[j / 5] (List.getElem?_eq_getElem hq)
  have hk := kv_get hu (j / 5) (j % 5) (by simpa using hq) hr
  rw [hje, hj] at hk
  have hk' := Option.some.inj hk
  rw [hk']
  clear hk hk'
  have hcell : ∀ r u, cs'[r]? = some u → w.cell? ⟨b, o + (j / 5 * 5 + r), none⟩ = some u := fun r u hu => by
    have := g2 r u hu
    simpa [Sh.size, Nat.add_assoc] using this
  have hrow : cs'[j % 5]? = some (.int .i64 ((il d[j / 5]).getD (j % 5) 0)) := by
    generalize d[j / 5] = x at g3
    obtain ⟨z1, z2, z3, z4, z5, zu⟩ := x
    obtain ⟨c1, r1, rfl, _, ⟨rfl, _⟩, c2, r2, rfl, _, ⟨rfl, _⟩, c3, r3, rfl, _, ⟨rfl, _⟩, c4, r4, rfl, _, ⟨rfl, _⟩, c5, r5, rfl, _, ⟨rfl, _⟩, hnil⟩ := g3
    have hn : r5 = [] := hnil
    subst hn
    have : ∀ r, r < 5 → ([Value.int .i64 z1] ++ ([Value.int .i64 z2] ++ ([Value.int .i64 z3] ++ ([Value.int .i64 z4] ++ ([Value.int .i64 z5] ++ [])))))[r]? = some (.int .i64 ((il (z1, z2, z3, z4, z5, zu)).getD r 0)) := fun r hr => by
      match r, hr with
      | 0, _ => rfl
      | 1, _ => rfl
      | 2, _ => rfl
      | 3, _ => rfl
      | 4, _ => rfl
    exact this _ hr
  have := hcell _ _ hrow
  rw [hje] at this
  simpa using this
theorem bools_of_lies {w : World} {cs : List Value} {d : List Bool} (h : Lies w (.sl .bool) cs (show (Sh.sl .bool).Den from d)) : ∃ A c, cs = [.slice A d.length c] ∧ d.length ≤ c ∧ c ≤ maxLen ∧ Rd w 1 A d.length (bls d) := by
  obtain ⟨A, c, rfl, h1, h2, h3⟩ := h
  refine ⟨A, c, rfl, h1, h2, ⟨by simp, fun hn => ?_⟩⟩
  obtain ⟨b, o, rfl, hb, hi⟩ := h3 hn
  refine ⟨b, o, rfl, hb, fun j u hu => ?_⟩
  have hj : j < d.length := by have := (List.getElem?_eq_some_iff.1 hu).1; simpa using this
  obtain ⟨cs', g1, g2, g3⟩ := hi j (show Bool from d[j]) (List.getElem?_eq_getElem hj)
  have := g2 0 _ (by rw [g3]; rfl)
  rw [bls_get _ _ hj] at hu
  cases hu
  simpa [Sh.size] using this
/-- A program in memory. -/
structure PM (w : World) (A : Option Addr) (m : Nat) (Ac : Nat → Option Addr) (nc cc : Nat → Nat) (As : Nat → Option Addr) (ns cs : Nat → Nat) (code : Nat → List (List Int)) (safe : Nat → List Bool) : Prop where
  cells : 0 < m → ∃ b o, A = some ⟨b, o, none⟩ ∧ b < w.heap.size ∧ ∀ i, i < m → w.cell? ⟨b, o + i * 2, none⟩ = some (.slice (Ac i) (nc i) (cc i)) ∧ w.cell? ⟨b, o + i * 2 + 1, none⟩ = some (.slice (As i) (ns i) (cs i))
  fn : ∀ i, i < m → FM w (Ac i) (nc i) (As i) (ns i) (code i) (safe i)
  sz : ∀ i, i < m → nc i ≤ maxLen ∧ ns i ≤ maxLen ∧ nc i ≤ cc i ∧ ns i ≤ cs i
theorem open_funcs {w : World} {cs0 : List Value} {d0 : (Sh.sl ShFunc).Den} (h : Lies w (.sl ShFunc) cs0 d0) : ∃ A m c Ac nc cc As ns cs code safe, cs0 = [.slice A m c] ∧ m ≤ maxLen ∧ PM w A m Ac nc cc As ns cs code safe := by
  obtain ⟨A, c, rfl, h1, h2, h3⟩ := h
  obtain ⟨n, hn⟩ : ∃ n, n = @List.length ShFunc.Den d0 := ⟨_, rfl⟩
  rw [← hn] at h1 h3 ⊢
  have key : ∀ i, ∃ (t : (Option Addr × Nat × Nat) × (Option Addr × Nat × Nat) × List (List Int) × List Bool), i < n → (∀ b o, A = some ⟨b, o, none⟩ → w.cell? ⟨b, o + i * 2, none⟩ = some (.slice t.1.1 t.1.2.1 t.1.2.2) ∧ w.cell? ⟨b, o + i * 2 + 1, none⟩ = some (.slice t.2.1.1 t.2.1.2.1 t.2.1.2.2)) ∧
      FM w t.1.1 t.1.2.1 t.2.1.1 t.2.1.2.1 t.2.2.1 t.2.2.2 ∧ (t.1.2.1 ≤ maxLen ∧ t.2.1.2.1 ≤ maxLen ∧ t.1.2.1 ≤ t.1.2.2 ∧ t.2.1.2.1 ≤ t.2.1.2.2) := by
    intro i
    by_cases hi : i < n
    · obtain ⟨b, o, rfl, hb, hel⟩ := h3 (by omega)
      obtain ⟨e, he⟩ : ∃ e : ShFunc.Den, (show List ShFunc.Den from d0)[i]? = some e := ⟨_, List.getElem?_eq_getElem (by rw [← hn]; exact hi)⟩
      obtain ⟨cs', g1, g2, g3⟩ := hel i e he
      obtain ⟨z1, z2, zu⟩ := e
      obtain ⟨c1, r1, rfl, _, hc, c2, r2, rfl, _, hs, hnil⟩ := g3
      obtain ⟨A1, k1, rfl, e1, e2, e3, e4⟩ := code_of_lies (d := z1) hc
      obtain ⟨A2, k2, rfl, f1, f2, f3⟩ := bools_of_lies (d := z2) hs
      refine ⟨((A1, List.length z1, k1), (A2, List.length z2, k2), (List.map il z1, z2)), fun _ => ⟨fun b' o' he => ?_, ⟨e3, e4, f3⟩, Nat.le_trans e1 e2, Nat.le_trans f1 f2, e1, f1⟩⟩
      cases he
      exact ⟨g2 0 _ rfl, g2 1 _ rfl⟩
    · exact ⟨((none, 0, 0), (none, 0, 0), ([], [])), fun h => absurd h hi⟩
  refine ⟨A, n, c, fun i => (key i).choose.1.1, fun i => (key i).choose.1.2.1, fun i => (key i).choose.1.2.2, fun i => (key i).choose.2.1.1, fun i => (key i).choose.2.1.2.1, fun i => (key i).choose.2.1.2.2, fun i => (key i).choose.2.2.1, fun i => (key i).choose.2.2.2, rfl, Nat.le_trans h1 h2, ⟨fun h0 => ?_, fun i hi => ((key i).choose_spec hi).2.1, fun i hi => ((key i).choose_spec hi).2.2⟩⟩
  obtain ⟨b, o, rfl, hb, _⟩ := h3 h0
  exact ⟨b, o, rfl, hb, fun i hi => ((key i).choose_spec hi).1 b o rfl⟩
theorem open_prog {w : World} {cs0 : List Value} {d0 : ShProg.Den} (h : Lies w ShProg cs0 d0) : ∃ A m c Ac nc cc As ns cs code safe, Sh.val ShProg cs0 = .agg #[.slice A m c] ∧ m ≤ maxLen ∧ PM w A m Ac nc cc As ns cs code safe := by
  obtain ⟨c1, r1, rfl, _, h1, hnil⟩ := h
  have hn : r1 = [] := hnil
  subst hn
  obtain ⟨A, m, c, Ac, nc, cc, As, ns, cs, code, safe, rfl, h2, h3⟩ := open_funcs h1
  exact ⟨A, m, c, Ac, nc, cc, As, ns, cs, code, safe, rfl, h2, h3⟩
section
variable {w w' : World} {A : Option Addr} {m : Nat} {Ac : Nat → Option Addr} {nc cc : Nat → Nat} {As : Nat → Option Addr} {ns cs : Nat → Nat} {code : Nat → List (List Int)} {safe : Nat → List Bool}
theorem PM.chg (h : PM w A m Ac nc cc As ns cs code safe) (hc : Chg (fun _ => False) w w') : PM w' A m Ac nc cc As ns cs code safe := by
  refine ⟨fun h0 => ?_, fun i hi => (h.fn i hi).chg hc, h.sz⟩
  obtain ⟨b, o, e, hb, hcc⟩ := h.cells h0
  exact ⟨b, o, e, Nat.lt_of_lt_of_le hb hc.size, fun i hi => ⟨(hc.cell (p := ⟨b, _, none⟩) hb (fun h => h)).trans (hcc i hi).1, (hc.cell (p := ⟨b, _, none⟩) hb (fun h => h)).trans (hcc i hi).2⟩⟩
/-- Is it light? -/
def LightP (m : Nat) (nc ns : Nat → Nat) : Prop := m ≤ 20 ∧ ∀ i, i < m → nc i ≤ 70 ∧ ns i ≤ 70
set_option maxHeartbeats 4000000 in
theorem plight_yes (c : Nat) (h : PM w A m Ac nc cc As ns cs code safe) (hl : LightP m nc ns) : Calls Tryd.prog 19 #[.agg #[.slice A m c]] w fun e w' => e = .returned (.bool true) ∧ Chg (fun _ => False) w w' := by
  obtain ⟨h20, h70⟩ := hl
  have h1 : ¬ (20 : Int) < m := by omega
  have HB := Lib.hid (Blk.new w 24 #[.slice A m c])
  have HP := Lib.hid (h.chg ((Chg.refl _ w).alloc (.cells #[.slice A m c] 24)))
  have H70 := Lib.hid h70
  clear h h70
  go_enter Tryd.func19, Tryd.ntmps19
  go_wp2
  go_loop [3] (fun i => ∃ k : Nat, k ≤ m ∧ i = .int .i64 k) (fun i => m - (intOf i).toNat)
  case atStart => exact ⟨0, Nat.zero_le _, rfl⟩
  case round =>
    obtain ⟨k, hk, rfl⟩ := hrel
    have k0 : (0 : Int) ≤ k := by omega
    have b0 := HB.out.cell 0
    simp at b0
    by_cases hlt : k < m
    · have k1 : (k : Int) < m := by omega
      obtain ⟨b, o, rfl, hb, hc⟩ := HP.out.cells (by omega)
      obtain ⟨e0, e1⟩ := hc k hlt
      obtain ⟨i0, i1⟩ := H70.out k hlt
      have h2 : ¬ (70 : Int) < (nc k : Int) := by omega
      have h3 : ¬ (70 : Int) < (ns k : Int) := by omega
      have h4 : decide ((70 : Int) < (nc k : Int)) = false := decide_eq_false h2
      have h5 : decide ((70 : Int) < (ns k : Int)) = false := decide_eq_false h3
      generalize nc k = u1 at *
      generalize ns k = u2 at *
      clear hc
      go_wp2
      go_round
      case rel => exact ⟨k + 1, by omega, by go_num⟩
      case measure => simp [intOf]; omega
    · go_wp2
      go_ret
      exact ⟨rfl, (Chg.refl _ _).alloc _⟩
set_option maxHeartbeats 4000000 in
theorem plight_no (c : Nat) (h : PM w A m Ac nc cc As ns cs code safe) (hm : m ≤ maxLen) (hl : ¬ LightP m nc ns) : Calls Tryd.prog 19 #[.agg #[.slice A m c]] w fun e w' => e = .returned (.bool false) ∧ Chg (fun _ => False) w w' := by
  unfold maxLen at hm
  have HB := Lib.hid (Blk.new w 24 #[.slice A m c])
  have HP := Lib.hid (h.chg ((Chg.refl _ w).alloc (.cells #[.slice A m c] 24)))
  have HSZ := Lib.hid (fun i hi => (show nc i ≤ 9223372036854775807 ∧ ns i ≤ 9223372036854775807 from by obtain ⟨x1, x2, _⟩ := h.sz i hi; unfold maxLen at x1 x2; omega))
  have HNO := Lib.hid hl
  clear h hl
  by_cases h20 : m ≤ 20
  · have h1 : ¬ (20 : Int) < m := by omega
    go_enter Tryd.func19, Tryd.ntmps19
    go_wp2
    go_loop [3] (fun i => ∃ k : Nat, k ≤ m ∧ i = .int .i64 k ∧ Hid (∀ j, j < k → nc j ≤ 70 ∧ ns j ≤ 70)) (fun i => m - (intOf i).toNat)
    case atStart => exact ⟨0, Nat.zero_le _, rfl, Lib.hid (fun j hj => absurd hj (by omega))⟩
    case round =>
      obtain ⟨k, hk, rfl, hall⟩ := hrel
      have k0 : (0 : Int) ≤ k := by omega
      have b0 := HB.out.cell 0
      simp at b0
      by_cases hlt : k < m
      · have k1 : (k : Int) < m := by omega
        obtain ⟨b, o, rfl, hb, hc⟩ := HP.out.cells (by omega)
        obtain ⟨e0, e1⟩ := hc k hlt
        obtain ⟨x1, x2⟩ := HSZ.out k hlt
        have HN := Lib.hid (fun (hz : nc k ≤ 70 ∧ ns k ≤ 70) j (hj : j < k + 1) => show nc j ≤ 70 ∧ ns j ≤ 70 from by
          rcases Nat.lt_or_ge j k with h1 | h1
          · exact hall.out j h1
          · obtain rfl : j = k := by omega
            exact hz)
        generalize nc k = u1 at *
        generalize ns k = u2 at *
        clear hc hall
        by_cases g1 : u1 ≤ 70
        · have h2 : ¬ (70 : Int) < (u1 : Int) := by omega
          have h4 : decide ((70 : Int) < (u1 : Int)) = false := decide_eq_false h2
          by_cases g2 : u2 ≤ 70
          · have h3 : ¬ (70 : Int) < (u2 : Int) := by omega
            have h5 : decide ((70 : Int) < (u2 : Int)) = false := decide_eq_false h3
            go_wp2
            go_round
            case rel => exact ⟨k + 1, by omega, by go_num, Lib.hid (HN.out ⟨g1, g2⟩)⟩
            case measure => simp [intOf]; omega
          · have h3 : (70 : Int) < (u2 : Int) := by omega
            have h5 : decide ((70 : Int) < (u2 : Int)) = true := decide_eq_true h3
            go_wp2
            go_ret
            exact ⟨rfl, (Chg.refl _ _).alloc _⟩
        · have h2 : (70 : Int) < (u1 : Int) := by omega
          have h4 : decide ((70 : Int) < (u1 : Int)) = true := decide_eq_true h2
          go_wp2
          go_ret
          exact ⟨rfl, (Chg.refl _ _).alloc _⟩
      · exact absurd ⟨h20, fun i hi => hall.out i (by omega)⟩ HNO.out
  · have h1 : (20 : Int) < m := by omega
    clear HNO
    go_enter Tryd.func19, Tryd.ntmps19
    go_wp2
    go_ret
    exact ⟨rfl, (Chg.refl _ _).alloc _⟩
end
end Go.Proofs.YthdkbofnplnidaaDoor
