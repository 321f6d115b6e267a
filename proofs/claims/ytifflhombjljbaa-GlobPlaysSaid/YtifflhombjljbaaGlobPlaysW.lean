/- The walk of the law GlobPlays. -/
import Derived.Test.YtifflhombjljbaaGlobM
namespace Go.Proofs.Ytifflhombjljbaa
open Go.ChangeShapes Go.WideShapes Go.ChangeAt Go.RowKit Go.Deep
set_option linter.unusedVariables false

abbrev ShAct : Sh := .st (.cons (.int .i64) (.cons (.int .i64) (.cons (.int .i64) (.cons (.sl (.int .i64)) .nil))))
/-- A row of ints that came in. -/
theorem Rd.of_lies {w : World} {cs : List Value} {d : List Int} (h : Lies w (.sl (.int .i64)) cs (show (Sh.sl (.int .i64)).Den from d)) : ∃ A c, cs = [.slice A d.length c] ∧ d.length ≤ c ∧ c ≤ maxLen ∧ Rd w 1 A d.length (ints d) ∧ (0 < d.length → ∀ g, blk A = some g → g < w.heap.size) := by
  obtain ⟨A, c, rfl, h1, h2, h3⟩ := h
  refine ⟨A, c, rfl, h1, h2, ⟨by simp, fun hn => ?_⟩, fun hn g hg => ?_⟩
  · obtain ⟨b, o, rfl, hb, hi⟩ := h3 hn
    refine ⟨b, o, rfl, hb, fun j u hu => ?_⟩
    have hj : j < d.length := by have := (List.getElem?_eq_some_iff.1 hu).1; simpa using this
    obtain ⟨cs', g1, g2, g3, _⟩ := hi j (show Int from d[j]) (List.getElem?_eq_getElem hj)
    have := g2 0 _ (by rw [g3]; rfl)
    rw [ints_get _ _ hj] at hu
    cases hu
    simpa [Sh.size] using this
  · obtain ⟨b, o, rfl, hb, _⟩ := h3 hn
    simp at hg; omega
structure Acts (w : World) (A : Option Addr) (n : Nat) (kd p q : Nat → Int) (As : Nat → Option Addr) (ml cs : Nat → Nat) (xs : Nat → List Int) : Prop where
  cells : 0 < n → ∃ b o, A = some ⟨b, o, none⟩ ∧ b < w.heap.size ∧ ∀ i, i < n → w.cell? ⟨b, o + i * 4, none⟩ = some (.int .i64 (kd i)) ∧ w.cell? ⟨b, o + i * 4 + 1, none⟩ = some (.int .i64 (p i)) ∧ w.cell? ⟨b, o + i * 4 + 2, none⟩ = some (.int .i64 (q i)) ∧ w.cell? ⟨b, o + i * 4 + 3, none⟩ = some (.slice (As i) (ml i) (cs i))
  row : ∀ i, i < n → Rd w 1 (As i) (ml i) (ints (xs i)) ∧ (0 < ml i → ∀ g, blk (As i) = some g → g < w.heap.size) ∧ p i ≤ 9223372036854775807 ∧ q i ≤ 9223372036854775807
theorem open_acts {w : World} {cs0 : List Value} {d0 : (Sh.sl ShAct).Den} (h : Lies w (.sl ShAct) cs0 d0) : ∃ A n c kd p q As ml cs xs, Sh.val (.sl ShAct) cs0 = .slice A n c ∧ n ≤ maxLen ∧ Acts w A n kd p q As ml cs xs := by
  obtain ⟨A, c, rfl, h1, h2, h3⟩ := h
  obtain ⟨n, hn⟩ : ∃ n, n = @List.length ShAct.Den d0 := ⟨_, rfl⟩
  rw [← hn] at h1 h3 ⊢
  have key : ∀ i, ∃ (t : Int × Int × Int × Option Addr × Nat × Nat × List Int), i < n → (∀ b o, A = some ⟨b, o, none⟩ → w.cell? ⟨b, o + i * 4, none⟩ = some (.int .i64 t.1) ∧ w.cell? ⟨b, o + i * 4 + 1, none⟩ = some (.int .i64 t.2.1) ∧ w.cell? ⟨b, o + i * 4 + 2, none⟩ = some (.int .i64 t.2.2.1) ∧ w.cell? ⟨b, o + i * 4 + 3, none⟩ = some (.slice t.2.2.2.1 t.2.2.2.2.1 t.2.2.2.2.2.1)) ∧
      Rd w 1 t.2.2.2.1 t.2.2.2.2.1 (ints t.2.2.2.2.2.2) ∧ (0 < t.2.2.2.2.1 → ∀ g, blk t.2.2.2.1 = some g → g < w.heap.size) ∧ t.2.1 ≤ 9223372036854775807 ∧ t.2.2.1 ≤ 9223372036854775807 := by
    intro i
    by_cases hi : i < n
    · obtain ⟨b, o, rfl, hb, hel⟩ := h3 (by omega)
      obtain ⟨e, he⟩ : ∃ e : ShAct.Den, (show List ShAct.Den from d0)[i]? = some e := ⟨_, List.getElem?_eq_getElem (by rw [← hn]; exact hi)⟩
      obtain ⟨cs', g1, g2, g3⟩ := hel i e he
      obtain ⟨z1, z2, z3, z4, zu⟩ := e
      obtain ⟨c1, r1, rfl, _, ⟨rfl, _⟩, c2, r2, rfl, _, ⟨rfl, w2⟩, c3, r3, rfl, _, ⟨rfl, w3⟩, c4, r4, rfl, _, hsl, hnil⟩ := g3
      obtain ⟨A', c', rfl, e1, e2, e3, e4⟩ := Rd.of_lies (d := z4) hsl
      refine ⟨(z1, z2, z3, A', List.length z4, c', z4), fun _ => ⟨fun b' o' he => ?_, e3, e4, i64_le w2, i64_le w3⟩⟩
      cases he
      exact ⟨g2 0 _ rfl, g2 1 _ rfl, g2 2 _ rfl, g2 3 _ rfl⟩
    · exact ⟨(0, 0, 0, none, 0, 0, []), fun h => absurd h hi⟩
  refine ⟨A, n, c, fun i => (key i).choose.1, fun i => (key i).choose.2.1, fun i => (key i).choose.2.2.1, fun i => (key i).choose.2.2.2.1, fun i => (key i).choose.2.2.2.2.1, fun i => (key i).choose.2.2.2.2.2.1, fun i => (key i).choose.2.2.2.2.2.2, rfl, Nat.le_trans h1 h2, ⟨fun h0 => ?_, fun i hi => ((key i).choose_spec hi).2⟩⟩
  obtain ⟨b, o, rfl, hb, _⟩ := h3 h0
  exact ⟨b, o, rfl, hb, fun i hi => ((key i).choose_spec hi).1 b o rfl⟩
section
variable {w w' : World} {A : Option Addr} {n : Nat} {kd p q : Nat → Int} {As : Nat → Option Addr} {ml cs : Nat → Nat} {xs : Nat → List Int}
theorem Acts.below (h : Acts w A n kd p q As ml cs xs) (hb : Below w.heap.size w w') : Acts w' A n kd p q As ml cs xs := by
  refine ⟨fun h0 => ?_, fun i hi => ?_⟩
  · obtain ⟨b, o, e, hlt, hc⟩ := h.cells h0
    exact ⟨b, o, e, Nat.lt_of_lt_of_le hlt hb.size, fun i hi => ⟨(hb.cell (p := ⟨b, _, none⟩) hlt).trans (hc i hi).1, (hb.cell (p := ⟨b, _, none⟩) hlt).trans (hc i hi).2.1, (hb.cell (p := ⟨b, _, none⟩) hlt).trans (hc i hi).2.2.1, (hb.cell (p := ⟨b, _, none⟩) hlt).trans (hc i hi).2.2.2⟩⟩
  · obtain ⟨h1, h2, h3⟩ := h.row i hi
    exact ⟨h1.below hb (Nat.le_refl _), fun h0 g hg => Nat.lt_of_lt_of_le (h2 h0 g hg) hb.size, h3⟩
set_option maxHeartbeats 2000000 in
theorem light_yes (c : Nat) (h : Acts w A n kd p q As ml cs xs) (h60 : n ≤ 60) (h30 : ∀ i, i < n → ml i ≤ 30) : Calls Try.prog 7 #[.slice A n c] w fun e W' => e = .returned (.bool true) ∧ w = W' := by
  have h1 : ¬ (60 : Int) < n := by omega
  go_enter Try.func7, Try.ntmps7
  go_wp2
  go_loop [3] (fun i => ∃ k : Nat, k ≤ n ∧ i = .int .i64 k) (fun i => n - (intOf i).toNat)
  case atStart => exact ⟨0, Nat.zero_le _, rfl⟩
  case round =>
    obtain ⟨k, hk, rfl⟩ := hrel
    have k0 : (0 : Int) ≤ k := by omega
    by_cases hlt : k < n
    · have k1 : (k : Int) < n := by omega
      obtain ⟨b, o, rfl, hb, hc⟩ := h.cells (by omega)
      have e3 := (hc k hlt).2.2.2
      have h2 : ¬ (30 : Int) < (ml k : Int) := by have := h30 k hlt; omega
      generalize ml k = mk at *
      clear hc h h30
      go_wp2
      go_round
      case rel => exact ⟨k + 1, by omega, by go_num⟩
      case measure => simp [intOf]; omega
    · clear h h30
      go_wp2
      go_ret
      exact ⟨rfl, rfl⟩
set_option maxHeartbeats 2000000 in
theorem light_no (c : Nat) (h : Acts w A n kd p q As ml cs xs) (hm : n ≤ maxLen) (hno : ¬ (n ≤ 60 ∧ ∀ i, i < n → ml i ≤ 30)) : Calls Try.prog 7 #[.slice A n c] w fun e W' => e = .returned (.bool false) ∧ w = W' := by
  unfold maxLen at hm
  by_cases h60 : n ≤ 60
  · have h1 : ¬ (60 : Int) < n := by omega
    go_enter Try.func7, Try.ntmps7
    go_wp2
    go_loop [3] (fun i => ∃ k : Nat, k ≤ n ∧ i = .int .i64 k ∧ Hid (∀ j, j < k → ml j ≤ 30)) (fun i => n - (intOf i).toNat)
    case atStart => exact ⟨0, Nat.zero_le _, rfl, Lib.hid (fun j hj => absurd hj (by omega))⟩
    case round =>
      obtain ⟨k, hk, rfl, hall⟩ := hrel
      have k0 : (0 : Int) ≤ k := by omega
      by_cases hlt : k < n
      · have k1 : (k : Int) < n := by omega
        obtain ⟨b, o, rfl, hb, hc⟩ := h.cells (by omega)
        have e3 := (hc k hlt).2.2.2
        have HN := Lib.hid (fun (hk : ml k ≤ 30) j (hj : j < k + 1) => show ml j ≤ 30 from by
          rcases Nat.lt_or_ge j k with h1 | h1
          · exact hall.out j h1
          · obtain rfl : j = k := by omega
            exact hk)
        by_cases h2 : ml k ≤ 30
        · have h3 : ¬ (30 : Int) < (ml k : Int) := by omega
          clear hc h hno
          go_wp2
          go_round
          case rel => exact ⟨k + 1, by omega, by go_num, Lib.hid (HN.out h2)⟩
          case measure => simp [intOf]; omega
        · have h3 : (30 : Int) < (ml k : Int) := by omega
          clear hc h hno
          go_wp2
          go_ret
          exact ⟨rfl, rfl⟩
      · exact absurd ⟨h60, fun i hi => hall.out i (by omega)⟩ hno
  · have h1 : (60 : Int) < n := by omega
    clear h hno
    go_enter Try.func7, Try.ntmps7
    go_wp2
    go_ret
    exact ⟨rfl, rfl⟩
end
def RoundGP (w : World) (n : Nat) (lv i : Value) (wr : World) : Prop :=
  ∃ (k c : Nat) (E1 E2 Al : Option Addr) (L : List Int), k ≤ n ∧ i = .int .i64 k ∧ lv = .slice Al L.length c ∧ GQ wr w.heap.size w.heap.size E1 E2 L ∧ Ls wr Al c L ∧ Pos L ∧ L.length ≤ k * 30 ∧ (∀ g, blk Al = some g → ¬ Fp w.heap.size E1 E2 g) ∧ Below w.heap.size w wr
theorem RoundGP.step {w wr w1 w3 : World} {n k c c2 m : Nat} {E1 E2 D1 D2 Al Al2 : Option Addr} {L L2 : List Int} (hk : k < n) (hq0 : GQ wr w.heap.size w.heap.size E1 E2 L) (hb : Below w.heap.size w wr) (hL : L.length ≤ k * 30) (hm : m ≤ 30)
    (hls : Ls w1 Al2 c2 L2) (hp : Pos L2) (hlen : L2.length ≤ L.length + m) (hq : GQ w1 w.heap.size w.heap.size D1 D2 L2) (hc : Chg (Fp w.heap.size E1 E2) wr w1) (hd : ∀ g, blk Al2 = some g → ¬ Fp w.heap.size D1 D2 g) (hc3 : Chg (fun _ => False) w1 w3) :
    RoundGP w n (.slice Al2 L2.length c2) (.int .i64 ((k : Int) + 1)) w3 :=
  ⟨k + 1, c2, D1, D2, Al2, L2, by omega, by go_num, rfl, hq.same hc3, hls.same hc3, hp, by omega, hd, (hb.trans (hc.below hb.size (fun g _ hg => (hq0.fp_lt g hg).1))).trans (hc3.below (by have := hb.size; have := hc.size; omega) (fun _ _ h => h.elim))⟩
set_option maxRecDepth 100000 in
set_option maxHeartbeats 8000000 in
theorem walk_globPlays' (A : Option Addr) (n c : Nat) (kd p q : Nat → Int) (As : Nat → Option Addr) (ml cs : Nat → Nat) (xs : Nat → List Int) (w : World) (hA : Acts w A n kd p q As ml cs xs) (hmx : n ≤ maxLen) :
    Calls Try.prog 3 #[.slice A n c] w fun e w' => e = .returned (.bool true) ∧ Below w.heap.size w w' := by
  by_cases hlight : n ≤ 60 ∧ ∀ i, i < n → ml i ≤ 30
  · obtain ⟨h60, h30⟩ := hlight
    have HLI := Lib.hid (light_yes c hA h60 h30)
    have HA := Lib.hid hA
    have H30 := Lib.hid h30
    clear hA h30
    unfold maxLen at hmx
    go_enter Try.func3, Try.ntmps3
    go_wp2_with (first
      | (go_at_call 7; refine HLI.out.mono ?_; rintro e u1 ⟨rfl, rfl⟩)
      | (go_at_call 9; refine (new_any _).mono ?_; rintro e u1 ⟨rfl, rfl⟩))
    go_loopw [4, 5] (fun lv i wr => RoundGP w n lv i wr) (fun _ i _ => n - (intOf i).toNat)
    case atStart => exact ⟨0, 0, none, none, none, [], Nat.zero_le _, rfl, rfl, gq_new w w.heap.size (Nat.le_refl _), ⟨Nat.le_refl _, Rd.nil _ _ _, .inl ⟨rfl, rfl, rfl⟩⟩, (fun _ h => by cases h), by simp, (fun g hg => by cases hg), (Below.refl _ _).alloc (Nat.le_refl _) _⟩
    case round =>
      obtain ⟨k, c0, E1, E2, Al, L, hk, rfl, rfl, hq, hls, hp, hlen, hd, hb⟩ := hrel
      have hsz := hb.size
      have k0 : (0 : Int) ≤ k := by omega
      by_cases hlt : k < n
      · have k1 : (k : Int) < n := by omega
        obtain ⟨b, o, rfl, hbl, hcc⟩ := (HA.out.below hb).cells (by omega)
        obtain ⟨e0, e1, e2, e3⟩ := hcc k hlt
        obtain ⟨r1, r2, r3, r4⟩ := (HA.out.below hb).row k hlt
        have r2w := (HA.out.row k hlt).2.1
        have hmk := H30.out k hlt
        have hact : Calls Try.prog 10 #[.pointer (some ⟨w.heap.size, 0, none⟩), .slice Al L.length c0, .agg #[.int .i64 (kd k), .int .i64 (p k), .int .i64 (q k), .slice (As k) (ml k) (cs k)]] wr (ActP wr w.heap.size w.heap.size E1 E2 Al (L.length + ml k)) :=
          act_any w.heap.size w.heap.size E1 E2 Al (As k) c0 (ml k) (cs k) L (xs k) (kd k) (p k) (q k) wr hq hls hp hd r1 r2 (fun h0 g hg h => by have h1 := r2w h0 g hg; have h2 := (hq.fp_lt g h).1; omega) hsz (by omega) hmk r3 r4
        have HACT := Lib.hid hact
        have HST := Lib.hid (fun w1 w3 c2 D1 D2 Al2 L2 h1 h2 h3 h4 h5 h6 h7 => RoundGP.step (w1 := w1) (w3 := w3) (c2 := c2) (D1 := D1) (D2 := D2) (Al2 := Al2) (L2 := L2) (c := c0) (Al := Al) hlt hq hb hlen hmk h1 h2 h3 h4 h5 h6 h7)
        have hlen1 : L.length ≤ 1800 := by omega
        generalize kd k = kd at *
        generalize p k = p at *
        generalize q k = q at *
        generalize As k = As at *
        generalize ml k = ml at *
        generalize cs k = cs at *
        clear hcc hact hq hls hp hlen hd hb r1 r2 r2w r3 r4
        go_wp2_with (first
          | (go_at_call 10; refine HACT.out.mono ?_; rintro e w1 ⟨Al2, D1, D2, c2, L2, rfl, hls, hpos, hlen, hq, hc, hf, hd⟩; have H1 := Lib.hid (fun w3 => HST.out w1 w3 c2 D1 D2 Al2 L2 hls hpos hlen hq hc hd); have HQ := Lib.hid hq; have HLS := Lib.hid hls; clear hls hpos hq hc hf hd)
          | (go_at_call 11; refine (len_any w.heap.size w.heap.size D1 D2 L2 _ HQ.out).mono ?_; rintro e w2 ⟨rfl, qq, rfl⟩)
          | (go_at_call 13; refine (list_any w.heap.size w.heap.size D1 D2 L2 _ (HQ.out.same ((Chg.refl _ _).drewN qq))).mono ?_; rintro e w3 ⟨Ab, cb, rfl, hrow, hc3⟩; have HROW := Lib.hid hrow; have HC3 := Lib.hid (Chg.undrewN hc3); clear hrow hc3)
          | (go_at_call 12; refine (same_yes Ab Al2 _ _ cb c2 L2 _ HROW.out.rd ((HLS.out.same HC3.out).2.1) (by omega)).mono ?_; rintro e w4 ⟨rfl, q4, rfl⟩))
        go_roundw
        case rel => exact H1.out _ (HC3.out.drewN q4)
        case measure => simp [intOf]; omega
      · have HB := Lib.hid hb
        clear hq hls hp hlen hd hb HLI
        go_wp2_with (go_at_call 8; refine (alive_any _).mono ?_; rintro e w' ⟨rfl, hb2⟩)
        go_ret
        exact ⟨rfl, HB.out.trans (hb2.mono HB.out.size)⟩
  · have HLI := Lib.hid (light_no c hA hmx hlight)
    clear hA hlight hmx
    go_enter Try.func3, Try.ntmps3
    go_wp2_with (first
      | (go_at_call 7; refine HLI.out.mono ?_; rintro e u1 ⟨rfl, rfl⟩)
      | (go_at_call 8; refine (alive_any _).mono ?_; rintro e w' ⟨rfl, hb⟩))
    go_ret
    exact ⟨rfl, hb⟩
theorem walk_globPlays (cs0 : List Value) (d0 : (Sh.sl ShAct).Den) (w : World) (hL0 : Lies w (.sl ShAct) cs0 d0) :
    Calls Try.prog 3 #[Sh.val (.sl ShAct) cs0] w fun e w' => e = .returned (.bool true) ∧ Below w.heap.size w w' := by
  obtain ⟨A, n, c, kd, p, q, As, ml, cs, xs, h1, h2, h3⟩ := open_acts hL0
  rw [h1]
  exact walk_globPlays' A n c kd p q As ml cs xs w h3 h2
end Go.Proofs.Ytifflhombjljbaa
