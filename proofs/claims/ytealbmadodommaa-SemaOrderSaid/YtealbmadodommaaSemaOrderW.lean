/- The walk of the law SemaOrder. -/
import Derived.Test.YtealbmadodommaaSemE
import Derived.Deep.RegionHeld3
namespace Go.Proofs.Ytealbmadodommaa
open Go.ChangeShapes Go.WideShapes Go.ChangeAt Go.RowKit Go.Deep
set_option linter.unusedVariables false

/-- Who has come, in that order: the owner, and who waits. -/
def Came (ws : List Int) (o : Int) (xs : List Int) : Prop := (o = 0 ∧ xs = [] ∧ ws = []) ∨ (1 ≤ o ∧ ws = o :: xs ∧ ∀ x ∈ xs, 1 ≤ x)
theorem acqX_keep {o g : Int} {xs : List Int} (h : g < 1 ∨ o = 0 ∨ o = g ∨ g ∈ xs) : acqX o g xs = xs := if_pos h
theorem acqX_new {o g : Int} {xs : List Int} (h : ¬ (g < 1 ∨ o = 0 ∨ o = g ∨ g ∈ xs)) : acqX o g xs = xs ++ [g] := if_neg h
theorem Came.bad {ws xs : List Int} {o g : Int} (h : Came ws o xs) (hg : g < 1) : Came ws (acqO o g) (acqX o g xs) := by
  rw [acqO_bad hg, acqX_keep (.inl hg)]; exact h
theorem Came.acq {ws xs : List Int} {o g : Int} (h : Came ws o xs) (hg : 1 ≤ g) : Came (if g ∈ ws then ws else ws ++ [g]) (acqO o g) (acqX o g xs) ∧ ∃ hd t, (if g ∈ ws then ws else ws ++ [g]) = hd :: t ∧ acqB o g = decide (hd = g) := by
  have hg' : ¬ g < 1 := by omega
  rcases h with ⟨rfl, rfl, rfl⟩ | ⟨ho, rfl, hx⟩
  · refine ⟨.inr ?_, g, [], by simp, by simp [acqB, hg]⟩
    rw [acqO_free hg', acqX_keep (.inr (.inl rfl))]
    exact ⟨hg, by simp, by simp⟩
  · have h0 : ¬ o = 0 := by omega
    by_cases h3 : o = g
    · subst h3
      refine ⟨.inr ?_, o, xs, by simp, by simp [acqB, hg]⟩
      rw [acqO_held h0, acqX_keep (.inr (.inr (.inl rfl)))]
      exact ⟨ho, by simp, hx⟩
    · have h3' : ¬ g = o := fun e => h3 e.symm
      by_cases h4 : g ∈ xs
      · refine ⟨.inr ?_, o, xs, by simp [h4], by simp [acqB, h0, h3]⟩
        rw [acqO_held h0, acqX_keep (.inr (.inr (.inr h4)))]
        exact ⟨ho, by simp [h4], hx⟩
      · refine ⟨.inr ?_, o, xs ++ [g], by simp [h3', h4], by simp [acqB, h0, h3]⟩
        rw [acqO_held h0, acqX_new (by rintro (h | h | h | h); exact hg' h; exact h0 h; exact h3 h; exact h4 h)]
        refine ⟨ho, by simp [h3', h4], fun x hx' => ?_⟩
        rw [List.mem_append] at hx'
        rcases hx' with h | h
        · exact hx x h
        · simp at h; omega

def Ord (w wr : World) (A Aw : Option Addr) (cw : Nat) (o : Int) (xs ws : List Int) : Prop :=
  Sem wr w.heap.size w.heap.size A o xs ∧ Row wr w.heap.size 3 1 Aw ws.length cw (ints ws) ∧ (∀ g, blk A = some g → blk Aw ≠ some g) ∧ Below w.heap.size w wr
theorem Ord.acq {w wr w1 : World} {A Aw : Option Addr} {cw : Nat} {o o' : Int} {xs ys ws : List Int} (h : Ord w wr A Aw cw o xs ws) (ha : Aft wr w1 w.heap.size w.heap.size A o' ys) : ∃ A1, Ord w w1 A1 Aw cw o' ys ws := by
  obtain ⟨hS, hR, hne, hb⟩ := h
  obtain ⟨A1, hS1, hc, hg⟩ := id ha
  obtain ⟨_, c, hB, _⟩ := id hS
  refine ⟨A1, hS1, hR.kept hc ?_, fun g hg1 h2 => ?_, hb.trans (ha.below hS (Nat.le_refl _) hb.size)⟩
  · rintro g hg (h | h)
    · exact hR.blk_ne hB (by decide) (h ▸ hg)
    · exact hne g h hg
  · rcases hg g hg1 with h | h
    · exact hne g h h2
    · have := (hR.blk_lt g h2).2; omega
theorem Ord.app {w wr w2 : World} {A Aw Aw2 : Option Addr} {cw c2 : Nat} {o g : Int} {xs ws : List Int} {ob : Obj} (h : Ord w wr A Aw cw o xs ws) (hr : Row w2 w.heap.size 3 1 Aw2 (ws.length + 1) c2 (ints (ws ++ [g]))) (hgr : (wr.alloc ob).grownBy w2 (blk Aw))
    (h3 : blk Aw2 = blk Aw ∨ blk Aw2 = some (wr.alloc ob).heap.size) : Ord w w2 A Aw2 c2 o xs (ws ++ [g]) := by
  obtain ⟨hS, hR, hne, hb⟩ := h
  obtain ⟨_, c, hB, hRow, _⟩ := id hS
  have hc : Chg (fun k => blk Aw = some k) wr w2 := Chg.grown ((Chg.refl _ _).alloc ob) hgr (fun k hk => .inl hk)
  refine ⟨hS.kept hc (fun h => hR.blk_ne hB (by decide) h) (fun g hg h => hne g hg h), by simpa using hr, fun g hg h => ?_, hb.trans (hc.below hb.size (fun k _ hk => (hR.blk_lt k hk).1))⟩
  rcases h3 with h3 | h3
  · exact hne g hg (h3 ▸ h)
  · have := (hRow.blk_lt g hg).2
    rw [h3] at h
    simp at h
    omega

theorem Ord.dN {w wr : World} {A Aw : Option Addr} {cw : Nat} {o : Int} {xs ws : List Int} (h : Ord w wr A Aw cw o xs ws) (q : Nat) : Ord w (wr.drewN q) A Aw cw o xs ws :=
  ⟨h.1.kept ((Chg.refl (fun _ => False) _).drewN q) (fun h => h) (fun _ _ h => h), h.2.1, h.2.2.1, belowN h.2.2.2 q⟩
theorem Ord.cellb {w w1 w2 : World} {A Aw : Option Addr} {cw b i : Nat} {o : Int} {xs ws : List Int} {v : Value} (h : Ord w w2 A Aw cw o xs ws) (hb : b < w.heap.size) (hc : w1.cell? ⟨b, i, none⟩ = some v) (hb1 : Below w.heap.size w w1) : w2.cell? ⟨b, i, none⟩ = some v := by
  rw [h.2.2.2.cell (p := ⟨b, i, none⟩) hb, ← hb1.cell (p := ⟨b, i, none⟩) hb]; exact hc

def RoundO (w : World) (len : Nat) (wv i : Value) (wr : World) : Prop := ∃ (k : Nat) (A Aw : Option Addr) (cw : Nat) (o : Int) (xs ws : List Int), k ≤ len ∧ i = .int .i64 k ∧ wv = .slice Aw ws.length cw ∧ ws.length ≤ k ∧ Hid (Came ws o xs) ∧ Ord w wr A Aw cw o xs ws
theorem Came.len {ws xs : List Int} {o : Int} (h : Came ws o xs) : xs.length ≤ ws.length := by
  rcases h with ⟨_, rfl, rfl⟩ | ⟨_, rfl, _⟩ <;> simp
theorem RoundO.step {w wr : World} {len k cw : Nat} {A Aw : Option Addr} {o : Int} {xs ws : List Int} (hk : k < len) (hl : ws.length ≤ k + 1) (hc : Came ws o xs) (h : Ord w wr A Aw cw o xs ws) : RoundO w len (.slice Aw ws.length cw) (.int .i64 ((k : Int) + 1)) wr :=
  ⟨k + 1, A, Aw, cw, o, xs, ws, by omega, by go_num, rfl, hl, hc, h⟩

theorem RoundO.stepn {w wr : World} {len k cw n : Nat} {A Aw : Option Addr} {o : Int} {xs ws : List Int} (hk : k < len) (hl : n ≤ k + 1) (hn : ws.length = n) (hc : Came ws o xs) (h : Ord w wr A Aw cw o xs ws) : RoundO w len (.slice Aw n cw) (.int .i64 ((k : Int) + 1)) wr := by
  subst hn; exact RoundO.step hk hl hc h

theorem Came.rel {l xs : List Int} {o : Int} (h : Came l o xs) (ho : 1 ≤ o) : l = o :: xs ∧ Came xs (relO o o xs) (relX o o xs) := by
  rcases h with ⟨rfl, _⟩ | ⟨_, rfl, hx⟩
  · omega
  · refine ⟨rfl, ?_⟩
    have hr : relB o o = true := by simp [relB, ho]
    rw [relO, if_pos hr, relX, if_pos hr]
    cases xs with
    | nil => exact .inl ⟨rfl, rfl, rfl⟩
    | cons x t => exact .inr ⟨hx x (by simp), rfl, fun y hy => hx y (by simp [List.mem_of_mem_tail (l := x :: t) hy])⟩
theorem Came.end_ {l xs : List Int} {o : Int} (h : Came l o xs) (ho : ¬ 1 ≤ o) : o = 0 ∧ xs = [] ∧ l = [] := by
  rcases h with h | ⟨h, _⟩
  · exact h
  · exact absurd h ho
/-- What has gone beside. -/
def OG (w wr : World) (A Aw : Option Addr) (cw : Nat) (o : Int) (xs ws : List Int) (Ag : Option Addr) (n cg : Nat) (gs : List Int) : Prop :=
  Ord w wr A Aw cw o xs ws ∧ Row wr w.heap.size 3 1 Ag n cg (ints gs) ∧ (∀ g, blk Ag = some g → blk A ≠ some g ∧ blk Aw ≠ some g)
theorem OG.app {w wr w2 : World} {A Aw Ag Ag2 : Option Addr} {cw cg c2 n : Nat} {o v : Int} {xs ws gs : List Int} {ob : Obj} (h : OG w wr A Aw cw o xs ws Ag n cg gs) (hr : Row w2 w.heap.size 3 1 Ag2 (n + 1) c2 (ints (gs ++ [v]))) (hgr : (wr.alloc ob).grownBy w2 (blk Ag))
    (h3 : blk Ag2 = blk Ag ∨ blk Ag2 = some (wr.alloc ob).heap.size) : OG w w2 A Aw cw o xs ws Ag2 (n + 1) c2 (gs ++ [v]) := by
  obtain ⟨⟨hS, hR, hne, hb⟩, hG, hgn⟩ := h
  obtain ⟨_, c, hB, hRow, _⟩ := id hS
  have hc : Chg (fun k => blk Ag = some k) wr w2 := Chg.grown ((Chg.refl _ _).alloc ob) hgr (fun k hk => .inl hk)
  refine ⟨⟨hS.kept hc (fun h => hG.blk_ne hB (by decide) h) (fun g hg h => (hgn g h).1 hg), hR.kept hc (fun g hg h => (hgn g h).2 hg), hne, hb.trans (hc.below hb.size (fun k _ hk => (hG.blk_lt k hk).1))⟩, hr, fun g hg => ?_⟩
  rcases h3 with h3 | h3
  · exact hgn g (h3 ▸ hg)
  · rw [h3] at hg
    simp at hg
    refine ⟨fun h => ?_, fun h => ?_⟩
    · have := (hRow.blk_lt g h).2; omega
    · have := (hR.blk_lt g h).2; omega
theorem OG.rel {w wr w1 : World} {A Aw Ag : Option Addr} {cw cg n : Nat} {o o' : Int} {xs ys ws gs : List Int} (h : OG w wr A Aw cw o xs ws Ag n cg gs) (ha : Aft wr w1 w.heap.size w.heap.size A o' ys) : ∃ A1, OG w w1 A1 Aw cw o' ys ws Ag n cg gs := by
  obtain ⟨hO, hG, hgn⟩ := h
  obtain ⟨hS, hR, hne, hb⟩ := id hO
  obtain ⟨_, c, hB, _⟩ := id hS
  obtain ⟨A1, hS1, hc, hg⟩ := id ha
  have hO1 : Ord w w1 A1 Aw cw o' ys ws := by
    refine ⟨hS1, hR.kept hc ?_, fun g hg1 h2 => ?_, hb.trans (ha.below hS (Nat.le_refl _) hb.size)⟩
    · rintro g hg (h | h)
      · exact hR.blk_ne hB (by decide) (h ▸ hg)
      · exact hne g h hg
    · rcases hg g hg1 with h | h
      · exact hne g h h2
      · have := (hR.blk_lt g h2).2; omega
  refine ⟨A1, hO1, hG.kept hc ?_, fun g hg1 => ⟨fun h => ?_, (hgn g hg1).2⟩⟩
  · rintro g hg (h | h)
    · exact hG.blk_ne hB (by decide) (h ▸ hg)
    · exact (hgn g hg).1 h
  · rcases hg g h with h | h
    · exact (hgn g hg1).1 h
    · have := (hG.blk_lt g hg1).2; omega
def RoundG (w : World) (Aw : Option Addr) (cw : Nat) (ws : List Int) (gv i : Value) (wr : World) : Prop := ∃ (k : Nat) (A Ag : Option Addr) (cg : Nat) (o : Int) (xs : List Int), k ≤ ws.length ∧ i = .int .i64 k ∧ gv = .slice Ag k cg ∧ xs.length ≤ ws.length ∧ Hid (Came (ws.drop k) o xs) ∧ OG w wr A Aw cw o xs ws Ag k cg (ws.take k)
theorem RoundG.step {w wr : World} {Aw A Ag : Option Addr} {cw cg k : Nat} {ws xs : List Int} {o : Int} (h1 : ws.drop k = o :: xs) (hx : xs.length ≤ ws.length) (hc : Came xs (relO o o xs) (relX o o xs)) (h : OG w wr A Aw cw (relO o o xs) (relX o o xs) ws Ag (k + 1) cg (ws.take k ++ [o])) : RoundG w Aw cw ws (.slice Ag (k + 1) cg) (.int .i64 ((k : Int) + 1)) wr := by
  have hk : k < ws.length := by
    rcases Nat.lt_or_ge k ws.length with h | h
    · exact h
    · rw [List.drop_of_length_le h] at h1; cases h1
  have h2 : ws[k] = o ∧ ws.drop (k + 1) = xs := by
    rw [List.drop_eq_getElem_cons hk] at h1
    injection h1 with a b
    exact ⟨a, b⟩
  refine ⟨k + 1, A, Ag, cg, relO o o xs, relX o o xs, by omega, by go_num, rfl, ?_, ?_, ?_⟩
  · have := hc.len; omega
  · show Came _ _ _
    rw [h2.2]; exact hc
  · rw [List.take_succ_eq_append_getElem hk, h2.1]; exact h

set_option maxRecDepth 100000 in
set_option maxHeartbeats 16000000 in
theorem walk_semaOrder (a0 : Option Addr) (len0 cap0 : Nat) (z0 : Nat → Int) (w : World) (w0 : Ints .i64 w a0 len0 z0) :
    Calls Try.prog 4 #[.slice a0 len0 cap0] w fun e w' => e = .returned (.bool true) ∧ Below w.heap.size w w' := by
  have hm := w0.1
  unfold maxLen at hm
  by_cases h100 : 100 < len0
  · go_enter Try.func4, Try.ntmps4
    go_wp2_with (go_at_call 6; refine (alive_any _).mono ?_; rintro e w' ⟨rfl, hb⟩)
    go_ret
    exact ⟨rfl, hb⟩
  · have hO : Ord w (w.alloc (.cells #[.int .i64 0, .slice none 0 0] 46)) none none 0 0 [] [] :=
      ⟨sem_new w w.heap.size (Nat.le_refl _), Row.nil _ _ _ _, (fun g hg => by cases hg), (Below.refl _ _).alloc (Nat.le_refl _) _⟩
    go_enter Try.func4, Try.ntmps4
    go_wp2_with (go_at_call 7; refine (new_any _).mono ?_; rintro e w1 ⟨rfl, rfl⟩)
    go_loopw [4, 5] (fun wv i wr => RoundO w len0 wv i wr) (fun _ i _ => len0 - (intOf i).toNat)
    case atStart => exact ⟨0, none, none, 0, 0, [], [], Nat.zero_le _, rfl, rfl, Nat.le_refl _, .inl ⟨rfl, rfl, rfl⟩, hO⟩
    case round =>
      obtain ⟨k, A, Aw, cw, o, xs, ws, hk, rfl, rfl, hwl, hCame, hOrd⟩ := hrel
      clear hO
      have hxl := hCame.out.len
      by_cases hlt : k < len0
      · obtain ⟨b, of, rfl, hbl, hc⟩ := w0.2 (by omega)
        have hb := hOrd.2.2.2
        have hsz := hb.size
        have e0 : wr.cell? ⟨b, of + k, none⟩ = some (.int .i64 (z0 k)) := (hb.cell (p := ⟨b, of + k, none⟩) hbl).trans (hc k hlt).1
        have hbw : b < wr.heap.size := by omega
        generalize z0 k = g at e0
        clear w0 hc
        go_wp2_with fail
        refine (acquire_any w.heap.size w.heap.size A o g xs _ hOrd.1 (by omega)).mono ?_
        rintro e w1 ⟨rfl, ha⟩
        obtain ⟨A1, hOrd1⟩ := hOrd.acq ha
        have hb1 := hOrd1.2.2.2
        have c0 : w1.cell? ⟨b, of + k, none⟩ = some (.int .i64 g) := by
          rw [← e0, hb1.cell (p := ⟨b, of + k, none⟩) hbl, hb.cell (p := ⟨b, of + k, none⟩) hbl]
        have hbw1 : b < w1.heap.size := by have := hb1.size; omega
        by_cases hg : g < 1
        · have hB : acqB o g = false := by have : ¬ 1 ≤ g := by omega
                                           simp [acqB, this]
          have hF : acqF g = 1 := by simp [acqF, hg]
          rw [hB, hF]
          have Hc := Lib.hid (hCame.out.bad hg)
          clear hB hF hCame
          go_wp2
          go_roundw
          case rel => exact RoundO.step hlt (by omega) Hc.out hOrd1
          case measure => simp [intOf]; omega
        · have hg1 : 1 ≤ g := by omega
          have hF : acqF g = 0 := by rw [acqF, if_neg hg]
          rw [hF]
          obtain ⟨hC2, hd, t, hws, hB⟩ := hCame.out.acq hg1
          rw [hB]
          have Hc := Lib.hid hC2
          clear hF hCame hB hC2
          by_cases hm : g ∈ ws
          · rw [if_pos hm] at Hc hws
            have Hws := Lib.hid hws
            clear hws
            have dm : decide (g ∈ ws) = true := by simpa using hm
            go_wp2_with (go_at_call 19; refine (has_any _ _ _ g ws _ hOrd1.2.1.rd ?_).mono ?_; omega; rintro e w9 ⟨rfl, rfl⟩)
            have hpos : 0 < ws.length := by rw [Hws.out]; simp
            obtain ⟨G, rfl, hbG, hGlt⟩ := hOrd1.2.1.form (by simpa using hpos)
            obtain ⟨b9, o9, ho9, _, hc9⟩ := hOrd1.2.1.rd.at_ (by simpa using hpos)
            cases ho9
            have g0 := hc9 0 hpos
            have hhd : ws[0] = hd := by simp [Hws.out]
            rw [hhd] at g0
            simp only [Nat.add_zero] at g0
            clear hc9 hhd
            have hl0 : (0 : Int) < ((ws.length : Nat) : Int) := by omega
            by_cases hh : hd = g
            · subst hh
              have hdd : decide (hd = hd) = true := by simp
              rw [hdd]
              clear hdd
              go_quiet (fail)
              go_wp2
              go_roundw
              case rel => exact RoundO.step hlt (by omega) Hc.out (hOrd1.dN _)
              case measure => simp [intOf]; omega
            · have hdd : decide (hd = g) = false := by simpa using hh
              rw [hdd]
              have hde : (hd == g) = false := by simpa using hh
              go_quiet (fail)
              go_wp2
              go_roundw
              case rel => exact RoundO.step hlt (by omega) Hc.out (hOrd1.dN _)
              case measure => simp [intOf]; omega
          · rw [if_neg hm] at Hc hws
            have Hws := Lib.hid hws
            clear hws
            have dm : decide (g ∈ ws) = false := by simpa using hm
            go_wp2_with (first | (go_at_call 19; refine (has_any _ _ _ g ws _ hOrd1.2.1.rd ?_).mono ?_; omega; rintro e w9 ⟨rfl, rfl⟩) | (at_builtin; refine wpList_app rfl (.tmp 47) (.tmp 52) rfl w.heap.size Aw _ _ ws rfl (hOrd1.2.1.alloc _) _ 1 1 [g] rfl (Rd.lit _ _ _) ?c1 ?c2 ?_; (case c1 => omega); (case c2 => (have := hb1.size; simp; omega)); intro Aw2 c2 w2 r1 r2 r3; have hOrd2 := hOrd1.app r1 r2 r3; have c2c : w2.cell? ⟨b, of + k, none⟩ = some (.int .i64 g) := hOrd2.cellb hbl c0 hb1; have hbw2 := Nat.lt_of_lt_of_le hbl hOrd2.2.2.2.size))
            have hpos : 0 < (ws ++ [g]).length := by rw [Hws.out]; simp
            obtain ⟨G, rfl, hbG, hGlt⟩ := r1.form (by simp)
            obtain ⟨b9, o9, ho9, _, hc9⟩ := r1.rd.at_ (by simp)
            cases ho9
            have g0 := hc9 0 hpos
            have hhd : (ws ++ [g])[0] = hd := by simp [Hws.out]
            rw [hhd] at g0
            simp only [Nat.add_zero] at g0
            clear hc9 hhd
            have hl0 : (0 : Int) < ((ws.length + 1 : Nat) : Int) := by omega
            by_cases hh : hd = g
            · subst hh
              have hdd : decide (hd = hd) = true := by simp
              rw [hdd]
              clear hdd
              go_quiet (fail)
              go_wp2
              go_roundw
              case rel => exact RoundO.stepn hlt (by omega) (by simp) Hc.out (hOrd2.dN _)
              case measure => simp [intOf]; omega
            · have hdd : decide (hd = g) = false := by simpa using hh
              rw [hdd]
              have hde : (hd == g) = false := by simpa using hh
              go_quiet (fail)
              go_wp2
              go_roundw
              case rel => exact RoundO.stepn hlt (by omega) (by simp) Hc.out (hOrd2.dN _)
              case measure => simp [intOf]; omega
      · obtain rfl : k = len0 := by omega
        clear w0 hlt
        have hwl' : ws.length ≤ 100 := by omega
        go_wp2
        go_loopw [8, 9] (fun gv i wr => RoundG w Aw cw ws gv i wr) (fun _ i _ => ws.length + 1 - (intOf i).toNat)
        case atStart => exact ⟨0, A, none, 0, o, xs, Nat.zero_le _, rfl, rfl, hxl, hCame.out, hOrd, Row.nil _ _ _ _, fun g hg => (by cases hg)⟩
        case round =>
          clear hOrd hCame hxl
          obtain ⟨j, A, Ag, cg, o, xs, hj, rfl, rfl, hxl, hCame, hG⟩ := hrel
          have hjk : (j : Int) ≤ (k : Int) := by omega
          have hb := hG.1.2.2.2
          by_cases ho : 1 ≤ o
          · obtain ⟨hdrop, hC2⟩ := hCame.out.rel ho
            have Hd := Lib.hid hdrop
            have HC2 := Lib.hid hC2
            clear hdrop hC2 hCame
            go_wp2_with (first
              | (go_at_call 14; refine (owner_any _ _ _ _ _ _ hG2.1.1).mono ?_; rintro e w9 ⟨rfl, rfl⟩)
              | (go_at_call 10; refine (release_any w.heap.size w.heap.size _ o o xs _ hG2.1.1).mono ?_; rintro e w3 ⟨rfl, ha⟩; obtain ⟨A3, hG3⟩ := hG2.rel ha)
              | (go_at_call 14; refine (owner_any _ _ _ _ _ _ hG.1.1).mono ?_; rintro e w9 ⟨rfl, rfl⟩)
              | (at_builtin; refine wpList_app rfl (.tmp 75) (.tmp 78) rfl w.heap.size Ag _ _ (ws.take j) rfl (hG.2.1.alloc _) _ 1 1 [o] rfl (Rd.lit _ _ _) ?c1 ?c2 ?_; (case c1 => omega); (case c2 => (have := hb.size; simp; omega)); intro Ag2 c2 w2 r1 r2 r3; have hG2 := hG.app r1 r2 r3))
            go_roundw
            case rel => exact RoundG.step Hd.out hxl HC2.out hG3
            case measure => simp [intOf]; omega
          · obtain ⟨rfl, rfl, hnil⟩ := hCame.out.end_ ho
            have hjw : j = ws.length := by
              have := congrArg List.length hnil
              simp at this; omega
            subst hjw
            rw [List.take_length] at hG
            clear hnil hCame
            go_wp2_with (first
              | (go_at_call 16; refine (waits_any w.heap.size w.heap.size A 0 [] _ (hG.1.dN q).1).mono ?_; rintro e w4 ⟨A4, c4, rfl, _, hc4⟩; have hb4 : Below w.heap.size w w4 := (hG.1.dN q).2.2.2.trans (hc4.below hb.size (fun _ _ h => h.elim)))
              | (go_at_call 6; refine (alive_any _).mono ?_; rintro e w5 ⟨rfl, hb5⟩)
              | (go_at_call 14; refine (owner_any _ _ _ _ _ _ hG.1.1).mono ?_; rintro e w9 ⟨rfl, rfl⟩)
              | (go_at_call 15; refine (same_yes _ _ _ _ _ _ ws _ hG.2.1.rd hG.1.2.1.rd ?_).mono ?_; omega; rintro e w3 ⟨rfl, q, rfl⟩))
            go_ret
            exact ⟨rfl, hb4.trans (hb5.mono hb4.size)⟩
end Go.Proofs.Ytealbmadodommaa
