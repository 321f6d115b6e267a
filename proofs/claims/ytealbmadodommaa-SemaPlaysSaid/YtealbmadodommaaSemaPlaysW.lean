/- The walk of the law SemaPlays. -/
import Derived.Test.YtealbmadodommaaSemE
import Derived.Deep.RegionHeld3
namespace Go.Proofs.Ytealbmadodommaa
open Go.ChangeShapes Go.WideShapes Go.ChangeAt Go.RowKit Go.Deep
set_option linter.unusedVariables false

/-- The program's turn and the answer's, with the same owner and list. -/
def Two (w wr : World) (o : Int) (xs : List Int) : Prop :=
  ∃ A A', Sem wr w.heap.size w.heap.size A o xs ∧ RSem wr w.heap.size (w.heap.size + 1) A' o xs ∧ (∀ g, blk A' = some g → blk A ≠ some g ∧ g ≠ w.heap.size ∧ w.heap.size ≤ g) ∧ Below w.heap.size w wr
theorem Two.alloc {w wr : World} {o : Int} {xs : List Int} (h : Two w wr o xs) (ob : Obj) : Two w (wr.alloc ob) o xs := by
  obtain ⟨A, A', h1, h2, h3, h4⟩ := h
  have hc : Chg (fun _ => False) wr (wr.alloc ob) := (Chg.refl _ _).alloc _
  exact ⟨A, A', h1.kept hc (fun h => h) (fun _ _ h => h), h2.kept hc (fun h => h) (fun _ _ h => h), h3, h4.alloc h4.size _⟩
theorem Two.same {w wr w' : World} {o : Int} {xs : List Int} (h : Two w wr o xs) (hc : Chg (fun _ => False) wr w') : Two w w' o xs := by
  obtain ⟨A, A', h1, h2, h3, h4⟩ := h
  refine ⟨A, A', h1.kept hc (fun h => h) (fun _ _ h => h), h2.kept hc (fun h => h) (fun _ _ h => h), h3, h4.trans (hc.below h4.size (fun _ _ h => h.elim))⟩
/-- The program's call, then the answer's. -/
theorem Two.first {w wr w1 : World} {o o' : Int} {xs ys : List Int} {A A' : Option Addr} (h1 : Sem wr w.heap.size w.heap.size A o xs) (h2 : RSem wr w.heap.size (w.heap.size + 1) A' o xs)
    (h3 : ∀ g, blk A' = some g → blk A ≠ some g ∧ g ≠ w.heap.size ∧ w.heap.size ≤ g) (h4 : Below w.heap.size w wr) (ha : Aft wr w1 w.heap.size w.heap.size A o' ys) :
    RSem w1 w.heap.size (w.heap.size + 1) A' o xs ∧ ∀ w2, RAft w1 w2 w.heap.size (w.heap.size + 1) A' o' ys → Two w w2 o' ys := by
  obtain ⟨A1, hS1, hc1, hg1⟩ := ha
  obtain ⟨_, c0, hB0, hR0, _⟩ := id h1
  obtain ⟨_, c0', hB0', hR0', _, _, hne'⟩ := id h2
  have hneA : blk A ≠ some (w.heap.size + 1) := hR0.blk_ne hB0' (by decide)
  have hR1 : RSem w1 w.heap.size (w.heap.size + 1) A' o xs := h2.kept hc1 (by rintro (h | h); omega; exact hneA h) (fun g hg => by
    rintro (h | h)
    · exact (h3 g hg).2.1 h
    · exact (h3 g hg).1 h)
  refine ⟨hR1, fun w2 hr => ?_⟩
  obtain ⟨A2, hS2, hc2, hg2⟩ := hr
  obtain ⟨_, c1, hB1, hRow1, _⟩ := id hS1
  have hneA1 : blk A1 ≠ some (w.heap.size + 1) := by
    have := hR1.2
    obtain ⟨c, hB, _⟩ := this
    exact hRow1.blk_ne hB (by decide)
  refine ⟨A1, A2, hS1.kept hc2 (by simp) (fun g hg h => hneA1 (h ▸ hg)), hS2, fun g hg => ?_, (h4.trans (c := w1) ?_).trans ?_⟩
  · rcases hg2 g hg with h | h
    · refine ⟨fun h' => ?_, (h3 g h).2⟩
      rcases hg1 g h' with h' | h'
      · exact (h3 g h).1 h'
      · have := (hne' g h).2; omega
    · refine ⟨fun h' => ?_, ?_, ?_⟩
      · have := (hRow1.blk_lt g h').2; omega
      · have := h4.size; have := hc1.size; have := hB0.lt; omega
      · have := h4.size; have := hc1.size; omega
  · exact hc1.below h4.size (by
      rintro k hk (rfl | h)
      · exact Nat.le_refl _
      · exact (hR0.blk_lt k h).1)
  · exact hc2.below (Nat.le_trans h4.size hc1.size) (by rintro k hk rfl; omega)

def Round (w : World) (len : Nat) (i : Value) (wr : World) : Prop := ∃ (k : Nat) (o : Int) (xs : List Int), k ≤ len ∧ i = .int .i64 k ∧ xs.length ≤ k ∧ Two w wr o xs
theorem Round.step {w wr : World} {len k : Nat} {o : Int} {xs : List Int} (hk : k < len) (hl : xs.length ≤ k + 1) (h : Two w wr o xs) : Round w len (.int .i64 ((k : Int) + 1)) wr := ⟨k + 1, o, xs, by omega, by go_num, hl, h⟩
theorem act_blk {W1 w1 : World} {base K b : Nat} {A : Option Addr} {o o' : Int} {xs ys : List Int} {cs : Array Value} (hS : Sem W1 base K A o xs) (ha : Aft W1 w1 base K A o' ys) (hB : Blk W1 b 31 cs) : Blk w1 b 31 cs := by
  obtain ⟨_, _, hc, _⟩ := ha
  obtain ⟨_, c, hBk, hR, _⟩ := hS
  refine hB.kept hc ?_
  rintro (h | h)
  · exact Blk.ne_ hB hBk (by decide) h
  · exact hR.blk_ne hB (by decide) h
theorem ract_blk {W1 w1 : World} {base K b : Nat} {A : Option Addr} {o o' : Int} {xs ys : List Int} {cs : Array Value} (hS : RSem W1 base K A o xs) (ha : RAft W1 w1 base K A o' ys) (hB : Blk W1 b 31 cs) : Blk w1 b 31 cs := by
  obtain ⟨_, _, hc, _⟩ := ha
  obtain ⟨_, c, hBk, _⟩ := hS
  exact hB.kept hc (fun h => Blk.ne_ hB hBk (by decide) h)
section
variable {w2 W u : World} {base K K' n c' : Nat} {A A' : Option Addr} {o o1 : Int} {xs : List Int}
theorem chg_drewN {q : Nat} (h : u = W.drewN q) : Chg (fun _ => False) W u := h ▸ (Chg.refl _ _).drewN q
theorem RSem.rd_ (h : RSem w2 base K A o1 xs) : Rd w2 1 A xs.length (ints xs) := by obtain ⟨_, _, _, h, _⟩ := h; exact h
theorem RSem.le_ (h : RSem w2 base K A o1 xs) : xs.length ≤ 1048576 := by obtain ⟨_, _, _, _, _, h, _⟩ := h; omega
theorem seenK (h : Chg (fun _ => False) w2 W ∧ W.cell? ⟨K', 0, none⟩ = some (.int .i64 o) ∧ W.cell? ⟨K', 1, none⟩ = some (.slice A' n c')) (hc : Chg (fun _ => False) W u) : Chg (fun _ => False) w2 u ∧ u.cell? ⟨K', 0, none⟩ = some (.int .i64 o) ∧ u.cell? ⟨K', 1, none⟩ = some (.slice A' n c') :=
  ⟨h.1.trans hc (fun _ _ h => h), (hc.cell (p := ⟨K', 0, none⟩) (World.block_lt_of_cell? W _ h.2.1) (fun h => h)).trans h.2.1, (hc.cell (p := ⟨K', 1, none⟩) (World.block_lt_of_cell? W _ h.2.2) (fun h => h)).trans h.2.2⟩
theorem seenN {q : Nat} (h : Chg (fun _ => False) w2 W ∧ W.cell? ⟨K', 0, none⟩ = some (.int .i64 o) ∧ W.cell? ⟨K', 1, none⟩ = some (.slice A' n c')) : Chg (fun _ => False) w2 (W.drewN q) ∧ (W.drewN q).cell? ⟨K', 0, none⟩ = some (.int .i64 o) ∧ (W.drewN q).cell? ⟨K', 1, none⟩ = some (.slice A' n c') := seenK h ((Chg.refl _ _).drewN q)
theorem seenS (hS : Sem w2 base K A o1 xs) (h : Chg (fun _ => False) w2 W ∧ W.cell? ⟨K', 0, none⟩ = some (.int .i64 o) ∧ W.cell? ⟨K', 1, none⟩ = some (.slice A' n c')) : Sem W base K A o1 xs := hS.kept h.1 (fun h => h) (fun _ _ h => h)
theorem seenR (hS : RSem w2 base K A o1 xs) (h : Chg (fun _ => False) w2 W ∧ W.cell? ⟨K', 0, none⟩ = some (.int .i64 o) ∧ W.cell? ⟨K', 1, none⟩ = some (.slice A' n c')) : RSem W base K A o1 xs := hS.kept h.1 (fun h => h) (fun _ _ h => h)
end
set_option maxRecDepth 100000 in
set_option maxHeartbeats 16000000 in
theorem walk_semaPlays (a0 : Option Addr) (len0 cap0 : Nat) (z0 : Nat → Int) (a1 : Int) (w : World) (w0 : Flat w a0 len0 2 z0) (w1 : (Lit.int .i64 a1).wf = true) :
    Calls Try.prog 3 #[.slice a0 len0 cap0, .int .i64 a1] w fun e w' => e = .returned (.bool true) ∧ Below w.heap.size w w' := by
  have hm := w0.1
  unfold maxLen at hm
  by_cases h100 : 100 < len0
  · go_enter Try.func3, Try.ntmps3
    go_wp2_with (go_at_call 6; refine (alive_any _).mono ?_; rintro e w' ⟨rfl, hb⟩)
    go_ret
    exact ⟨rfl, hb⟩
  · have hTwo : Two w ((w.alloc (.cells #[.int .i64 0, .slice none 0 0] 46)).alloc (.cells #[.int .i64 0, .slice none 0 0] 29)) 0 [] := by
      have h1 := sem_new w w.heap.size (Nat.le_refl _)
      have h2 := rsem_new (w.alloc (.cells #[.int .i64 0, .slice none 0 0] 46)) w.heap.size (by simp)
      have hc : Chg (fun _ => False) (w.alloc (.cells #[.int .i64 0, .slice none 0 0] 46)) ((w.alloc (.cells #[.int .i64 0, .slice none 0 0] 46)).alloc (.cells #[.int .i64 0, .slice none 0 0] 29)) := (Chg.refl _ _).alloc _
      refine ⟨none, none, h1.kept hc (fun h => h) (fun _ _ h => h), ?_, ?_, ((Below.refl _ _).alloc (Nat.le_refl _) _).alloc (by simp) _⟩
      · simpa using h2
      · intro g hg
        cases hg
    go_enter Try.func3, Try.ntmps3
    go_wp2_with (go_at_call 7; refine (new_any _).mono ?_; rintro e w1 ⟨rfl, rfl⟩)
    go_loopw [7] (fun i wr => Round w len0 i wr) (fun i _ => len0 - (intOf i).toNat)
    case atStart => exact ⟨0, 0, [], Nat.zero_le _, rfl, Nat.le_refl _, hTwo⟩
    case round =>
      obtain ⟨k, o, xs, hk, rfl, hxl, ht⟩ := hrel
      clear hTwo
      by_cases hlt : k < len0
      · obtain ⟨b, of, rfl, hbl, hc⟩ := w0.2 (by omega)
        have hb : Below w.heap.size w wr := by obtain ⟨_, _, _, _, _, h⟩ := ht; exact h
        have hsz := hb.size
        have e0 : wr.cell? ⟨b, of + k * 2, none⟩ = some (.int .i64 (z0 (k * 2))) := (hb.cell (p := ⟨b, of + k * 2, none⟩) hbl).trans (hc (k * 2) (by omega)).1
        have e1 : wr.cell? ⟨b, of + k * 2 + 1, none⟩ = some (.int .i64 (z0 (k * 2 + 1))) := (hb.cell (p := ⟨b, of + k * 2 + 1, none⟩) hbl).trans (hc (k * 2 + 1) (by omega)).1
        have hbn : b ≠ wr.heap.size := by omega
        have hbw : b < wr.heap.size := by omega
        generalize z0 (k * 2) = kd at e0
        generalize z0 (k * 2 + 1) = x at e1
        clear w0 hc
        have ht2 := ht.alloc (.cells #[.int .i64 kd, .int .i64 x] 31)
        obtain ⟨A, A', hS, hR, hAA, hB⟩ := ht2
        have hR0 := hS.2
        by_cases hk0 : kd = 0
        · subst hk0
          go_wp2_with fail
          refine (acquire_any w.heap.size w.heap.size A o x xs _ hS (by omega)).mono ?_
          rintro e w1 ⟨rfl, ha⟩
          obtain ⟨hR1, hnext⟩ := Two.first hS hR hAA hB ha
          have hact := act_blk hS ha (Blk.new wr 31 #[.int .i64 0, .int .i64 x])
          have q1 := hact.cell 1
          have p1 := hact.lt
          simp at q1
          go_wp2_with fail
          refine (racquire_any w.heap.size _ A' o x xs _ hR1 (by omega)).mono ?_
          rintro e w2 ⟨rfl, hr⟩
          have ht2 := hnext w2 hr
          go_wp2_with fail
          have hyl : (acqX o x xs).length ≤ k + 1 := by unfold acqX; split; omega; simp; omega
          generalize acqX o x xs = ys at ht2 hyl
          generalize acqO o x = o2 at ht2
          have ht3 := ht2
          obtain ⟨A2, A3, hS2, hR2, hAA2, hB2⟩ := ht2
          obtain ⟨_, c3, hBk3, hRd3, _, _, _⟩ := id hR2
          have v0 := hBk3.cell 0
          have v1 := hBk3.cell 1
          simp at v0 v1
          have hs0 : Chg (fun _ => False) w2 w2 ∧ w2.cell? ⟨w.heap.size + 1, 0, none⟩ = some (.int .i64 o2) ∧ w2.cell? ⟨w.heap.size + 1, 1, none⟩ = some (.slice A3 ys.length c3) := ⟨Chg.refl _ _, v0, v1⟩
          have hs1 : Chg (fun _ => False) w2 w2.drew ∧ w2.drew.cell? ⟨w.heap.size + 1, 0, none⟩ = some (.int .i64 o2) ∧ w2.drew.cell? ⟨w.heap.size + 1, 1, none⟩ = some (.slice A3 ys.length c3) := ⟨(Chg.refl _ _).drew, v0, v1⟩
          clear v0 v1
          go_region_held3 (fun w' => Chg (fun _ => False) w2 w' ∧ w'.cell? ⟨w.heap.size + 1, 0, none⟩ = some (.int .i64 o2) ∧ w'.cell? ⟨w.heap.size + 1, 1, none⟩ = some (.slice A3 ys.length c3)) (first | assumption | exact seenN (by assumption) | exact seenK (by assumption) hu2 | exact seenK (by assumption) hu4)
            ((first
              | (go_at_call 14; refine (owner_any _ _ _ _ _ _ (seenS hS2 (by assumption))).mono ?_; rintro e u1 ⟨rfl, rfl⟩)
              | (go_at_call 16; refine (waits_any _ _ _ _ _ _ (seenS hS2 (by assumption))).mono ?_; rintro e u2 ⟨A5, c5, rfl, hr5, hu2⟩)
              | (go_at_call 15; refine (same_yes _ _ _ _ _ _ ys _ hr5 (seenR hR2 (by assumption)).rd_ ?_).mono ?_; exact (seenR hR2 (by assumption)).le_; rintro e u3 ⟨rfl, q, rfl⟩)
              | (go_at_call 17; refine (ahead_any _ _ _ _ _ _ _ (seenS hS2 (by assumption))).mono ?_; rintro e u4 ⟨rfl, hu4⟩)
              | (go_at_call 18; refine (rahead_any _ _ _ _ _ _ _ (seenR hR2 (by assumption))).mono ?_; rintro e u5 ⟨rfl, rfl⟩)))
          all_goals go_simp
          all_goals go_wp2
          all_goals go_roundw
          all_goals try (case measure => simp [intOf]; omega)
          all_goals exact Round.step hlt hyl (ht3.same (And.left (by assumption)))
        · by_cases hk1 : kd = 1
          · subst hk1
            go_wp2_with fail
            refine (release_any w.heap.size w.heap.size A o x xs _ hS).mono ?_
            rintro e w1 ⟨rfl, ha⟩
            obtain ⟨hR1, hnext⟩ := Two.first hS hR hAA hB ha
            have hact := act_blk hS ha (Blk.new wr 31 #[.int .i64 1, .int .i64 x])
            have q1 := hact.cell 1
            have p1 := hact.lt
            simp at q1
            go_wp2_with fail
            refine (rrelease_any w.heap.size _ A' o x xs _ hR1).mono ?_
            rintro e w2 ⟨rfl, hr⟩
            have ht2 := hnext w2 hr
            go_wp2_with fail
            have hyl : (relX o x xs).length ≤ k + 1 := by unfold relX; split; (simp; omega); omega
            generalize relX o x xs = ys at ht2 hyl
            generalize relO o x xs = o2 at ht2
            have ht3 := ht2
            obtain ⟨A2, A3, hS2, hR2, hAA2, hB2⟩ := ht2
            obtain ⟨_, c3, hBk3, hRd3, _, _, _⟩ := id hR2
            have v0 := hBk3.cell 0
            have v1 := hBk3.cell 1
            simp at v0 v1
            have hs0 : Chg (fun _ => False) w2 w2 ∧ w2.cell? ⟨w.heap.size + 1, 0, none⟩ = some (.int .i64 o2) ∧ w2.cell? ⟨w.heap.size + 1, 1, none⟩ = some (.slice A3 ys.length c3) := ⟨Chg.refl _ _, v0, v1⟩
            have hs1 : Chg (fun _ => False) w2 w2.drew ∧ w2.drew.cell? ⟨w.heap.size + 1, 0, none⟩ = some (.int .i64 o2) ∧ w2.drew.cell? ⟨w.heap.size + 1, 1, none⟩ = some (.slice A3 ys.length c3) := ⟨(Chg.refl _ _).drew, v0, v1⟩
            clear v0 v1
            go_region_held3 (fun w' => Chg (fun _ => False) w2 w' ∧ w'.cell? ⟨w.heap.size + 1, 0, none⟩ = some (.int .i64 o2) ∧ w'.cell? ⟨w.heap.size + 1, 1, none⟩ = some (.slice A3 ys.length c3)) (first | assumption | exact seenN (by assumption) | exact seenK (by assumption) hu2 | exact seenK (by assumption) hu4)
              ((first
                | (go_at_call 14; refine (owner_any _ _ _ _ _ _ (seenS hS2 (by assumption))).mono ?_; rintro e u1 ⟨rfl, rfl⟩)
                | (go_at_call 16; refine (waits_any _ _ _ _ _ _ (seenS hS2 (by assumption))).mono ?_; rintro e u2 ⟨A5, c5, rfl, hr5, hu2⟩)
                | (go_at_call 15; refine (same_yes _ _ _ _ _ _ ys _ hr5 (seenR hR2 (by assumption)).rd_ ?_).mono ?_; exact (seenR hR2 (by assumption)).le_; rintro e u3 ⟨rfl, q, rfl⟩)
                | (go_at_call 17; refine (ahead_any _ _ _ _ _ _ _ (seenS hS2 (by assumption))).mono ?_; rintro e u4 ⟨rfl, hu4⟩)
                | (go_at_call 18; refine (rahead_any _ _ _ _ _ _ _ (seenR hR2 (by assumption))).mono ?_; rintro e u5 ⟨rfl, rfl⟩)))
            all_goals go_simp
            all_goals go_wp2
            all_goals go_roundw
            all_goals try (case measure => simp [intOf]; omega)
            all_goals exact Round.step hlt hyl (ht3.same (And.left (by assumption)))
          · have d0 : (kd == 0) = false := by simpa using hk0
            have d1 : (kd == 1) = false := by simpa using hk1
            go_wp2_with fail
            have hSd := hS.kept ((Chg.refl (fun _ => False) _).drew) (fun h => h) (fun _ _ h => h)
            have hRd := hR.kept ((Chg.refl (fun _ => False) _).drew) (fun h => h) (fun _ _ h => h)
            have hBd := hB.drew
            have hq0 : (wr.alloc (.cells #[.int .i64 kd, .int .i64 x] 31)).drew.cell? ⟨wr.heap.size, 1, none⟩ = some (.int .i64 x) := by simp [go_sem]
            go_region_held3 (fun w' => w'.cell? ⟨wr.heap.size, 1, none⟩ = some (.int .i64 x)) (first | assumption)
              ((first
              | (go_at_call 12; refine (drop_any w.heap.size w.heap.size A o x xs _ hSd).mono ?_; rintro e w1 ⟨rfl, ha⟩; obtain ⟨hR1, hnext⟩ := Two.first hSd hRd hAA hBd ha; have hact := act_blk hSd ha (Blk.new wr 31 #[.int .i64 kd, .int .i64 x]).drew; have q1 := hact.cell 1; simp at q1)
              | (go_at_call 13; refine (rdrop_any w.heap.size _ A' o x xs _ hR1).mono ?_; rintro e w2 ⟨rfl, hr⟩; have ht2 := hnext w2 hr; have q2 := (ract_blk hR1 hr hact).cell 1; simp at q2)))
            go_simp
            go_wp2_with fail
            have hyl : (xs.erase x).length ≤ k + 1 := Nat.le_trans List.length_erase_le (by omega)
            generalize xs.erase x = ys at ht2 hyl
            obtain ⟨o2, ho2⟩ : ∃ o2, o2 = o := ⟨_, rfl⟩
            rw [← ho2] at ht2
            clear ho2
            have ht3 := ht2
            obtain ⟨A2, A3, hS2, hR2, hAA2, hB2⟩ := ht2
            obtain ⟨_, c3, hBk3, hRd3, _, _, _⟩ := id hR2
            have v0 := hBk3.cell 0
            have v1 := hBk3.cell 1
            simp at v0 v1
            have hs0 : Chg (fun _ => False) w2 w2 ∧ w2.cell? ⟨w.heap.size + 1, 0, none⟩ = some (.int .i64 o2) ∧ w2.cell? ⟨w.heap.size + 1, 1, none⟩ = some (.slice A3 ys.length c3) := ⟨Chg.refl _ _, v0, v1⟩
            have hs1 : Chg (fun _ => False) w2 w2.drew ∧ w2.drew.cell? ⟨w.heap.size + 1, 0, none⟩ = some (.int .i64 o2) ∧ w2.drew.cell? ⟨w.heap.size + 1, 1, none⟩ = some (.slice A3 ys.length c3) := ⟨(Chg.refl _ _).drew, v0, v1⟩
            clear v0 v1
            go_region_held3 (fun w' => Chg (fun _ => False) w2 w' ∧ w'.cell? ⟨w.heap.size + 1, 0, none⟩ = some (.int .i64 o2) ∧ w'.cell? ⟨w.heap.size + 1, 1, none⟩ = some (.slice A3 ys.length c3)) (first | assumption | exact seenN (by assumption) | exact seenK (by assumption) hu2 | exact seenK (by assumption) hu4)
              ((first
                | (go_at_call 14; refine (owner_any _ _ _ _ _ _ (seenS hS2 (by assumption))).mono ?_; rintro e u1 ⟨rfl, rfl⟩)
                | (go_at_call 16; refine (waits_any _ _ _ _ _ _ (seenS hS2 (by assumption))).mono ?_; rintro e u2 ⟨A5, c5, rfl, hr5, hu2⟩)
                | (go_at_call 15; refine (same_yes _ _ _ _ _ _ ys _ hr5 (seenR hR2 (by assumption)).rd_ ?_).mono ?_; exact (seenR hR2 (by assumption)).le_; rintro e u3 ⟨rfl, q, rfl⟩)
                | (go_at_call 17; refine (ahead_any _ _ _ _ _ _ _ (seenS hS2 (by assumption))).mono ?_; rintro e u4 ⟨rfl, hu4⟩)
                | (go_at_call 18; refine (rahead_any _ _ _ _ _ _ _ (seenR hR2 (by assumption))).mono ?_; rintro e u5 ⟨rfl, rfl⟩)))
            all_goals go_simp
            all_goals go_wp2
            all_goals go_roundw
            all_goals try (case measure => simp [intOf]; omega)
            all_goals exact Round.step hlt hyl (ht3.same (And.left (by assumption)))
      · go_wp2_with (go_at_call 6; refine (alive_any _).mono ?_; rintro e w' ⟨rfl, hb2⟩)
        go_ret
        obtain ⟨_, _, _, _, _, hb⟩ := ht
        exact ⟨rfl, hb.trans (hb2.mono hb.size)⟩
end Go.Proofs.Ytealbmadodommaa
