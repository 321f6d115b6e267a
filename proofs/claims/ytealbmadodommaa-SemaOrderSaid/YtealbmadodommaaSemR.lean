/- Contracts of the document's answer for a turn. -/
import Derived.Test.YtealbmadodommaaSemD
namespace Go.Proofs.Ytealbmadodommaa
open Go.ChangeShapes Go.WideShapes Go.ChangeAt Go.RowKit Go.Deep
set_option linter.unusedVariables false

/-- The answer's block K: the owner o, who waits xs. -/
def RSem (w : World) (base K : Nat) (A : Option Addr) (o : Int) (xs : List Int) : Prop :=
  base ≤ K ∧ ∃ c, Blk w K 29 #[.int .i64 o, .slice A xs.length c] ∧ Rd w 1 A xs.length (ints xs) ∧ xs.length ≤ c ∧ xs.length ≤ 10000 ∧ ∀ g, blk A = some g → g ≠ K ∧ g < w.heap.size
theorem RSem.kept {S : Nat → Prop} {w w' : World} {base K : Nat} {A : Option Addr} {o : Int} {xs : List Int} (h : RSem w base K A o xs) (hc : Chg S w w') (h1 : ¬ S K) (h2 : ∀ g, blk A = some g → ¬ S g) : RSem w' base K A o xs := by
  obtain ⟨hb, c, hB, hR, hl, hm, hn⟩ := h
  exact ⟨hb, c, hB.kept hc h1, hR.kept hc h2, hl, hm, fun g hg => ⟨(hn g hg).1, Nat.lt_of_lt_of_le (hn g hg).2 hc.size⟩⟩
theorem RSem.owner {W : World} {base K : Nat} {A : Option Addr} {o : Int} {xs : List Int} (o' : Int) (hS : RSem W base K A o xs) : RSem (W.setCell ⟨K, 0, none⟩ (.int .i64 o')) base K A o' xs := by
  obtain ⟨hb, c, hB, hR, hl, hm, hn⟩ := hS
  exact ⟨hb, c, by simpa using hB.set_ 0 (.int .i64 o'), hR.setCell (fun e => (hn _ e).1 rfl) _, hl, hm, fun g hg => ⟨(hn g hg).1, by simpa [World.setCell] using (hn g hg).2⟩⟩

/-- What a call leaves of the answer. -/
def RAft (W W' : World) (base K : Nat) (A : Option Addr) (o : Int) (xs : List Int) : Prop :=
  ∃ A', RSem W' base K A' o xs ∧ Chg (fun k => k = K) W W' ∧ ∀ g, blk A' = some g → blk A = some g ∨ W.heap.size ≤ g
theorem RAft.same {W W' : World} {base K : Nat} {A : Option Addr} {o : Int} {xs : List Int} (hS : RSem W base K A o xs) (hc : Chg (fun _ => False) W W') : RAft W W' base K A o xs :=
  ⟨A, hS.kept hc (fun h => h) (fun _ _ h => h), hc.mono (fun _ _ h => h.elim), fun _ h => .inl h⟩
theorem RAft.owner {W W' : World} {base K : Nat} {A : Option Addr} {o o' : Int} {xs : List Int} (hS : RSem W base K A o xs) (hc : W' = W.setCell ⟨K, 0, none⟩ (.int .i64 o')) : RAft W W' base K A o' xs := by
  subst hc
  exact ⟨A, hS.owner o', (Chg.refl (fun k => k = K) W).setCell (.inl rfl) _, fun _ h => .inl h⟩
/-- Behind Join, Remove: the field takes the new row. -/
theorem RAft.row {W w2 : World} {base K n c2 : Nat} {A A2 : Option Addr} {o : Int} {xs ys : List Int} {B : Nat} (hS : RSem W base K A o xs) (hB : W.heap.size ≤ B) (hb : Below B W w2) (hr2 : Row w2 B 3 1 A2 n c2 (ints ys)) (hn : ys.length = n) (hl : n ≤ 10000) : RAft W (w2.setCell ⟨K, 1, none⟩ (.slice A2 n c2)) base K A o ys := by
  obtain ⟨hb0, c0, hBk, hR, hl0⟩ := hS
  have hK := hBk.lt
  have hB2 : Blk w2 K 29 #[.int .i64 o, .slice A xs.length c0] := (hb.block K (by omega)).trans hBk
  have hne2 : blk A2 ≠ some K := hr2.blk_ne hB2 (by decide)
  subst hn
  refine ⟨A2, ⟨hb0, c2, ?_, (hr2.setCell hne2 _).rd, hr2.2.1, hl, fun g hg => ⟨fun e => hne2 (e ▸ hg), by simpa [World.setCell] using (hr2.blk_lt g hg).2⟩⟩, ?_, fun g hg => .inr (by have := (hr2.blk_lt g hg).1; omega)⟩
  · have := hB2.set_ 1 (.slice A2 ys.length c2)
    simpa using this
  · exact ((Chg.refl (fun k => k = K) W).addBelow hb hB).setCell (.inl rfl) _

set_option maxHeartbeats 1000000 in
theorem rahead_any (base K : Nat) (A : Option Addr) (o g : Int) (xs : List Int) (W : World) (hS : RSem W base K A o xs) :
    Calls Try.prog 18 #[.pointer (some ⟨K, 0, none⟩), .int .i64 g] W fun e W' => e = .returned (.int .i64 (aheadOf g xs)) ∧ W = W' := by
  obtain ⟨hb, c, hB, hR, hnc, hl, hne⟩ := hS
  have hK := hB.lt
  have e1 := hB.cell 1
  simp at e1
  go_enter Try.func18, Try.ntmps18
  go_wp2
  go_loop [5] (fun i => ∃ k : Nat, k ≤ xs.length ∧ i = .int .i64 k ∧ Hid (∀ j (h : j < xs.length), j < k → xs[j] ≠ g)) (fun i => xs.length - (intOf i).toNat)
  case atStart => exact ⟨0, Nat.zero_le _, rfl, fun _ _ h => absurd h (by omega)⟩
  case round =>
    obtain ⟨k, hk, rfl, hno⟩ := hrel
    by_cases hlt : k < xs.length
    · obtain ⟨b, o, rfl, hb, hc⟩ := hR.at_ (by omega)
      have e0 := hc k (by omega)
      obtain ⟨z, hz⟩ : ∃ z, z = xs[k]'(by omega) := ⟨_, rfl⟩
      rw [← hz] at e0
      have Hz := Lib.hid hz
      clear hz hc
      by_cases he : z = g
      · subst he
        go_wp2
        go_ret
        exact ⟨ret_int (ahead_at (by omega) Hz.out.symm hno.out).symm, rfl⟩
      · have hd : decide (z = g) = false := by simpa using he
        go_wp2
        go_round
        case rel => exact ⟨k + 1, by omega, by go_num, fun j h hj => by
          rcases Nat.lt_or_ge j k with h1 | h1
          · exact hno.out j h h1
          · obtain rfl : j = k := by omega
            rw [← Hz.out]; exact he⟩
        case measure => simp [intOf]; omega
    · go_wp2
      go_ret
      exact ⟨ret_int (ahead_no fun j h => hno.out j h (by omega)).symm, rfl⟩

set_option maxHeartbeats 1000000 in
theorem rdrop_any (base K : Nat) (A : Option Addr) (o g : Int) (xs : List Int) (W : World) (hS : RSem W base K A o xs) :
    Calls Try.prog 13 #[.pointer (some ⟨K, 0, none⟩), .int .i64 g] W fun e W' => e = .returned (.bool (decide (g ∈ xs))) ∧ RAft W W' base K A o (xs.erase g) := by
  have hS0 := hS
  obtain ⟨hb, c, hB, hR, hnc, hl, hne⟩ := hS
  have hK := hB.lt
  have e0 := hB.cell 0
  have e1 := hB.cell 1
  have f1 := hB.frozen 1
  simp at e0 e1
  by_cases hg : g ∈ xs
  · go_enter Try.func13, Try.ntmps13
    go_wp2_with (go_at_call 22; refine (remove_yes A _ _ g xs _ hR (by omega) hnc hg).mono ?_; rintro e w2 ⟨A2, c2, rfl, h2, hb2⟩; have hB2 : Blk w2 K 29 #[.int .i64 o, .slice A xs.length c] := (hb2.block K hK).trans hB; have q1 := hB2.cell 1; have p1 := hB2.frozen 1; have k2 := hB2.lt; simp at q1)
    go_ret
    exact ⟨ret_bool (by simp [hg]), RAft.row hS0 (Nat.le_refl _) hb2 h2 (List.length_erase_of_mem hg) (by omega)⟩
  · go_enter Try.func13, Try.ntmps13
    go_wp2_with (go_at_call 22; refine (remove_no A _ _ g xs _ hR (by omega) hg).mono ?_; rintro e w2 ⟨rfl, rfl⟩)
    go_ret
    refine ⟨ret_bool (by simp [hg]), ?_⟩
    rw [List.erase_of_not_mem hg]
    refine ⟨A, ⟨hb, c, ?_, hR.setCell (fun e => (hne _ e).1 rfl) _, hnc, hl, fun g hg => ⟨(hne g hg).1, by simpa [World.setCell] using (hne g hg).2⟩⟩, (Chg.refl (fun k => k = K) W).setCell (.inl rfl) _, fun _ h => .inl h⟩
    simpa using hB.set_ 1 (.slice A xs.length c)

set_option maxHeartbeats 2000000 in
theorem racquire_any (base K : Nat) (A : Option Addr) (o g : Int) (xs : List Int) (W : World) (hS : RSem W base K A o xs) (hl5 : xs.length ≤ 5000) :
    Calls Try.prog 9 #[.pointer (some ⟨K, 0, none⟩), .int .i64 g] W fun e W' => e = .returned (.tuple #[.bool (acqB o g), .int .i64 (acqF g)]) ∧ RAft W W' base K A (acqO o g) (acqX o g xs) := by
  have hS0 := hS
  obtain ⟨hb, c, hB, hR, hnc, hl, hne⟩ := hS
  have hK := hB.lt
  have e0 := hB.cell 0
  have e1 := hB.cell 1
  have f0 := hB.frozen 0
  have f1 := hB.frozen 1
  simp at e0 e1
  by_cases h1 : g < 1
  · go_enter Try.func9, Try.ntmps9
    go_wp2
    go_ret2
    have : ¬ 1 ≤ g := by omega
    refine ⟨by simp [acqB, acqF, h1, this], ?_⟩
    rw [acqO_bad h1, acqX, if_pos (.inl h1)]
    exact RAft.same hS0 (Chg.refl _ _)
  · have h1' : 1 ≤ g := by omega
    by_cases h2 : o = 0
    · subst h2
      go_enter Try.func9, Try.ntmps9
      go_wp2
      go_ret2
      refine ⟨by simp [acqB, acqF, h1], ?_⟩
      rw [acqO_free (by omega), acqX, if_pos (.inr (.inl rfl))]
      exact RAft.owner (o' := g) hS0 rfl
    · have d2 : (o == 0) = false := by simpa using h2
      by_cases h3 : o = g
      · subst h3
        go_enter Try.func9, Try.ntmps9
        go_wp2
        go_ret2
        refine ⟨by simp [acqB, acqF, h1], ?_⟩
        rw [acqO_held h2, acqX, if_pos (.inr (.inr (.inl rfl)))]
        exact RAft.same hS0 (Chg.refl _ _)
      · have d3 : (o == g) = false := by simpa using h3
        by_cases h4 : g ∈ xs
        · have d4 : decide (g ∈ xs) = true := by simpa using h4
          go_enter Try.func9, Try.ntmps9
          go_wp2_with (go_at_call 19; refine (has_any A _ _ g xs _ hR (by omega)).mono ?_; rintro e w1 ⟨rfl, rfl⟩)
          go_ret2
          refine ⟨by simp [acqB, acqF, h1, h2, h3], ?_⟩
          rw [acqO_held h2, acqX, if_pos (.inr (.inr (.inr h4)))]
          exact RAft.same hS0 (Chg.refl _ _)
        · have d4 : decide (g ∈ xs) = false := by simpa using h4
          go_enter Try.func9, Try.ntmps9
          go_wp2_with (first | (go_at_call 19; refine (has_any A _ _ g xs _ hR (by omega)).mono ?_; rintro e w1 ⟨rfl, rfl⟩) | (go_at_call 20; refine (join_any A _ _ 1 _ _ xs [g] _ (hR.alloc _) (Rd.lit _ _ _) (by omega)).mono ?_; rintro e w2 ⟨A2, c2, rfl, h2', hb2⟩; have hB2 : Blk w2 K 29 #[.int .i64 o, .slice A xs.length c] := (hb2.block K (by simp; omega)).trans (hB.alloc _); have q1 := hB2.cell 1; have p1 := hB2.frozen 1; have k2 := hB2.lt; simp at q1))
          go_ret2
          refine ⟨by simp [acqB, acqF, h1, h2, h3], ?_⟩
          rw [acqO_held h2, acqX, if_neg (by rintro (h | h | h | h); omega; exact h2 h; exact h3 h; exact h4 h)]
          exact RAft.row hS0 (B := W.heap.size) (Nat.le_refl _) (((Below.refl _ _).alloc (Nat.le_refl _) _).trans (hb2.mono (by simp))) (h2'.lower (by simp)) (by simp) (by omega)

set_option maxHeartbeats 2000000 in
theorem rrelease_any (base K : Nat) (A : Option Addr) (o g : Int) (xs : List Int) (W : World) (hS : RSem W base K A o xs) :
    Calls Try.prog 11 #[.pointer (some ⟨K, 0, none⟩), .int .i64 g] W fun e W' => e = .returned (.tuple #[.int .i64 (relV o g xs), .int .i64 (relF o g)]) ∧ RAft W W' base K A (relO o g xs) (relX o g xs) := by
  have hS0 := hS
  obtain ⟨hb, c, hB, hR, hnc, hl, hne⟩ := hS
  have hK := hB.lt
  have e0 := hB.cell 0
  have e1 := hB.cell 1
  have f0 := hB.frozen 0
  have f1 := hB.frozen 1
  simp at e0 e1
  by_cases h1 : g < 1
  · go_enter Try.func11, Try.ntmps11
    go_wp2
    go_ret2
    have hr : relB o g = false := by simp [relB]; omega
    refine ⟨by simp [relV, relF, hr], ?_⟩
    simp only [relO, relX, hr]
    exact RAft.same hS0 (Chg.refl _ _)
  · by_cases h3 : o = g
    · subst h3
      have h1' : 1 ≤ o := by omega
      have hr : relB o o = true := by simp [relB]; omega
      have Hr := Lib.hid hr
      clear hr h1
      by_cases hnil : xs = []
      · subst hnil
        go_enter Try.func11, Try.ntmps11
        go_wp2
        go_ret2
        refine ⟨by simp [relV, relF, Hr.out], ?_⟩
        simp only [relO, relX, Hr.out, if_true]
        exact RAft.owner (o' := 0) hS0 rfl
      · have hpos : 0 < xs.length := List.length_pos_iff.2 hnil
        obtain ⟨G, of, rfl, hGlt, hcc⟩ := hR.at_ hpos
        have e2 := hcc 0 hpos
        simp only [Nat.add_zero] at e2
        have hx : xs[0] = xs.headD 0 := by cases xs; exact absurd rfl hnil; rfl
        generalize xs[0] = x at e2 hx
        have hne1 : G ≠ K := (hne G rfl).1
        have hne' : K ≠ G := fun e => hne1 e.symm
        have hlen : (0 : Int) < (xs.length : Int) := by omega
        have hlen' : (xs.length : Int) ≤ 10000 := by omega
        have Hx := Lib.hid hx
        clear hcc hx
        obtain ⟨T, hT, HT⟩ : ∃ T, T = (if c = 1 then some (⟨G, of, none⟩ : Addr) else some ⟨G, of + 1, none⟩) ∧ RSem ((((W.setCell ⟨K, 0, none⟩ (.int .i64 0)).setCell ⟨K, 0, none⟩ (.int .i64 x)).setCell ⟨K, 1, none⟩ (.slice T (xs.length - 1) (c - 1)))) base K T x xs.tail := by
          refine ⟨_, rfl, hb, c - 1, ?_, ?_, by simp; omega, by simp; omega, ?_⟩
          · have := ((hB.set_ 0 (.int .i64 0)).set_ 0 (.int .i64 x)).set_ 1 (.slice (if c = 1 then some (⟨G, of, none⟩ : Addr) else some ⟨G, of + 1, none⟩) (xs.length - 1) (c - 1))
            simpa using this
          · have h := (hR.tail_ (k := 1) (by omega) hnc)
            rw [List.drop_one] at h
            have hl' : xs.tail.length = xs.length - 1 := by simp
            rw [hl']
            refine ((h.setCell (p := ⟨K, 0, none⟩) ?_ _).setCell (p := ⟨K, 0, none⟩) ?_ _).setCell (p := ⟨K, 1, none⟩) ?_ _
            all_goals (split <;> simpa using hne1)
          · have h0 : blk (if c = 1 then some (⟨G, of, none⟩ : Addr) else some ⟨G, of + 1, none⟩) = some G := by split <;> rfl
            intro g hg
            rw [h0] at hg
            cases hg
            exact ⟨hne1, by simpa [World.setCell] using hGlt⟩
        subst hT
        have HT := Lib.hid HT
        by_cases hc1 : c = 1
        · have HT2 := HT.out
          rw [if_pos hc1] at HT2
          subst hc1
          rw [show xs.length - 1 = 0 by omega] at HT2
          have HT2 := Lib.hid HT2
          go_enter Try.func11, Try.ntmps11
          go_wp2
          go_ret2
          have hv : relV o o xs = x := by rw [relV, if_pos Hr.out, ← Hx.out]
          have hf : relF o o = 0 := by rw [relF, if_pos Hr.out]
          have ho : relO o o xs = x := by rw [relO, if_pos Hr.out, ← Hx.out]
          have ht : relX o o xs = xs.tail := by rw [relX, if_pos Hr.out]
          refine ⟨by rw [hv, hf]; rfl, ?_⟩
          rw [ho, ht]
          exact ⟨_, HT2.out, (((Chg.refl (fun k => k = K) W).setCell (.inl rfl) _).setCell (.inl rfl) _).setCell (.inl rfl) _, fun g hg => .inl hg⟩
        · have HT2 := HT.out
          rw [if_neg hc1] at HT2
          have HT2 := Lib.hid HT2
          go_enter Try.func11, Try.ntmps11
          go_wp2
          go_ret2
          have hv : relV o o xs = x := by rw [relV, if_pos Hr.out, ← Hx.out]
          have hf : relF o o = 0 := by rw [relF, if_pos Hr.out]
          have ho : relO o o xs = x := by rw [relO, if_pos Hr.out, ← Hx.out]
          have ht : relX o o xs = xs.tail := by rw [relX, if_pos Hr.out]
          refine ⟨by rw [hv, hf]; rfl, ?_⟩
          rw [ho, ht]
          exact ⟨_, HT2.out, (((Chg.refl (fun k => k = K) W).setCell (.inl rfl) _).setCell (.inl rfl) _).setCell (.inl rfl) _, fun g hg => .inl hg⟩
    · have d3 : (o != g) = true := by simpa using h3
      have d4 : (o == g) = false := by simpa using h3
      have h1' : 1 ≤ g := by omega
      go_enter Try.func11, Try.ntmps11
      go_wp2
      go_ret2
      have hr : relB o g = false := by simp [relB, h3]
      refine ⟨by simp [relV, relF, hr], ?_⟩
      simp only [relO, relX, hr]
      exact RAft.same hS0 (Chg.refl _ _)
end Go.Proofs.Ytealbmadodommaa
