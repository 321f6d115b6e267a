/- A ring in memory: cut. -/
import Derived.Test.YtfceebbbhjjnaaaRingA
namespace Go.Proofs.Ytfceebbbhjjnaaa
open Go.ChangeShapes Go.WideShapes Go.ChangeAt Go.RowKit Go.Deep
set_option linter.unusedVariables false

/-- What stands at a place behind the first one. -/
def atr (vs : List Int) (n f i : Nat) : Int := vs.getD ((f + i) % n) 0
def front (vs : List Int) (n f many : Nat) : List Int := (List.range many).map (atr vs n f)
theorem front_len (vs : List Int) (n f many : Nat) : (front vs n f many).length = many := by simp [front]
def Cutd (vs : List Int) (n f many k : Nat) (cs : Array Value) : Prop := cs.size = many ∧ ∀ i, i < k → cs[i]? = some (.int .i64 (atr vs n f i))
theorem Cutd.step {vs : List Int} {n f many k : Nat} {cs : Array Value} (h : Cutd vs n f many k cs) (hk : k < many) : Cutd vs n f many (k + 1) (cs.setIfInBounds k (.int .i64 (atr vs n f k))) := by
  refine ⟨by simpa using h.1, fun i hi => ?_⟩
  by_cases e : i = k
  · subst e
    rw [Array.getElem?_setIfInBounds_self_of_lt (by rw [h.1]; exact hk)]
  · rw [Array.getElem?_setIfInBounds_ne (fun h' => e h'.symm), h.2 i (by omega)]
theorem Cutd.rd {vs : List Int} {n f many g : Nat} {cs : Array Value} {W : World} (h : Cutd vs n f many many cs) (hB : Blk W g 3 cs) : Rd W 1 (some ⟨g, 0, none⟩) many (ints (front vs n f many)) := by
  refine ⟨by simp [ints, front], fun h0 => ⟨g, 0, rfl, hB.lt, fun i u hu => ?_⟩⟩
  rw [Nat.zero_add, hB.cell i]
  have hi : i < many := by
    have := (List.getElem?_eq_some_iff.1 hu).1
    simpa [ints, front] using this
  rw [h.2 i hi, ← hu, ints_get _ _ (by rw [front_len]; exact hi)]
  simp [front]
def RoundCut (W : World) (b S : Nat) (vs : List Int) (n f many : Nat) (i : Value) (wr : World) : Prop :=
  ∃ (k : Nat) (cs : Array Value), k ≤ many ∧ i = .int .i64 (k : Int) ∧ Blk wr W.heap.size 3 cs ∧ Cutd vs n f many k cs ∧ Chg (fun _ => False) W wr

set_option maxRecDepth 100000 in
set_option maxHeartbeats 8000000 in
theorem cut_any (W : World) (b S : Nat) (nx : Int) (n f m many : Nat) (vs : List Int) (h1 : 1 ≤ n) (h2 : n ≤ 1000) (hf : f < n) (hm : m ≤ n) (hk : many ≤ m) (hR : Rg W b nx n (.slice (some ⟨S, 0, none⟩) n n) f m) (hS : Blk W S 3 (ints vs).toArray) (hvs : vs.length = n) :
    Calls Try.prog 29 #[.pointer (some ⟨b, 0, none⟩), .int .i64 (many : Int)] W fun e W' => e = .returned (.slice (some ⟨W.heap.size, 0, none⟩) many many) ∧ Rg W' b nx n (.slice (some ⟨S, 0, none⟩) n n) ((f + many) % n) (m - many) ∧ Rd W' 1 (some ⟨W.heap.size, 0, none⟩) many (ints (front vs n f many)) ∧ Chg (fun k => k = b) W W' := by
  have hne : b ≠ S := hR.ne_ hS (by decide)
  have hne' : S ≠ b := fun e => hne e.symm
  have kb := hR.lt
  have kS := hS.lt
  have hmk := make_ints many (by omega) W
  have hM : (madeCells #[.int .i64 0] many).size = many := by simp [madeCells]
  have H0 := Lib.hid (show RoundCut W b S vs n f many (.int .i64 0) (W.alloc (.cells (madeCells #[.int .i64 0] many) 3)) from ⟨0, _, Nat.zero_le _, rfl, Blk.new _ _ _, ⟨hM, fun _ h => absurd h (by omega)⟩, (Chg.refl _ _).alloc _⟩)
  go_enter Try.func29, Try.ntmps29
  go_wp2
  clear hmk
  go_loopw [11] (fun i wr => RoundCut W b S vs n f many i wr) (fun i _ => many - (intOf i).toNat)
  case atStart => exact H0.out
  case round =>
    clear H0
    obtain ⟨k, cs, hkm, rfl, hB, hC, hch⟩ := hrel
    have hRr : Rg wr b nx n (.slice (some ⟨S, 0, none⟩) n n) f m := hR.kept hch (fun h => h)
    have hSr := hS.kept hch (fun h => h)
    have c1 := hRr.cell 1
    have c2 := hRr.cell 2
    have c3 := hRr.cell 3
    have c4 := hRr.cell 4
    have f3 := hRr.frozen 3
    have f4 := hRr.frozen 4
    simp at c1 c2 c3 c4
    have n0 : ¬ (n : Int) = 0 := by omega
    by_cases hlt : k < many
    · obtain ⟨t, ht⟩ : ∃ t, t = (f + k) % n := ⟨_, rfl⟩
      have htn : t < n := by rw [ht]; exact Nat.mod_lt _ h1
      have d2 := hSr.cell t
      rw [show ((ints vs).toArray)[t]? = some (.int .i64 (atr vs n f k)) by
        rw [List.getElem?_toArray, ints_get _ _ (by omega), atr, ← ht, List.getD_eq_getElem?_getD, List.getElem?_eq_getElem (by omega)]; rfl] at d2
      have g1 := hB.frozen k
      have g3 := hB.lt
      obtain ⟨v0, g2⟩ : ∃ v, wr.cell? ⟨W.heap.size, k, none⟩ = some v := ⟨cs[k]'(by rw [hC.1]; exact hlt), by rw [hB.cell k]; exact Array.getElem?_eq_getElem (by rw [hC.1]; exact hlt)⟩
      have hst := hC.step hlt
      generalize atr vs n f k = z at *
      have q1 : IntKind.i64.wrap ((f : Int) + (k : Int)) = (f : Int) + (k : Int) := IntWalk.i64_in _ (by omega)
      have q2 : Int.tmod ((f : Int) + (k : Int)) (n : Int) = (t : Int) := by rw [Int.tmod_eq_emod_of_nonneg (by omega), ht]; simp
      have q3 : IntKind.i64.wrap (t : Int) = (t : Int) := IntWalk.i64_in _ (by omega)
      have q4 : (0 : Int) ≤ (t : Int) := by omega
      have q5 : (t : Int) < (n : Int) := by omega
      have q6 : (0 : Int) ≤ (k : Int) := by omega
      have q7 : (k : Int) < (many : Int) := by omega
      clear ht hC
      go_wp2
      go_region
      all_goals go_wp2
      refine ⟨⟨k + 1, cs.setIfInBounds k (.int .i64 z), by omega, by go_num, (hB.set_ k _).drew, hst, (Chg.setCell hch (p := ⟨W.heap.size, k, none⟩) (.inr (Nat.le_refl _)) _).drew⟩, ?_⟩
      simp [intOf]; omega
    · obtain rfl : k = many := by omega
      obtain ⟨t, ht⟩ : ∃ t, t = (f + k) % n := ⟨_, rfl⟩
      have q1 : IntKind.i64.wrap ((f : Int) + (k : Int)) = (f : Int) + (k : Int) := IntWalk.i64_in _ (by omega)
      have q2 : Int.tmod ((f : Int) + (k : Int)) (n : Int) = (t : Int) := by rw [Int.tmod_eq_emod_of_nonneg (by omega), ht]; simp
      have htn : t < n := by rw [ht]; exact Nat.mod_lt _ h1
      have q3 : IntKind.i64.wrap (t : Int) = (t : Int) := IntWalk.i64_in _ (by omega)
      have q4 : IntKind.i64.wrap ((m : Int) - (k : Int)) = ((m - k : Nat) : Int) := by rw [IntWalk.i64_in _ (by omega)]; omega
      have Ht := Lib.hid ht
      clear ht
      go_wp2
      go_region
      all_goals go_wp2
      go_ret
      rw [← Ht.out]
      refine ⟨rfl, ?_, ?_, ?_⟩
      · have := ((hRr.set_ 3 (.int .i64 (t : Int))).set_ 4 (.int .i64 ((m - k : Nat) : Int))).drew
        simpa [Rg] using this
      · exact hC.rd ((hB.far (p := ⟨b, 3, none⟩) (by show W.heap.size ≠ b; omega) _).far (p := ⟨b, 4, none⟩) (by show W.heap.size ≠ b; omega) _).drew
      · exact (Chg.setCell (S := fun k => k = b) (Chg.setCell (S := fun k => k = b) (hch.mono (fun _ _ h => h.elim)) (.inl rfl) _) (.inl rfl) _).drew
end Go.Proofs.Ytfceebbbhjjnaaa
