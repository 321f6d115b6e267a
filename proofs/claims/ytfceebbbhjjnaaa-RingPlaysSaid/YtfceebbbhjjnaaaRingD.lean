/- A ring in memory, as a list: cut, whatever its row is. -/
import Derived.Test.YtfceebbbhjjnaaaRingC
import Derived.Handy
namespace Go.Proofs.Ytfceebbbhjjnaaa
open Go.ChangeShapes Go.WideShapes Go.ChangeAt Go.RowKit Go.Deep
set_option linter.unusedVariables false

theorem Cutd.row {vs : List Int} {n f many g base : Nat} {cs : Array Value} {W : World} (h : Cutd vs n f many many cs) (hb : base ≤ g) (hm : many ≤ 1000) (hB : Blk W g 3 cs) : Row W base 3 1 (some ⟨g, 0, none⟩) many many (ints (front vs n f many)) := by
  refine ⟨by simp [ints, front], Nat.le_refl _, by unfold maxLen; omega, .inr ⟨g, cs, rfl, hb, hB, by rw [h.1]; omega, ?_⟩⟩
  apply List.ext_getElem?
  intro i
  by_cases hi : i < many
  · rw [List.getElem?_take, if_pos (by omega), Array.getElem?_toList, h.2 i hi, ints_get _ _ (by rw [front_len]; exact hi)]
    simp [front]
  · rw [List.getElem?_eq_none (by simp [h.1]; omega), List.getElem?_eq_none (by simp [front]; omega)]
set_option maxRecDepth 100000 in
set_option maxHeartbeats 8000000 in
theorem cut_row (W : World) (b S : Nat) (nx : Int) (n f m many : Nat) (vs : List Int) (h1 : 1 ≤ n) (h2 : n ≤ 1000) (hf : f < n) (hm : m ≤ n) (hk : many ≤ m) (hR : Rg W b nx n (.slice (some ⟨S, 0, none⟩) n n) f m) (hS : Blk W S 3 (ints vs).toArray) (hvs : vs.length = n) :
    Calls Try.prog 29 #[.pointer (some ⟨b, 0, none⟩), .int .i64 (many : Int)] W fun e W' => e = .returned (.slice (some ⟨W.heap.size, 0, none⟩) many many) ∧ Rg W' b nx n (.slice (some ⟨S, 0, none⟩) n n) ((f + many) % n) (m - many) ∧ Row W' W.heap.size 3 1 (some ⟨W.heap.size, 0, none⟩) many many (ints (front vs n f many)) ∧ Chg (fun k => k = b) W W' := by
  have hne : b ≠ S := hR.ne_ hS (by decide)
  have hne' : S ≠ b := fun e => hne e.symm
  have kb := hR.lt
  have kS := hS.lt
  have hmk := make_ints many (by omega) W
  have hM : (madeCells #[.int .i64 0] many).size = many := by simp [madeCells]
  have H0 := Lib.hid (show RoundCut W b S vs n f many (.int .i64 0) (W.alloc (.cells (madeCells #[.int .i64 0] many) 3)) from ⟨0, _, Nat.zero_le _, rfl, Blk.new _ _ _, ⟨hM, fun _ h => absurd h (by omega)⟩, (Chg.refl _ _).alloc _⟩)
  go_enter Try.func29, Try.ntmps29
  go_wp2
  clear hmk
  go_loopw [11] (fun i wr => RoundCut W b S vs n f many i wr) (fun i _ => many - (intOf i).toNat)
  case atStart => exact H0.out
  case round =>
    clear H0
    obtain ⟨k, cs, hkm, rfl, hB, hC, hch⟩ := hrel
    have hRr : Rg wr b nx n (.slice (some ⟨S, 0, none⟩) n n) f m := hR.kept hch (fun h => h)
    have hSr := hS.kept hch (fun h => h)
    have c1 := hRr.cell 1
    have c2 := hRr.cell 2
    have c3 := hRr.cell 3
    have c4 := hRr.cell 4
    have f3 := hRr.frozen 3
    have f4 := hRr.frozen 4
    simp at c1 c2 c3 c4
    have n0 : ¬ (n : Int) = 0 := by omega
    by_cases hlt : k < many
    · obtain ⟨t, ht⟩ : ∃ t, t = (f + k) % n := ⟨_, rfl⟩
      have htn : t < n := by rw [ht]; exact Nat.mod_lt _ h1
      have d2 := hSr.cell t
      rw [show ((ints vs).toArray)[t]? = some (.int .i64 (atr vs n f k)) by
        rw [List.getElem?_toArray, ints_get _ _ (by omega), atr, ← ht, List.getD_eq_getElem?_getD, List.getElem?_eq_getElem (by omega)]; rfl] at d2
      have g1 := hB.frozen k
      have g3 := hB.lt
      obtain ⟨v0, g2⟩ : ∃ v, wr.cell? ⟨W.heap.size, k, none⟩ = some v := ⟨cs[k]'(by rw [hC.1]; exact hlt), by rw [hB.cell k]; exact Array.getElem?_eq_getElem (by rw [hC.1]; exact hlt)⟩
      have hst := hC.step hlt
      generalize atr vs n f k = z at *
      have q1 : IntKind.i64.wrap ((f : Int) + (k : Int)) = (f : Int) + (k : Int) := IntWalk.i64_in _ (by omega)
      have q2 : Int.tmod ((f : Int) + (k : Int)) (n : Int) = (t : Int) := by rw [Int.tmod_eq_emod_of_nonneg (by omega), ht]; simp
      have q3 : IntKind.i64.wrap (t : Int) = (t : Int) := IntWalk.i64_in _ (by omega)
      have q4 : (0 : Int) ≤ (t : Int) := by omega
      have q5 : (t : Int) < (n : Int) := by omega
      have q6 : (0 : Int) ≤ (k : Int) := by omega
      have q7 : (k : Int) < (many : Int) := by omega
      clear ht hC
      go_wp2
      go_region
      all_goals go_wp2
      refine ⟨⟨k + 1, cs.setIfInBounds k (.int .i64 z), by omega, by go_num, (hB.set_ k _).drew, hst, (Chg.setCell hch (p := ⟨W.heap.size, k, none⟩) (.inr (Nat.le_refl _)) _).drew⟩, ?_⟩
      simp [intOf]; omega
    · obtain rfl : k = many := by omega
      obtain ⟨t, ht⟩ : ∃ t, t = (f + k) % n := ⟨_, rfl⟩
      have q1 : IntKind.i64.wrap ((f : Int) + (k : Int)) = (f : Int) + (k : Int) := IntWalk.i64_in _ (by omega)
      have q2 : Int.tmod ((f : Int) + (k : Int)) (n : Int) = (t : Int) := by rw [Int.tmod_eq_emod_of_nonneg (by omega), ht]; simp
      have htn : t < n := by rw [ht]; exact Nat.mod_lt _ h1
      have q3 : IntKind.i64.wrap (t : Int) = (t : Int) := IntWalk.i64_in _ (by omega)
      have q4 : IntKind.i64.wrap ((m : Int) - (k : Int)) = ((m - k : Nat) : Int) := by rw [IntWalk.i64_in _ (by omega)]; omega
      have Ht := Lib.hid ht
      clear ht
      go_wp2
      go_region
      all_goals go_wp2
      go_ret
      rw [← Ht.out]
      refine ⟨rfl, ?_, ?_, ?_⟩
      · have := ((hRr.set_ 3 (.int .i64 (t : Int))).set_ 4 (.int .i64 ((m - k : Nat) : Int))).drew
        simpa [Rg] using this
      · exact hC.row (Nat.le_refl _) (by omega) ((hB.far (p := ⟨b, 3, none⟩) (by show W.heap.size ≠ b; omega) _).far (p := ⟨b, 4, none⟩) (by show W.heap.size ≠ b; omega) _).drew
      · exact (Chg.setCell (S := fun k => k = b) (Chg.setCell (S := fun k => k = b) (hch.mono (fun _ _ h => h.elim)) (.inl rfl) _) (.inl rfl) _).drew
set_option maxRecDepth 100000 in
set_option maxHeartbeats 8000000 in
theorem cut_zero (W : World) (b : Nat) (nx : Int) (n f m : Nat) (rv : Value) (h1 : 1 ≤ n) (h2 : n ≤ 1000) (hf : f < n) (hm : m ≤ n) (hR : Rg W b nx n rv f m) :
    Calls Try.prog 29 #[.pointer (some ⟨b, 0, none⟩), .int .i64 0] W fun e W' => e = .returned (.slice (some ⟨W.heap.size, 0, none⟩) 0 0) ∧ Rg W' b nx n rv f m ∧ Row W' W.heap.size 3 1 (some ⟨W.heap.size, 0, none⟩) 0 0 (ints []) ∧ Chg (fun k => k = b) W W' := by
  have kb := hR.lt
  have hmk : ∀ V : World, (Instr.makeSlice 28 (.int .i64 0) (.int .i64 0)).run Try.prog V = .ok (.slice (some ⟨V.heap.size, 0, none⟩) 0 0) (V.alloc (.cells #[] 3)) := fun V => by
    have e : madeCells #[Value.int .i64 0] 0 = #[] := by
      apply Array.ext'
      rw [toList_madeCells_one]
      rfl
    have h := make_ints 0 (by omega) V
    rw [e] at h
    exact h
  have hR2 : Rg (W.alloc (.cells #[] 3)) b nx n rv f m := Blk.alloc hR _
  have hB2 : Blk (W.alloc (.cells #[] 3)) W.heap.size 3 #[] := Blk.new _ _ _
  go_enter Try.func29, Try.ntmps29
  go_wp2
  have c1 := Blk.cell hR 1
  have c3 := Blk.cell hR 3
  have c4 := Blk.cell hR 4
  have f3 := Blk.frozen hR 3
  have f4 := Blk.frozen hR 4
  simp at c1 c3 c4
  have n0 : ¬ (n : Int) = 0 := by omega
  have q2 : Int.tmod (f : Int) (n : Int) = (f : Int) := by rw [Int.tmod_eq_emod_of_nonneg (by omega)]; exact Int.emod_eq_of_lt (by omega) (by omega)
  have q3 : IntKind.i64.wrap (f : Int) = (f : Int) := IntWalk.i64_in _ (by omega)
  have q4 : IntKind.i64.wrap (m : Int) = (m : Int) := IntWalk.i64_in _ (by omega)
  refine wp_loop_rounds 1 ?_
  rw [rounds_succ]
  go_wp2
  go_region
  all_goals go_wp2
  go_ret
  have h3 : Rg (((W.setCell ⟨b, 3, none⟩ (.int .i64 (f : Int))).setCell ⟨b, 4, none⟩ (.int .i64 (m : Int))).alloc (.cells #[] 3)).drew b nx n rv f m := by
    have := (((Blk.set_ (Blk.set_ hR 3 (.int .i64 (f : Int))) 4 (.int .i64 (m : Int)))).alloc (.cells #[] 3)).drew
    simpa [Rg] using this
  have h4 : Blk (((W.setCell ⟨b, 3, none⟩ (.int .i64 (f : Int))).setCell ⟨b, 4, none⟩ (.int .i64 (m : Int))).alloc (.cells #[] 3)).drew W.heap.size 3 #[] := by
    have := (Blk.new ((W.setCell ⟨b, 3, none⟩ (.int .i64 (f : Int))).setCell ⟨b, 4, none⟩ (.int .i64 (m : Int))) 3 #[]).drew
    simpa [World.setCell] using this
  exact ⟨rfl, h3, ⟨rfl, Nat.le_refl _, Nat.zero_le _, .inr ⟨W.heap.size, #[], rfl, Nat.le_refl _, h4, by simp, rfl⟩⟩, ((Chg.setCell (S := fun k => k = b) (p := ⟨b, 4, none⟩) (Chg.setCell (S := fun k => k = b) (p := ⟨b, 3, none⟩) (Chg.refl _ _) (.inl rfl) _) (.inl rfl) _).alloc _).drew⟩
end Go.Proofs.Ytfceebbbhjjnaaa
