/- What acts keep. -/
import Derived.Test.YtemnipdmclohmaaPsE
namespace Go.Proofs.Ytemnipdmclohmaa
open Go.ChangeShapes Go.WideShapes Go.ChangeAt Go.RowKit Go.Deep
set_option linter.unusedVariables false

def Inv1 (q : Int × Int) : Prop := 0 ≤ q.1 ∧ q.1 ≤ 4 ∧ -1 ≤ q.2 ∧ q.2 ≤ 63 ∧ (q.1 = 0 → q.2 = -1)
def Inv (ps : List (Int × Int)) : Prop := ∀ q ∈ ps, Inv1 q
def Uq (ps : List (Int × Int)) : Prop := ∀ j k, j < ps.length → k < ps.length → (ps.getD j (0, 0)).2 = (ps.getD k (0, 0)).2 → 0 ≤ (ps.getD j (0, 0)).2 → j = k
theorem getD_at (ps : List (Int × Int)) {k : Nat} (hk : k < ps.length) : ps.getD k (0, 0) = ps[k] := by rw [List.getD_eq_getElem?_getD, List.getElem?_eq_getElem hk]; rfl
theorem getD_set (ps : List (Int × Int)) (q : Int × Int) (k j : Nat) (hk : k < ps.length) : (ps.set k q).getD j (0, 0) = if j = k then q else ps.getD j (0, 0) := by
  rw [List.getD_eq_getElem?_getD, List.getD_eq_getElem?_getD]
  by_cases h : j = k
  · subst h; rw [if_pos rfl, List.getElem?_set_self hk]; rfl
  · rw [if_neg h, List.getElem?_set_ne (fun e => h e.symm)]
theorem chg_len (ps : List (Int × Int)) (p m : Int) (ok : Int × Int → Bool) (nx : Int × Int → Int × Int) : (chg ps p m ok nx).1.length = ps.length := by
  unfold chg
  split
  · rfl
  · split
    · rfl
    · split
      · simp
      · rfl
theorem chg_same (ps : List (Int × Int)) (p m : Int) (ok : Int × Int → Bool) (nx : Int × Int → Int × Int) (j : Nat) (hj : (j : Int) ≠ p) : (chg ps p m ok nx).1.getD j (0, 0) = ps.getD j (0, 0) := by
  unfold chg
  split
  · rfl
  · rename_i hp
    split
    · rfl
    · split
      · show (ps.set _ _).getD j (0, 0) = _
        rw [getD_set ps _ _ _ (by omega), if_neg (by omega)]
      · rfl
theorem chg_inv {ps : List (Int × Int)} (h : Inv ps) (p m : Int) (ok : Int × Int → Bool) (nx : Int × Int → Int × Int) (hn : ∀ q, Inv1 q → ok q = true → 0 ≤ m → m < 64 → Inv1 (nx q)) : Inv (chg ps p m ok nx).1 := by
  unfold chg
  split
  · exact h
  · rename_i hp
    split
    · exact h
    · rename_i hm
      split
      · rename_i ho
        intro q hq
        rcases List.mem_or_eq_of_mem_set hq with hq | rfl
        · exact h q hq
        · rw [getD_at ps (by omega)] at ho ⊢
          exact hn _ (h _ (List.getElem_mem _)) ho (by omega) (by omega)
      · exact h
theorem chg_uq {ps : List (Int × Int)} (h : Uq ps) (p m : Int) (ok : Int × Int → Bool) (nx : Int × Int → Int × Int) (hn : ∀ q, ok q = true → (nx q).2 = q.2 ∨ (nx q).2 < 0 ∨ ∀ j, j < ps.length → (ps.getD j (0, 0)).2 ≠ (nx q).2) : Uq (chg ps p m ok nx).1 := by
  unfold chg
  split
  · exact h
  · rename_i hp
    split
    · exact h
    · split
      · rename_i ho
        have hk : p.toNat < ps.length := by omega
        generalize p.toNat = t at ho hk ⊢
        show Uq (ps.set _ _)
        intro j k hj hk' he h0
        rw [List.length_set] at hj hk'
        rw [getD_set ps _ _ _ hk] at he h0
        rw [getD_set ps _ _ _ hk] at he
        by_cases h1 : j = t
        · by_cases h2 : k = t
          · omega
          · rw [if_pos h1] at he h0
            rw [if_neg h2] at he
            rcases hn _ ho with e | e | e
            · rw [e] at he h0
              have := h t k hk hk' he h0
              omega
            · omega
            · exact absurd he.symm (e k hk')
        · by_cases h2 : k = t
          · rw [if_neg h1] at he h0
            rw [if_pos h2] at he
            rcases hn _ ho with e | e | e
            · rw [e] at he
              have := h j t hj hk he h0
              omega
            · omega
            · exact absurd he (e j hj)
          · rw [if_neg h1] at he h0
            rw [if_neg h2] at he
            exact h j k hj hk' he h0
      · exact h
theorem pact_len (ps : List (Int × Int)) (kd i m : Int) : (pact ps kd i m).1.length = ps.length := by
  unfold pact
  repeat' (first | exact chg_len _ _ _ _ _ | split)
theorem pact_same (ps : List (Int × Int)) (kd i m : Int) (j : Nat) (hj : (j : Int) ≠ i) : (pact ps kd i m).1.getD j (0, 0) = ps.getD j (0, 0) := by
  unfold pact
  repeat' (first | exact chg_same _ _ _ _ _ _ hj | split)
theorem pact_inv {ps : List (Int × Int)} (h : Inv ps) (kd i m : Int) : Inv (pact ps kd i m).1 := by
  unfold pact
  have e5 : ∀ q, Inv1 q → okStand q = true → (0 : Int) ≤ 0 → (0 : Int) < 64 → Inv1 (nxGo q) := by
    rintro ⟨a, b⟩ hq _ _ _
    unfold nxGo
    simp only [Inv1] at hq
    by_cases hb : b = -1
    · simp [Inv1, hb]
    · simp [Inv1, hb]; omega
  have e4 : ∀ q, Inv1 q → okMay q = true → (0 : Int) ≤ 0 → (0 : Int) < 64 → Inv1 (nxStop q) := by
    rintro ⟨a, b⟩ hq _ _ _
    unfold nxStop
    simp only [Inv1] at hq
    by_cases hb : a = 2
    · simp [Inv1, hb]
    · simp [Inv1, hb]; omega
  split
  · exact chg_inv h _ _ _ _ (by rintro ⟨a, b⟩ hq _ _ _; simp [Inv1]; omega)
  · split
    · exact chg_inv h _ _ _ _ (by rintro ⟨a, b⟩ hq _ _ _; simp only [Inv1] at hq; simp [Inv1]; omega)
    · split
      · exact chg_inv h _ _ _ _ (by rintro ⟨a, b⟩ hq _ _ _; simp [Inv1]; omega)
      · split
        · exact chg_inv h _ _ _ _ (by rintro ⟨a, b⟩ hq _ _ _; simp [Inv1])
        · split
          · exact chg_inv h _ _ _ _ e4
          · exact chg_inv h _ _ _ _ e5
theorem pact_uq {ps : List (Int × Int)} (h : Uq ps) (kd i m : Int) (h0 : kd = 0 → ∀ j, j < ps.length → (ps.getD j (0, 0)).2 ≠ m) : Uq (pact ps kd i m).1 := by
  unfold pact
  split
  · rename_i hk
    exact chg_uq h _ _ _ _ (fun q _ => .inr (.inr (h0 hk)))
  · split
    · exact chg_uq h _ _ _ _ (fun q _ => .inl rfl)
    · split
      · exact chg_uq h _ _ _ _ (fun q ho => .inl (by simp [okIts] at ho; omega))
      · split
        · exact chg_uq h _ _ _ _ (fun q _ => .inr (.inl (by decide)))
        · split
          · refine chg_uq h _ _ _ _ (fun q _ => ?_)
            unfold nxStop
            by_cases hb : q.1 = 2
            · rw [if_pos hb]; exact .inr (.inl (by decide))
            · rw [if_neg hb]; exact .inl rfl
          · refine chg_uq h _ _ _ _ (fun q _ => ?_)
            unfold nxGo
            by_cases hb : q.2 = -1
            · rw [if_pos hb]; exact .inr (.inl (by decide))
            · rw [if_neg hb]; exact .inl rfl
def cw (ps : List (Int × Int)) (m : Int) : Nat := (ps.filter fun q => q.2 == m).length
theorem cw_take (ps : List (Int × Int)) (m : Int) (k : Nat) (hk : k < ps.length) : cw (ps.take (k + 1)) m = cw (ps.take k) m + if ps[k].2 = m then 1 else 0 := by
  rw [List.take_succ_eq_append_getElem hk]
  unfold cw
  rw [List.filter_append, List.length_append]
  by_cases h : ps[k].2 = m <;> simp [h]
theorem cw_le (ps : List (Int × Int)) (m : Int) : cw ps m ≤ ps.length := List.length_filter_le _ _
theorem cw_zero {ps : List (Int × Int)} {m : Int} (h : cw ps m = 0) (j : Nat) (hj : j < ps.length) : (ps.getD j (0, 0)).2 ≠ m := by
  intro e
  rw [getD_at ps hj] at e
  have : ps[j] ∈ ps.filter fun q => q.2 == m := List.mem_filter.2 ⟨List.getElem_mem _, by simp [e]⟩
  have h2 := List.length_pos_of_mem this
  unfold cw at h
  omega
theorem cw_none (ps : List (Int × Int)) (m : Int) (h : ∀ j (hj : j < ps.length), ps[j].2 ≠ m) : cw ps m = 0 := by
  unfold cw
  rw [List.length_eq_zero_iff, List.filter_eq_nil_iff]
  intro q hq
  obtain ⟨j, hj, rfl⟩ := List.mem_iff_getElem.1 hq
  simpa using h j hj
theorem cw_one {ps : List (Int × Int)} (hU : Uq ps) {m : Int} (hm : 0 ≤ m) : cw ps m ≤ 1 := by
  have key : ∀ k, k ≤ ps.length → cw (ps.take k) m ≤ 1 := by
    intro k
    induction k with
    | zero => intro _; simp [cw]
    | succ k ih =>
      intro hk
      have hk' : k < ps.length := by omega
      rw [cw_take ps m k hk']
      by_cases he : ps[k].2 = m
      · rw [if_pos he]
        have : cw (ps.take k) m = 0 := cw_none _ _ fun j hj hjm => by
          rw [List.length_take] at hj
          rw [List.getElem_take] at hjm
          have := hU j k (by omega) hk' (by rw [getD_at ps (by omega), getD_at ps hk', hjm, he]) (by rw [getD_at ps (by omega), hjm]; exact hm)
          omega
        omega
      · rw [if_neg he]
        exact ih (by omega)
  have := key ps.length (Nat.le_refl _)
  rwa [List.take_length] at this
theorem Uq.new (n : Nat) : Uq (List.replicate n (0, -1)) := by
  intro j k hj hk _ h0
  rw [getD_at _ hj] at h0
  simp at h0
theorem Inv.new (n : Nat) : Inv (List.replicate n (0, -1)) := by
  intro q hq
  obtain ⟨_, rfl⟩ := List.mem_replicate.1 hq
  simp [Inv1]
end Go.Proofs.Ytemnipdmclohmaa
