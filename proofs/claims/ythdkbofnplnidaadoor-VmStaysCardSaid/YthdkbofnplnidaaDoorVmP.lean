/- What a program that may run has at its places. -/
import Derived.Test.YthdkbofnplnidaaDoorVmB
namespace Go.Proofs.YthdkbofnplnidaaDoor
open Go.ChangeShapes Go.WideShapes Go.ChangeAt Go.RowKit Go.Deep
set_option linter.unusedVariables false
set_option linter.unusedSimpArgs false

theorem fscan_cases (g : Nat → Int) (j k : Nat) : ((fscan g j k).2 = 0 ∧ (fscan g j k).1 = -1 ∧ ∀ i, k ≤ i → i < k + j → g i = 0) ∨ (∃ i, k ≤ i ∧ i < k + j ∧ g i ≠ 0 ∧ fscan g j k = ((i : Int), g i)) := by
  induction j generalizing k with
  | zero => exact .inl ⟨rfl, rfl, fun i h1 h2 => by omega⟩
  | succ j ih =>
    by_cases h : g k = 0
    · rw [fscan_miss g h]
      rcases ih (k + 1) with ⟨h1, h2, h3⟩ | ⟨i, h1, h2, h3, h4⟩
      · refine .inl ⟨h1, h2, fun i hi1 hi2 => ?_⟩
        by_cases e : i = k
        · subst e; exact h
        · exact h3 i (by omega) (by omega)
      · exact .inr ⟨i, by omega, by omega, h3, h4⟩
    · rw [fscan_hit g h]
      exact .inr ⟨k, Nat.le_refl _, by omega, h, rfl⟩
theorem pscan_cases (h : Nat → Int × Int) (j k : Nat) : ((pscan h j k).2.2 = 0 ∧ ∀ i, k ≤ i → i < k + j → (h i).2 = 0) ∨ (∃ i, k ≤ i ∧ i < k + j ∧ (h i).2 ≠ 0 ∧ pscan h j k = ((i : Int), (h i).1, (h i).2)) := by
  induction j generalizing k with
  | zero => exact .inl ⟨rfl, fun i h1 h2 => by omega⟩
  | succ j ih =>
    by_cases e : (h k).2 = 0
    · rw [pscan_miss h e]
      rcases ih (k + 1) with ⟨h1, h3⟩ | ⟨i, h1, h2, h3, h4⟩
      · refine .inl ⟨h1, fun i hi1 hi2 => ?_⟩
        by_cases e' : i = k
        · subst e'; exact e
        · exact h3 i (by omega) (by omega)
      · exact .inr ⟨i, by omega, by omega, h3, h4⟩
    · rw [pscan_hit h e]
      exact .inr ⟨k, Nat.le_refl _, by omega, e, rfl⟩
/-- Nothing wrong at any place: mending leaves the safe places as they are. -/
theorem progF_ok {m : Nat} {code : Nat → List (List Int)} {safe : Nat → List Bool} (h : (progF m code safe).2.2 = 0) : ∀ i, i < m → (fnF (code i) (safe i) m).2 = 0 := by
  unfold progF at h
  split at h
  · simp at h
  split at h
  · simp at h
  rcases pscan_cases (fun i => fnF (code i) (safe i) m) m 0 with ⟨_, hz⟩ | ⟨i, _, _, hne, he⟩
  · exact fun i hi => hz i (Nat.zero_le _) (by omega)
  · rw [he] at h; exact absurd h hne
theorem tg1 : ∀ k : Nat, k < 24 → (k = 6 ∨ k = 7) → tg k = 1 := by decide
theorem tg2 : ∀ k : Nat, k < 24 → (k = 8 ∨ k = 10) → tg k = 2 := by decide
theorem chk_ok {op A B C N p f : Int} (h : chkI op A B C N p f = 0) : 0 ≤ op ∧ op < 24 ∧ 0 ≤ A ∧ A < 8 ∧ 0 ≤ B ∧ B < 8 ∧ 0 ≤ C ∧ C < 8 ∧ (op = 6 ∨ op = 7 → 0 ≤ N ∧ N < p) ∧ (op = 8 ∨ op = 10 → 0 ≤ N ∧ N < f) := by
  rcases in_out op with ⟨k, rfl, hk⟩ | ho
  · rw [chkI_in hk] at h
    have t1 := tg1 k hk
    have t2 := tg2 k hk
    have h67 : ((k : Int) = 6 ∨ (k : Int) = 7) → (k = 6 ∨ k = 7) := by omega
    have h810 : ((k : Int) = 8 ∨ (k : Int) = 10) → (k = 8 ∨ k = 10) := by omega
    unfold chk at h
    rcases cls k hk with ⟨g1, g2, g3⟩ | ⟨g1, g2, g3⟩ | ⟨g1, g2, g3⟩ | ⟨g1, g2, g3⟩ | ⟨g1, g2, g3⟩ | ⟨g1, g2, g3⟩ | ⟨g1, g2, g3⟩ | ⟨g1, g2, g3⟩ <;> rw [g1, g2, g3] at h <;> rw [g2] at t1 t2 <;> (split at h; · exact absurd h (by decide)) <;> (split at h; · exact absurd h (by decide)) <;>
      refine ⟨by omega, by omega, by omega, by omega, by omega, by omega, by omega, by omega, fun hq => ?_, fun hq => ?_⟩ <;>
      first
        | (exact absurd (t1 (h67 hq)) (by decide))
        | (exact absurd (t2 (h810 hq)) (by decide))
        | (simp at h; omega)
  · rw [chkI_out ho] at h
    exact absurd h (by decide)
section
variable {m : Nat} {code : Nat → List (List Int)} {safe : Nat → List Bool}
theorem progF_size (h : (progF m code safe).2.2 = 0) : 0 < m ∧ m ≤ 16 := by
  unfold progF at h
  split at h
  · exact absurd h (by decide)
  · split at h
    · exact absurd h (by decide)
    · omega
theorem place_ok (h : (progF m code safe).2.2 = 0) {f : Nat} (hf : f < m) : 0 < (code f).length ∧ (code f).length ≤ 64 ∧ ∀ pc, pc < (code f).length →
    chkI (ipart (code f) pc 0) (ipart (code f) pc 1) (ipart (code f) pc 2) (ipart (code f) pc 3) (ipart (code f) pc 4) ((code f).length : Int) (m : Int) = 0 ∧ (enI (ipart (code f) pc 0) = false → pc + 1 < (code f).length) := by
  have h1 := progF_ok h f hf
  unfold fnF at h1
  split at h1
  · exact absurd h1 (by decide)
  · split at h1
    · exact absurd h1 (by decide)
    · split at h1
      · exact absurd h1 (by decide)
      · refine ⟨by omega, by omega, fun pc hpc => ?_⟩
        rcases fscan_cases (wrongAt (code f) (safe f) (code f).length m) (code f).length 0 with ⟨_, _, h3⟩ | ⟨i, _, h4, h5, h6⟩
        · have h7 := h3 pc (by omega) (by omega)
          unfold wrongAt at h7
          simp only at h7
          split at h7
          · next h8 => exact absurd h7 h8
          · next h8 =>
            have h9 : chkI (ipart (code f) pc 0) (ipart (code f) pc 1) (ipart (code f) pc 2) (ipart (code f) pc 3) (ipart (code f) pc 4) ((code f).length : Int) (m : Int) = 0 := by
              simpa using h8
            refine ⟨h9, fun he => ?_⟩
            split at h7
            · exact absurd h7 (by decide)
            · split at h7
              · exact absurd h7 (by decide)
              · next h10 => 
                rcases Nat.lt_or_ge (pc + 1) (code f).length with h11 | h11
                · exact h11
                · exact absurd ⟨by omega, he⟩ h10
        · rw [h6] at h1
          exact absurd h1 h5
end
theorem placeOk_iff {m : Nat} {nc : Nat → Nat} {f pc : Int} : placeOk m nc f pc = true ↔ (0 ≤ f ∧ f < m ∧ 0 ≤ pc ∧ pc < nc f.toNat) := by unfold placeOk; simp
/-- Whoever fits, and is not done, stands at a place. -/
theorem fitsF_iff {m : Nat} {nc : Nat → Nat} {code : Nat → List (List Int)} {safe : Nat → List Bool} {f pc : Int} {es : List (List Int)} : fitsF m nc code safe f pc es false = true ↔ ((progF m code safe).2.2 = 0 ∧ placeOk m nc f pc = true ∧ es.length ≤ 16 ∧ es.any (wrongP m nc) = false) := by
  unfold fitsF
  simp only [Bool.false_or, Bool.and_eq_true, decide_eq_true_eq, Bool.not_eq_true']
theorem fitsF_done {m : Nat} {nc : Nat → Nat} {code : Nat → List (List Int)} {safe : Nat → List Bool} {f pc : Int} {es : List (List Int)} : fitsF m nc code safe f pc es true = true ↔ (progF m code safe).2.2 = 0 := by
  unfold fitsF; simp
end Go.Proofs.YthdkbofnplnidaaDoor
