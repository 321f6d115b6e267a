/- Plain facts: lists that rise, and inserting into one. -/
import Derived.Test.YtfceebbbhjjnaaaBase
import Derived.Lib.SlicesCompact
namespace Go.Proofs.Ytfceebbbhjjnaaa
set_option linter.unusedVariables false

def Up (xs : List Int) : Prop := xs.Pairwise (· < ·)
theorem Up.nil : Up [] := List.Pairwise.nil
theorem Up.snoc {xs : List Int} {v : Int} (h : Up xs) (hv : ∀ x ∈ xs, x < v) : Up (xs ++ [v]) := by
  unfold Up
  rw [List.pairwise_append]
  exact ⟨h, List.pairwise_singleton _ _, fun a ha b hb => (List.mem_singleton.1 hb) ▸ hv a ha⟩
theorem Up.lt {xs : List Int} (h : Up xs) {i j : Nat} (hi : i < xs.length) (hj : j < xs.length) (hij : i < j) : xs[i] < xs[j] := List.pairwise_iff_getElem.1 h i j hi hj hij
theorem Up.same : ∀ {xs ys : List Int}, Up xs → Up ys → (∀ z, z ∈ xs ↔ z ∈ ys) → xs = ys
  | [], [], _, _, _ => rfl
  | [], y :: s, _, _, h => absurd ((h y).2 (by simp)) (by simp)
  | x :: t, [], _, _, h => absurd ((h x).1 (by simp)) (by simp)
  | x :: t, y :: s, h1, h2, h => by
    obtain ⟨a1, a2⟩ := List.pairwise_cons.1 h1
    obtain ⟨b1, b2⟩ := List.pairwise_cons.1 h2
    have e : x = y := by
      rcases List.mem_cons.1 ((h x).1 (by simp)) with e | e
      · exact e
      · rcases List.mem_cons.1 ((h y).2 (by simp)) with e' | e'
        · exact e'.symm
        · have := b1 x e; have := a1 y e'; omega
    subst e
    congr 1
    refine Up.same a2 b2 (fun z => ⟨fun hz => ?_, fun hz => ?_⟩)
    · rcases List.mem_cons.1 ((h z).1 (by simp [hz])) with e | e
      · subst e; have := a1 z hz; omega
      · exact e
    · rcases List.mem_cons.1 ((h z).2 (by simp [hz])) with e | e
      · subst e; have := b1 z hz; omega
      · exact e
/-- A number, ahead of the first that is not below it. -/
def ins (xs : List Int) (v : Int) : List Int := xs.takeWhile (fun x => decide (x < v)) ++ [v] ++ xs.dropWhile (fun x => decide (x < v))
theorem ins_mem (xs : List Int) (v z : Int) : z ∈ ins xs v ↔ z = v ∨ z ∈ xs := by
  have h := List.takeWhile_append_dropWhile (p := fun x => decide (x < v)) (l := xs)
  unfold ins
  constructor
  · intro hz
    simp only [List.mem_append, List.mem_singleton] at hz
    rcases hz with (hz | hz) | hz
    · right; rw [← h]; exact List.mem_append.2 (.inl hz)
    · exact .inl hz
    · right; rw [← h]; exact List.mem_append.2 (.inr hz)
  · intro hz
    simp only [List.mem_append, List.mem_singleton]
    rcases hz with hz | hz
    · exact .inl (.inr hz)
    · rw [← h] at hz
      rcases List.mem_append.1 hz with hz | hz
      · exact .inl (.inl hz)
      · exact .inr hz
theorem ins_len (xs : List Int) (v : Int) : (ins xs v).length = xs.length + 1 := by
  have h := congrArg List.length (List.takeWhile_append_dropWhile (p := fun x => decide (x < v)) (l := xs))
  rw [List.length_append] at h
  simp only [ins, List.length_append, List.length_singleton]
  omega
theorem ins_up {xs : List Int} {v : Int} (h : Up xs) (hv : v ∉ xs) : Up (ins xs v) := by
  induction xs with
  | nil => exact List.pairwise_singleton _ _
  | cons x t ih =>
    obtain ⟨a1, a2⟩ := List.pairwise_cons.1 h
    have hx : x ≠ v := fun e => hv (by simp [e])
    have ht : v ∉ t := fun e => hv (by simp [e])
    by_cases hlt : x < v
    · have e : ins (x :: t) v = x :: ins t v := by simp [ins, hlt]
      rw [e]
      refine List.pairwise_cons.2 ⟨fun z hz => ?_, ih a2 ht⟩
      rcases (ins_mem t v z).1 hz with e | e
      · subst e; exact hlt
      · exact a1 z e
    · have e : ins (x :: t) v = v :: x :: t := by simp [ins, hlt]
      rw [e]
      refine List.pairwise_cons.2 ⟨fun z hz => ?_, h⟩
      rcases List.mem_cons.1 hz with e | e
      · subst e; omega
      · have := a1 z e; omega
/-- How far those below v go. -/
theorem take_at {xs : List Int} {v : Int} {k : Nat} (hk : k ≤ xs.length) (hlow : ∀ j (h : j < xs.length), j < k → xs[j] < v) (hend : ∀ h : k < xs.length, ¬ xs[k] < v) : xs.takeWhile (fun x => decide (x < v)) = xs.take k ∧ xs.dropWhile (fun x => decide (x < v)) = xs.drop k := by
  induction xs generalizing k with
  | nil => simp at hk; subst hk; simp
  | cons x t ih =>
    cases k with
    | zero =>
      have := hend (by simp)
      simp at this
      simp [show ¬ x < v by omega]
    | succ k =>
      have h0 := hlow 0 (by simp) (by omega)
      simp at h0
      obtain ⟨e1, e2⟩ := ih (k := k) (by simpa using hk) (fun j h hj => hlow (j + 1) (by simpa using h) (by omega)) (fun h => hend (by simpa using h))
      simp [h0, e1, e2]
theorem ins_at {xs : List Int} {v : Int} {k : Nat} (hk : k ≤ xs.length) (hlow : ∀ j (h : j < xs.length), j < k → xs[j] < v) (hend : ∀ h : k < xs.length, ¬ xs[k] < v) : ins xs v = xs.take k ++ [v] ++ xs.drop k := by
  obtain ⟨e1, e2⟩ := take_at hk hlow hend
  rw [ins, e1, e2]
/-- In order, each once. -/
def srt (xs : List Int) : List Int := xs.mergeSort fun x y => decide (x ≤ y)
@[simp] theorem srt_len (xs : List Int) : (srt xs).length = xs.length := by simp [srt]
theorem srt_mem (xs : List Int) (z : Int) : z ∈ srt xs ↔ z ∈ xs := (List.mergeSort_perm xs _).mem_iff
theorem srt_up (xs : List Int) : (srt xs).Pairwise (· ≤ ·) := by
  have h := List.pairwise_mergeSort (le := fun x y : Int => decide (x ≤ y)) (fun a b c h1 h2 => by simp at *; omega) (fun a b => by simp; omega) xs
  exact h.imp (fun h => by simpa using h)
theorem compact_upto {zs : List Int} (h : zs.Pairwise (· ≤ ·)) : ∀ m, m ≤ zs.length → Up (Lib.compactUpTo zs.toArray m) ∧ (∀ x ∈ Lib.compactUpTo zs.toArray m, ∃ j, j < m ∧ zs.getD j 0 = x) ∧ (∀ j, j < m → zs.getD j 0 ∈ Lib.compactUpTo zs.toArray m)
  | 0, _ => ⟨by simp [Lib.compactUpTo, Up], by simp [Lib.compactUpTo], fun j hj => absurd hj (by omega)⟩
  | m + 1, hm => by
    obtain ⟨i1, i2, i3⟩ := compact_upto h m (by omega)
    have hget : ∀ j, j < zs.length → zs.toArray[j]! = zs.getD j 0 := fun j hj => by rw [getElem!_pos _ j (by simpa using hj)]; simp [List.getD, hj]
    have hle : ∀ i j, i < j → j < zs.length → zs.getD i 0 ≤ zs.getD j 0 := fun i j hij hj => by
      have := List.pairwise_iff_getElem.1 h i j (by omega) hj hij
      simpa [List.getD, hj, show i < zs.length by omega] using this
    rw [Lib.compactUpTo_succ]
    by_cases hk : Lib.keeps zs.toArray m = true
    · rw [if_pos hk, hget m (by omega)]
      refine ⟨i1.snoc (fun x hx => ?_), fun x hx => ?_, fun j hj => ?_⟩
      · obtain ⟨j, hj, rfl⟩ := i2 x hx
        have h0 : m ≠ 0 := by omega
        have hne : zs.toArray[m]! ≠ zs.toArray[m - 1]! := by simpa [Lib.keeps, h0] using hk
        rw [hget m (by omega), hget (m - 1) (by omega)] at hne
        have := hle (m - 1) m (by omega) (by omega)
        by_cases hj2 : j = m - 1
        · subst hj2; omega
        · have := hle j (m - 1) (by omega) (by omega); omega
      · rcases List.mem_append.1 hx with hx | hx
        · obtain ⟨j, hj, e⟩ := i2 x hx; exact ⟨j, by omega, e⟩
        · exact ⟨m, by omega, by simpa using (List.mem_singleton.1 hx).symm⟩
      · by_cases hjm : j = m
        · subst hjm; simp
        · exact List.mem_append.2 (.inl (i3 j (by omega)))
    · rw [if_neg hk, List.append_nil]
      refine ⟨i1, fun x hx => ?_, fun j hj => ?_⟩
      · obtain ⟨j, hj, e⟩ := i2 x hx; exact ⟨j, by omega, e⟩
      · by_cases hjm : j = m
        · subst hjm
          have h2 : ¬ (j = 0 ∨ zs.toArray[j]! ≠ zs.toArray[j - 1]!) := by simpa [Lib.keeps] using hk
          have h3 : j ≠ 0 := fun e => h2 (.inl e)
          have h4 : zs.toArray[j]! = zs.toArray[j - 1]! := Classical.byContradiction fun e => h2 (.inr e)
          rw [hget j (by omega), hget (j - 1) (by omega)] at h4
          rw [h4]
          exact i3 (j - 1) (by omega)
        · exact i3 j (by omega)
theorem getD_get (l : List Int) (j : Nat) (hj : j < l.length) : l.getD j 0 = l[j] := by simp [List.getD, hj]
theorem compact_srt (xs : List Int) : Up (Lib.compact (srt xs)) ∧ ∀ z, z ∈ Lib.compact (srt xs) ↔ z ∈ xs := by
  obtain ⟨h1, h2, h3⟩ := compact_upto (srt_up xs) (srt xs).length (Nat.le_refl _)
  refine ⟨h1, fun z => ?_⟩
  rw [← srt_mem xs z]
  constructor
  · intro hz
    obtain ⟨j, hj, rfl⟩ := h2 z hz
    rw [getD_get _ j hj]
    exact List.getElem_mem hj
  · intro hz
    obtain ⟨j, hj, rfl⟩ := List.getElem_of_mem hz
    have := h3 j hj
    rw [getD_get _ j hj] at this
    exact this
theorem compact_le (xs : List Int) : (Lib.compact xs).length ≤ xs.length := by
  unfold Lib.compact Lib.compactUpTo
  rw [List.length_map]
  exact Nat.le_trans (List.length_filter_le _ _) (by simp)
end Go.Proofs.Ytfceebbbhjjnaaa
