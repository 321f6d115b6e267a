/- A mended program: what the check says of it (pure). -/
import Derived.Test.YtkpipoicobmjkaaDoorVaS
import Derived.Test.YtkpipoicobmjkaaDoorVaO
namespace Go.Proofs.YtkpipoicobmjkaaDoor
open Go.ChangeShapes Go.WideShapes Go.ChangeAt Go.RowKit Go.Deep
set_option linter.unusedVariables false
set_option linter.unusedSimpArgs false

theorem mendS_get {code : List (List Int)} {safe : List Bool} {n i : Nat} (h : i < n) : (mendS code safe n).getD i false = (safe.getD i false || (decide (0 < i) && wtI (ipart code (i - 1) 0)) || wtI (ipart code i 0)) := by
  unfold mendS
  rw [List.getD_eq_getElem?_getD, List.getElem?_eq_getElem (by simpa using h)]
  simp
theorem getD_out {l : List Bool} {i : Nat} (h : l.length ≤ i) : l.getD i false = false := by
  rw [List.getD_eq_getElem?_getD, List.getElem?_eq_none h]; rfl
theorem list_getD {l l' : List Bool} (hl : l.length = l'.length) (h : ∀ i, i < l.length → l.getD i false = l'.getD i false) : l = l' := by
  apply List.ext_getElem hl
  intro i h1 h2
  have := h i h1
  rwa [List.getD_eq_getElem?_getD, List.getElem?_eq_getElem h1, List.getD_eq_getElem?_getD, List.getElem?_eq_getElem h2] at this
theorem mendS_twice (code : List (List Int)) (safe : List Bool) (n : Nat) : mendS code (mendS code safe n) n = mendS code safe n := by
  refine list_getD (by rw [mendS_len, mendS_len]) fun i hi => ?_
  rw [mendS_len] at hi
  rw [mendS_get hi, mendS_get hi]
  cases safe.getD i false <;> cases decide (0 < i) <;> cases wtI (ipart code (i - 1) 0) <;> cases wtI (ipart code i 0) <;> rfl
theorem fscan_cases (g : Nat → Int) (j k : Nat) : ((fscan g j k).2 = 0 ∧ (fscan g j k).1 = -1 ∧ ∀ i, k ≤ i → i < k + j → g i = 0) ∨ (∃ i, k ≤ i ∧ i < k + j ∧ g i ≠ 0 ∧ fscan g j k = ((i : Int), g i)) := by
  induction j generalizing k with
  | zero => exact .inl ⟨rfl, rfl, fun i h1 h2 => by omega⟩
  | succ j ih =>
    by_cases h : g k = 0
    · rw [fscan_miss g h]
      rcases ih (k + 1) with ⟨h1, h2, h3⟩ | ⟨i, h1, h2, h3, h4⟩
      · refine .inl ⟨h1, h2, fun i hi1 hi2 => ?_⟩
        by_cases e : i = k
        · subst e; exact h
        · exact h3 i (by omega) (by omega)
      · exact .inr ⟨i, by omega, by omega, h3, h4⟩
    · rw [fscan_hit g h]
      exact .inr ⟨k, Nat.le_refl _, by omega, h, rfl⟩
theorem pscan_cases (h : Nat → Int × Int) (j k : Nat) : ((pscan h j k).2.2 = 0 ∧ ∀ i, k ≤ i → i < k + j → (h i).2 = 0) ∨ (∃ i, k ≤ i ∧ i < k + j ∧ (h i).2 ≠ 0 ∧ pscan h j k = ((i : Int), (h i).1, (h i).2)) := by
  induction j generalizing k with
  | zero => exact .inl ⟨rfl, fun i h1 h2 => by omega⟩
  | succ j ih =>
    by_cases e : (h k).2 = 0
    · rw [pscan_miss h e]
      rcases ih (k + 1) with ⟨h1, h3⟩ | ⟨i, h1, h2, h3, h4⟩
      · refine .inl ⟨h1, fun i hi1 hi2 => ?_⟩
        by_cases e' : i = k
        · subst e'; exact e
        · exact h3 i (by omega) (by omega)
      · exact .inr ⟨i, by omega, by omega, h3, h4⟩
    · rw [pscan_hit h e]
      exact .inr ⟨k, Nat.le_refl _, by omega, e, rfl⟩
/-- Nothing wrong at any place: mending leaves the safe places as they are. -/
theorem mendS_ok {code : List (List Int)} {safe : List Bool} {funcs : Nat} (h : (fnF code safe funcs).2 = 0) : safe.length = code.length ∧ mendS code safe code.length = safe := by
  unfold fnF at h
  split at h
  · simp at h
  split at h
  · simp at h
  split at h
  · simp at h
  next h0 h64 hs =>
  have hs : safe.length = code.length := by omega
  refine ⟨hs, ?_⟩
  rcases fscan_cases (wrongAt code safe code.length funcs) code.length 0 with ⟨_, _, hz⟩ | ⟨i, _, _, hne, he⟩
  · have key : ∀ i, i < code.length → wtI (ipart code i 0) = true → safe.getD i false = true ∧ safe.getD (i + 1) false = true := by
      intro i hi hw
      have hz := hz i (Nat.zero_le _) (by omega)
      unfold wrongAt at hz
      simp only at hz
      split at hz
      · next hv => exact absurd hz hv
      · split at hz
        · exact absurd hz (by decide)
        · next hn => 
          have := Classical.not_not.mp (fun h => hn ⟨hw, h⟩)
          exact ⟨this.1, this.2.2⟩
    refine list_getD (by rw [mendS_len, hs]) fun i hi => ?_
    rw [mendS_len] at hi
    rw [mendS_get hi]
    by_cases h1 : wtI (ipart code i 0) = true
    · rw [(key i hi h1).1, h1]; simp
    · rw [Bool.not_eq_true] at h1
      rw [h1]
      by_cases h2 : 0 < i ∧ wtI (ipart code (i - 1) 0) = true
      · have := (key (i - 1) (by omega) h2.2).2
        rw [show i - 1 + 1 = i by omega] at this
        rw [this]; simp
      · have : (decide (0 < i) && wtI (ipart code (i - 1) 0)) = false := by
          cases hd : decide (0 < i) with
          | false => rfl
          | true => 
            cases hw : wtI (ipart code (i - 1) 0) with
            | false => rfl
            | true => exact absurd ⟨of_decide_eq_true hd, hw⟩ h2
        rw [this]; simp
  · rw [he] at h; exact absurd h hne
/-- A mended function is never refused for the length of its safe places. -/
theorem fnF_bad {code : List (List Int)} {safe : List Bool} {funcs : Nat} (h : (fnF code (mendS code safe code.length) funcs).2 = 9) : 0 ≤ (fnF code (mendS code safe code.length) funcs).1 := by
  unfold fnF at h ⊢
  rw [mendS_len] at h ⊢
  split at h
  · simp at h
  split at h
  · simp at h
  split at h
  · next hx => exact absurd rfl hx
  next h0 h64 hs =>
  rw [if_neg h0, if_neg h64, if_neg hs]
  rcases fscan_cases (wrongAt code (mendS code safe code.length) code.length funcs) code.length 0 with ⟨hz, _, _⟩ | ⟨i, _, _, hne, he⟩
  · rw [hz] at h; exact absurd h (by decide)
  · rw [he]; show (0 : Int) ≤ i; omega
/-- A mended function is unsafe at its end alone. -/
theorem fnF_unsafe {code : List (List Int)} {safe : List Bool} {funcs : Nat} (hc : ∀ op a b c n p f, chkI op a b c n p f ≠ 10) (h : (fnF code (mendS code safe code.length) funcs).2 = 10) : (fnF code (mendS code safe code.length) funcs).1 = (code.length : Int) - 1 := by
  unfold fnF at h ⊢
  rw [mendS_len] at h ⊢
  split at h
  · simp at h
  split at h
  · simp at h
  split at h
  · next hx => exact absurd rfl hx
  next h0 h64 hs =>
  rw [if_neg h0, if_neg h64, if_neg hs]
  rcases fscan_cases (wrongAt code (mendS code safe code.length) code.length funcs) code.length 0 with ⟨hz, _, _⟩ | ⟨i, _, hi, hne, he⟩
  · rw [hz] at h; exact absurd h (by decide)
  · rw [he] at h ⊢
    show (i : Int) = _
    have h : wrongAt code (mendS code safe code.length) code.length funcs i = 10 := h
    unfold wrongAt at h
    simp only at h
    split at h
    · exact absurd h (hc _ _ _ _ _ _ _)
    · split at h
      · next hw =>
        obtain ⟨hw1, hw2⟩ := hw
        have hi : i < code.length := by omega
        by_cases hlast : i + 1 < code.length
        · refine absurd ⟨?_, hlast, ?_⟩ hw2
          · rw [mendS_get hi, hw1]; simp
          · rw [mendS_get hlast, Nat.add_sub_cancel, hw1]; simp
        · omega
      · split at h
        · exact absurd h (by decide)
        · exact absurd h (by decide)
theorem chkI_ne (op a b c n p f : Int) : chkI op a b c n p f ≠ 10 := by
  unfold chkI chk
  repeat' split
  all_goals decide
theorem progF_ok {m : Nat} {code : Nat → List (List Int)} {safe : Nat → List Bool} (h : (progF m code safe).2.2 = 0) : ∀ i, i < m → (fnF (code i) (safe i) m).2 = 0 := by
  unfold progF at h
  split at h
  · simp at h
  split at h
  · simp at h
  rcases pscan_cases (fun i => fnF (code i) (safe i) m) m 0 with ⟨_, hz⟩ | ⟨i, _, _, hne, he⟩
  · exact fun i hi => hz i (Nat.zero_le _) (by omega)
  · rw [he] at h; exact absurd h hne
theorem progF_bad {m : Nat} {code : Nat → List (List Int)} {safe : Nat → List Bool} {nc : Nat → Nat} (hl : ∀ i, i < m → (code i).length = nc i) (h : (progF m code (fun i => mendS (code i) (safe i) (nc i))).2.2 = 9) : 0 ≤ (progF m code (fun i => mendS (code i) (safe i) (nc i))).2.1 := by
  unfold progF at h ⊢
  split at h
  · simp at h
  split at h
  · simp at h
  next h0 h16 =>
  rw [if_neg h0, if_neg h16]
  rcases pscan_cases (fun i => fnF (code i) (mendS (code i) (safe i) (nc i)) m) m 0 with ⟨hz, _⟩ | ⟨i, _, hi, hne, he⟩
  · rw [hz] at h; exact absurd h (by decide)
  · rw [he] at h ⊢
    have h : (fnF (code i) (mendS (code i) (safe i) (nc i)) m).2 = 9 := h
    show 0 ≤ (fnF (code i) (mendS (code i) (safe i) (nc i)) m).1
    rw [← hl i (by omega)] at h ⊢
    exact fnF_bad h
theorem progF_unsafe {m : Nat} {code : Nat → List (List Int)} {safe : Nat → List Bool} {nc : Nat → Nat} (hl : ∀ i, i < m → (code i).length = nc i) (h : (progF m code (fun i => mendS (code i) (safe i) (nc i))).2.2 = 10) : ∃ i, i < m ∧ progF m code (fun i => mendS (code i) (safe i) (nc i)) = ((i : Int), (nc i : Int) - 1, 10) := by
  unfold progF at h ⊢
  split at h
  · simp at h
  split at h
  · simp at h
  next h0 h16 =>
  rw [if_neg h0, if_neg h16]
  rcases pscan_cases (fun i => fnF (code i) (mendS (code i) (safe i) (nc i)) m) m 0 with ⟨hz, _⟩ | ⟨i, _, hi, hne, he⟩
  · rw [hz] at h; exact absurd h (by decide)
  · rw [he] at h ⊢
    have h : (fnF (code i) (mendS (code i) (safe i) (nc i)) m).2 = 10 := h
    refine ⟨i, by omega, ?_⟩
    show ((i : Int), (fnF (code i) (mendS (code i) (safe i) (nc i)) m).1, (fnF (code i) (mendS (code i) (safe i) (nc i)) m).2) = _
    rw [h]
    rw [← hl i (by omega)] at h ⊢
    rw [fnF_unsafe chkI_ne h]
theorem PM.congr {W : World} {A : Option Addr} {m : Nat} {Ac : Nat → Option Addr} {nc cc : Nat → Nat} {As : Nat → Option Addr} {ns ns' cs : Nat → Nat} {code : Nat → List (List Int)} {safe safe' : Nat → List Bool} (h : PM W A m Ac nc cc As ns cs code safe) (e : ∀ i, i < m → ns i = ns' i ∧ safe i = safe' i) : PM W A m Ac nc cc As ns' cs code safe' := by
  refine ⟨fun h0 => ?_, fun i hi => ?_, fun i hi => ?_⟩
  · obtain ⟨b, o, e1, hb, hc⟩ := h.cells h0
    exact ⟨b, o, e1, hb, fun i hi => by rw [← (e i hi).1]; exact hc i hi⟩
  · rw [← (e i hi).1, ← (e i hi).2]; exact h.fn i hi
  · rw [← (e i hi).1]; exact h.sz i hi
theorem PM.ok {W : World} {A : Option Addr} {m : Nat} {Ac : Nat → Option Addr} {nc cc : Nat → Nat} {As : Nat → Option Addr} {ns cs : Nat → Nat} {code : Nat → List (List Int)} {safe : Nat → List Bool} (h : PM W A m Ac nc cc As ns cs code safe) (hk : (progF m code safe).2.2 = 0) : PM W A m Ac nc cc As nc cs code (fun i => mendS (code i) (safe i) (nc i)) :=
  h.congr fun i hi => by
    obtain ⟨h1, h2⟩ := mendS_ok (progF_ok hk i hi)
    have h3 := (h.fn i hi).lenc
    have h4 := (h.fn i hi).lens
    exact ⟨by omega, by rw [← h3]; exact h2.symm⟩
end Go.Proofs.YtkpipoicobmjkaaDoor
