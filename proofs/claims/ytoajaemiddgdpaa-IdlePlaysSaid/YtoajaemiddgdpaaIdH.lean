/- One act on both. -/
import Derived.Test.YtoajaemiddgdpaaIdG
import Derived.Deep.RegionHeld3
namespace Go.Proofs.Ytoajaemiddgdpaa
open Go.ChangeShapes Go.WideShapes Go.ChangeAt Go.RowKit Go.Deep
set_option linter.unusedVariables false

/-- The list and the document's list. -/
def Pl (w : World) (L R most : Nat) (A : Option Addr) (c : Nat) (xs : List Nat) : Prop :=
  Il w L R most xs ∧ Rd w 1 A xs.length (ints (idl xs)) ∧ xs.length ≤ c ∧ c ≤ maxLen ∧ ∀ g, blk A = some g → g ≠ L ∧ g ≠ R ∧ g < w.heap.size
def Aft (W W' : World) (L R most : Nat) (e : Ending) : Prop := ∃ (A : Option Addr) (c : Nat) (ys : List Nat), e = .returned (.tuple #[.slice A ys.length c, .bool true]) ∧ Pl W' L R most A c ys ∧ Chg (fun g => g = L ∨ g = R) W W'
theorem Pl.kept {S : Nat → Prop} {w w' : World} {L R most : Nat} {A : Option Addr} {c : Nat} {xs : List Nat} (h : Pl w L R most A c xs) (hc : Chg S w w') (h1 : ¬ S L) (h2 : ¬ S R) (h3 : ∀ g, blk A = some g → ¬ S g) : Pl w' L R most A c xs :=
  ⟨h.1.kept hc h1 h2, h.2.1.kept hc h3, h.2.2.1, h.2.2.2.1, fun g hg => ⟨(h.2.2.2.2 g hg).1, (h.2.2.2.2 g hg).2.1, Nat.lt_of_lt_of_le (h.2.2.2.2 g hg).2.2 hc.size⟩⟩
theorem idl_filt (xs : List Nat) (k : Nat) : filt k (idl xs) = idl (xs.filter (· != k)) := by
  induction xs with
  | nil => rfl
  | cons x t ih =>
    have e : ((x : Int) != (k : Int)) = (x != k) := by
      by_cases h : x = k
      · subst h; simp
      · have : (x : Int) ≠ k := by omega
        rw [bne_iff_ne.2 h, bne_iff_ne.2 this]
    have e2 : idl (x :: t) = (x : Int) :: idl t := rfl
    rw [e2]
    simp only [filt, List.filter_cons] at ih ⊢
    by_cases h : x = k
    · subst h
      simpa using ih
    · have h2 : (x != k) = true := by simpa using h
      simp only [e, h2, if_true, ih]
      rfl
theorem filt_none (xs : List Int) (i : Int) (h : i ∉ xs) : filt i xs = xs := by
  unfold filt
  rw [List.filter_eq_self]
  intro x hx
  have : x ≠ i := fun e => h (e ▸ hx)
  simpa using this
theorem erase_filter (xs : List Nat) (k : Nat) (hn : xs.Nodup) : xs.erase k = xs.filter (· != k) := hn.erase_eq_filter k
/-- The row behind a call of the answer that makes a new one. -/
theorem Pl.of {W w1 w2 : World} {L R most n c : Nat} {A : Option Addr} {ys : List Nat} (hI : Il w2 L R most ys) (hrow : Row w1 W.heap.size 3 1 A n c (ints (idl ys))) (hL : L < W.heap.size) (hR : R < W.heap.size) (hc : Chg (fun g => g = L ∨ g = R) w1 w2) : n = ys.length ∧ Pl w2 L R most A c ys := by
  have hn : n = ys.length := by have := hrow.1; simpa using this.symm
  subst hn
  refine ⟨rfl, hI, (hrow.rd).kept hc (fun g hg => by have := (hrow.blk_lt g hg).1; omega), hrow.2.1, hrow.2.2.1, fun g hg => ?_⟩
  have h1 := hrow.blk_lt g hg
  exact ⟨by omega, by omega, Nat.lt_of_lt_of_le h1.2 hc.size⟩
theorem Pl.tail {w : World} {L R most b o c x : Nat} {t : List Nat} (h : Pl w L R most (some ⟨b, o, none⟩) c (x :: t)) {w' : World} (hI : Il w' L R most t) (hc : Chg (fun g => g = L ∨ g = R) w w') : Pl w' L R most (some ⟨b, o + 1, none⟩) (c - 1) t := by
  obtain ⟨_, hR, hl, hm, hg⟩ := h
  have hg0 := hg b rfl
  refine ⟨hI, ?_, by simp at hl; omega, by omega, fun g e => by cases e; exact ⟨hg0.1, hg0.2.1, Nat.lt_of_lt_of_le hg0.2.2 hc.size⟩⟩
  refine ⟨by simp, fun hp => ⟨b, o + 1, rfl, Nat.lt_of_lt_of_le hg0.2.2 hc.size, fun j u hu => ?_⟩⟩
  obtain ⟨b', o', e, hb, hcell⟩ := hR.2 (by simp)
  cases e
  have := hcell (j + 1) u (by simpa [idl, ints] using hu)
  rw [← Nat.add_assoc] at this
  rw [show o + 1 + j = o + j + 1 by omega]
  exact (hc.cell (p := ⟨b, o + j + 1, none⟩) hb (by rintro (e | e); exact hg0.1 e; exact hg0.2.1 e)).trans this
theorem Pl.tail0 {w : World} {L R most c x : Nat} {A : Option Addr} (h : Pl w L R most A c [x]) {w' : World} (hI : Il w' L R most []) (hc : Chg (fun g => g = L ∨ g = R) w w') : Pl w' L R most A (c - 1) [] :=
  ⟨hI, Rd.nil _ _ _, Nat.zero_le _, by have := h.2.2.2.1; omega, fun g e => ⟨(h.2.2.2.2 g e).1, (h.2.2.2.2 g e).2.1, Nat.lt_of_lt_of_le (h.2.2.2.2 g e).2.2 hc.size⟩⟩
end Go.Proofs.Ytoajaemiddgdpaa
