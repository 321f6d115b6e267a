/- A stretch of a row of ints that the call owns is written anew. -/
import Derived.Test.YtifflhombjljbaaRset
import Derived.Lib.SortBridge
namespace Go.Proofs.Ytifflhombjljbaa
open Go.ChangeShapes Go.WideShapes Go.ChangeAt Go.RowKit Go.Deep Go.Sort
set_option linter.unusedVariables false

def setl : List Int → Nat → List Int → List Int
  | zs, _, [] => zs
  | zs, o, y :: r => setl (zs.set o y) (o + 1) r
theorem setl_len : ∀ (ys zs : List Int) (o : Nat), (setl zs o ys).length = zs.length
  | [], zs, o => rfl
  | y :: r, zs, o => by rw [setl, setl_len]; simp
theorem setl_all : ∀ (ys zs : List Int) (o : Nat), o + ys.length ≤ zs.length → setl zs o ys = zs.take o ++ ys ++ zs.drop (o + ys.length)
  | [], zs, o, h => by simp [setl]
  | y :: r, zs, o, h => by
    simp only [List.length_cons] at h
    rw [setl, setl_all r (zs.set o y) (o + 1) (by simp; omega)]
    have e1 : (zs.set o y).take (o + 1) = zs.take o ++ [y] := by
      rw [List.take_succ_eq_append_getElem (by simp; omega), List.take_set_of_le (Nat.le_refl _)]
      simp
    have e2 : (zs.set o y).drop (o + 1 + r.length) = zs.drop (o + (y :: r).length) := by
      rw [List.drop_set_of_lt (by omega)]
      congr 1
      simp; omega
    rw [e1, e2]
    simp
section
variable {w : World} {base n c G : Nat} {E : TypeId} {zs : List Int}
theorem Row.setCells : ∀ (ys : List Int) (zs : List Int) (o : Nat) (w : World), Row w base E 1 (some ⟨G, 0, none⟩) n c (ints zs) → Row (w.setCells G o (ints ys)) base E 1 (some ⟨G, 0, none⟩) n c (ints (setl zs o ys))
  | [], zs, o, w, h => h
  | y :: r, zs, o, w, h => Row.setCells r _ (o + 1) _ (h.set y)
theorem chg_setCells : ∀ (vs : List Value) (o : Nat) (w : World), Chg (fun g => g = G) w (w.setCells G o vs)
  | [], o, w => Chg.refl _ _
  | v :: r, o, w => ((Chg.refl (fun g => g = G) w).setCell (p := ⟨G, o, none⟩) (.inl rfl) v).trans (chg_setCells r (o + 1) _) (fun _ _ h => h)
end
end Go.Proofs.Ytifflhombjljbaa
