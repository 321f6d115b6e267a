/- Parts of a row that is read. -/
import Derived.Test.YtfceebbbhjjnaaaRapp
namespace Go.Proofs.Ytfceebbbhjjnaaa
open Go.ChangeShapes Go.WideShapes Go.ChangeAt Go.RowKit Go.Deep
set_option linter.unusedVariables false

theorem Rd.take_ {w : World} {A : Option Addr} {n k : Nat} {xs : List Int} (h : Rd w 1 A n (ints xs)) (hk : k ≤ n) : Rd w 1 A k (ints (xs.take k)) := by
  have hn := h.len
  refine ⟨by simp; omega, fun h0 => ?_⟩
  obtain ⟨b, o, e, hb, hc⟩ := h.2 (by omega)
  refine ⟨b, o, e, hb, fun j u hu => hc j u ?_⟩
  rw [← ints_take, List.getElem?_take] at hu
  split at hu
  · exact hu
  · cases hu
theorem Rd.drop_ {w : World} {b o n k : Nat} {xs : List Int} (h : Rd w 1 (some ⟨b, o, none⟩) n (ints xs)) (hk : k ≤ n) : Rd w 1 (some ⟨b, o + k, none⟩) (n - k) (ints (xs.drop k)) := by
  have hn := h.len
  refine ⟨by simp; omega, fun h0 => ?_⟩
  obtain ⟨b', o', e, hb, hc⟩ := h.2 (by omega)
  cases e
  refine ⟨b, o + k, rfl, hb, fun j u hu => ?_⟩
  rw [Nat.add_assoc]
  refine hc (k + j) u ?_
  rw [← ints_drop, List.getElem?_drop] at hu
  exact hu
/-- The tail behind number k, as the model spells its address. -/
theorem Rd.tail_ {w : World} {b o n c k : Nat} {xs : List Int} (h : Rd w 1 (some ⟨b, o, none⟩) n (ints xs)) (hk : k ≤ n) (hc : n ≤ c) : Rd w 1 (if c = k then some ⟨b, o, none⟩ else some ⟨b, o + k, none⟩) (n - k) (ints (xs.drop k)) := by
  split
  · have hn := h.len
    have : n - k = 0 := by omega
    rw [this, List.drop_of_length_le (by omega)]
    exact Rd.nil _ _ _
  · exact h.drop_ hk

end Go.Proofs.Ytfceebbbhjjnaaa
