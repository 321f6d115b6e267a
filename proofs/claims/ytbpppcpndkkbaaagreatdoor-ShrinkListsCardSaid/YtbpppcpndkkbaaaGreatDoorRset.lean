/- A store into an owned row of ints. -/
import Derived.Test.YtbpppcpndkkbaaaGreatDoorRapp
namespace Go.Proofs.YtbpppcpndkkbaaaGreatDoor
open Go.ChangeShapes Go.WideShapes Go.ChangeAt Go.RowKit Go.Deep
set_option linter.unusedVariables false

/-- A store into an owned row. -/
theorem Row.set {w : World} {base n c G k : Nat} {E : TypeId} {ys : List Int} (h : Row w base E 1 (some ⟨G, 0, none⟩) n c (ints ys)) (v : Int) : Row (w.setCell ⟨G, k, none⟩ (.int .i64 v)) base E 1 (some ⟨G, 0, none⟩) n c (ints (ys.set k v)) := by
  obtain ⟨h0, h1, h2, h3⟩ := h
  refine ⟨by simpa using h0, h1, h2, ?_⟩
  rcases h3 with ⟨h3, _⟩ | ⟨g, cur, hg, hb, hB, hs, ht⟩
  · cases h3
  · have e : g = G := by injection hg with hg; injection hg with hg; exact hg.symm
    subst e
    refine .inr ⟨g, cur.setIfInBounds k (.int .i64 v), rfl, hb, hB.set_ k _, by simpa using hs, ?_⟩
    rw [Array.toList_setIfInBounds, List.take_set, ht]
    simp [ints, List.map_set]
theorem Row.frozenAt {w : World} {base n c G : Nat} {E : TypeId} {xs : List Value} (h : Row w base E 1 (some ⟨G, 0, none⟩) n c xs) (k : Nat) : w.frozen? ⟨G, k, none⟩ = false := by
  obtain ⟨_, _, _, h3⟩ := h
  rcases h3 with ⟨h3, _⟩ | ⟨g, cur, hg, hb, hB, hs, ht⟩
  · cases h3
  · have e : g = G := by injection hg with hg; injection hg with hg; exact hg.symm
    subst e
    exact hB.frozen k

theorem Row.at_ {w : World} {base n c G : Nat} {E : TypeId} {l : List Int} (h : Row w base E 1 (some ⟨G, 0, none⟩) n c (ints l)) (k : Nat) (hk : k < l.length) : w.cell? ⟨G, k, none⟩ = some (.int .i64 (l.getD k 0)) := by
  obtain ⟨b, o, e, _, hc⟩ := h.rd.2 (by have := h.1; simp at this; omega)
  cases e
  have := hc k _ (ints_get l k hk)
  rw [Nat.zero_add] at this
  rw [this]
  simp [List.getD, hk]
end Go.Proofs.YtbpppcpndkkbaaaGreatDoor
