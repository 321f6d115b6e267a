/- Contract: slices.Reverse of a row of ints of the call's own. -/
import Derived.Test.YtifflhombjljbaaRapp
import Derived.BigRegion
namespace Go.Proofs.Ytifflhombjljbaa
open Go.ChangeShapes Go.WideShapes Go.ChangeAt Go.RowKit Go.Deep
set_option linter.unusedVariables false

/-- A store into an owned row. -/
theorem Row.set {w : World} {base n c G k : Nat} {E : TypeId} {ys : List Int} (h : Row w base E 1 (some ⟨G, 0, none⟩) n c (ints ys)) (v : Int) : Row (w.setCell ⟨G, k, none⟩ (.int .i64 v)) base E 1 (some ⟨G, 0, none⟩) n c (ints (ys.set k v)) := by
  obtain ⟨h0, h1, h2, h3⟩ := h
  refine ⟨by simpa using h0, h1, h2, ?_⟩
  rcases h3 with ⟨h3, _⟩ | ⟨g, cur, hg, hb, hB, hs, ht⟩
  · cases h3
  · have e : g = G := by injection hg with hg; injection hg with hg; exact hg.symm
    subst e
    refine .inr ⟨g, cur.setIfInBounds k (.int .i64 v), rfl, hb, hB.set_ k _, by simpa using hs, ?_⟩
    rw [Array.toList_setIfInBounds, List.take_set, ht]
    simp [ints, List.map_set]
theorem Row.frozenAt {w : World} {base n c G : Nat} {E : TypeId} {xs : List Value} (h : Row w base E 1 (some ⟨G, 0, none⟩) n c xs) (k : Nat) : w.frozen? ⟨G, k, none⟩ = false := by
  obtain ⟨_, _, _, h3⟩ := h
  rcases h3 with ⟨h3, _⟩ | ⟨g, cur, hg, hb, hB, hs, ht⟩
  · cases h3
  · have e : g = G := by injection hg with hg; injection hg with hg; exact hg.symm
    subst e
    exact hB.frozen k

/-- The row when k pairs have been changed. -/
def Half (xs ys : List Int) (k : Nat) : Prop := ys.length = xs.length ∧ ∀ t, t < xs.length → ys[t]? = if t < k ∨ xs.length ≤ t + k then xs[xs.length - 1 - t]? else xs[t]?
theorem Half.zero (xs : List Int) : Half xs xs 0 := ⟨rfl, fun t ht => by rw [if_neg (by omega)]⟩
theorem Half.step {xs ys : List Int} {k j : Nat} {a b : Int} (h : Half xs ys k) (hj : j + k + 1 = xs.length) (hkj : k < j) (ha : ys[k]? = some a) (hb : ys[j]? = some b) : Half xs ((ys.set k b).set j a) (k + 1) := by
  obtain ⟨h1, h2⟩ := h
  refine ⟨by simpa using h1, fun t ht => ?_⟩
  have ek := h2 k (by omega)
  have ej := h2 j (by omega)
  rw [if_neg (by omega)] at ek ej
  rw [ha] at ek
  rw [hb] at ej
  by_cases h3 : t = j
  · subst h3
    rw [List.getElem?_set_self (by simp; omega), if_pos (by omega)]
    rw [ek]; congr 1; omega
  · rw [List.getElem?_set_ne (by omega)]
    by_cases h4 : t = k
    · subst h4
      rw [List.getElem?_set_self (by omega), if_pos (by omega)]
      rw [ej]; congr 1; omega
    · rw [List.getElem?_set_ne (by omega), h2 t ht]
      by_cases h5 : t < k ∨ xs.length ≤ t + k
      · rw [if_pos h5, if_pos (by omega)]
      · rw [if_neg h5, if_neg (by omega)]
theorem Half.done {xs ys : List Int} {k : Nat} (h : Half xs ys k) (hk : xs.length ≤ 2 * k + 1) : ys = xs.reverse := by
  obtain ⟨h1, h2⟩ := h
  apply List.ext_getElem? 
  intro t
  rcases Nat.lt_or_ge t xs.length with ht | ht
  · rw [h2 t ht, List.getElem?_reverse ht]
    split
    · rfl
    · congr 1; omega
  · rw [List.getElem?_eq_none (by omega), List.getElem?_eq_none (by simp; omega)]

def RoundR (W : World) (base : Nat) (A : Option Addr) (c : Nat) (xs : List Int) (iv jv : Value) (wr : World) : Prop :=
  ∃ (k : Nat) (jz : Int) (ys : List Int), k ≤ xs.length ∧ iv = .int .i64 k ∧ jv = .int .i64 jz ∧ Hid (jz = (xs.length : Int) - 1 - k) ∧ Half xs ys k ∧ Row wr base 3 1 A xs.length c (ints ys) ∧ Chg (fun k => blk A = some k) W wr

set_option maxHeartbeats 4000000 in
theorem reverse_any (base : Nat) (A : Option Addr) (n c : Nat) (xs : List Int) (W : World) (hA : Row W base 3 1 A n c (ints xs)) (hm : n ≤ 1000000) :
    Calls Try.prog 25 #[.slice A n c] W fun e W' => e = .returned (.tuple #[]) ∧ Row W' base 3 1 A n c (ints xs.reverse) ∧ Chg (fun k => blk A = some k) W W' := by
  have hn := hA.rd.len
  subst hn
  go_enter Try.func25, Try.ntmps25
  go_wp2
  go_loopw [2, 3] (fun iv jv wr => RoundR W base A c xs iv jv wr) (fun iv _ _ => xs.length - (intOf iv).toNat)
  case atStart => exact ⟨0, _, xs, Nat.zero_le _, rfl, rfl, (show (xs.length : Int) - 1 = (xs.length : Int) - 1 - ((0 : Nat) : Int) by omega), Half.zero xs, hA, Chg.refl _ _⟩
  case round =>
    clear hA
    obtain ⟨k, jz, ys, hk, rfl, rfl, hjz, hH, hrow, hc⟩ := hrel
    have hjz' := hjz.out
    by_cases hlt : (k : Int) < jz
    · obtain ⟨j, hj⟩ : ∃ j : Nat, jz = j := ⟨jz.toNat, by omega⟩
      subst hj
      have hj2 : j + k + 1 = xs.length := by omega
      have hkj : k < j := by omega
      have hyl := hH.1
      obtain ⟨G, rfl, hbG, hGl⟩ := (show ∃ G, A = some ⟨G, 0, none⟩ ∧ base ≤ G ∧ G < wr.heap.size by
        rcases hrow.2.2.2 with ⟨_, h0, _⟩ | ⟨g, cur, rfl, hb, hg, _⟩
        · omega
        · exact ⟨g, rfl, hb, hg.lt⟩)
      obtain ⟨b9, o9, ho9, _, hc9⟩ := hrow.rd.at_ (by omega)
      cases ho9
      have e1 := hc9 k (by omega)
      have e2 := hc9 j (by omega)
      have g1 : ys[k]? = some (ys[k]'(by omega)) := List.getElem?_eq_getElem (by omega)
      have g2 : ys[j]? = some (ys[j]'(by omega)) := List.getElem?_eq_getElem (by omega)
      generalize ys[k]'(by omega) = a at e1 g1
      generalize ys[j]'(by omega) = b at e2 g2
      simp only [Nat.zero_add] at e1 e2
      have hst := Lib.hid (hH.step hj2 hkj g1 g2)
      have f1 := hrow.frozenAt k
      have f2 := hrow.frozenAt j
      have hi1 : (k : Int) < (xs.length : Int) := by omega
      have hi2 : (j : Int) < (xs.length : Int) := by omega
      have hi3 : (0 : Int) ≤ (k : Int) := by omega
      have hi4 : (0 : Int) ≤ (j : Int) := by omega
      have hne : k ≠ j := by omega
      have hne' : j ≠ k := by omega
      clear hc9 g1 g2 hjz' hyl
      go_wp2
      go_region
      all_goals
        go_wp2
        go_roundw
        case rel => exact ⟨k + 1, (j : Int) - 1, _, by omega, by go_num, rfl, (show (j : Int) - 1 = (xs.length : Int) - 1 - ((k + 1 : Nat) : Int) by omega), hst.out, ((hrow.set b).set a).drew, ((hc.setCell (p := ⟨G, k, none⟩) (.inl rfl) _).setCell (p := ⟨G, j, none⟩) (.inl rfl) _).drew⟩
        case measure => simp [intOf]; omega
    · go_wp2
      go_end0
      have := hH.done (by omega)
      subst this
      exact ⟨rfl, hrow, hc⟩
end Go.Proofs.Ytifflhombjljbaa
