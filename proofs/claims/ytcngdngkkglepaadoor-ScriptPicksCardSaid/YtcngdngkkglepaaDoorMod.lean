/- What a number leaves. -/
import Derived.Test.YtcngdngkkglepaaDoorRowz
import Derived.WalkMore
namespace Go.Proofs.YtcngdngkkglepaaDoor
open Go.ChangeShapes Go.WideShapes Go.ChangeAt Go.RowKit Go.Deep
set_option linter.unusedVariables false
set_option linter.unusedSimpArgs false

def modOf (i n : Int) : Int := if n < 1 then 0 else i % n
theorem tmod_facts (i n : Int) (h : 1 ≤ n) : (0 ≤ Int.tmod i n → Int.tmod i n = i % n) ∧ (Int.tmod i n < 0 → Int.tmod i n + n = i % n) ∧ -n < Int.tmod i n ∧ Int.tmod i n < n := by
  have h0 : 0 ≤ i % n := Int.emod_nonneg _ (by omega)
  have h1 : i % n < n := Int.emod_lt_of_pos _ (by omega)
  rcases Int.le_total 0 i with hi | hi
  · have := Int.tmod_eq_emod_of_nonneg (b := n) hi
    rw [this]
    refine ⟨fun _ => rfl, fun h => ?_, by omega, by omega⟩
    omega
  · have e : Int.tmod i n = -(Int.tmod (-i) n) := by rw [Int.neg_tmod]; simp
    have e2 : Int.tmod (-i) n = (-i) % n := Int.tmod_eq_emod_of_nonneg (by omega)
    have h2 : 0 ≤ (-i) % n := Int.emod_nonneg _ (by omega)
    have h3 : (-i) % n < n := Int.emod_lt_of_pos _ (by omega)
    have h4 : ((-i) % n + i % n) % n = 0 := by
      rw [← Int.add_emod, show -i + i = 0 by omega]
      exact Int.zero_emod n
    rw [e, e2]
    have h5 : (-i) % n + i % n = 0 ∨ (-i) % n + i % n = n := by
      rcases Int.lt_or_le ((-i) % n + i % n) n with h | h
      · left; rw [Int.emod_eq_of_lt (by omega) h] at h4; exact h4
      · right
        have h6 : ((-i) % n + i % n - n) % n = 0 := by rw [Int.sub_emod, h4]; simp
        rw [Int.emod_eq_of_lt (by omega) (by omega)] at h6
        omega
    refine ⟨fun h => by omega, fun h => by omega, by omega, by omega⟩

theorem modOf_pos {i n : Int} (h : 1 ≤ n) : modOf i n = i % n := if_neg (by omega)
theorem modOf_in {i n : Int} (h : 1 ≤ n) : 0 ≤ modOf i n ∧ modOf i n < n := by rw [modOf_pos h]; exact ⟨Int.emod_nonneg _ (by omega), Int.emod_lt_of_pos _ (by omega)⟩
end Go.Proofs.YtcngdngkkglepaaDoor
