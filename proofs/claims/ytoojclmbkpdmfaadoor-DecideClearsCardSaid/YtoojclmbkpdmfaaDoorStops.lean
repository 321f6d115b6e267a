/- Contracts of what a machine decides at a place. -/
import Derived.Test.YtoojclmbkpdmfaaDoorOpens
import Derived.Test.YtoojclmbkpdmfaaDoorPlain
namespace Go.Proofs.YtoojclmbkpdmfaaDoor
open Go.ChangeShapes Go.WideShapes Go.ChangeAt Go.RowKit
set_option linter.unusedVariables false

/-- Is it a place at which a thread may be stopped? -/
def stF (lc ls : Nat) (z : Nat → Bool) (pc : Int) : Bool := decide (0 ≤ pc ∧ pc < lc) && (decide (pc = 0) || (decide (pc < ls) && z pc.toNat))
def proF (lc : Nat) (pc : Int) : Bool := decide (pc = 0) && decide (0 < lc)
def behI (ba so su sp : Bool) : Int := if ba = true then 1 else if su = true then 2 else if (so || sp) = true then 3 else 4
def askB (st pro ar pe : Bool) : Bool := (ar || (pe && pro)) && st
def decI (st pro ar pe ba so su sp : Bool) : Int := if askB st pro ar pe = true then behI ba so su sp else 0

theorem light_any (C A : Option Addr) (lc cc ls cs : Nat) (W : World) : Calls Tryd.prog 6 #[.agg #[.slice C lc cc, .slice A ls cs]] W fun e W' => e = .returned (.bool (decide (lc ≤ 100) && decide (ls ≤ 100))) ∧ Below W.heap.size W W' := by
  by_cases h1 : lc ≤ 100
  · by_cases h2 : ls ≤ 100
    · have d1 : decide ((lc : Int) ≤ 100) = true := decide_eq_true (by omega)
      have d2 : decide ((ls : Int) ≤ 100) = true := decide_eq_true (by omega)
      go_enter Tryd.func6, Tryd.ntmps6
      go_wp2
      go_ret
      exact ⟨by simp [h1, h2], by repeat (first | exact Below.refl _ _ | exact Nat.le_refl _ | refine Below.setCell ?_ ?_ _ | refine Below.alloc ?_ ?_ _ | refine Below.drew ?_ | simp)⟩
    · have d1 : decide ((lc : Int) ≤ 100) = true := decide_eq_true (by omega)
      have d2 : decide ((ls : Int) ≤ 100) = false := decide_eq_false (by omega)
      go_enter Tryd.func6, Tryd.ntmps6
      go_wp2
      go_ret
      exact ⟨by simp [h2], by repeat (first | exact Below.refl _ _ | exact Nat.le_refl _ | refine Below.setCell ?_ ?_ _ | refine Below.alloc ?_ ?_ _ | refine Below.drew ?_ | simp)⟩
  · have d1 : decide ((lc : Int) ≤ 100) = false := decide_eq_false (by omega)
    go_enter Tryd.func6, Tryd.ntmps6
    go_wp2
    go_ret
    exact ⟨by simp [h1], by repeat (first | exact Below.refl _ _ | exact Nat.le_refl _ | refine Below.setCell ?_ ?_ _ | refine Below.alloc ?_ ?_ _ | refine Below.drew ?_ | simp)⟩
theorem pro_any (C A : Option Addr) (lc cc ls cs : Nat) (pc : Int) (W : World) : Calls Tryd.prog 16 #[.agg #[.slice C lc cc, .slice A ls cs], .int .i64 pc] W fun e W' => e = .returned (.bool (proF lc pc)) ∧ Below W.heap.size W W' := by
  by_cases h1 : pc = 0
  · subst h1
    by_cases h2 : 0 < lc
    · have d2 : decide (0 < (lc : Int)) = true := decide_eq_true (by omega)
      go_enter Tryd.func16, Tryd.ntmps16
      go_wp2
      go_ret
      exact ⟨by simp [proF, h2], by repeat (first | exact Below.refl _ _ | exact Nat.le_refl _ | refine Below.setCell ?_ ?_ _ | refine Below.alloc ?_ ?_ _ | refine Below.drew ?_ | simp)⟩
    · obtain rfl : lc = 0 := by omega
      go_enter Tryd.func16, Tryd.ntmps16
      go_wp2
      go_ret
      exact ⟨by simp [proF], by repeat (first | exact Below.refl _ _ | exact Nat.le_refl _ | refine Below.setCell ?_ ?_ _ | refine Below.alloc ?_ ?_ _ | refine Below.drew ?_ | simp)⟩
  · have d1 : (pc == 0) = false := by simpa using h1
    go_enter Tryd.func16, Tryd.ntmps16
    go_wp2
    go_ret
    exact ⟨by simp [proF, h1], by repeat (first | exact Below.refl _ _ | exact Nat.le_refl _ | refine Below.setCell ?_ ?_ _ | refine Below.alloc ?_ ?_ _ | refine Below.drew ?_ | simp)⟩
theorem stops_any (C A : Option Addr) (lc cc ls cs : Nat) (z : Nat → Bool) (pc : Int) (W : World) (hT : Truths W A ls z) (hlc : lc ≤ maxLen) : Calls Tryd.prog 17 #[.agg #[.slice C lc cc, .slice A ls cs], .int .i64 pc] W fun e W' => e = .returned (.bool (stF lc ls z pc)) ∧ Below W.heap.size W W' := by
  have hls := hT.1
  unfold maxLen at hlc hls
  by_cases h0 : pc < 0
  · go_enter Tryd.func17, Tryd.ntmps17
    go_wp2
    go_ret
    have hst : stF lc ls z pc = false := by unfold stF; rw [decide_eq_false (by omega)]; rfl
    exact ⟨by rw [hst]; first | done | rfl, by repeat (first | exact Below.refl _ _ | exact Nat.le_refl _ | refine Below.setCell ?_ ?_ _ | refine Below.alloc ?_ ?_ _ | refine Below.drew ?_ | simp)⟩
  by_cases h1 : (lc : Int) ≤ pc
  · have d1 : decide ((lc : Int) ≤ pc) = true := decide_eq_true h1
    go_enter Tryd.func17, Tryd.ntmps17
    go_wp2
    go_ret
    have hst : stF lc ls z pc = false := by unfold stF; rw [decide_eq_false (by omega)]; rfl
    exact ⟨by rw [hst]; first | done | rfl, by repeat (first | exact Below.refl _ _ | exact Nat.le_refl _ | refine Below.setCell ?_ ?_ _ | refine Below.alloc ?_ ?_ _ | refine Below.drew ?_ | simp)⟩
  by_cases h2 : pc = 0
  · subst h2
    have d1 : decide ((lc : Int) ≤ 0) = false := decide_eq_false (by omega)
    go_enter Tryd.func17, Tryd.ntmps17
    go_wp2
    go_ret
    have hst : stF lc ls z 0 = true := by unfold stF; rw [decide_eq_true (by omega)]; rfl
    exact ⟨by rw [hst]; first | done | rfl, by repeat (first | exact Below.refl _ _ | exact Nat.le_refl _ | refine Below.setCell ?_ ?_ _ | refine Below.alloc ?_ ?_ _ | refine Below.drew ?_ | simp)⟩
  have d1 : decide ((lc : Int) ≤ pc) = false := decide_eq_false (by omega)
  have d2 : (pc == 0) = false := by simpa using h2
  by_cases h3 : pc < (ls : Int)
  · obtain ⟨b, o, rfl, hlt, hc⟩ := hT.2 (by omega)
    obtain ⟨k, rfl⟩ : ∃ k : Nat, pc = (k : Int) := ⟨pc.toNat, by omega⟩
    have e0 := hc k (by omega)
    have d3 : decide ((k : Int) < (ls : Int)) = true := decide_eq_true h3
    have hne : b ≠ W.heap.size := by omega
    have hk0 : 0 ≤ (k : Int) := by omega
    have hst : stF lc ls z (k : Int) = z k := by
      have a1 : (0 ≤ (k : Int) ∧ (k : Int) < (lc : Int)) := ⟨by omega, by omega⟩
      have a2 : ¬ ((k : Int) = 0) := h2
      have a4 : k < lc := by omega
      have a5 : k ≠ 0 := by omega
      have a6 : k < ls := by omega
      simp [stF, a4, a5, a6]
    clear hc hT
    go_enter Tryd.func17, Tryd.ntmps17
    go_wp2
    go_ret
    exact ⟨rfl, by repeat (first | exact Below.refl _ _ | exact Nat.le_refl _ | refine Below.setCell ?_ ?_ _ | refine Below.alloc ?_ ?_ _ | refine Below.drew ?_ | simp)⟩
  · have d3 : decide (pc < (ls : Int)) = false := decide_eq_false h3
    go_enter Tryd.func17, Tryd.ntmps17
    go_wp2
    go_ret
    have hst : stF lc ls z pc = false := by
      unfold stF
      have a1 : decide (pc = 0) = false := decide_eq_false h2
      rw [a1, d3]
      simp
    exact ⟨by rw [hst]; first | done | rfl, by repeat (first | exact Below.refl _ _ | exact Nat.le_refl _ | refine Below.setCell ?_ ?_ _ | refine Below.alloc ?_ ?_ _ | refine Below.drew ?_ | simp)⟩
theorem behind_any (ar pe ba so su sp : Bool) (W : World) : Calls Tryd.prog 11 #[.agg #[.bool ar, .bool pe, .bool ba, .bool so, .bool su, .bool sp]] W fun e W' => e = .returned (.int .i64 (behI ba so su sp)) ∧ Below W.heap.size W W' := by
  cases ba <;> cases su <;> cases so <;> cases sp
  all_goals go_enter Tryd.func11, Tryd.ntmps11
  all_goals go_wp2
  all_goals go_ret
  all_goals exact ⟨rfl, by repeat (first | exact Below.refl _ _ | exact Nat.le_refl _ | refine Below.setCell ?_ ?_ _ | refine Below.alloc ?_ ?_ _ | refine Below.drew ?_ | simp)⟩
end Go.Proofs.YtoojclmbkpdmfaaDoor
