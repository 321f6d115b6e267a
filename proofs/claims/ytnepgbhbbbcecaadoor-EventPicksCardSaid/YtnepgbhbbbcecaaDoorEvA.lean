/- The op at an event's place, by the program and by the document. -/
import Derived.Test.YtnepgbhbbbcecaaDoorPmB
import Derived.Deep.QuietTactic
import Derived.BigQuiet
namespace Go.Proofs.YtnepgbhbbbcecaaDoor
open Go.ChangeShapes Go.WideShapes Go.ChangeAt Go.RowKit Go.Deep
set_option linter.unusedVariables false
set_option linter.unusedSimpArgs false

def opAt (m : Nat) (nc : Nat → Nat) (code : Nat → List (List Int)) (f pc : Int) : Int :=
  if 0 ≤ f ∧ f < m ∧ 0 ≤ pc ∧ pc < nc f.toNat then ipart (code f.toNat) pc.toNat 0 else -1
section
variable {W : World} {A : Option Addr} {m : Nat} {Ac : Nat → Option Addr} {nc cc : Nat → Nat} {As : Nat → Option Addr} {ns cs : Nat → Nat} {code : Nat → List (List Int)} {safe : Nat → List Bool}
set_option maxRecDepth 100000 in
set_option maxHeartbeats 8000000 in
theorem op_any (c : Nat) (K G F P N : Int) (hP : PM W A m Ac nc cc As ns cs code safe) (hm : m ≤ 100) :
    Calls Tryd.prog 19 #[.agg #[.slice A m c], .agg #[.int .i64 K, .int .i64 G, .int .i64 F, .int .i64 P, .int .i64 N]] W fun e W' => e = .returned (.int .i64 (opAt m nc code F P)) ∧ Chg (fun _ => False) W W' := by
  have HP := Lib.hid (hP.chg (((Chg.refl (fun _ => False) W).alloc (.cells #[.slice A m c] 37)).alloc (.cells #[.int .i64 K, .int .i64 G, .int .i64 F, .int .i64 P, .int .i64 N] 28)))
  clear hP
  rcases (show F < 0 ∨ (m : Int) ≤ F ∨ (0 ≤ F ∧ F < m) by omega) with h | h | ⟨h1, h2⟩
  · have e : opAt m nc code F P = -1 := by unfold opAt; rw [if_neg (by omega)]
    rw [e]
    have d0 : decide (F < 0) = true := decide_eq_true h
    clear e HP
    go_enter Tryd.func19, Tryd.ntmps19
    go_wp2
    go_quiet (fail)
    go_wp2
    go_ret
    exact ⟨rfl, (((Chg.refl _ _).alloc _).alloc _).drewN _⟩
  · have e : opAt m nc code F P = -1 := by unfold opAt; rw [if_neg (by omega)]
    rw [e]
    have d0 : decide (F < 0) = false := decide_eq_false (by omega)
    have d1 : decide ((m : Int) ≤ F) = true := decide_eq_true h
    clear e HP
    go_enter Tryd.func19, Tryd.ntmps19
    go_wp2
    go_quiet (fail)
    go_wp2
    go_ret
    exact ⟨rfl, (((Chg.refl _ _).alloc _).alloc _).drewN _⟩
  · obtain ⟨k, rfl⟩ : ∃ k : Nat, F = k := ⟨F.toNat, by omega⟩
    have hk : k < m := by omega
    have d0 : decide ((k : Int) < 0) = false := decide_eq_false (by omega)
    have d1 : decide ((m : Int) ≤ (k : Int)) = false := decide_eq_false (by omega)
    have d1n : decide (m ≤ k) = false := decide_eq_false (by omega)
    rcases (show P < 0 ∨ (nc k : Int) ≤ P ∨ (0 ≤ P ∧ P < nc k) by omega) with h | h | ⟨g1, g2⟩
    · have e : opAt m nc code k P = -1 := by unfold opAt; rw [if_neg (by omega)]
      rw [e]
      have d2 : decide (P < 0) = true := decide_eq_true h
      clear e HP
      go_enter Tryd.func19, Tryd.ntmps19
      go_wp2
      go_quiet (fail)
      go_wp2
      go_ret
      exact ⟨rfl, (((Chg.refl _ _).alloc _).alloc _).drewN _⟩
    · have e : opAt m nc code k P = -1 := by unfold opAt; rw [if_neg (by simp; omega)]
      rw [e]
      have d2 : decide (P < 0) = false := decide_eq_false (by omega)
      have d3 : decide ((nc k : Int) ≤ P) = true := decide_eq_true h
      obtain ⟨b, o, rfl, hb, hcc⟩ := HP.out.cells (by omega)
      obtain ⟨e0, e1⟩ := hcc k hk
      generalize nc k = nk at *
      generalize Ac k = Ak at *
      generalize cc k = ck at *
      clear e HP hcc
      go_enter Tryd.func19, Tryd.ntmps19
      go_wp2
      go_quiet (fail)
      go_wp2
      go_ret
      exact ⟨rfl, (((Chg.refl _ _).alloc _).alloc _).drewN _⟩
    · obtain ⟨j, rfl⟩ : ∃ j : Nat, P = j := ⟨P.toNat, by omega⟩
      have hj : j < nc k := by omega
      have e : opAt m nc code k j = ipart (code k) j 0 := by unfold opAt; rw [if_pos (by simp; omega)]; simp
      rw [e]
      have d2 : decide ((j : Int) < 0) = false := decide_eq_false (by omega)
      have d3 : decide ((nc k : Int) ≤ (j : Int)) = false := decide_eq_false (by omega)
      have d3n : decide (nc k ≤ j) = false := decide_eq_false (by omega)
      obtain ⟨b, o, rfl, hb, hcc⟩ := HP.out.cells (by omega)
      obtain ⟨e0, e1⟩ := hcc k hk
      obtain ⟨bi, oi, hAe, hbi, c0, _⟩ := (HP.out.fn k hk).instr hj
      rw [hAe] at e0
      generalize ipart (code k) j 0 = op at *
      generalize nc k = nk at *
      generalize cc k = ck at *
      have k0 : (0 : Int) ≤ k := by omega
      have j0 : (0 : Int) ≤ j := by omega
      clear e HP hcc hAe
      go_enter Tryd.func19, Tryd.ntmps19
      go_wp2
      go_quiet (fail)
      go_wp2
      go_quiet (fail)
      go_wp2
      go_ret
      exact ⟨rfl, ((((Chg.refl _ _).alloc _).alloc _).drewN _).drewN _⟩
set_option maxRecDepth 100000 in
set_option maxHeartbeats 8000000 in
theorem rop_any (c : Nat) (K G F P N : Int) (hP : PM W A m Ac nc cc As ns cs code safe) (hm : m ≤ 100) :
    Calls Tryd.prog 20 #[.agg #[.slice A m c], .agg #[.int .i64 K, .int .i64 G, .int .i64 F, .int .i64 P, .int .i64 N]] W fun e W' => e = .returned (.int .i64 (opAt m nc code F P)) ∧ Chg (fun _ => False) W W' := by
  have HP := Lib.hid (hP.chg (((Chg.refl (fun _ => False) W).alloc (.cells #[.slice A m c] 37)).alloc (.cells #[.int .i64 K, .int .i64 G, .int .i64 F, .int .i64 P, .int .i64 N] 28)))
  clear hP
  rcases (show F < 0 ∨ (m : Int) ≤ F ∨ (0 ≤ F ∧ F < m) by omega) with h | h | ⟨h1, h2⟩
  · have e : opAt m nc code F P = -1 := by unfold opAt; rw [if_neg (by omega)]
    rw [e]
    have d0 : decide (F < 0) = true := decide_eq_true h
    clear e HP
    go_enter Tryd.func20, Tryd.ntmps20
    go_wp2
    go_quiet (fail)
    go_wp2
    go_ret
    exact ⟨rfl, (((Chg.refl _ _).alloc _).alloc _).drewN _⟩
  · have e : opAt m nc code F P = -1 := by unfold opAt; rw [if_neg (by omega)]
    rw [e]
    have d0 : decide (F < 0) = false := decide_eq_false (by omega)
    have d1 : decide ((m : Int) ≤ F) = true := decide_eq_true h
    clear e HP
    go_enter Tryd.func20, Tryd.ntmps20
    go_wp2
    go_quiet (fail)
    go_wp2
    go_ret
    exact ⟨rfl, (((Chg.refl _ _).alloc _).alloc _).drewN _⟩
  · obtain ⟨k, rfl⟩ : ∃ k : Nat, F = k := ⟨F.toNat, by omega⟩
    have hk : k < m := by omega
    have d0 : decide ((k : Int) < 0) = false := decide_eq_false (by omega)
    have d1 : decide ((m : Int) ≤ (k : Int)) = false := decide_eq_false (by omega)
    have d1n : decide (m ≤ k) = false := decide_eq_false (by omega)
    rcases (show P < 0 ∨ (nc k : Int) ≤ P ∨ (0 ≤ P ∧ P < nc k) by omega) with h | h | ⟨g1, g2⟩
    · have e : opAt m nc code k P = -1 := by unfold opAt; rw [if_neg (by omega)]
      rw [e]
      have d2 : decide (P < 0) = true := decide_eq_true h
      clear e HP
      go_enter Tryd.func20, Tryd.ntmps20
      go_wp2
      go_quiet (fail)
      go_wp2
      go_ret
      exact ⟨rfl, (((Chg.refl _ _).alloc _).alloc _).drewN _⟩
    · have e : opAt m nc code k P = -1 := by unfold opAt; rw [if_neg (by simp; omega)]
      rw [e]
      have d2 : decide (P < 0) = false := decide_eq_false (by omega)
      have d3 : decide ((nc k : Int) ≤ P) = true := decide_eq_true h
      obtain ⟨b, o, rfl, hb, hcc⟩ := HP.out.cells (by omega)
      obtain ⟨e0, e1⟩ := hcc k hk
      generalize nc k = nk at *
      generalize Ac k = Ak at *
      generalize cc k = ck at *
      clear e HP hcc
      go_enter Tryd.func20, Tryd.ntmps20
      go_wp2
      go_quiet (fail)
      go_wp2
      go_ret
      exact ⟨rfl, (((Chg.refl _ _).alloc _).alloc _).drewN _⟩
    · obtain ⟨j, rfl⟩ : ∃ j : Nat, P = j := ⟨P.toNat, by omega⟩
      have hj : j < nc k := by omega
      have e : opAt m nc code k j = ipart (code k) j 0 := by unfold opAt; rw [if_pos (by simp; omega)]; simp
      rw [e]
      have d2 : decide ((j : Int) < 0) = false := decide_eq_false (by omega)
      have d3 : decide ((nc k : Int) ≤ (j : Int)) = false := decide_eq_false (by omega)
      have d3n : decide (nc k ≤ j) = false := decide_eq_false (by omega)
      obtain ⟨b, o, rfl, hb, hcc⟩ := HP.out.cells (by omega)
      obtain ⟨e0, e1⟩ := hcc k hk
      obtain ⟨bi, oi, hAe, hbi, c0, _⟩ := (HP.out.fn k hk).instr hj
      rw [hAe] at e0
      generalize ipart (code k) j 0 = op at *
      generalize nc k = nk at *
      generalize cc k = ck at *
      have k0 : (0 : Int) ≤ k := by omega
      have j0 : (0 : Int) ≤ j := by omega
      clear e HP hcc hAe
      go_enter Tryd.func20, Tryd.ntmps20
      go_wp2
      go_quiet (fail)
      go_wp2
      go_quiet (fail)
      go_wp2
      go_ret
      exact ⟨rfl, ((((Chg.refl _ _).alloc _).alloc _).drewN _).drewN _⟩
end
end Go.Proofs.YtnepgbhbbbcecaaDoor
