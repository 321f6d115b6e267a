/- Whether there is such a place; whether frames are places. -/
import Derived.Test.YthdkbofnplnidaaDoorVaP
import Derived.Deep.QuietTactic
import Derived.BigQuiet
import Derived.Deep.RegionHeld3
import Derived.WalkMore
namespace Go.Proofs.YthdkbofnplnidaaDoor
open Go.ChangeShapes Go.WideShapes Go.ChangeAt Go.RowKit Go.Deep
set_option linter.unusedVariables false
set_option linter.unusedSimpArgs false

def placeOk (m : Nat) (nc : Nat → Nat) (f pc : Int) : Bool := decide (0 ≤ f ∧ f < m ∧ 0 ≤ pc ∧ pc < nc f.toNat)
def wrongP (m : Nat) (nc : Nat → Nat) (e : List Int) : Bool := !placeOk m nc (e.getD 0 0) (e.getD 1 0)
section
variable {W : World} {A : Option Addr} {m : Nat} {Ac : Nat → Option Addr} {nc cc : Nat → Nat} {As : Nat → Option Addr} {ns cs : Nat → Nat} {code : Nat → List (List Int)} {safe : Nat → List Bool}
set_option maxRecDepth 100000 in
set_option maxHeartbeats 8000000 in
theorem wrong_any (B1 c : Nat) (F P : Int) (hP : PM W A m Ac nc cc As ns cs code safe) (hB : Blk W B1 24 #[.slice A m c]) (hm : m ≤ 100) :
    Calls Tryd.prog 25 (#[.agg #[.int .i64 F, .int .i64 P]] ++ #[.pointer (some ⟨B1, 0, none⟩)]) W fun e W' => e = .returned (.bool (!placeOk m nc F P)) ∧ Chg (fun _ => False) W W' := by
  have HP := Lib.hid (hP.chg ((Chg.refl (fun _ => False) W).alloc (.cells #[.int .i64 F, .int .i64 P] 54)))
  have b0 := (hB.alloc (.cells #[.int .i64 F, .int .i64 P] 54)).cell 0
  have bl := hB.lt
  simp at b0
  clear hP hB
  obtain ⟨bb, hbb⟩ : ∃ bb, bb = (!placeOk m nc F P) := ⟨_, rfl⟩
  rw [← hbb]
  rcases (show F < 0 ∨ (m : Int) ≤ F ∨ (0 ≤ F ∧ F < m) by omega) with h | h | ⟨h1, h2⟩
  · have e : bb = true := by rw [hbb]; unfold placeOk; rw [decide_eq_false (by omega)]; rfl
    rw [e]
    clear e hbb
    have d0 : decide (F < 0) = true := decide_eq_true h
    have d0b : decide (0 ≤ F) = false := decide_eq_false (by omega)
    clear HP
    go_enter Tryd.func25, Tryd.ntmps25
    go_wp2
    go_quiet (fail)
    go_wp2
    go_ret
    exact ⟨rfl, ((Chg.refl _ _).alloc _).drewN _⟩
  · have e : bb = true := by rw [hbb]; unfold placeOk; rw [decide_eq_false (by omega)]; rfl
    rw [e]
    clear e hbb
    have d0 : decide (F < 0) = false := decide_eq_false (by omega)
    have d0b : decide (0 ≤ F) = true := decide_eq_true (by omega)
    have d1 : decide ((m : Int) ≤ F) = true := decide_eq_true h
    have d1b : decide (F < (m : Int)) = false := decide_eq_false (by omega)
    clear HP
    go_enter Tryd.func25, Tryd.ntmps25
    go_wp2
    go_quiet (fail)
    go_wp2
    go_ret
    exact ⟨rfl, ((Chg.refl _ _).alloc _).drewN _⟩
  · obtain ⟨k, rfl⟩ : ∃ k : Nat, F = k := ⟨F.toNat, by omega⟩
    have hk : k < m := by omega
    have d0 : decide ((k : Int) < 0) = false := decide_eq_false (by omega)
    have d0b : decide (0 ≤ (k : Int)) = true := decide_eq_true (by omega)
    have d1 : decide ((m : Int) ≤ (k : Int)) = false := decide_eq_false (by omega)
    have d1n : decide (m ≤ k) = false := decide_eq_false (by omega)
    have d1b : decide ((k : Int) < (m : Int)) = true := decide_eq_true (by omega)
    have d1c : decide (k < m) = true := decide_eq_true (by omega)
    rcases (show P < 0 ∨ (nc k : Int) ≤ P ∨ (0 ≤ P ∧ P < nc k) by omega) with h | h | ⟨g1, g2⟩
    · have e : bb = true := by rw [hbb]; unfold placeOk; rw [decide_eq_false (by omega)]; rfl
      rw [e]
      clear e hbb
      have d2 : decide (P < 0) = true := decide_eq_true h
      have d2b : decide (0 ≤ P) = false := decide_eq_false (by omega)
      clear HP
      go_enter Tryd.func25, Tryd.ntmps25
      go_wp2
      go_quiet (fail)
      go_wp2
      go_ret
      exact ⟨rfl, ((Chg.refl _ _).alloc _).drewN _⟩
    · have e : bb = true := by rw [hbb]; unfold placeOk; rw [decide_eq_false (by simp; omega)]; rfl
      rw [e]
      clear e hbb
      have d2 : decide (P < 0) = false := decide_eq_false (by omega)
      have d2b : decide (0 ≤ P) = true := decide_eq_true (by omega)
      have d3 : decide ((nc k : Int) ≤ P) = true := decide_eq_true h
      have d3b : decide (P < (nc k : Int)) = false := decide_eq_false (by omega)
      obtain ⟨b, o, rfl, hb, hcc⟩ := HP.out.cells (by omega)
      obtain ⟨e0, e1⟩ := hcc k hk
      generalize nc k = nk at *
      generalize Ac k = Ak at *
      generalize cc k = ck at *
      clear hcc
      clear HP
      go_enter Tryd.func25, Tryd.ntmps25
      go_wp2
      go_quiet (fail)
      go_wp2
      go_ret
      exact ⟨rfl, ((Chg.refl _ _).alloc _).drewN _⟩
    · obtain ⟨j, rfl⟩ : ∃ j : Nat, P = j := ⟨P.toNat, by omega⟩
      have hj : j < nc k := by omega
      have e : bb = false := by rw [hbb]; unfold placeOk; rw [decide_eq_true (by simp; omega)]; rfl
      rw [e]
      clear e hbb
      have d2 : decide ((j : Int) < 0) = false := decide_eq_false (by omega)
      have d2b : decide (0 ≤ (j : Int)) = true := decide_eq_true (by omega)
      have d3 : decide ((nc k : Int) ≤ (j : Int)) = false := decide_eq_false (by omega)
      have d3n : decide (nc k ≤ j) = false := decide_eq_false (by omega)
      have d3b : decide ((j : Int) < (nc k : Int)) = true := decide_eq_true (by omega)
      have d3c : decide (j < nc k) = true := decide_eq_true (by omega)
      obtain ⟨b, o, rfl, hb, hcc⟩ := HP.out.cells (by omega)
      obtain ⟨e0, e1⟩ := hcc k hk
      generalize nc k = nk at *
      generalize Ac k = Ak at *
      generalize cc k = ck at *
      clear hcc
      clear HP
      go_enter Tryd.func25, Tryd.ntmps25
      go_wp2
      go_quiet (fail)
      go_wp2
      go_ret
      exact ⟨rfl, ((Chg.refl _ _).alloc _).drewN _⟩
set_option maxRecDepth 100000 in
set_option maxHeartbeats 8000000 in
theorem place_any (c : Nat) (F P : Int) (hP : PM W A m Ac nc cc As ns cs code safe) (hm : m ≤ 100) :
    Calls Tryd.prog 21 #[.agg #[.slice A m c], .int .i64 F, .int .i64 P] W fun e W' => e = .returned (.bool (placeOk m nc F P)) ∧ Chg (fun _ => False) W W' := by
  have HP := Lib.hid (hP.chg ((Chg.refl (fun _ => False) W).alloc (.cells #[.slice A m c] 24)))
  clear hP
  obtain ⟨bb, hbb⟩ : ∃ bb, bb = (placeOk m nc F P) := ⟨_, rfl⟩
  rw [← hbb]
  rcases (show F < 0 ∨ (m : Int) ≤ F ∨ (0 ≤ F ∧ F < m) by omega) with h | h | ⟨h1, h2⟩
  · have e : bb = false := by rw [hbb]; unfold placeOk; rw [decide_eq_false (by omega)]
    rw [e]
    clear e hbb
    have d0 : decide (F < 0) = true := decide_eq_true h
    have d0b : decide (0 ≤ F) = false := decide_eq_false (by omega)
    clear HP
    go_enter Tryd.func21, Tryd.ntmps21
    go_wp2
    go_ret
    exact ⟨rfl, ((Chg.refl _ _).alloc _)⟩
  · have e : bb = false := by rw [hbb]; unfold placeOk; rw [decide_eq_false (by omega)]
    rw [e]
    clear e hbb
    have d0 : decide (F < 0) = false := decide_eq_false (by omega)
    have d0b : decide (0 ≤ F) = true := decide_eq_true (by omega)
    have d1 : decide ((m : Int) ≤ F) = true := decide_eq_true h
    have d1b : decide (F < (m : Int)) = false := decide_eq_false (by omega)
    clear HP
    go_enter Tryd.func21, Tryd.ntmps21
    go_wp2
    go_ret
    exact ⟨rfl, ((Chg.refl _ _).alloc _)⟩
  · obtain ⟨k, rfl⟩ : ∃ k : Nat, F = k := ⟨F.toNat, by omega⟩
    have hk : k < m := by omega
    have d0 : decide ((k : Int) < 0) = false := decide_eq_false (by omega)
    have d0b : decide (0 ≤ (k : Int)) = true := decide_eq_true (by omega)
    have d1 : decide ((m : Int) ≤ (k : Int)) = false := decide_eq_false (by omega)
    have d1n : decide (m ≤ k) = false := decide_eq_false (by omega)
    have d1b : decide ((k : Int) < (m : Int)) = true := decide_eq_true (by omega)
    have d1c : decide (k < m) = true := decide_eq_true (by omega)
    rcases (show P < 0 ∨ (nc k : Int) ≤ P ∨ (0 ≤ P ∧ P < nc k) by omega) with h | h | ⟨g1, g2⟩
    · have e : bb = false := by rw [hbb]; unfold placeOk; rw [decide_eq_false (by omega)]
      rw [e]
      clear e hbb
      have d2 : decide (P < 0) = true := decide_eq_true h
      have d2b : decide (0 ≤ P) = false := decide_eq_false (by omega)
      clear HP
      go_enter Tryd.func21, Tryd.ntmps21
      go_wp2
      go_ret
      exact ⟨rfl, ((Chg.refl _ _).alloc _)⟩
    · have e : bb = false := by rw [hbb]; unfold placeOk; rw [decide_eq_false (by simp; omega)]
      rw [e]
      clear e hbb
      have d2 : decide (P < 0) = false := decide_eq_false (by omega)
      have d2b : decide (0 ≤ P) = true := decide_eq_true (by omega)
      have d3 : decide ((nc k : Int) ≤ P) = true := decide_eq_true h
      have d3b : decide (P < (nc k : Int)) = false := decide_eq_false (by omega)
      obtain ⟨b, o, rfl, hb, hcc⟩ := HP.out.cells (by omega)
      obtain ⟨e0, e1⟩ := hcc k hk
      generalize nc k = nk at *
      generalize Ac k = Ak at *
      generalize cc k = ck at *
      clear hcc
      clear HP
      go_enter Tryd.func21, Tryd.ntmps21
      go_wp2
      go_ret
      exact ⟨rfl, ((Chg.refl _ _).alloc _)⟩
    · obtain ⟨j, rfl⟩ : ∃ j : Nat, P = j := ⟨P.toNat, by omega⟩
      have hj : j < nc k := by omega
      have e : bb = true := by rw [hbb]; unfold placeOk; rw [decide_eq_true (by simp; omega)]
      rw [e]
      clear e hbb
      have d2 : decide ((j : Int) < 0) = false := decide_eq_false (by omega)
      have d2b : decide (0 ≤ (j : Int)) = true := decide_eq_true (by omega)
      have d3 : decide ((nc k : Int) ≤ (j : Int)) = false := decide_eq_false (by omega)
      have d3n : decide (nc k ≤ j) = false := decide_eq_false (by omega)
      have d3b : decide ((j : Int) < (nc k : Int)) = true := decide_eq_true (by omega)
      have d3c : decide (j < nc k) = true := decide_eq_true (by omega)
      obtain ⟨b, o, rfl, hb, hcc⟩ := HP.out.cells (by omega)
      obtain ⟨e0, e1⟩ := hcc k hk
      generalize nc k = nk at *
      generalize Ac k = Ak at *
      generalize cc k = ck at *
      clear hcc
      clear HP
      go_enter Tryd.func21, Tryd.ntmps21
      go_wp2
      go_ret
      exact ⟨rfl, ((Chg.refl _ _).alloc _)⟩
end
end Go.Proofs.YthdkbofnplnidaaDoor
