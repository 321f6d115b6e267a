/- The one that came last goes. -/
import Derived.Test.YtoajaemiddgdpaaIdC
namespace Go.Proofs.Ytoajaemiddgdpaa
open Go.ChangeShapes Go.WideShapes Go.ChangeAt Go.RowKit Go.Deep
set_option linter.unusedVariables false

theorem get_none (L R most : Nat) (W : World) (h : Il W L R most []) : Calls Try.prog 17 #[.pointer (some ⟨L, 0, none⟩)] W fun e W' => e = .returned (.tuple #[.int .i64 0, .bool false]) ∧ W' = W := by
  have hmf : ∀ (fn : Fn) (first cap : Array Value) (W : World), (Instr.makeFunc fn first cap).run Try.prog W = .ok (.func fn first cap) W := fun _ _ _ _ => rfl
  have hp := peek_none L R most W h
  clear h
  go_enter Try.func17, Try.ntmps17
  go_wp2_with (go_at_call 9; refine hp.mono ?_; rintro e w1 ⟨rfl, rfl⟩)
  go_returns
  exact ⟨rfl, rfl⟩
theorem get_some (L R most x : Nat) (t : List Nat) (W : World) (h : Il W L R most (x :: t)) (hm : most ≤ 1024) : Calls Try.prog 17 #[.pointer (some ⟨L, 0, none⟩)] W fun e W' => e = .returned (.tuple #[.int .i64 x, .bool true]) ∧ Il W' L R most t ∧ Chg (fun g => g = L ∨ g = R) W W' := by
  have hmf : ∀ (fn : Fn) (first cap : Array Value) (W : World), (Instr.makeFunc fn first cap).run Try.prog W = .ok (.func fn first cap) W := fun _ _ _ _ => rfl
  have hp := peek_some L R most x t W h
  have hd := drop_at L R most x (x :: t) W h hm (by simp)
  rw [show (x :: t).erase x = t by simp] at hd
  have HD := Lib.hid hd
  clear h hd
  go_enter Try.func17, Try.ntmps17
  go_wp2_with (first
    | (go_at_call 9; refine hp.mono ?_; rintro e w1 ⟨rfl, rfl⟩)
    | (go_at_call 18; refine HD.out.mono ?_; rintro e w2 ⟨rfl, h1, h2⟩))
  go_returns
  exact ⟨rfl, h1, h2⟩
end Go.Proofs.Ytoajaemiddgdpaa
