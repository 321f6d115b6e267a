/- The walk of the law GstatMoves. -/
import Derived.Test.YtaihhbkljinplaaDoorMoves
import Derived.Deep.QuietTactic
import Derived.BigQuiet
namespace Go.Proofs.YtaihhbkljinplaaDoor
open Go.ChangeShapes Go.WideShapes Go.ChangeAt Go.RowKit
set_option linter.unusedVariables false

attribute [local go_sem] bx0 bn0 ba0 bo0 bp0 bx1 bn1 ba1 bo1 bp1 bx2 bn2 ba2 bo2 bp2 bx3 bn3 ba3 bo3 bp3 bx4 bn4 ba4 bo4 bp4 bx5 bn5 ba5 bo5 bp5 bx6 bn6 ba6 bo6 bp6 bx7 bn7 ba7 bo7 bp7 bx8 bn8 ba8 bo8 bp8 bx9 bn9 ba9 bo9 bp9 bx10 bn10 ba10 bo10 bp10 bx11 bn11 ba11 bo11 bp11 bx12 bn12 ba12 bo12 bp12 bx13 bn13 ba13 bo13 bp13 bx14 bn14 ba14 bo14 bp14 bk0 bk1 bk2 bk3 bk4 bk6 bk7 bk9 bk14 bk15 bk18 bk29 bk30 bk36 bk58 bk61 bk122
set_option maxHeartbeats 2000000 in
theorem alive_any (W : World) (hT : Tab W) : Calls Tryd.prog 13 #[] W fun e W' => e = .returned (.bool true) ∧ W = W' := by
  obtain ⟨n0, n1, n2, n3, n4, n5, n6, f0, f1, f2, f3, f4, f5, f6, hz⟩ := hT
  go_enter Tryd.func13, Tryd.ntmps13
  go_wp2
  go_ret
  exact ⟨by kernel_rfl, rfl⟩

set_option maxHeartbeats 2000000 in
theorem walk_gstatMoves (a0 : Int) (a1 : Int) (w : World) (w0 : (Lit.int .i64 a0).wf = true) (w1 : (Lit.int .i64 a1).wf = true) (hL : laidMetH Tryd.prog Rows.gstatMovesRow.laid w) :
    Calls Tryd.prog 4 #[.int .i64 a0, .int .i64 a1] w fun e w' => e = .returned (.bool true) ∧ Below w.heap.size w w' := by
  have hT : Tab w := tab_of_laid (show laidMetH Tryd.prog Rows.gstatLooksRow.laid w from hL)
  go_enter Tryd.func4, Tryd.ntmps4
  go_wp2_with (first
    | (go_at_call 14; refine (move_any _ _ w0 _ hT).mono ?_; rintro e w' ⟨rfl, rfl⟩)
    | (go_at_call 15; refine (refMove_any _ _ w0 _ hT).mono ?_; rintro e w' ⟨rfl, rfl⟩)
    | (go_at_call 16; refine (lock_any _ w0 _).mono ?_; rintro e w' ⟨rfl, rfl⟩)
    | (go_at_call 17; refine (refLock_any _ w0 _).mono ?_; rintro e w' ⟨rfl, rfl⟩)
    | (go_at_call 18; refine (unlock_any _ w0 _).mono ?_; rintro e w' ⟨rfl, rfl⟩)
    | (go_at_call 19; refine (refUnlock_any _ w0 _).mono ?_; rintro e w' ⟨rfl, rfl⟩)
    | (go_at_call 20; refine (may_any _ _ _ hT).mono ?_; rintro e w' ⟨rfl, rfl⟩)
    | (go_at_call 21; refine (refMay_any _ _ _ hT).mono ?_; rintro e w' ⟨rfl, rfl⟩)
    | (go_at_call 13; refine (alive_any _ hT).mono ?_; rintro e w' ⟨rfl, rfl⟩))
  go_ret
  exact ⟨rfl, Below.refl _ _⟩
end Go.Proofs.YtaihhbkljinplaaDoor
