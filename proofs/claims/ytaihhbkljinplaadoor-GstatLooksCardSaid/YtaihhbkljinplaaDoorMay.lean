/- Contracts of May, Move, and of the answers of these. -/
import Derived.Test.YtaihhbkljinplaaDoorWords
import Derived.Deep.QuietTactic
import Derived.BigQuiet
namespace Go.Proofs.YtaihhbkljinplaaDoor
open Go.ChangeShapes Go.WideShapes Go.ChangeAt Go.RowKit

attribute [local go_sem] bx0 bn0 ba0 bo0 bp0 bx1 bn1 ba1 bo1 bp1 bx2 bn2 ba2 bo2 bp2 bx3 bn3 ba3 bo3 bp3 bx4 bn4 ba4 bo4 bp4 bx5 bn5 ba5 bo5 bp5 bx6 bn6 ba6 bo6 bp6 bx7 bn7 ba7 bo7 bp7 bx8 bn8 ba8 bo8 bp8 bx9 bn9 ba9 bo9 bp9 bx10 bn10 ba10 bo10 bp10 bx11 bn11 ba11 bo11 bp11 bx12 bn12 ba12 bo12 bp12 bx13 bn13 ba13 bo13 bp13 bx14 bn14 ba14 bo14 bp14 bk0 bk1 bk2 bk3 bk4 bk6 bk7 bk9 bk14 bk15 bk18 bk29 bk30 bk36 bk58 bk61 bk122
theorem may_out1 {x to : Int} (h : x < 0 ∨ 6 < x) : mayB x to = false := by unfold mayB; simp; omega
theorem may_out2 {x to : Int} (h : to < 0 ∨ 6 < to) : mayB x to = false := by unfold mayB; simp; omega
theorem int7 (x : Int) : x = 0 ∨ x = 1 ∨ x = 2 ∨ x = 3 ∨ x = 4 ∨ x = 5 ∨ x = 6 ∨ x < 0 ∨ 6 < x := by omega
set_option maxHeartbeats 4000000 in
theorem may_any (x to : Int) (W : World) (hT : Tab W) : Calls Tryd.prog 20 #[.int .i64 x, .int .i64 to] W fun e W' => e = .returned (.bool (mayB x to)) ∧ W = W' := by
  obtain ⟨n0, n1, n2, n3, n4, n5, n6, f0, f1, f2, f3, f4, f5, f6, hz⟩ := hT
  rcases int7 x with rfl | rfl | rfl | rfl | rfl | rfl | rfl | hx | hx
  all_goals rcases int7 to with rfl | rfl | rfl | rfl | rfl | rfl | rfl | hto | hto
  all_goals try (have d7 : decide (x < 7) = false := decide_eq_false (by omega))
  all_goals try (have d8 : decide (to < 7) = false := decide_eq_false (by omega))
  all_goals try (have d9 : decide (to ≤ 6) = false := decide_eq_false (by omega))
  all_goals try (have d10 : decide (3 ≤ to) = false := decide_eq_false (by omega))
  all_goals try (have q0 : (x == 0) = false ∧ (x == 1) = false ∧ (x == 2) = false ∧ (x == 3) = false ∧ (x == 4) = false ∧ (x == 5) = false := by (refine ⟨?_, ?_, ?_, ?_, ?_, ?_⟩ <;> (rw [beq_eq_false_iff_ne]; omega)))
  all_goals try (have q1 : (to == 0) = false ∧ (to == 1) = false ∧ (to == 2) = false ∧ (to == 3) = false ∧ (to == 4) = false ∧ (to == 5) = false := by (refine ⟨?_, ?_, ?_, ?_, ?_, ?_⟩ <;> (rw [beq_eq_false_iff_ne]; omega)))
  all_goals go_enter Tryd.func20, Tryd.ntmps20
  all_goals go_wp2
  all_goals go_ret
  all_goals refine ⟨?_, rfl⟩
  all_goals first | rfl | (rw [may_out1 (.inl hx)]; first | rfl | (simp; omega)) | (rw [may_out1 (.inr hx)]; first | rfl | (simp; omega)) | (rw [may_out2 (.inl hto)]; first | rfl | (simp; omega)) | (rw [may_out2 (.inr hto)]; first | rfl | (simp; omega))

set_option maxHeartbeats 4000000 in
theorem refMay_any (x to : Int) (W : World) (hT : Tab W) : Calls Tryd.prog 21 #[.int .i64 x, .int .i64 to] W fun e W' => e = .returned (.bool (mayB x to)) ∧ W = W' := by
  obtain ⟨n0, n1, n2, n3, n4, n5, n6, f0, f1, f2, f3, f4, f5, f6, hz⟩ := hT
  rcases int7 x with rfl | rfl | rfl | rfl | rfl | rfl | rfl | hx | hx
  all_goals rcases int7 to with rfl | rfl | rfl | rfl | rfl | rfl | rfl | hto | hto
  all_goals try (have d7 : decide (x < 7) = false := decide_eq_false (by omega))
  all_goals try (have d8 : decide (to < 7) = false := decide_eq_false (by omega))
  all_goals try (have d9 : decide (to ≤ 6) = false := decide_eq_false (by omega))
  all_goals try (have d10 : decide (3 ≤ to) = false := decide_eq_false (by omega))
  all_goals try (have q0 : (x == 0) = false ∧ (x == 1) = false ∧ (x == 2) = false ∧ (x == 3) = false ∧ (x == 4) = false ∧ (x == 5) = false := by (refine ⟨?_, ?_, ?_, ?_, ?_, ?_⟩ <;> (rw [beq_eq_false_iff_ne]; omega)))
  all_goals try (have q1 : (to == 0) = false ∧ (to == 1) = false ∧ (to == 2) = false ∧ (to == 3) = false ∧ (to == 4) = false ∧ (to == 5) = false := by (refine ⟨?_, ?_, ?_, ?_, ?_, ?_⟩ <;> (rw [beq_eq_false_iff_ne]; omega)))
  all_goals go_enter Tryd.func21, Tryd.ntmps21
  all_goals go_wp2
  all_goals go_ret
  all_goals refine ⟨?_, rfl⟩
  all_goals first | rfl | (rw [may_out1 (.inl hx)]; first | rfl | (simp; omega)) | (rw [may_out1 (.inr hx)]; first | rfl | (simp; omega)) | (rw [may_out2 (.inl hto)]; first | rfl | (simp; omega)) | (rw [may_out2 (.inr hto)]; first | rfl | (simp; omega))

end Go.Proofs.YtaihhbkljinplaaDoor
