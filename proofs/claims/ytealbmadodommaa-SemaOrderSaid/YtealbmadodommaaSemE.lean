/- The chapter's example of a turn. -/
import Derived.Test.YtealbmadodommaaSemR
namespace Go.Proofs.Ytealbmadodommaa
open Go.ChangeShapes Go.WideShapes Go.ChangeAt Go.RowKit Go.Deep
set_option linter.unusedVariables false

theorem sem_new (w : World) (base : Nat) (hb : base ≤ w.heap.size) : Sem (w.alloc (.cells #[.int .i64 0, .slice none 0 0] 46)) base w.heap.size none 0 [] :=
  ⟨hb, 0, Blk.new _ _ _, Row.nil _ _ _ _, by simp⟩
theorem rsem_new (w : World) (base : Nat) (hb : base ≤ w.heap.size) : RSem (w.alloc (.cells #[.int .i64 0, .slice none 0 0] 29)) base w.heap.size none 0 [] :=
  ⟨hb, 0, Blk.new _ _ _, Rd.nil _ _ _, Nat.le_refl _, by simp, fun g hg => by cases hg⟩

set_option maxHeartbeats 1000000 in
theorem new_any (W : World) : Calls Try.prog 7 #[] W fun e W' => e = .returned (.pointer (some ⟨W.heap.size, 0, none⟩)) ∧ W' = W.alloc (.cells #[.int .i64 0, .slice none 0 0] 46) := by
  go_enter Try.func7, Try.ntmps7
  go_wp2
  go_ret
  exact ⟨rfl, rfl⟩

theorem Aft.below {W W' : World} {B base K : Nat} {A : Option Addr} {o o' : Int} {xs ys : List Int} (h : Aft W W' base K A o' ys) (hS : Sem W base K A o xs) (hB : B ≤ base) (hW : B ≤ W.heap.size) : Below B W W' := by
  obtain ⟨A', hS', hc, _⟩ := h
  obtain ⟨hb, c, hBk, hR, _⟩ := hS
  refine hc.below hW ?_
  rintro k hk (rfl | h)
  · omega
  · have := (hR.blk_lt k h).1; omega

set_option maxHeartbeats 2000000 in
theorem alive_any (w : World) : Calls Try.prog 6 #[] w fun e w' => e = .returned (.bool true) ∧ Below w.heap.size w w' := by
  have hS0 := sem_new w w.heap.size (Nat.le_refl _)
  have hB0 : Below w.heap.size w (w.alloc (.cells #[.int .i64 0, .slice none 0 0] 46)) := (Below.refl _ _).alloc (Nat.le_refl _) _
  go_enter Try.func6, Try.ntmps6
  go_wp2_with (go_at_call 7; refine (new_any _).mono ?_; rintro e w1 ⟨rfl, rfl⟩)
  refine (acquire_any w.heap.size _ _ _ _ _ _ hS0 (by simp)).mono ?_
  rintro e w1 ⟨rfl, h1⟩
  have hb1 := h1.below hS0 (Nat.le_refl _) (by simp)
  obtain ⟨A1, hS1, _, _⟩ := h1
  go_wp2_with fail
  refine (acquire_any w.heap.size _ _ _ _ _ _ hS1 (by simp [acqX])).mono ?_
  rintro e w2 ⟨rfl, h2⟩
  have hb2 := h2.below hS1 (Nat.le_refl _) (by have := hb1.size; simp at this; omega)
  obtain ⟨A2, hS2, _, _⟩ := h2
  go_wp2_with fail
  refine (release_any w.heap.size _ _ _ _ _ _ hS2).mono ?_
  rintro e w3 ⟨rfl, h3⟩
  have hb3 := h3.below hS2 (Nat.le_refl _) (by have := hb2.size; have := hb1.size; simp at this; omega)
  obtain ⟨A3, hS3, _, _⟩ := h3
  have hX : acqB 0 1 = true ∧ acqB (acqO 0 1) 2 = false ∧ acqO 0 1 = 1 ∧ acqX 0 1 [] = [] ∧ acqX 1 2 [] = [2] ∧ acqO 1 2 = 1 ∧ relV 1 1 [2] = 2 ∧ relF 1 1 = 0 ∧ relO 1 1 [2] = 2 := by decide
  obtain ⟨x1, x2, x3, x4, x5, x6, x7, x8, x9⟩ := hX
  rw [x3] at x2
  simp only [x3, x4, x5, x6, x9] at hS3
  go_wp2_with (go_at_call 14; refine (owner_any w.heap.size _ _ _ _ _ hS3).mono ?_; rintro e w4 ⟨rfl, rfl⟩)
  go_ret
  exact ⟨rfl, ((hB0.trans hb1).trans hb2).trans hb3⟩
end Go.Proofs.Ytealbmadodommaa
