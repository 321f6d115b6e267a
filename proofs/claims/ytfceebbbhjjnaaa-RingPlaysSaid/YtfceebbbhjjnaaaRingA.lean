/- A ring in memory: push. -/
import Derived.Test.YtfceebbbhjjnaaaRapp
import Derived.Test.YtfceebbbhjjnaaaRsame
import Derived.Laws.MakeOwn
import Derived.Laws.Entries
import Derived.BigRegion
namespace Go.Proofs.Ytfceebbbhjjnaaa
open Go.ChangeShapes Go.WideShapes Go.ChangeAt Go.RowKit Go.Deep
set_option linter.unusedVariables false

theorem make_ints (N : Nat) (hN : N ≤ 1000) (W : World) : (Instr.makeSlice 28 (.int .i64 (N : Int)) (.int .i64 (N : Int))).run Try.prog W = .ok (.slice (some ⟨W.heap.size, 0, none⟩) N N) (W.alloc (.cells (madeCells #[.int .i64 0] N) 3)) := by
  obtain ⟨i0, hi, hz0, hz1, hz2⟩ := info_parts int_info
  have hr := run_make (P := Try.prog) W 28 3 i0 (.int .i64 0) Try.underlying28 hi hz0 .i64 .i64 N N (by omega) (by omega) (by rw [hz2]; omega) (by omega)
  simp only [Int.toNat_natCast, hz1, Nat.mul_one] at hr
  exact hr
/-- A ring in memory: who is next, its size, its row, the first one's place, how many. -/
def Rg (W : World) (b : Nat) (nx : Int) (n : Nat) (rv : Value) (f m : Nat) : Prop := Blk W b 44 #[.int .i64 nx, .int .i64 (n : Int), rv, .int .i64 (f : Int), .int .i64 (m : Int)]

set_option maxRecDepth 100000 in
set_option maxHeartbeats 8000000 in
theorem push_some (W : World) (b S : Nat) (nx g : Int) (n f m : Nat) (cs : Array Value) (h1 : 1 ≤ n) (h2 : n ≤ 1000) (hf : f < n) (hm : m < n) (hR : Rg W b nx n (.slice (some ⟨S, 0, none⟩) n n) f m) (hS : Blk W S 3 cs) (hcs : cs.size = n) :
    Calls Try.prog 28 #[.pointer (some ⟨b, 0, none⟩), .int .i64 g] W fun e W' => e = .returned (.bool true) ∧ Rg W' b nx n (.slice (some ⟨S, 0, none⟩) n n) f (m + 1) ∧ Blk W' S 3 (cs.setIfInBounds ((f + m) % n) (.int .i64 g)) ∧ Chg (fun k => k = b ∨ k = S) W W' := by
  have hne : b ≠ S := hR.ne_ hS (by decide)
  have hne' : S ≠ b := fun e => hne e.symm
  have c1 := hR.cell 1
  have c2 := hR.cell 2
  have c3 := hR.cell 3
  have c4 := hR.cell 4
  have f4 := hR.frozen 4
  have kb := hR.lt
  have kS := hS.lt
  simp at c1 c2 c3 c4
  obtain ⟨t, ht⟩ : ∃ t, t = (f + m) % n := ⟨_, rfl⟩
  have htn : t < n := by rw [ht]; exact Nat.mod_lt _ h1
  rw [← ht]
  have d1 := hS.frozen t
  have hdx : ∃ v, W.cell? ⟨S, t, none⟩ = some v := ⟨cs[t]'(by omega), by rw [hS.cell t]; exact Array.getElem?_eq_getElem (by omega)⟩
  obtain ⟨v0, d2⟩ := hdx
  have q1 : IntKind.i64.wrap ((f : Int) + (m : Int)) = (f : Int) + (m : Int) := IntWalk.i64_in _ (by omega)
  have q2 : Int.tmod ((f : Int) + (m : Int)) (n : Int) = (t : Int) := by rw [Int.tmod_eq_emod_of_nonneg (by omega), ht]; simp
  have q3 : IntKind.i64.wrap (t : Int) = (t : Int) := IntWalk.i64_in _ (by omega)
  have q4 : (0 : Int) ≤ (t : Int) := by omega
  have q5 : (t : Int) < (n : Int) := by omega
  have q6 : ¬ (n : Int) = 0 := by omega
  have q7 : ¬ n = 0 := by omega
  have q8 : ¬ (m : Int) = (n : Int) := by omega
  have q9 : ¬ m = n := by omega
  have qa : decide ((m : Int) = (n : Int)) = false := decide_eq_false (by omega)
  have qb : decide (m = n) = false := decide_eq_false (by omega)
  have qc : ((m : Int) == (n : Int)) = false := beq_eq_false_iff_ne.2 (by omega)
  have hsn : ∀ V, (binOp .eql 28 (.slice (some ⟨S, 0, none⟩) n n) (.slice none 0 0)).run Try.prog V = .ok (.bool false) V := fun _ => by kernel_rfl
  have Ht := Lib.hid ht
  clear ht
  go_enter Try.func28, Try.ntmps28
  go_wp2
  go_region
  go_wp2
  go_region
  all_goals go_wp2
  go_ret
  refine ⟨rfl, ?_, ?_, ?_⟩
  · have := ((hR.far (p := ⟨S, t, none⟩) hne (.int .i64 g)).set_ 4 (.int .i64 ((m : Int) + 1))).drew.drew
    simpa [Rg] using this
  · exact ((hS.set_ t (.int .i64 g)).far (p := ⟨b, 4, none⟩) hne' _).drew.drew
  · exact (Chg.setCell (Chg.setCell (Chg.refl _ _) (.inl (.inr rfl)) _) (.inl (.inl rfl)) _).drewN 2

set_option maxRecDepth 100000 in
set_option maxHeartbeats 8000000 in
theorem push_none (W : World) (b : Nat) (nx g : Int) (n f m : Nat) (h1 : 1 ≤ n) (h2 : n ≤ 1000) (hf : f < n) (hm : m < n) (hR : Rg W b nx n (.slice none 0 0) f m) :
    Calls Try.prog 28 #[.pointer (some ⟨b, 0, none⟩), .int .i64 g] W fun e W' => e = .returned (.bool true) ∧ Rg W' b nx n (.slice (some ⟨W.heap.size, 0, none⟩) n n) f (m + 1) ∧ Blk W' W.heap.size 3 ((madeCells #[.int .i64 0] n).setIfInBounds ((f + m) % n) (.int .i64 g)) ∧ Chg (fun k => k = b) W W' := by
  obtain ⟨S, hSe⟩ : ∃ S, S = W.heap.size := ⟨_, rfl⟩
  have hne : b ≠ W.heap.size := by have := hR.lt; omega
  have hne' : W.heap.size ≠ b := fun e => hne e.symm
  have hmk := make_ints n h2 W.drew
  have hS : Blk (W.alloc (.cells (madeCells #[.int .i64 0] n) 3)) W.heap.size 3 (madeCells #[.int .i64 0] n) := Blk.new _ _ _
  have hcs : (madeCells #[.int .i64 0] n).size = n := by simp [madeCells]
  have hR1 := hR.alloc (.cells (madeCells #[.int .i64 0] n) 3)
  have c1 := hR.cell 1
  have c2 := hR.cell 2
  have c3 := hR.cell 3
  have c4 := hR.cell 4
  have f4 := hR.frozen 4
  have kb := hR.lt
  have f2 := hR.frozen 2
  simp at c1 c2 c3 c4
  obtain ⟨t, ht⟩ : ∃ t, t = (f + m) % n := ⟨_, rfl⟩
  have htn : t < n := by rw [ht]; exact Nat.mod_lt _ h1
  rw [← ht]
  have d1 := hS.frozen t
  generalize hM : madeCells #[.int .i64 0] n = cs at *
  have hdx : ∃ v, (W.alloc (.cells cs 3)).cell? ⟨W.heap.size, t, none⟩ = some v := ⟨cs[t]'(by omega), by rw [hS.cell t]; exact Array.getElem?_eq_getElem (by omega)⟩
  obtain ⟨v0, d2⟩ := hdx
  have q1 : IntKind.i64.wrap ((f : Int) + (m : Int)) = (f : Int) + (m : Int) := IntWalk.i64_in _ (by omega)
  have q2 : Int.tmod ((f : Int) + (m : Int)) (n : Int) = (t : Int) := by rw [Int.tmod_eq_emod_of_nonneg (by omega), ht]; simp
  have q3 : IntKind.i64.wrap (t : Int) = (t : Int) := IntWalk.i64_in _ (by omega)
  have q4 : (0 : Int) ≤ (t : Int) := by omega
  have q5 : (t : Int) < (n : Int) := by omega
  have q6 : ¬ (n : Int) = 0 := by omega
  have q7 : ¬ n = 0 := by omega
  have q8 : ¬ (m : Int) = (n : Int) := by omega
  have q9 : ¬ m = n := by omega
  have qa : decide ((m : Int) = (n : Int)) = false := decide_eq_false (by omega)
  have qb : decide (m = n) = false := decide_eq_false (by omega)
  have qc : ((m : Int) == (n : Int)) = false := beq_eq_false_iff_ne.2 (by omega)
  have hsn : ∀ V, (binOp .eql 28 (.slice none 0 0) (.slice none 0 0)).run Try.prog V = .ok (.bool true) V := fun _ => by kernel_rfl
  have Ht := Lib.hid ht
  clear ht
  go_enter Try.func28, Try.ntmps28
  go_wp2
  go_region
  go_wp2
  go_region
  all_goals go_wp2
  go_ret
  refine ⟨rfl, ?_, ?_, ?_⟩
  · have := (((hR.set_ 2 (.slice (some ⟨W.heap.size, 0, none⟩) n n)).set_ 4 (.int .i64 ((m : Int) + 1))).alloc (.cells (cs.setIfInBounds t (.int .i64 g)) 3)).drew.drew
    simpa [Rg] using this
  · have := (Blk.new ((W.setCell ⟨b, 2, none⟩ (.slice (some ⟨W.heap.size, 0, none⟩) n n)).setCell ⟨b, 4, none⟩ (.int .i64 ((m : Int) + 1))) 3 (cs.setIfInBounds t (.int .i64 g))).drew.drew
    simpa using this
  · have h1 : Chg (fun k => k = b) W (W.setCell ⟨b, 2, none⟩ (.slice (some ⟨W.heap.size, 0, none⟩) n n)) := Chg.setCell (S := fun k => k = b) (Chg.refl _ _) (.inl rfl) _
    have h2 : Chg (fun k => k = b) W ((W.setCell ⟨b, 2, none⟩ (.slice (some ⟨W.heap.size, 0, none⟩) n n)).setCell ⟨b, 4, none⟩ (.int .i64 ((m : Int) + 1))) := Chg.setCell (S := fun k => k = b) h1 (.inl rfl) _
    exact (h2.alloc _).drew.drew
end Go.Proofs.Ytfceebbbhjjnaaa
