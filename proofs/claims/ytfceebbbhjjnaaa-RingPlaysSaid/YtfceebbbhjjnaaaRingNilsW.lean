/- What a nil ring says. -/
import Derived.Test.YtfceebbbhjjnaaaRingC
namespace Go.Proofs.Ytfceebbbhjjnaaa
open Go.ChangeShapes Go.WideShapes Go.ChangeAt Go.RowKit Go.Deep
set_option linter.unusedVariables false

theorem Rg.size_ {W : World} {b : Nat} {nx : Int} {n f m : Nat} {rv : Value} (h : Rg W b nx n rv f m) : W.cell? ⟨b, 1, none⟩ = some (.int .i64 (n : Int)) := by
  have := Blk.cell h 1; simpa using this

theorem Rd.lits (w : World) (zs : List Int) (E : TypeId) (cs : Array Value) (hcs : cs = (ints zs).toArray) (n m : Nat) (hn : n = w.heap.size) (hm : m = zs.length) : Rd (w.alloc (.cells cs E)) 1 (some ⟨n, 0, none⟩) m (ints zs) := by
  subst hcs
  subst hn
  subst hm
  refine ⟨by simp, fun _ => ⟨w.heap.size, 0, rfl, by simp, fun j u hu => ?_⟩⟩
  rw [Nat.zero_add, (Blk.new w E (ints zs).toArray).cell j]
  simpa using hu

theorem four : madeCells #[Value.int .i64 0] 4 = #[.int .i64 0, .int .i64 0, .int .i64 0, .int .i64 0] := by
  apply Array.ext'
  rw [toList_madeCells_one]
  rfl

set_option maxRecDepth 100000 in
set_option maxHeartbeats 8000000 in
theorem alive_any (w : World) : Calls Try.prog 7 #[] w fun e w' => e = .returned (.bool true) ∧ Below w.heap.size w w' := by
  have hN : Rg (w.alloc (.cells #[.int .i64 0, .int .i64 4, .slice none 0 0, .int .i64 0, .int .i64 0] 44)) w.heap.size 0 4 (.slice none 0 0) 0 0 := Blk.new _ _ _
  have hpn := Lib.hid (push_none _ w.heap.size 0 1 4 0 0 (by omega) (by omega) (by omega) (by omega) hN)
  go_enter Try.func7, Try.ntmps7
  go_wp2_with (first
    | (go_at_call 8; go_in)
    | (go_at_call 16; go_in)
    | (go_at_call 26; go_in))
  refine hpn.out.mono ?_
  rintro e p1 ⟨rfl, hR1, hS1, hc1⟩
  have k1 := Blk.lt hR1
  have n1 : p1.cell? ⟨w.heap.size, 0, none⟩ = some (.int .i64 0) := hR1.nxt
  have n2 : p1.cell? ⟨w.heap.size, 1, none⟩ = some (.int .i64 4) := hR1.size_
  have n4 := Blk.frozen hR1 0
  have hcz := hc1.size
  clear hpn hN
  go_wp2_with (first
    | (go_at_call 8; go_in)
    | (go_at_call 16; go_in)
    | (go_at_call 26; go_in))
  obtain ⟨S, hSe⟩ : ∃ S, (w.alloc (.cells #[.int .i64 0, .int .i64 4, .slice none 0 0, .int .i64 0, .int .i64 0] 44)).heap.size = S := ⟨_, rfl⟩
  rw [hSe] at hR1 hS1
  have hbS : w.heap.size < S := by rw [← hSe]; simp
  have hR2 : Rg ((p1.setCell ⟨w.heap.size, 0, none⟩ (.int .i64 2)).setCell ⟨w.heap.size, 0, none⟩ (.int .i64 3)) w.heap.size 3 4 (.slice (some ⟨S, 0, none⟩) 4 4) 0 (0 + 1) := by
    have := Blk.set_ (Blk.set_ hR1 0 (.int .i64 2)) 0 (.int .i64 3)
    simpa [Rg] using this
  have hS2 := Blk.far (Blk.far hS1 (p := ⟨w.heap.size, 0, none⟩) (by show S ≠ w.heap.size; omega) (.int .i64 2)) (p := ⟨w.heap.size, 0, none⟩) (by show S ≠ w.heap.size; omega) (.int .i64 3)
  refine (push_some _ w.heap.size S 3 2 4 0 (0 + 1) _ (by omega) (by omega) (by omega) (by omega) hR2 hS2 (by simp [madeCells])).mono ?_
  rintro e p2 ⟨rfl, hR3, hS3, hc3⟩
  have k3 := Blk.lt hR3
  have m1 : p2.cell? ⟨w.heap.size, 0, none⟩ = some (.int .i64 3) := hR3.nxt
  have m2 : p2.cell? ⟨w.heap.size, 1, none⟩ = some (.int .i64 4) := hR3.size_
  have m3 : p2.cell? ⟨w.heap.size, 4, none⟩ = some (.int .i64 2) := hR3.many
  have m4 : p2.cell? ⟨w.heap.size, 2, none⟩ = some (.slice (some ⟨S, 0, none⟩) 4 4) := by have := Blk.cell hR3 2; simpa using this
  have m5 : p2.cell? ⟨w.heap.size, 3, none⟩ = some (.int .i64 0) := by have := Blk.cell hR3 3; simpa using this
  have hvs : (((madeCells #[.int .i64 0] 4).setIfInBounds ((0 + 0) % 4) (.int .i64 1)).setIfInBounds ((0 + (0 + 1)) % 4) (.int .i64 2)) = (ints [1, 2, 0, 0]).toArray := by rw [four]; rfl
  rw [hvs] at hS3
  clear hvs n1 n2 n4 hS1 hR1
  go_wp2_with (first
    | (go_at_call 8; go_in)
    | (go_at_call 16; go_in)
    | (go_at_call 26; go_in)
    | (go_at_call 11; go_in))
  have hRo : Rg (p2.alloc (.cells #[.int .i64 3, .int .i64 4, .slice (some ⟨S, 0, none⟩) 4 4, .int .i64 0, .int .i64 2] 44)) p2.heap.size 3 4 (.slice (some ⟨S, 0, none⟩) 4 4) 0 2 := Blk.new _ _ _
  refine (take_next _ p2.heap.size S 3 4 0 2 [1, 2, 0, 0] (by omega) (by omega) (by omega) (by omega) (by decide) hRo (hS3.alloc _) rfl).mono ?_
  rintro e p3 ⟨A, c, rfl, hrow, _, hc4⟩
  have hfr : (3 : Int) :: front [1, 2, 0, 0] 4 0 2 = [3, 1, 2] := by decide
  rw [hfr] at hrow
  have hne : ¬ w.heap.size = p2.heap.size := by omega
  have hR4 := Blk.kept (Blk.alloc hR3 (.cells #[.int .i64 3, .int .i64 4, .slice (some ⟨S, 0, none⟩) 4 4, .int .i64 0, .int .i64 2] 44)) hc4 hne
  have u1 : p3.cell? ⟨w.heap.size, 0, none⟩ = some (.int .i64 3) := Rg.nxt hR4
  have u2 : p3.cell? ⟨w.heap.size, 1, none⟩ = some (.int .i64 4) := Rg.size_ hR4
  have u3 : p3.cell? ⟨w.heap.size, 4, none⟩ = some (.int .i64 2) := Rg.many hR4
  have u4 := Blk.lt hR4
  have hz4 := hc4.size
  go_wp2_with fail
  refine (same_yes _ _ _ _ _ _ [3, 1, 2] _ (hrow.rd.alloc _) ?_ (by decide)).mono ?_
  · exact Rd.lits _ _ _ _ rfl _ _ (by simp) rfl
  rintro e w2 ⟨rfl, q, rfl⟩
  go_wp2_with (first
    | (go_at_call 13; go_in)
    | (go_at_call 26; go_in)
    | (go_at_call 14; go_in))
  go_ret
  have z1 : Below w.heap.size w p1 := ((Below.refl _ _).alloc (Nat.le_refl _) _).trans (hc1.below (by simp) (fun k _ h => by rw [h]; exact Nat.le_refl _))
  have z2 := (z1.setCell (p := ⟨w.heap.size, 0, none⟩) (Nat.le_refl _) (.int .i64 2)).setCell (p := ⟨w.heap.size, 0, none⟩) (Nat.le_refl _) (.int .i64 3)
  have z3 := z2.trans (hc3.below z2.size (fun k _ h => by rcases h with h | h <;> omega))
  have z4 := (z3.alloc z3.size (.cells #[.int .i64 3, .int .i64 4, .slice (some ⟨S, 0, none⟩) 4 4, .int .i64 0, .int .i64 2] 44)).trans (hc4.below (by have := z3.size; simp; omega) (fun k _ h => by rw [h]; exact z3.size))
  exact ⟨rfl, belowN (z4.alloc z4.size _) _⟩

set_option maxHeartbeats 4000000 in
theorem fill_nil (V : Value) (w : World) : Calls Try.prog 21 #[.pointer none, V] w fun e w' => e = .returned (.slice none 0 0) ∧ w = w' := by
  go_enter Try.func21, Try.ntmps21
  go_wp2
  go_step3
  go_wp2_with (go_at_call 26; go_in)
  try rw [Exit.noGoto_ret]
  go_ret
  exact ⟨rfl, rfl⟩
set_option maxHeartbeats 4000000 in
theorem walk_ringNils (a0 : Int) (w : World) (w0 : (Lit.int .i64 a0).wf = true) :
    Calls Try.prog 5 #[.int .i64 a0] w fun e w' => e = .returned (.bool true) ∧ Below w.heap.size w w' := by
  clear w0
  go_enter Try.func5, Try.ntmps5
  go_wp2_with (first
    | (go_at_call 7; refine (alive_any _).mono ?_; rintro e w' ⟨rfl, hb⟩)
    | (go_at_call 17; go_in)
    | (go_at_call 26; go_in)
    | (go_at_call 16; go_in)
    | (go_at_call 18; go_in)
    | (go_at_call 21; refine (fill_nil _ _).mono ?_; rintro e w9 ⟨rfl, rfl⟩)
    | (go_at_call 11; go_in)
    | (go_at_call 19; go_in)
    | (go_at_call 13; go_in)
    | (go_at_call 14; go_in)
    | (go_at_call 15; go_in))
  go_ret
  exact ⟨rfl, ((Below.refl _ _).alloc (Nat.le_refl _) _).trans (hb.mono (by simp))⟩
end Go.Proofs.Ytfceebbbhjjnaaa
