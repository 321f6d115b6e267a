/- Nobody is there twice: the row of truths beside the list. -/
import Derived.Test.YtoajaemiddgdpaaIdE
import Derived.Test.YtoajaemiddgdpaaAlive
namespace Go.Proofs.Ytoajaemiddgdpaa
open Go.ChangeShapes Go.WideShapes Go.ChangeAt Go.RowKit Go.Deep
set_option linter.unusedVariables false

def trow (xs : List Nat) : Array Value := ((List.range 64).map fun j => Value.bool (decide (j ∈ xs))).toArray
theorem trow_at (xs : List Nat) (k : Nat) (hk : k < 64) : (trow xs)[k]? = some (.bool (decide (k ∈ xs))) := by simp [trow, hk]
theorem trow_set (xs ys : List Nat) (k : Nat) (b : Bool) (hk : k < 64) (h : ∀ j, decide (j ∈ ys) = if j = k then b else decide (j ∈ xs)) : (trow xs).setIfInBounds k (.bool b) = trow ys := by
  apply Array.ext'
  simp only [trow, List.setIfInBounds_toArray]
  apply List.ext_getElem (by simp)
  intro i h1 h2
  rw [List.getElem_set]
  simp only [List.getElem_map, List.getElem_range, h]
  by_cases e : k = i
  · subst e; simp
  · rw [if_neg e, if_neg (fun h => e h.symm)]
theorem bool_info : (Try.prog.info? 4).map (fun i => (i.zero, i.size, i.bytes)) = some (some (.bool false), 1, 1) := by kernel_rfl
theorem make_64 (W : World) : (Instr.makeSlice 39 (.int .i64 64) (.int .i64 64)).run Try.prog W = .ok (.slice (some ⟨W.heap.size, 0, none⟩) 64 64) (W.alloc (.cells (trow []) 4)) := by
  have h := run_make_row' (P := Try.prog) 39 4 (.bool false) 1 Try.underlying39 bool_info rfl .i64 .i64 64 (by omega) (by omega) W
  have e : madeCells #[.bool false] 64 = trow [] := by
    apply Array.ext'
    rw [toList_madeCells_one]
    rfl
  rw [e] at h
  exact h
theorem mod_in (k : Nat) (W : World) (hk : k < 64) : Calls Try.prog 16 #[.int .i64 k, .int .i64 64] W fun e W' => e = .returned (.int .i64 k) ∧ W' = W := by
  have k0 : (0 : Int) ≤ k := by omega
  have k1 : (k : Int) < 64 := by omega
  have k2 : (k : Int) % 64 = k := by omega
  have k3 : (k : Int).tmod 64 = k := by rw [Int.tmod_eq_emod_of_nonneg k0]; omega
  go_enter Try.func16, Try.ntmps16
  go_wp2
  go_ret
  exact ⟨rfl, rfl⟩
/-- Of xs, those below k. -/
def cnt (xs : List Nat) (k : Nat) : Nat := (xs.filter (· < k)).length
theorem cnt_zero (xs : List Nat) : cnt xs 0 = 0 := by simp [cnt]
theorem cnt_all (xs : List Nat) (n : Nat) (h : ∀ x ∈ xs, x < n) : cnt xs n = xs.length := by
  unfold cnt
  rw [List.filter_eq_self.2]
  intro x hx
  simpa using h x hx
theorem cnt_succ (xs : List Nat) (k : Nat) (hn : xs.Nodup) : cnt xs (k + 1) = cnt xs k + if k ∈ xs then 1 else 0 := by
  induction xs with
  | nil => simp [cnt]
  | cons x t ih =>
    obtain ⟨h1, h2⟩ := List.nodup_cons.1 hn
    have ih := ih h2
    simp only [cnt, List.filter_cons, List.mem_cons] at ih ⊢
    by_cases e : k = x
    · subst e
      simp only [h1, if_false, Nat.add_zero] at ih
      simp [ih]
    · by_cases hlt : x < k
      · have h3 : x < k + 1 := by omega
        simp only [hlt, h3, decide_true, if_true, List.length_cons, ih, e, false_or]
        omega
      · have h3 : ¬ x < k + 1 := by omega
        simp only [hlt, h3, decide_false, e, false_or]
        simpa using ih
theorem cnt_lek (xs : List Nat) (hn : xs.Nodup) : ∀ k, cnt xs k ≤ k
  | 0 => by rw [cnt_zero]; exact Nat.le_refl _
  | k + 1 => by
    have := cnt_lek xs hn k
    rw [cnt_succ xs k hn]
    split <;> omega
theorem len_le (xs : List Nat) (n : Nat) (hn : xs.Nodup) (h : ∀ x ∈ xs, x < n) : xs.length ≤ n := by
  rw [← cnt_all xs n h]; exact cnt_lek xs hn n
theorem cnt_le (xs : List Nat) (k : Nat) : cnt xs k ≤ xs.length := List.length_filter_le _ _

def Both (w : World) (T : Nat) (xs : List Nat) (wr : World) : Prop := Il wr (w.heap.size + 1) w.heap.size 64 xs ∧ Blk wr T 4 (trow xs) ∧ Below w.heap.size w wr ∧ w.heap.size + 2 ≤ T
def Once (w : World) (T len : Nat) (i : Value) (wr : World) : Prop := ∃ (k : Nat) (xs : List Nat), k ≤ len ∧ i = .int .i64 k ∧ Both w T xs wr
theorem Once.step {w wr : World} {T len k : Nat} {xs : List Nat} (hk : k < len) (h : Both w T xs wr) : Once w T len (.int .i64 ((k : Int) + 1)) wr := ⟨k + 1, xs, by omega, by go_num, h⟩
theorem Both.alloc {w wr : World} {T : Nat} {xs : List Nat} (h : Both w T xs wr) (o : Obj) : Both w T xs (wr.alloc o) :=
  ⟨h.1.kept (S := fun _ => False) ((Chg.refl _ _).alloc _) (fun h => h) (fun h => h), h.2.1.alloc _, h.2.2.1.alloc h.2.2.1.size _, h.2.2.2⟩
theorem Both.drewN {w wr : World} {T : Nat} {xs : List Nat} (h : Both w T xs wr) (n : Nat) : Both w T xs (wr.drewN n) := ⟨h.1.kept (S := fun _ => False) ((Chg.refl _ _).drewN _) (fun h => h) (fun h => h), h.2.1.drewN _, belowN h.2.2.1 _, h.2.2.2⟩
theorem Both.two {w wr w1 : World} {T k : Nat} {xs ys : List Nat} {b : Bool} (h : Both w T xs wr) (h1 : Il w1 (w.heap.size + 1) w.heap.size 64 ys) (hc : Chg (fun g => g = w.heap.size + 1 ∨ g = w.heap.size) wr w1) (hk : k < 64) (hs : ∀ j, decide (j ∈ ys) = if j = k then b else decide (j ∈ xs)) :
    Both w T ys (w1.setCell ⟨T, k, none⟩ (.bool b)) ∧ w1.frozen? ⟨T, k, none⟩ = false ∧ w1.cell? ⟨T, k, none⟩ = some (.bool (decide (k ∈ xs))) := by
  have ht := h.2.2.2
  have hn : ¬ (T = w.heap.size + 1 ∨ T = w.heap.size) := by omega
  have hB := h.2.1.kept hc hn
  refine ⟨⟨h1.kept (S := fun g => g = T) ((Chg.refl (fun g => g = T) _).setCell (p := ⟨T, k, none⟩) (.inl rfl) _) (by omega) (by omega), ?_, ?_, ht⟩, hB.frozen k, ?_⟩
  · rw [← trow_set xs ys k b hk hs]; exact hB.set_ k _
  · exact (h.2.2.1.trans (hc.below h.2.2.1.size (by rintro k _ (rfl | rfl) <;> omega))).setCell (p := ⟨T, k, none⟩) (show w.heap.size ≤ T by omega) _
  · rw [hB.cell]; exact trow_at xs k hk
def Last (w : World) (T : Nat) (xs : List Nat) (n i : Value) (wr : World) : Prop := ∃ j : Nat, j ≤ 64 ∧ i = .int .i64 j ∧ n = .int .i64 (cnt xs j) ∧ Both w T xs wr
theorem Last.yes {w wr : World} {T j : Nat} {xs : List Nat} (hj : j < 64) (hx : j ∈ xs) (h : Both w T xs wr) : Last w T xs (.int .i64 ((cnt xs j : Nat) + 1 : Int)) (.int .i64 ((j : Int) + 1)) wr := ⟨j + 1, by omega, by go_num, by rw [cnt_succ xs j h.1.2.2.1, if_pos hx]; go_num, h⟩
theorem Last.no {w wr : World} {T j : Nat} {xs : List Nat} (hj : j < 64) (hx : j ∉ xs) (h : Both w T xs wr) : Last w T xs (.int .i64 (cnt xs j : Nat)) (.int .i64 ((j : Int) + 1)) wr := ⟨j + 1, by omega, by go_num, by rw [cnt_succ xs j h.1.2.2.1, if_neg hx]; rfl, h⟩
theorem has_yes (L R most k : Nat) (xs : List Nat) (W : World) (h : Il W L R most xs) (hm : most ≤ 1024) (hk : k < most) (hx : k ∈ xs) : Calls Try.prog 13 #[.pointer (some ⟨L, 0, none⟩), .int .i64 k] W fun e W' => e = .returned (.bool true) ∧ W' = W := by
  have h9 := has_at L R most k xs W h hm hk
  rw [decide_eq_true hx] at h9
  exact h9
theorem has_no (L R most k : Nat) (xs : List Nat) (W : World) (h : Il W L R most xs) (hm : most ≤ 1024) (hk : k < most) (hx : k ∉ xs) : Calls Try.prog 13 #[.pointer (some ⟨L, 0, none⟩), .int .i64 k] W fun e W' => e = .returned (.bool false) ∧ W' = W := by
  have h9 := has_at L R most k xs W h hm hk
  rw [decide_eq_false hx] at h9
  exact h9
end Go.Proofs.Ytoajaemiddgdpaa
