/- The chapter's example of the global row; the walks of the laws GlobManies, GlobNils. -/
import Derived.Test.YtifflhombjljbaaGlobD
namespace Go.Proofs.Ytifflhombjljbaa
open Go.ChangeShapes Go.WideShapes Go.ChangeAt Go.RowKit Go.Deep
set_option linter.unusedVariables false

theorem i64_le {a : Int} (h : (Lit.int .i64 a).wf = true) : a ≤ 9223372036854775807 := by
  have h' : (decide (IntKind.i64.min ≤ a) && decide (a ≤ IntKind.i64.max)) = true := h
  rw [Bool.and_eq_true] at h'
  have h2 := of_decide_eq_true h'.2
  have e : IntKind.i64.max = 9223372036854775807 := by decide
  omega
theorem Rd.lits (w : World) (zs : List Int) (E : TypeId) (cs : Array Value) (hcs : cs = (ints zs).toArray) (n m : Nat) (hn : n = w.heap.size) (hm : m = zs.length) : Rd (w.alloc (.cells cs E)) 1 (some ⟨n, 0, none⟩) m (ints zs) := by
  subst hcs
  subst hn
  subst hm
  refine ⟨by simp, fun _ => ⟨w.heap.size, 0, rfl, by simp, fun j u hu => ?_⟩⟩
  rw [Nat.zero_add, (Blk.new w E (ints zs).toArray).cell j]
  simpa using hu
theorem gq_new (w : World) (B : Nat) (hb : B ≤ w.heap.size) : GQ (w.alloc (.cells #[.slice none 0 0, .slice none 0 0] 44)) B w.heap.size none none [] :=
  ⟨0, 0, [], [], ⟨hb, Blk.new _ _ _, Row.nil _ _ _ _, Row.nil _ _ _ _, fun g hg => by cases hg⟩, rfl, by simp⟩
set_option maxHeartbeats 1000000 in
theorem new_any (W : World) : Calls Try.prog 9 #[] W fun e W' => e = .returned (.pointer (some ⟨W.heap.size, 0, none⟩)) ∧ W' = W.alloc (.cells #[.slice none 0 0, .slice none 0 0] 44) := by
  go_enter Try.func9, Try.ntmps9
  go_wp2
  go_ret
  exact ⟨rfl, rfl⟩

set_option maxHeartbeats 4000000 in
theorem alive_any (w : World) : Calls Try.prog 8 #[] w fun e w' => e = .returned (.bool true) ∧ Below w.heap.size w w' := by
  have hq0 := (gq_new w w.heap.size (Nat.le_refl _)).same ((Chg.refl (fun _ => False) _).alloc (.cells #[.int .i64 1, .int .i64 2, .int .i64 3, .int .i64 4, .int .i64 5, .int .i64 6, .int .i64 7] 3))
  have hb0 : Below w.heap.size w ((w.alloc (.cells #[.slice none 0 0, .slice none 0 0] 44)).alloc (.cells #[.int .i64 1, .int .i64 2, .int .i64 3, .int .i64 4, .int .i64 5, .int .i64 6, .int .i64 7] 3)) := ((Below.refl _ _).alloc (Nat.le_refl _) _).alloc (by simp) _
  have hr : [] ++ right [1, 2, 3, 4, 5, 6, 7] = [1, 2, 3, 4, 5, 6, 7] := by decide
  have hm : manyOf 7 3 128 = 3 := by decide
  go_enter Try.func8, Try.ntmps8
  go_wp2_with (go_at_call 9; refine (new_any _).mono ?_; rintro e w1 ⟨rfl, rfl⟩)
  refine (put_any w.heap.size _ none none _ 7 7 [] [1, 2, 3, 4, 5, 6, 7] _ hq0 (Rd.lits _ _ _ _ rfl _ _ (by simp) rfl) ?_ ?_ ?_).mono ?_
  · intro g hg h
    rcases h with h | h | h
    · subst h; simp at hg
    · cases h
    · cases h
  · simp; omega
  · simp
  rw [hr]
  rintro e w1 ⟨rfl, E1, E2, hq1, hc1, hf1⟩
  have hb1 := hc1.below (B := w.heap.size) (by simp; omega) (fun k _ hk => (hq0.fp_lt k hk).1)
  go_wp2_with fail
  refine (many_any 7 3 128 _ (by omega) (by omega) (by omega)).mono ?_
  rw [hm]
  rintro e w2 ⟨rfl, rfl⟩
  go_wp2_with fail
  have hz1 := (hb0.trans hb1).size
  refine (batch_any w.heap.size _ E1 E2 3 128 _ _ hq1 hz1 (by omega) (by omega)).mono ?_
  rintro e w2 ⟨j, D1, D2, Al, cl, hj, rfl, hrow, hq2, hc2, hf2, hd2⟩
  have hj3 : j = 3 := by rw [hj]; decide
  subst hj3
  have hb2 := hc2.below (B := w.heap.size) hz1 (fun k _ hk => (hq1.fp_lt k hk).1)
  have hb3 := (hb0.trans hb1).trans hb2
  clear hj
  go_wp2_with fail
  refine (same_yes _ _ _ _ _ _ [1, 2, 3] _ (hrow.rd.alloc _) ?_ (by decide)).mono ?_
  · exact Rd.lits _ _ _ _ rfl _ _ (by simp) rfl
  rintro e w3 ⟨rfl, q, rfl⟩
  go_wp2_with fail
  refine (len_any w.heap.size _ D1 D2 [4, 5, 6, 7] _ ((hq2.same ((Chg.refl _ _).alloc _)).same ((Chg.refl _ _).drewN q))).mono ?_
  rintro e w4 ⟨rfl, q2, rfl⟩
  go_wp2
  go_ret
  exact ⟨rfl, belowN (hb3.alloc hb3.size _) _⟩
end Go.Proofs.Ytifflhombjljbaa
