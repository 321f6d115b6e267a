/- The walk of the law ShrinkLists. -/
import Derived.Test.YtbpppcpndkkbaaaGreatDoorShH
namespace Go.Proofs.YtbpppcpndkkbaaaGreatDoor
open Go.ChangeShapes Go.WideShapes Go.ChangeAt Go.RowKit Go.Deep
set_option linter.unusedVariables false

def lit3 : List (List Int) := [[1, 0, 0], [2, 0, 0], [3, 0, 0]]
theorem lit3_uni : Uni 3 lit3 := by
  intro e he
  simp [lit3] at he
  rcases he with rfl | rfl | rfl <;> rfl
theorem lit3_tail : Uni 3 (lit3.drop 1) := fun e he => lit3_uni e (List.mem_of_mem_drop he)
abbrev litW (W : World) : World := W.alloc (.cells #[.int .i64 1, .int .i64 0, .int .i64 0, .int .i64 2, .int .i64 0, .int .i64 0, .int .i64 3, .int .i64 0, .int .i64 0] 47)
theorem lit3_rd (W : World) : Rd (litW W) 3 (some ⟨W.heap.size, 0, none⟩) 3 (kv lit3) := Rd.of_blk (Blk.new W 47 _) lit3_uni rfl
theorem lit3_rd1 (W : World) : Rd (litW W) 3 (some ⟨W.heap.size, 3, none⟩) 2 (kv (lit3.drop 1)) := by
  have h := (lit3_rd W).dropE lit3_uni 1 (by decide)
  exact h
theorem wo_lit : (wo 1 lit3).length = 2 := by decide
theorem met1 : decide (met (lit3.drop 1) lit3 0 = (lit3.drop 1).length) = true := by decide
theorem met2 : decide (met lit3 (lit3.drop 1) 0 = lit3.length) = false := by decide
set_option maxHeartbeats 2000000 in
theorem alive_any (W : World) : Calls Tryz.prog 7 #[] W fun e W' => e = .returned (.bool true) ∧ Chg (fun _ => False) W W' := by
  have H1 := Lib.hid (without_any (some ⟨W.heap.size, 0, none⟩) 3 3 lit3 1 (litW W) lit3_uni (lit3_rd W) (by decide) (by decide) (by decide))
  have H2 := Lib.hid (fun (V : World) (h : Chg (fun _ => False) (litW W) V) => sub_any (some ⟨W.heap.size, 3, none⟩) (some ⟨W.heap.size, 0, none⟩) 2 3 2 3 (lit3.drop 1) lit3 V lit3_tail lit3_uni ((lit3_rd1 W).kept h (fun _ _ h => h)) ((lit3_rd W).kept h (fun _ _ h => h)) (by decide) (by decide) (by decide) (by decide))
  have H3 := Lib.hid (fun (V : World) (h : Chg (fun _ => False) (litW W) V) => sub_any (some ⟨W.heap.size, 0, none⟩) (some ⟨W.heap.size, 3, none⟩) 3 2 3 2 lit3 (lit3.drop 1) V lit3_uni lit3_tail ((lit3_rd W).kept h (fun _ _ h => h)) ((lit3_rd1 W).kept h (fun _ _ h => h)) (by decide) (by decide) (by decide) (by decide))
  rw [wo_lit] at H1
  rw [met1] at H2
  rw [met2] at H3
  go_enter Tryz.func7, Tryz.ntmps7
  go_wp2_with (first
    | (go_at_call 19; refine (prefix_none _ _ _ _).mono ?_; rintro e w4 ⟨rfl, hc4⟩; have HC4 := Lib.hid (HC3.out.trans hc4 (fun _ _ h => h)); clear hc4)
    | (go_at_call 11; refine (H3.out _ HC2.out).mono ?_; rintro e w3 ⟨rfl, hc3⟩; have HC3 := Lib.hid (HC2.out.trans hc3 (fun _ _ h => h)); clear hc3 H3)
    | (go_at_call 11; refine (H2.out _ HC1.out).mono ?_; rintro e w2 ⟨rfl, hc2⟩; have HC2 := Lib.hid (HC1.out.trans hc2 (fun _ _ h => h)); clear hc2 H2)
    | (go_at_call 9; refine H1.out.mono ?_; rintro e w1 ⟨A1, c1, rfl, hr1, hc1⟩; have HC1 := Lib.hid hc1; clear hr1 hc1 H1))
  go_ret
  exact ⟨rfl, ((Chg.refl _ _).alloc _).trans HC4.out (fun _ _ h => h)⟩
set_option maxHeartbeats 4000000 in
theorem walk_shrinkLists' (A B : Option Addr) (n m c d : Nat) (a b : List (List Int)) (i : Int) (w : World) (hua : Uni 3 a) (hub : Uni 3 b) (hA : Rd w 3 A n (kv a)) (hB : Rd w 3 B m (kv b)) (hnc : n ≤ c) (hcm : c ≤ maxLen) :
    Calls Tryz.prog 3 #[.slice A n c, .slice B m d, .int .i64 i] w fun e w' => e = .returned (.bool true) ∧ Below w.heap.size w w' := by
  by_cases hn : n ≤ 100
  · by_cases hm : m ≤ 100
    · have n1 : ¬ (100 : Int) < n := by omega
      have m1 : ¬ (100 : Int) < m := by omega
      have hwl : (wo i a).length ≤ 1000 := by have := wo_len i a; have := hA.lenk hua (by decide); omega
      have huw : Uni 3 (wo i a) := wo_uni hua
      have H1 := Lib.hid (without_any A n c a i w hua hA (by omega) hnc hcm)
      have H2 := Lib.hid (fun (V : World) (h : Chg (fun _ => False) w V) => refWithout_any A n c a i V hua (hA.kept h (fun _ _ h => h)) (by omega))
      have H4 := Lib.hid (fun (V : World) (h : Chg (fun _ => False) w V) => sub_any A B n m c d a b V hua hub (hA.kept h (fun _ _ h => h)) (hB.kept h (fun _ _ h => h)) (by omega) (by omega) hnc hcm)
      have H5 := Lib.hid (fun (V : World) (h : Chg (fun _ => False) w V) => refSub_any A B n m c d a b V hua hub (hA.kept h (fun _ _ h => h)) (hB.kept h (fun _ _ h => h)) (by omega) (by omega))
      generalize wo i a = L at *
      generalize decide (met a b 0 = a.length) = q at *
      clear hA hB
      go_enter Tryz.func3, Tryz.ntmps3
      go_wp2_with (first
        | (go_at_call 7; refine (alive_any _).mono ?_; rintro e w6 ⟨rfl, hc6⟩; have HC6 := Lib.hid (HC5.out.trans hc6 (fun _ _ h => h)); clear hc6)
        | (go_at_call 12; refine (H5.out _ HC4.out).mono ?_; rintro e w5 ⟨rfl, hc5⟩; have HC5 := Lib.hid (HC4.out.trans hc5 (fun _ _ h => h)); clear hc5)
        | (go_at_call 11; refine (H4.out _ HC3.out).mono ?_; rintro e w4 ⟨rfl, hc4⟩; have HC4 := Lib.hid (HC3.out.trans hc4 (fun _ _ h => h)); clear hc4)
        | (go_at_call 8; refine (esame_yes _ _ _ _ _ _ L _ huw HR1.out HR2.out (by omega)).mono ?_; rintro e w3 ⟨rfl, q3, rfl⟩; have HC3 := Lib.hid (HC2.out.drewN q3))
        | (go_at_call 10; refine (H2.out _ HC1.out).mono ?_; rintro e w2 ⟨A2, c2, rfl, hr2, hc2⟩; have HR1 := Lib.hid (HR0.out.kept hc2 (fun _ _ h => h)); have HR2 := Lib.hid hr2.rd; have HC2 := Lib.hid (HC1.out.trans hc2 (fun _ _ h => h)); clear hr2 hc2)
        | (go_at_call 9; refine H1.out.mono ?_; rintro e w1 ⟨A1, c1, rfl, hr1, hc1⟩; have HR0 := Lib.hid hr1.rd; have HC1 := Lib.hid hc1; clear hr1 hc1))
      go_ret
      exact ⟨by simp, HC6.out.below (Nat.le_refl _) (fun _ _ h => h.elim)⟩
    · have n1 : ¬ (100 : Int) < n := by omega
      have m1 : (100 : Int) < m := by omega
      clear hA hB
      go_enter Tryz.func3, Tryz.ntmps3
      go_wp2_with (go_at_call 7; refine (alive_any _).mono ?_; rintro e w6 ⟨rfl, hc6⟩)
      go_ret
      exact ⟨rfl, hc6.below (Nat.le_refl _) (fun _ _ h => h.elim)⟩
  · have n1 : (100 : Int) < n := by omega
    clear hA hB
    go_enter Tryz.func3, Tryz.ntmps3
    go_wp2_with (go_at_call 7; refine (alive_any _).mono ?_; rintro e w6 ⟨rfl, hc6⟩)
    go_ret
    exact ⟨rfl, hc6.below (Nat.le_refl _) (fun _ _ h => h.elim)⟩
theorem walk_shrinkLists (cs0 : List Value) (d0 : (Sh.sl ShE).Den) (cs1 : List Value) (d1 : (Sh.sl ShE).Den) (a2 : Int) (w : World) (hL0 : Lies w (.sl ShE) cs0 d0) (hL1 : Lies w (.sl ShE) cs1 d1) (w2 : (Lit.int .i64 a2).wf = true) (hL : laidMetH Tryz.prog Rows.shrinkListsRow.laid w) :
    Calls Tryz.prog 3 #[Sh.val (.sl ShE) cs0, Sh.val (.sl ShE) cs1, .int .i64 a2] w fun e w' => e = .returned (.bool true) ∧ Below w.heap.size w w' := by
  obtain ⟨A, n, c, a, e0, h1, h2, h3, h4⟩ := open_entries hL0
  obtain ⟨B, m, d, b, e1, g1, g2, g3, g4⟩ := open_entries hL1
  rw [e0, e1]
  exact walk_shrinkLists' A B n m c d a b a2 w h3 g3 h4 g4 h1 h2
end Go.Proofs.YtbpppcpndkkbaaaGreatDoor
