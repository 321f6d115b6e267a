/- What the words say, as plain functions; contracts of Is, Scanned, Base and the answers Is, Base. -/
import Derived.Test.YtaihhbkljinplaaDoorBits
import Derived.Test.YtaihhbkljinplaaDoorPlain
import Derived.Deep.QuietTactic
import Derived.BigQuiet
namespace Go.Proofs.YtaihhbkljinplaaDoor
open Go.ChangeShapes Go.WideShapes Go.ChangeAt Go.RowKit

/-- Is it a word? -/
def isB (w : Int) : Bool := decide (0 ≤ w ∧ w ≤ 6 ∨ w = 9 ∨ w = 11 ∨ w = 12 ∨ w = 13)
/-- Is it a word with Scan? -/
def scB (w : Int) : Bool := decide (w = 9 ∨ w = 11 ∨ w = 12 ∨ w = 13)
def baseI (w : Int) : Int := if isB w = true then (if scB w = true then w - 8 else w) else 0
def mayB (f t : Int) : Bool := decide ((f = 0 ∨ f = 4 ∨ f = 5) ∧ t = 1 ∨ f = 1 ∧ (t = 2 ∨ t = 5) ∨ f = 2 ∧ (t = 1 ∨ 3 ≤ t ∧ t ≤ 6) ∨ f = 3 ∧ (t = 1 ∨ t = 2))
def moveR (w to : Int) : Int × Int :=
  if isB w = false ∨ to < 0 ∨ 6 < to then (0, 1) else if mayB (baseI w) to = false then (0, 9) else if scB w = true ∧ to ≠ 1 then (0, 7) else (if scB w = true then to + 8 else to, 0)
def lockR (w : Int) : Int × Int := if isB w = false then (0, 1) else if scB w = true then (0, 7) else if w = 1 ∨ w = 3 ∨ w = 4 ∨ w = 5 then (w + 8, 0) else (0, 9)
def unlockR (w : Int) : Int × Int := if isB w = false then (0, 1) else if scB w = true then (w - 8, 0) else (0, 9)
def nameS (w : Int) : ByteArray := if w = 0 then ⟨#[105, 100, 108, 101]⟩ else if w = 1 then ⟨#[114, 117, 110, 110, 97, 98, 108, 101]⟩ else if w = 2 then ⟨#[114, 117, 110, 110, 105, 110, 103]⟩ else if w = 3 then ⟨#[115, 121, 115, 99, 97, 108, 108]⟩ else if w = 4 then ⟨#[119, 97, 105, 116, 105, 110, 103]⟩ else if w = 5 then ⟨#[112, 114, 101, 101, 109, 112, 116, 101, 100]⟩ else if w = 6 then ⟨#[100, 101, 97, 100]⟩ else if w = 9 then ⟨#[114, 117, 110, 110, 97, 98, 108, 101, 43]⟩ else if w = 11 then ⟨#[115, 121, 115, 99, 97, 108, 108, 43]⟩ else if w = 12 then ⟨#[119, 97, 105, 116, 105, 110, 103, 43]⟩ else if w = 13 then ⟨#[112, 114, 101, 101, 109, 112, 116, 101, 100, 43]⟩ else ⟨#[]⟩

theorem isB_cases {w : Int} (h : isB w = true) : w = 0 ∨ w = 1 ∨ w = 2 ∨ w = 3 ∨ w = 4 ∨ w = 5 ∨ w = 6 ∨ w = 9 ∨ w = 11 ∨ w = 12 ∨ w = 13 := by
  unfold isB at h
  simp at h
  omega
theorem all_cases (w : Int) (hw : (Lit.int .i64 w).wf = true) : w = 0 ∨ w = 1 ∨ w = 2 ∨ w = 3 ∨ w = 4 ∨ w = 5 ∨ w = 6 ∨ w = 7 ∨ w = 8 ∨ w = 9 ∨ w = 10 ∨ w = 11 ∨ w = 12 ∨ w = 13 ∨ w = 14 ∨ ((w < 0 ∨ 14 < w) ∧ isB w = false ∧ scB w = false ∧ bits .xor .i64 w 8 < 0) ∨ ((w < 0 ∨ 14 < w) ∧ isB w = false ∧ scB w = false ∧ 6 < bits .xor .i64 w 8) := by
  by_cases h : 0 ≤ w ∧ w ≤ 14
  · omega
  · have hb : isB w = false := by unfold isB; simp; omega
    have hs : scB w = false := by unfold scB; simp; omega
    have ho : w < 0 ∨ 14 < w := by omega
    rcases xor_out w hw (by omega) with hx | hx
    · exact .inr (.inr (.inr (.inr (.inr (.inr (.inr (.inr (.inr (.inr (.inr (.inr (.inr (.inr (.inr (.inl ⟨ho, hb, hs, hx⟩)))))))))))))))
    · exact .inr (.inr (.inr (.inr (.inr (.inr (.inr (.inr (.inr (.inr (.inr (.inr (.inr (.inr (.inr (.inr ⟨ho, hb, hs, hx⟩)))))))))))))))

/-- The two tables, as the program's text lays them. -/
def Tab (W : World) : Prop := W.cell? ⟨0, 0, none⟩ = some (.string ⟨#[105, 100, 108, 101]⟩) ∧ W.cell? ⟨0, 1, none⟩ = some (.string ⟨#[114, 117, 110, 110, 97, 98, 108, 101]⟩) ∧ W.cell? ⟨0, 2, none⟩ = some (.string ⟨#[114, 117, 110, 110, 105, 110, 103]⟩) ∧ W.cell? ⟨0, 3, none⟩ = some (.string ⟨#[115, 121, 115, 99, 97, 108, 108]⟩) ∧ W.cell? ⟨0, 4, none⟩ = some (.string ⟨#[119, 97, 105, 116, 105, 110, 103]⟩) ∧ W.cell? ⟨0, 5, none⟩ = some (.string ⟨#[112, 114, 101, 101, 109, 112, 116, 101, 100]⟩) ∧ W.cell? ⟨0, 6, none⟩ = some (.string ⟨#[100, 101, 97, 100]⟩) ∧ W.cell? ⟨1, 0, none⟩ = some (.int .i64 2) ∧ W.cell? ⟨1, 1, none⟩ = some (.int .i64 36) ∧ W.cell? ⟨1, 2, none⟩ = some (.int .i64 122) ∧ W.cell? ⟨1, 3, none⟩ = some (.int .i64 6) ∧ W.cell? ⟨1, 4, none⟩ = some (.int .i64 2) ∧ W.cell? ⟨1, 5, none⟩ = some (.int .i64 2) ∧ W.cell? ⟨1, 6, none⟩ = some (.int .i64 0) ∧ 1 < W.heap.size
theorem Tab.below {W W' : World} (h : Tab W) (hb : Below W.heap.size W W') : Tab W' := by
  obtain ⟨n0, n1, n2, n3, n4, n5, n6, f0, f1, f2, f3, f4, f5, f6, hz⟩ := h
  have h0 : 0 < W.heap.size := by omega
  exact ⟨(hb.cell (p := ⟨0, 0, none⟩) h0).trans n0, (hb.cell (p := ⟨0, 1, none⟩) h0).trans n1, (hb.cell (p := ⟨0, 2, none⟩) h0).trans n2, (hb.cell (p := ⟨0, 3, none⟩) h0).trans n3, (hb.cell (p := ⟨0, 4, none⟩) h0).trans n4, (hb.cell (p := ⟨0, 5, none⟩) h0).trans n5, (hb.cell (p := ⟨0, 6, none⟩) h0).trans n6, (hb.cell (p := ⟨1, 0, none⟩) hz).trans f0, (hb.cell (p := ⟨1, 1, none⟩) hz).trans f1, (hb.cell (p := ⟨1, 2, none⟩) hz).trans f2, (hb.cell (p := ⟨1, 3, none⟩) hz).trans f3, (hb.cell (p := ⟨1, 4, none⟩) hz).trans f4, (hb.cell (p := ⟨1, 5, none⟩) hz).trans f5, (hb.cell (p := ⟨1, 6, none⟩) hz).trans f6, Nat.lt_of_lt_of_le hz hb.size⟩
theorem tab_of_laid {W : World} (h : laidMetH Tryd.prog Rows.gstatLooksRow.laid W) : Tab W := by
  have hg0 : Tryd.prog.globalNamed "escapement/gstat.names" = some 0 := by kernel_rfl
  have hg1 : Tryd.prog.globalNamed "escapement/gstat.follows" = some 1 := by kernel_rfl
  have ht0 : (Tryd.prog.globals[0]?).map (·.type) = some 33 := by kernel_rfl
  have ht1 : (Tryd.prog.globals[1]?).map (·.type) = some 35 := by kernel_rfl
  have hp : (Rows.gstatLooksRow.laid.all fun x => x.2.handleName?.isNone) = true := by kernel_rfl
  have c1 : W.cell? ⟨1, 0, none⟩ = some (.int .i64 2) := laid_cell h hp 0 8 0 rfl hg1 ht1 (by kernel_rfl)
  exact ⟨laid_cell h hp 1 8 0 rfl hg0 ht0 (by kernel_rfl), laid_cell h hp 1 8 1 rfl hg0 ht0 (by kernel_rfl), laid_cell h hp 1 8 2 rfl hg0 ht0 (by kernel_rfl), laid_cell h hp 1 8 3 rfl hg0 ht0 (by kernel_rfl), laid_cell h hp 1 8 4 rfl hg0 ht0 (by kernel_rfl), laid_cell h hp 1 8 5 rfl hg0 ht0 (by kernel_rfl), laid_cell h hp 1 8 6 rfl hg0 ht0 (by kernel_rfl), laid_cell h hp 0 8 0 rfl hg1 ht1 (by kernel_rfl), laid_cell h hp 0 8 1 rfl hg1 ht1 (by kernel_rfl), laid_cell h hp 0 8 2 rfl hg1 ht1 (by kernel_rfl), laid_cell h hp 0 8 3 rfl hg1 ht1 (by kernel_rfl), laid_cell h hp 0 8 4 rfl hg1 ht1 (by kernel_rfl), laid_cell h hp 0 8 5 rfl hg1 ht1 (by kernel_rfl), laid_cell h hp 0 8 6 rfl hg1 ht1 (by kernel_rfl), World.block_lt_of_cell? _ _ c1⟩

attribute [local go_sem] bx0 bn0 ba0 bo0 bp0 bx1 bn1 ba1 bo1 bp1 bx2 bn2 ba2 bo2 bp2 bx3 bn3 ba3 bo3 bp3 bx4 bn4 ba4 bo4 bp4 bx5 bn5 ba5 bo5 bp5 bx6 bn6 ba6 bo6 bp6 bx7 bn7 ba7 bo7 bp7 bx8 bn8 ba8 bo8 bp8 bx9 bn9 ba9 bo9 bp9 bx10 bn10 ba10 bo10 bp10 bx11 bn11 ba11 bo11 bp11 bx12 bn12 ba12 bo12 bp12 bx13 bn13 ba13 bo13 bp13 bx14 bn14 ba14 bo14 bp14 bk0 bk1 bk2 bk3 bk4 bk6 bk7 bk9 bk14 bk15 bk18 bk29 bk30 bk36 bk58 bk61 bk122
set_option maxHeartbeats 2000000 in
theorem sc_any (w : Int) (hw : (Lit.int .i64 w).wf = true) (W : World) : Calls Tryd.prog 10 #[.int .i64 w] W fun e W' => e = .returned (.bool (scB w)) ∧ W = W' := by
  rcases all_cases w hw with rfl | rfl | rfl | rfl | rfl | rfl | rfl | rfl | rfl | rfl | rfl | rfl | rfl | rfl | rfl | ⟨ho, hb, hs, hx⟩ | ⟨ho, hb, hs, hx⟩
  all_goals try (rcases ho with ho | ho)
  all_goals try (have d7 : decide (w < 7) = false := decide_eq_false (by omega))
  all_goals try (have d6 : decide (w ≤ 6) = false := decide_eq_false (by omega))
  all_goals go_enter Tryd.func10, Tryd.ntmps10
  all_goals go_wp2
  all_goals go_ret
  all_goals refine ⟨?_, rfl⟩
  all_goals first | rfl | (rw [hb]; done) | (rw [hs]; done) | (rw [hb]; simp; omega) | (rw [hs]; simp; omega) | (unfold scB; rw [hb]; rfl)

set_option maxHeartbeats 2000000 in
theorem is_any (w : Int) (hw : (Lit.int .i64 w).wf = true) (W : World) : Calls Tryd.prog 6 #[.int .i64 w] W fun e W' => e = .returned (.bool (isB w)) ∧ W = W' := by
  rcases all_cases w hw with rfl | rfl | rfl | rfl | rfl | rfl | rfl | rfl | rfl | rfl | rfl | rfl | rfl | rfl | rfl | ⟨ho, hb, hs, hx⟩ | ⟨ho, hb, hs, hx⟩
  all_goals try (rcases ho with ho | ho)
  all_goals try (have d7 : decide (w < 7) = false := decide_eq_false (by omega))
  all_goals try (have d6 : decide (w ≤ 6) = false := decide_eq_false (by omega))
  all_goals go_enter Tryd.func6, Tryd.ntmps6
  all_goals go_wp2
  all_goals go_ret
  all_goals refine ⟨?_, rfl⟩
  all_goals first | rfl | (rw [hb]; done) | (rw [hs]; done) | (rw [hb]; simp; omega) | (rw [hs]; simp; omega) | (unfold isB; rw [hb]; rfl)

set_option maxHeartbeats 2000000 in
theorem refIs_any (w : Int) (hw : (Lit.int .i64 w).wf = true) (W : World) : Calls Tryd.prog 7 #[.int .i64 w] W fun e W' => e = .returned (.bool (isB w)) ∧ W = W' := by
  rcases all_cases w hw with rfl | rfl | rfl | rfl | rfl | rfl | rfl | rfl | rfl | rfl | rfl | rfl | rfl | rfl | rfl | ⟨ho, hb, hs, hx⟩ | ⟨ho, hb, hs, hx⟩
  all_goals try (rcases ho with ho | ho)
  all_goals try (have d7 : decide (w < 7) = false := decide_eq_false (by omega))
  all_goals try (have d6 : decide (w ≤ 6) = false := decide_eq_false (by omega))
  all_goals go_enter Tryd.func7, Tryd.ntmps7
  all_goals go_wp2
  all_goals go_ret
  all_goals refine ⟨?_, rfl⟩
  all_goals first | rfl | (rw [hb]; done) | (rw [hs]; done) | (rw [hb]; simp; omega) | (rw [hs]; simp; omega) | (unfold isB; rw [hb]; rfl)

set_option maxHeartbeats 2000000 in
theorem base_any (w : Int) (hw : (Lit.int .i64 w).wf = true) (W : World) : Calls Tryd.prog 8 #[.int .i64 w] W fun e W' => e = .returned (.int .i64 (baseI w)) ∧ W = W' := by
  rcases all_cases w hw with rfl | rfl | rfl | rfl | rfl | rfl | rfl | rfl | rfl | rfl | rfl | rfl | rfl | rfl | rfl | ⟨ho, hb, hs, hx⟩ | ⟨ho, hb, hs, hx⟩
  all_goals try (rcases ho with ho | ho)
  all_goals try (have d7 : decide (w < 7) = false := decide_eq_false (by omega))
  all_goals try (have d6 : decide (w ≤ 6) = false := decide_eq_false (by omega))
  all_goals go_enter Tryd.func8, Tryd.ntmps8
  all_goals go_wp2
  all_goals go_ret
  all_goals refine ⟨?_, rfl⟩
  all_goals first | rfl | (rw [hb]; done) | (rw [hs]; done) | (rw [hb]; simp; omega) | (rw [hs]; simp; omega) | (unfold baseI; rw [hb]; rfl)

set_option maxHeartbeats 2000000 in
theorem refBase_any (w : Int) (hw : (Lit.int .i64 w).wf = true) (W : World) : Calls Tryd.prog 9 #[.int .i64 w] W fun e W' => e = .returned (.int .i64 (baseI w)) ∧ W = W' := by
  rcases all_cases w hw with rfl | rfl | rfl | rfl | rfl | rfl | rfl | rfl | rfl | rfl | rfl | rfl | rfl | rfl | rfl | ⟨ho, hb, hs, hx⟩ | ⟨ho, hb, hs, hx⟩
  all_goals try (rcases ho with ho | ho)
  all_goals try (have d7 : decide (w < 7) = false := decide_eq_false (by omega))
  all_goals try (have d6 : decide (w ≤ 6) = false := decide_eq_false (by omega))
  all_goals go_enter Tryd.func9, Tryd.ntmps9
  all_goals go_wp2
  all_goals go_ret
  all_goals refine ⟨?_, rfl⟩
  all_goals first | rfl | (rw [hb]; done) | (rw [hs]; done) | (rw [hb]; simp; omega) | (rw [hs]; simp; omega) | (unfold baseI; rw [hb]; rfl)

end Go.Proofs.YtaihhbkljinplaaDoor
