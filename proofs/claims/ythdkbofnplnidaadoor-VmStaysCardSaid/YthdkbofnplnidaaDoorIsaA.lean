/- The table of ops, as the program's text lays it: what stands at each op. No statement is proved here. -/
import Derived.Test.YthdkbofnplnidaaDoorPlain
import Derived.Test.YthdkbofnplnidaaDoorRowz
import Derived.Laws.Rows
namespace Go.Proofs.YthdkbofnplnidaaDoor
open Go.ChangeShapes Go.WideShapes Go.ChangeAt Go.RowKit Go.Deep
set_option linter.unusedVariables false
set_option linter.unusedSimpArgs false
def nmL : List ByteArray := [⟨#[110, 111, 112]⟩, ⟨#[99, 111, 110, 115, 116]⟩, ⟨#[97, 100, 100]⟩, ⟨#[115, 117, 98]⟩, ⟨#[109, 117, 108]⟩, ⟨#[108, 101, 115, 115]⟩, ⟨#[106, 117, 109, 112]⟩, ⟨#[105, 102]⟩, ⟨#[99, 97, 108, 108]⟩, ⟨#[114, 101, 116]⟩, ⟨#[115, 112, 97, 119, 110]⟩, ⟨#[121, 105, 101, 108, 100]⟩, ⟨#[98, 108, 111, 99, 107]⟩, ⟨#[114, 101, 97, 100, 121]⟩, ⟨#[101, 120, 105, 116]⟩, ⟨#[101, 109, 105, 116]⟩, ⟨#[115, 121, 115]⟩, ⟨#[115, 116, 111, 112]⟩, ⟨#[115, 116, 97, 114, 116]⟩, ⟨#[98, 97, 114, 114, 105, 101, 114]⟩, ⟨#[115, 117, 115, 112, 101, 110, 100]⟩, ⟨#[114, 101, 115, 117, 109, 101]⟩, ⟨#[114, 101, 115, 105, 122, 101]⟩, ⟨#[115, 101, 108, 102]⟩]
def rgL : List Int := [0, 1, 3, 3, 3, 3, 0, 1, 0, 0, 1, 0, 0, 1, 0, 1, 1, 0, 0, 0, 1, 1, 1, 1]
def tgL : List Int := [0, 0, 0, 0, 0, 0, 1, 1, 2, 0, 2, 0, 0, 0, 0, 0, 0, 0, 0, 0, 0, 0, 0, 0]
def nbL : List Bool := [false, true, false, false, false, false, false, false, false, false, false, false, false, false, false, false, false, false, false, false, false, false, false, false]
def wtL : List Bool := [false, false, false, false, false, false, false, false, false, false, false, true, true, false, false, false, true, true, false, true, true, false, false, false]
def enL : List Bool := [false, false, false, false, false, false, true, false, false, true, false, false, false, false, true, false, false, false, false, false, false, false, false, false]
def akL : List Bool := [false, false, false, false, false, false, false, false, false, false, true, false, false, true, false, false, false, false, false, false, true, true, true, true]
def nm (k : Nat) : ByteArray := nmL.getD k ByteArray.empty
def rg (k : Nat) : Int := rgL.getD k 0
def tg (k : Nat) : Int := tgL.getD k 0
def nb (k : Nat) : Bool := nbL.getD k false
def wt (k : Nat) : Bool := wtL.getD k false
def en (k : Nat) : Bool := enL.getD k false
def ak (k : Nat) : Bool := akL.getD k false
def ent (k : Nat) : Array Value := #[.string (nm k), .int .i64 (rg k), .int .i64 (tg k), .bool (nb k), .bool (wt k), .bool (en k), .bool (ak k)]
set_option maxRecDepth 100000 in
def tabA : Array Value := #[.string ⟨#[110, 111, 112]⟩, .int .i64 0, .int .i64 0, .bool false, .bool false, .bool false, .bool false, .string ⟨#[99, 111, 110, 115, 116]⟩, .int .i64 1, .int .i64 0, .bool true, .bool false, .bool false, .bool false, .string ⟨#[97, 100, 100]⟩, .int .i64 3, .int .i64 0, .bool false, .bool false, .bool false, .bool false, .string ⟨#[115, 117, 98]⟩, .int .i64 3, .int .i64 0, .bool false, .bool false, .bool false, .bool false, .string ⟨#[109, 117, 108]⟩, .int .i64 3, .int .i64 0, .bool false, .bool false, .bool false, .bool false, .string ⟨#[108, 101, 115, 115]⟩, .int .i64 3, .int .i64 0, .bool false, .bool false, .bool false, .bool false, .string ⟨#[106, 117, 109, 112]⟩, .int .i64 0, .int .i64 1, .bool false, .bool false, .bool true, .bool false, .string ⟨#[105, 102]⟩, .int .i64 1, .int .i64 1, .bool false, .bool false, .bool false, .bool false, .string ⟨#[99, 97, 108, 108]⟩, .int .i64 0, .int .i64 2, .bool false, .bool false, .bool false, .bool false, .string ⟨#[114, 101, 116]⟩, .int .i64 0, .int .i64 0, .bool false, .bool false, .bool true, .bool false, .string ⟨#[115, 112, 97, 119, 110]⟩, .int .i64 1, .int .i64 2, .bool false, .bool false, .bool false, .bool true, .string ⟨#[121, 105, 101, 108, 100]⟩, .int .i64 0, .int .i64 0, .bool false, .bool true, .bool false, .bool false, .string ⟨#[98, 108, 111, 99, 107]⟩, .int .i64 0, .int .i64 0, .bool false, .bool true, .bool false, .bool false, .string ⟨#[114, 101, 97, 100, 121]⟩, .int .i64 1, .int .i64 0, .bool false, .bool false, .bool false, .bool true, .string ⟨#[101, 120, 105, 116]⟩, .int .i64 0, .int .i64 0, .bool false, .bool false, .bool true, .bool false, .string ⟨#[101, 109, 105, 116]⟩, .int .i64 1, .int .i64 0, .bool false, .bool false, .bool false, .bool false, .string ⟨#[115, 121, 115]⟩, .int .i64 1, .int .i64 0, .bool false, .bool true, .bool false, .bool false, .string ⟨#[115, 116, 111, 112]⟩, .int .i64 0, .int .i64 0, .bool false, .bool true, .bool false, .bool false, .string ⟨#[115, 116, 97, 114, 116]⟩, .int .i64 0, .int .i64 0, .bool false, .bool false, .bool false, .bool false, .string ⟨#[98, 97, 114, 114, 105, 101, 114]⟩, .int .i64 0, .int .i64 0, .bool false, .bool true, .bool false, .bool false, .string ⟨#[115, 117, 115, 112, 101, 110, 100]⟩, .int .i64 1, .int .i64 0, .bool false, .bool true, .bool false, .bool true, .string ⟨#[114, 101, 115, 117, 109, 101]⟩, .int .i64 1, .int .i64 0, .bool false, .bool false, .bool false, .bool true, .string ⟨#[114, 101, 115, 105, 122, 101]⟩, .int .i64 1, .int .i64 0, .bool false, .bool false, .bool false, .bool true, .string ⟨#[115, 101, 108, 102]⟩, .int .i64 1, .int .i64 0, .bool false, .bool false, .bool false, .bool true]
set_option maxRecDepth 100000 in
theorem tab_size : tabA.size = 168 := by kernel_rfl
theorem tab_at : (List.range 168).map (fun i => atCell Tryd.prog 8 74 Rows.laid_escapement_isa_table i) = tabA.toList.map some := by kernel_rfl
theorem tab_of {i : Nat} (h : i < 168) : atCell Tryd.prog 8 74 Rows.laid_escapement_isa_table i = some (tabA[i]'(by rw [tab_size]; exact h)) := by
  have h1 := congrArg (·[i]?) tab_at
  simp only [List.getElem?_map, List.getElem?_range h, Option.map_some] at h1
  rw [List.getElem?_eq_getElem (by simp [tab_size]; exact h)] at h1
  simpa using h1

theorem laidVars_block {P : Program} {w : World} : ∀ {l : List (String × DataW Unit)} {ps : List MemPlace}, DataW.LaidVars P w l ps → ∀ {j : Nat} {name : String} {d : DataW Unit} {g : Nat} {t : TypeId},
    l[j]? = some (name, d) → P.globalNamed name = some g → (P.globals[g]?).map (·.type) = some t → ∃ cs t' fr, w.heap[g]? = some (.cells cs t' fr) ∧ ∃ fuel p, DataW.trod (fun _ => ()) P w 0 (fun _ => true) false fuel t cs.toList = some (d, p) := by
  intro l
  induction l with
  | nil => intro ps _ j name d g t hj; simp at hj
  | cons x r ih =>
    obtain ⟨n0, d0⟩ := x
    intro ps h j name d g t hj hg ht
    obtain ⟨g', t', cs, fuel, p, q, hg', ht', hv, hd, hr, _⟩ := h
    cases j with
    | zero =>
      simp only [List.getElem?_cons_zero, Option.some.injEq, Prod.mk.injEq] at hj
      obtain ⟨rfl, rfl⟩ := hj
      obtain rfl := Option.some.inj (hg.symm.trans hg')
      obtain rfl := Option.some.inj (ht.symm.trans ht')
      simp only [World.var?, hg, Option.bind_some] at hv
      split at hv
      · rename_i c tt fr hb
        cases hv
        exact ⟨_, _, _, hb, fuel, p, hd⟩
      · cases hv
    | succ j => exact ih hr (by simpa using hj) hg ht

/-- The table's block. -/
def Tab (W : World) : Prop := ∃ t fr, W.heap[0]? = some (.cells tabA t fr)
theorem tab_of_laid {W : World} (h : laidMetH Tryd.prog [("escapement/isa.table", Rows.laid_escapement_isa_table)] W) : Tab W := by
  have hp : (([("escapement/isa.table", Rows.laid_escapement_isa_table)] : List (String × DataW Unit)).all fun x => x.2.handleName?.isNone) = true := by kernel_rfl
  rw [MakeChecks.laidMetH_plain _ _ _ hp] at h
  obtain ⟨ps, hl, _⟩ := h
  have hg : Tryd.prog.globalNamed "escapement/isa.table" = some 0 := by kernel_rfl
  have ht : (Tryd.prog.globals[0]?).map (·.type) = some 74 := by kernel_rfl
  obtain ⟨cs, t', fr, hb, fuel, p, hd⟩ := laidVars_block hl (j := 0) rfl hg ht
  have hsz : cs.size = 168 := by
    have h168 : Tryd.prog.cellsOf 74 = 168 := by kernel_rfl
    obtain ⟨xs, m1, _, hx, hlen, _⟩ := DataW.trod_array Tryd.underlying74 hd
    rw [h168] at hlen
    simpa using hlen
  have : cs = tabA := by
    apply Array.ext
    · rw [hsz, tab_size]
    · intro i h1 h2
      have h3 := atCell_of_trod 8 fuel _ _ _ _ i _ hd (tab_of (by omega))
      rw [Array.getElem?_toList, Array.getElem?_eq_getElem h1] at h3
      exact Option.some.inj h3
  subst this
  exact ⟨_, _, hb⟩
theorem Tab.lt {W : World} (h : Tab W) : 0 < W.heap.size := by
  obtain ⟨t, fr, h⟩ := h
  rcases Nat.eq_zero_or_pos W.heap.size with h0 | h0
  · rw [Array.getElem?_eq_none (by omega)] at h; cases h
  · exact h0
theorem Tab.below {W W' : World} (h : Tab W) (hb : Below W.heap.size W W') : Tab W' := by
  have h0 := h.lt
  obtain ⟨t, fr, h⟩ := h
  exact ⟨t, fr, (hb.block 0 h0).trans h⟩
theorem Tab.alloc {W : World} (h : Tab W) (o : Obj) : Tab (W.alloc o) := h.below ((Below.refl _ _).alloc (Nat.le_refl _) _)
theorem Tab.drewN {W : World} (h : Tab W) (n : Nat) : Tab (W.drewN n) := h
theorem Tab.cell {W : World} (h : Tab W) (i : Nat) : W.cell? ⟨0, i, none⟩ = tabA[i]? := by
  obtain ⟨t, fr, h⟩ := h
  exact cell_of_row W 0 i tabA t fr h
theorem tab_ent0 : tabA[0 * 7]? = some (.string (nm 0)) ∧ tabA[0 * 7 + 1]? = some (.int .i64 (rg 0)) ∧ tabA[0 * 7 + 2]? = some (.int .i64 (tg 0)) ∧ tabA[0 * 7 + 3]? = some (.bool (nb 0)) ∧ tabA[0 * 7 + 4]? = some (.bool (wt 0)) ∧ tabA[0 * 7 + 5]? = some (.bool (en 0)) ∧ tabA[0 * 7 + 6]? = some (.bool (ak 0)) :=
  ⟨by kernel_rfl, by kernel_rfl, by kernel_rfl, by kernel_rfl, by kernel_rfl, by kernel_rfl, by kernel_rfl⟩
theorem tab_idx0 (w : World) : (Instr.index 74 (.agg tabA) (.int .i64 ((0 : Nat) : Int))).run Tryd.prog w = .ok (.agg (ent 0)) w := by kernel_rfl
theorem tab_ent1 : tabA[1 * 7]? = some (.string (nm 1)) ∧ tabA[1 * 7 + 1]? = some (.int .i64 (rg 1)) ∧ tabA[1 * 7 + 2]? = some (.int .i64 (tg 1)) ∧ tabA[1 * 7 + 3]? = some (.bool (nb 1)) ∧ tabA[1 * 7 + 4]? = some (.bool (wt 1)) ∧ tabA[1 * 7 + 5]? = some (.bool (en 1)) ∧ tabA[1 * 7 + 6]? = some (.bool (ak 1)) :=
  ⟨by kernel_rfl, by kernel_rfl, by kernel_rfl, by kernel_rfl, by kernel_rfl, by kernel_rfl, by kernel_rfl⟩
theorem tab_idx1 (w : World) : (Instr.index 74 (.agg tabA) (.int .i64 ((1 : Nat) : Int))).run Tryd.prog w = .ok (.agg (ent 1)) w := by kernel_rfl
theorem tab_ent2 : tabA[2 * 7]? = some (.string (nm 2)) ∧ tabA[2 * 7 + 1]? = some (.int .i64 (rg 2)) ∧ tabA[2 * 7 + 2]? = some (.int .i64 (tg 2)) ∧ tabA[2 * 7 + 3]? = some (.bool (nb 2)) ∧ tabA[2 * 7 + 4]? = some (.bool (wt 2)) ∧ tabA[2 * 7 + 5]? = some (.bool (en 2)) ∧ tabA[2 * 7 + 6]? = some (.bool (ak 2)) :=
  ⟨by kernel_rfl, by kernel_rfl, by kernel_rfl, by kernel_rfl, by kernel_rfl, by kernel_rfl, by kernel_rfl⟩
theorem tab_idx2 (w : World) : (Instr.index 74 (.agg tabA) (.int .i64 ((2 : Nat) : Int))).run Tryd.prog w = .ok (.agg (ent 2)) w := by kernel_rfl
theorem tab_ent3 : tabA[3 * 7]? = some (.string (nm 3)) ∧ tabA[3 * 7 + 1]? = some (.int .i64 (rg 3)) ∧ tabA[3 * 7 + 2]? = some (.int .i64 (tg 3)) ∧ tabA[3 * 7 + 3]? = some (.bool (nb 3)) ∧ tabA[3 * 7 + 4]? = some (.bool (wt 3)) ∧ tabA[3 * 7 + 5]? = some (.bool (en 3)) ∧ tabA[3 * 7 + 6]? = some (.bool (ak 3)) :=
  ⟨by kernel_rfl, by kernel_rfl, by kernel_rfl, by kernel_rfl, by kernel_rfl, by kernel_rfl, by kernel_rfl⟩
theorem tab_idx3 (w : World) : (Instr.index 74 (.agg tabA) (.int .i64 ((3 : Nat) : Int))).run Tryd.prog w = .ok (.agg (ent 3)) w := by kernel_rfl
theorem tab_ent4 : tabA[4 * 7]? = some (.string (nm 4)) ∧ tabA[4 * 7 + 1]? = some (.int .i64 (rg 4)) ∧ tabA[4 * 7 + 2]? = some (.int .i64 (tg 4)) ∧ tabA[4 * 7 + 3]? = some (.bool (nb 4)) ∧ tabA[4 * 7 + 4]? = some (.bool (wt 4)) ∧ tabA[4 * 7 + 5]? = some (.bool (en 4)) ∧ tabA[4 * 7 + 6]? = some (.bool (ak 4)) :=
  ⟨by kernel_rfl, by kernel_rfl, by kernel_rfl, by kernel_rfl, by kernel_rfl, by kernel_rfl, by kernel_rfl⟩
theorem tab_idx4 (w : World) : (Instr.index 74 (.agg tabA) (.int .i64 ((4 : Nat) : Int))).run Tryd.prog w = .ok (.agg (ent 4)) w := by kernel_rfl
theorem tab_ent5 : tabA[5 * 7]? = some (.string (nm 5)) ∧ tabA[5 * 7 + 1]? = some (.int .i64 (rg 5)) ∧ tabA[5 * 7 + 2]? = some (.int .i64 (tg 5)) ∧ tabA[5 * 7 + 3]? = some (.bool (nb 5)) ∧ tabA[5 * 7 + 4]? = some (.bool (wt 5)) ∧ tabA[5 * 7 + 5]? = some (.bool (en 5)) ∧ tabA[5 * 7 + 6]? = some (.bool (ak 5)) :=
  ⟨by kernel_rfl, by kernel_rfl, by kernel_rfl, by kernel_rfl, by kernel_rfl, by kernel_rfl, by kernel_rfl⟩
theorem tab_idx5 (w : World) : (Instr.index 74 (.agg tabA) (.int .i64 ((5 : Nat) : Int))).run Tryd.prog w = .ok (.agg (ent 5)) w := by kernel_rfl
theorem tab_ent6 : tabA[6 * 7]? = some (.string (nm 6)) ∧ tabA[6 * 7 + 1]? = some (.int .i64 (rg 6)) ∧ tabA[6 * 7 + 2]? = some (.int .i64 (tg 6)) ∧ tabA[6 * 7 + 3]? = some (.bool (nb 6)) ∧ tabA[6 * 7 + 4]? = some (.bool (wt 6)) ∧ tabA[6 * 7 + 5]? = some (.bool (en 6)) ∧ tabA[6 * 7 + 6]? = some (.bool (ak 6)) :=
  ⟨by kernel_rfl, by kernel_rfl, by kernel_rfl, by kernel_rfl, by kernel_rfl, by kernel_rfl, by kernel_rfl⟩
theorem tab_idx6 (w : World) : (Instr.index 74 (.agg tabA) (.int .i64 ((6 : Nat) : Int))).run Tryd.prog w = .ok (.agg (ent 6)) w := by kernel_rfl
theorem tab_ent7 : tabA[7 * 7]? = some (.string (nm 7)) ∧ tabA[7 * 7 + 1]? = some (.int .i64 (rg 7)) ∧ tabA[7 * 7 + 2]? = some (.int .i64 (tg 7)) ∧ tabA[7 * 7 + 3]? = some (.bool (nb 7)) ∧ tabA[7 * 7 + 4]? = some (.bool (wt 7)) ∧ tabA[7 * 7 + 5]? = some (.bool (en 7)) ∧ tabA[7 * 7 + 6]? = some (.bool (ak 7)) :=
  ⟨by kernel_rfl, by kernel_rfl, by kernel_rfl, by kernel_rfl, by kernel_rfl, by kernel_rfl, by kernel_rfl⟩
theorem tab_idx7 (w : World) : (Instr.index 74 (.agg tabA) (.int .i64 ((7 : Nat) : Int))).run Tryd.prog w = .ok (.agg (ent 7)) w := by kernel_rfl
theorem tab_ent8 : tabA[8 * 7]? = some (.string (nm 8)) ∧ tabA[8 * 7 + 1]? = some (.int .i64 (rg 8)) ∧ tabA[8 * 7 + 2]? = some (.int .i64 (tg 8)) ∧ tabA[8 * 7 + 3]? = some (.bool (nb 8)) ∧ tabA[8 * 7 + 4]? = some (.bool (wt 8)) ∧ tabA[8 * 7 + 5]? = some (.bool (en 8)) ∧ tabA[8 * 7 + 6]? = some (.bool (ak 8)) :=
  ⟨by kernel_rfl, by kernel_rfl, by kernel_rfl, by kernel_rfl, by kernel_rfl, by kernel_rfl, by kernel_rfl⟩
theorem tab_idx8 (w : World) : (Instr.index 74 (.agg tabA) (.int .i64 ((8 : Nat) : Int))).run Tryd.prog w = .ok (.agg (ent 8)) w := by kernel_rfl
theorem tab_ent9 : tabA[9 * 7]? = some (.string (nm 9)) ∧ tabA[9 * 7 + 1]? = some (.int .i64 (rg 9)) ∧ tabA[9 * 7 + 2]? = some (.int .i64 (tg 9)) ∧ tabA[9 * 7 + 3]? = some (.bool (nb 9)) ∧ tabA[9 * 7 + 4]? = some (.bool (wt 9)) ∧ tabA[9 * 7 + 5]? = some (.bool (en 9)) ∧ tabA[9 * 7 + 6]? = some (.bool (ak 9)) :=
  ⟨by kernel_rfl, by kernel_rfl, by kernel_rfl, by kernel_rfl, by kernel_rfl, by kernel_rfl, by kernel_rfl⟩
theorem tab_idx9 (w : World) : (Instr.index 74 (.agg tabA) (.int .i64 ((9 : Nat) : Int))).run Tryd.prog w = .ok (.agg (ent 9)) w := by kernel_rfl
theorem tab_ent10 : tabA[10 * 7]? = some (.string (nm 10)) ∧ tabA[10 * 7 + 1]? = some (.int .i64 (rg 10)) ∧ tabA[10 * 7 + 2]? = some (.int .i64 (tg 10)) ∧ tabA[10 * 7 + 3]? = some (.bool (nb 10)) ∧ tabA[10 * 7 + 4]? = some (.bool (wt 10)) ∧ tabA[10 * 7 + 5]? = some (.bool (en 10)) ∧ tabA[10 * 7 + 6]? = some (.bool (ak 10)) :=
  ⟨by kernel_rfl, by kernel_rfl, by kernel_rfl, by kernel_rfl, by kernel_rfl, by kernel_rfl, by kernel_rfl⟩
theorem tab_idx10 (w : World) : (Instr.index 74 (.agg tabA) (.int .i64 ((10 : Nat) : Int))).run Tryd.prog w = .ok (.agg (ent 10)) w := by kernel_rfl
theorem tab_ent11 : tabA[11 * 7]? = some (.string (nm 11)) ∧ tabA[11 * 7 + 1]? = some (.int .i64 (rg 11)) ∧ tabA[11 * 7 + 2]? = some (.int .i64 (tg 11)) ∧ tabA[11 * 7 + 3]? = some (.bool (nb 11)) ∧ tabA[11 * 7 + 4]? = some (.bool (wt 11)) ∧ tabA[11 * 7 + 5]? = some (.bool (en 11)) ∧ tabA[11 * 7 + 6]? = some (.bool (ak 11)) :=
  ⟨by kernel_rfl, by kernel_rfl, by kernel_rfl, by kernel_rfl, by kernel_rfl, by kernel_rfl, by kernel_rfl⟩
theorem tab_idx11 (w : World) : (Instr.index 74 (.agg tabA) (.int .i64 ((11 : Nat) : Int))).run Tryd.prog w = .ok (.agg (ent 11)) w := by kernel_rfl
theorem tab_ent12 : tabA[12 * 7]? = some (.string (nm 12)) ∧ tabA[12 * 7 + 1]? = some (.int .i64 (rg 12)) ∧ tabA[12 * 7 + 2]? = some (.int .i64 (tg 12)) ∧ tabA[12 * 7 + 3]? = some (.bool (nb 12)) ∧ tabA[12 * 7 + 4]? = some (.bool (wt 12)) ∧ tabA[12 * 7 + 5]? = some (.bool (en 12)) ∧ tabA[12 * 7 + 6]? = some (.bool (ak 12)) :=
  ⟨by kernel_rfl, by kernel_rfl, by kernel_rfl, by kernel_rfl, by kernel_rfl, by kernel_rfl, by kernel_rfl⟩
theorem tab_idx12 (w : World) : (Instr.index 74 (.agg tabA) (.int .i64 ((12 : Nat) : Int))).run Tryd.prog w = .ok (.agg (ent 12)) w := by kernel_rfl
theorem tab_ent13 : tabA[13 * 7]? = some (.string (nm 13)) ∧ tabA[13 * 7 + 1]? = some (.int .i64 (rg 13)) ∧ tabA[13 * 7 + 2]? = some (.int .i64 (tg 13)) ∧ tabA[13 * 7 + 3]? = some (.bool (nb 13)) ∧ tabA[13 * 7 + 4]? = some (.bool (wt 13)) ∧ tabA[13 * 7 + 5]? = some (.bool (en 13)) ∧ tabA[13 * 7 + 6]? = some (.bool (ak 13)) :=
  ⟨by kernel_rfl, by kernel_rfl, by kernel_rfl, by kernel_rfl, by kernel_rfl, by kernel_rfl, by kernel_rfl⟩
theorem tab_idx13 (w : World) : (Instr.index 74 (.agg tabA) (.int .i64 ((13 : Nat) : Int))).run Tryd.prog w = .ok (.agg (ent 13)) w := by kernel_rfl
theorem tab_ent14 : tabA[14 * 7]? = some (.string (nm 14)) ∧ tabA[14 * 7 + 1]? = some (.int .i64 (rg 14)) ∧ tabA[14 * 7 + 2]? = some (.int .i64 (tg 14)) ∧ tabA[14 * 7 + 3]? = some (.bool (nb 14)) ∧ tabA[14 * 7 + 4]? = some (.bool (wt 14)) ∧ tabA[14 * 7 + 5]? = some (.bool (en 14)) ∧ tabA[14 * 7 + 6]? = some (.bool (ak 14)) :=
  ⟨by kernel_rfl, by kernel_rfl, by kernel_rfl, by kernel_rfl, by kernel_rfl, by kernel_rfl, by kernel_rfl⟩
theorem tab_idx14 (w : World) : (Instr.index 74 (.agg tabA) (.int .i64 ((14 : Nat) : Int))).run Tryd.prog w = .ok (.agg (ent 14)) w := by kernel_rfl
theorem tab_ent15 : tabA[15 * 7]? = some (.string (nm 15)) ∧ tabA[15 * 7 + 1]? = some (.int .i64 (rg 15)) ∧ tabA[15 * 7 + 2]? = some (.int .i64 (tg 15)) ∧ tabA[15 * 7 + 3]? = some (.bool (nb 15)) ∧ tabA[15 * 7 + 4]? = some (.bool (wt 15)) ∧ tabA[15 * 7 + 5]? = some (.bool (en 15)) ∧ tabA[15 * 7 + 6]? = some (.bool (ak 15)) :=
  ⟨by kernel_rfl, by kernel_rfl, by kernel_rfl, by kernel_rfl, by kernel_rfl, by kernel_rfl, by kernel_rfl⟩
theorem tab_idx15 (w : World) : (Instr.index 74 (.agg tabA) (.int .i64 ((15 : Nat) : Int))).run Tryd.prog w = .ok (.agg (ent 15)) w := by kernel_rfl
theorem tab_ent16 : tabA[16 * 7]? = some (.string (nm 16)) ∧ tabA[16 * 7 + 1]? = some (.int .i64 (rg 16)) ∧ tabA[16 * 7 + 2]? = some (.int .i64 (tg 16)) ∧ tabA[16 * 7 + 3]? = some (.bool (nb 16)) ∧ tabA[16 * 7 + 4]? = some (.bool (wt 16)) ∧ tabA[16 * 7 + 5]? = some (.bool (en 16)) ∧ tabA[16 * 7 + 6]? = some (.bool (ak 16)) :=
  ⟨by kernel_rfl, by kernel_rfl, by kernel_rfl, by kernel_rfl, by kernel_rfl, by kernel_rfl, by kernel_rfl⟩
theorem tab_idx16 (w : World) : (Instr.index 74 (.agg tabA) (.int .i64 ((16 : Nat) : Int))).run Tryd.prog w = .ok (.agg (ent 16)) w := by kernel_rfl
theorem tab_ent17 : tabA[17 * 7]? = some (.string (nm 17)) ∧ tabA[17 * 7 + 1]? = some (.int .i64 (rg 17)) ∧ tabA[17 * 7 + 2]? = some (.int .i64 (tg 17)) ∧ tabA[17 * 7 + 3]? = some (.bool (nb 17)) ∧ tabA[17 * 7 + 4]? = some (.bool (wt 17)) ∧ tabA[17 * 7 + 5]? = some (.bool (en 17)) ∧ tabA[17 * 7 + 6]? = some (.bool (ak 17)) :=
  ⟨by kernel_rfl, by kernel_rfl, by kernel_rfl, by kernel_rfl, by kernel_rfl, by kernel_rfl, by kernel_rfl⟩
theorem tab_idx17 (w : World) : (Instr.index 74 (.agg tabA) (.int .i64 ((17 : Nat) : Int))).run Tryd.prog w = .ok (.agg (ent 17)) w := by kernel_rfl
theorem tab_ent18 : tabA[18 * 7]? = some (.string (nm 18)) ∧ tabA[18 * 7 + 1]? = some (.int .i64 (rg 18)) ∧ tabA[18 * 7 + 2]? = some (.int .i64 (tg 18)) ∧ tabA[18 * 7 + 3]? = some (.bool (nb 18)) ∧ tabA[18 * 7 + 4]? = some (.bool (wt 18)) ∧ tabA[18 * 7 + 5]? = some (.bool (en 18)) ∧ tabA[18 * 7 + 6]? = some (.bool (ak 18)) :=
  ⟨by kernel_rfl, by kernel_rfl, by kernel_rfl, by kernel_rfl, by kernel_rfl, by kernel_rfl, by kernel_rfl⟩
theorem tab_idx18 (w : World) : (Instr.index 74 (.agg tabA) (.int .i64 ((18 : Nat) : Int))).run Tryd.prog w = .ok (.agg (ent 18)) w := by kernel_rfl
theorem tab_ent19 : tabA[19 * 7]? = some (.string (nm 19)) ∧ tabA[19 * 7 + 1]? = some (.int .i64 (rg 19)) ∧ tabA[19 * 7 + 2]? = some (.int .i64 (tg 19)) ∧ tabA[19 * 7 + 3]? = some (.bool (nb 19)) ∧ tabA[19 * 7 + 4]? = some (.bool (wt 19)) ∧ tabA[19 * 7 + 5]? = some (.bool (en 19)) ∧ tabA[19 * 7 + 6]? = some (.bool (ak 19)) :=
  ⟨by kernel_rfl, by kernel_rfl, by kernel_rfl, by kernel_rfl, by kernel_rfl, by kernel_rfl, by kernel_rfl⟩
theorem tab_idx19 (w : World) : (Instr.index 74 (.agg tabA) (.int .i64 ((19 : Nat) : Int))).run Tryd.prog w = .ok (.agg (ent 19)) w := by kernel_rfl
theorem tab_ent20 : tabA[20 * 7]? = some (.string (nm 20)) ∧ tabA[20 * 7 + 1]? = some (.int .i64 (rg 20)) ∧ tabA[20 * 7 + 2]? = some (.int .i64 (tg 20)) ∧ tabA[20 * 7 + 3]? = some (.bool (nb 20)) ∧ tabA[20 * 7 + 4]? = some (.bool (wt 20)) ∧ tabA[20 * 7 + 5]? = some (.bool (en 20)) ∧ tabA[20 * 7 + 6]? = some (.bool (ak 20)) :=
  ⟨by kernel_rfl, by kernel_rfl, by kernel_rfl, by kernel_rfl, by kernel_rfl, by kernel_rfl, by kernel_rfl⟩
theorem tab_idx20 (w : World) : (Instr.index 74 (.agg tabA) (.int .i64 ((20 : Nat) : Int))).run Tryd.prog w = .ok (.agg (ent 20)) w := by kernel_rfl
theorem tab_ent21 : tabA[21 * 7]? = some (.string (nm 21)) ∧ tabA[21 * 7 + 1]? = some (.int .i64 (rg 21)) ∧ tabA[21 * 7 + 2]? = some (.int .i64 (tg 21)) ∧ tabA[21 * 7 + 3]? = some (.bool (nb 21)) ∧ tabA[21 * 7 + 4]? = some (.bool (wt 21)) ∧ tabA[21 * 7 + 5]? = some (.bool (en 21)) ∧ tabA[21 * 7 + 6]? = some (.bool (ak 21)) :=
  ⟨by kernel_rfl, by kernel_rfl, by kernel_rfl, by kernel_rfl, by kernel_rfl, by kernel_rfl, by kernel_rfl⟩
theorem tab_idx21 (w : World) : (Instr.index 74 (.agg tabA) (.int .i64 ((21 : Nat) : Int))).run Tryd.prog w = .ok (.agg (ent 21)) w := by kernel_rfl
theorem tab_ent22 : tabA[22 * 7]? = some (.string (nm 22)) ∧ tabA[22 * 7 + 1]? = some (.int .i64 (rg 22)) ∧ tabA[22 * 7 + 2]? = some (.int .i64 (tg 22)) ∧ tabA[22 * 7 + 3]? = some (.bool (nb 22)) ∧ tabA[22 * 7 + 4]? = some (.bool (wt 22)) ∧ tabA[22 * 7 + 5]? = some (.bool (en 22)) ∧ tabA[22 * 7 + 6]? = some (.bool (ak 22)) :=
  ⟨by kernel_rfl, by kernel_rfl, by kernel_rfl, by kernel_rfl, by kernel_rfl, by kernel_rfl, by kernel_rfl⟩
theorem tab_idx22 (w : World) : (Instr.index 74 (.agg tabA) (.int .i64 ((22 : Nat) : Int))).run Tryd.prog w = .ok (.agg (ent 22)) w := by kernel_rfl
theorem tab_ent23 : tabA[23 * 7]? = some (.string (nm 23)) ∧ tabA[23 * 7 + 1]? = some (.int .i64 (rg 23)) ∧ tabA[23 * 7 + 2]? = some (.int .i64 (tg 23)) ∧ tabA[23 * 7 + 3]? = some (.bool (nb 23)) ∧ tabA[23 * 7 + 4]? = some (.bool (wt 23)) ∧ tabA[23 * 7 + 5]? = some (.bool (en 23)) ∧ tabA[23 * 7 + 6]? = some (.bool (ak 23)) :=
  ⟨by kernel_rfl, by kernel_rfl, by kernel_rfl, by kernel_rfl, by kernel_rfl, by kernel_rfl, by kernel_rfl⟩
theorem tab_idx23 (w : World) : (Instr.index 74 (.agg tabA) (.int .i64 ((23 : Nat) : Int))).run Tryd.prog w = .ok (.agg (ent 23)) w := by kernel_rfl
theorem tab_ent : ∀ k, k < 24 → tabA[k * 7]? = some (.string (nm k)) ∧ tabA[k * 7 + 1]? = some (.int .i64 (rg k)) ∧ tabA[k * 7 + 2]? = some (.int .i64 (tg k)) ∧ tabA[k * 7 + 3]? = some (.bool (nb k)) ∧ tabA[k * 7 + 4]? = some (.bool (wt k)) ∧ tabA[k * 7 + 5]? = some (.bool (en k)) ∧ tabA[k * 7 + 6]? = some (.bool (ak k))
  | 0, _ => tab_ent0
  | 1, _ => tab_ent1
  | 2, _ => tab_ent2
  | 3, _ => tab_ent3
  | 4, _ => tab_ent4
  | 5, _ => tab_ent5
  | 6, _ => tab_ent6
  | 7, _ => tab_ent7
  | 8, _ => tab_ent8
  | 9, _ => tab_ent9
  | 10, _ => tab_ent10
  | 11, _ => tab_ent11
  | 12, _ => tab_ent12
  | 13, _ => tab_ent13
  | 14, _ => tab_ent14
  | 15, _ => tab_ent15
  | 16, _ => tab_ent16
  | 17, _ => tab_ent17
  | 18, _ => tab_ent18
  | 19, _ => tab_ent19
  | 20, _ => tab_ent20
  | 21, _ => tab_ent21
  | 22, _ => tab_ent22
  | 23, _ => tab_ent23
  | k + 24, h => absurd h (by omega)
theorem tab_idx (k : Nat) (hk : k < 24) : ∀ w : World, (Instr.index 74 (.agg tabA) (.int .i64 (k : Int))).run Tryd.prog w = .ok (.agg (ent k)) w := fun w =>
  match k, hk with
  | 0, _ => tab_idx0 w
  | 1, _ => tab_idx1 w
  | 2, _ => tab_idx2 w
  | 3, _ => tab_idx3 w
  | 4, _ => tab_idx4 w
  | 5, _ => tab_idx5 w
  | 6, _ => tab_idx6 w
  | 7, _ => tab_idx7 w
  | 8, _ => tab_idx8 w
  | 9, _ => tab_idx9 w
  | 10, _ => tab_idx10 w
  | 11, _ => tab_idx11 w
  | 12, _ => tab_idx12 w
  | 13, _ => tab_idx13 w
  | 14, _ => tab_idx14 w
  | 15, _ => tab_idx15 w
  | 16, _ => tab_idx16 w
  | 17, _ => tab_idx17 w
  | 18, _ => tab_idx18 w
  | 19, _ => tab_idx19 w
  | 20, _ => tab_idx20 w
  | 21, _ => tab_idx21 w
  | 22, _ => tab_idx22 w
  | 23, _ => tab_idx23 w
  | k + 24, h => absurd h (by omega)
end Go.Proofs.YthdkbofnplnidaaDoor
