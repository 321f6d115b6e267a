/- Lemmas of my own on package-level variables that are laid as plain data: what the condition says of one of a table's cells. No statement is proved here. -/
import Derived.Test.YthdkbofnplnidaaDoorRows
import Derived.WalkKit
import Derived.ProofKit
import Derived.OpenShut
import Derived.LaidMore
import Derived.LaidLaws
import Derived.MakeChecks
namespace Go.Proofs.YthdkbofnplnidaaDoor
open Go.ChangeShapes Go.WideShapes Go.ChangeAt Go.RowKit

/-- What cell i of a variable of type t holds, where the variable reads as the plain datum d (by the types' shapes alone). -/
def atCell (P : Program) : Nat → TypeId → DataW Unit → Nat → Option Value
  | 0, _, _, _ => none
  | n + 1, t, d, i =>
    match P.underlying t, d with
    | some (.int k), .lit (.int k' z) => if k' = k ∧ i = 0 then some (.int k z) else none
    | some .bool, .lit (.bool b) => if i = 0 then some (.bool b) else none
    | some .string, .lit (.string s) => if i = 0 then some (.string ⟨s.toArray⟩) else none
    | some (.array m e), .agg ds => if i % P.cellsOf e < P.cellsOf e ∧ i / P.cellsOf e < m then (ds[i / P.cellsOf e]?).bind fun d' => atCell P n e d' (i % P.cellsOf e) else none
    | some (.struct fs), .agg ds => (List.range fs.size).findSome? fun j => match fs[j]?, ds[j]? with
      | some f, some d' => if f.offset ≤ i ∧ i < f.offset + P.cellsOf f.type then atCell P n f.type d' (i - f.offset) else none
      | _, _ => none
    | _, _ => none

theorem get_piece {cs : List Value} {o c i : Nat} {v : Value} (h : ((cs.drop o).take c)[i]? = some v) : cs[o + i]? = some v := by
  rw [List.getElem?_take] at h
  split at h
  · rw [List.getElem?_drop] at h; exact h
  · cases h

theorem atCell_of_trod {P : Program} {w : World} {enc : TypeId × Value → Unit} {base : Nat} {sp : Nat → Bool} {held : Bool} : ∀ (n fuel : Nat) (t : TypeId) (cs : List Value) (d : DataW Unit) (ps : List MemPlace) (i : Nat) (v : Value),
    DataW.trod enc P w base sp held fuel t cs = some (d, ps) → atCell P n t d i = some v → cs[i]? = some v := by
  intro n
  induction n with
  | zero => intro fuel t cs d ps i v _ h; cases h
  | succ n ih =>
    intro fuel t cs d ps i v h ha
    unfold atCell at ha
    split at ha
    · rename_i k k' z hu
      split at ha
      · rename_i hk
        obtain ⟨rfl, rfl⟩ := hk
        obtain ⟨z', rfl, hx, _⟩ := DataW.trod_int hu h
        simp only [Prod.mk.injEq, DataW.lit.injEq, Lit.int.injEq, true_and] at hx
        obtain ⟨rfl, _⟩ := hx
        simpa using ha
      · cases ha
    · rename_i b hu
      split at ha
      · rename_i hk
        subst hk
        obtain ⟨z', rfl, hx⟩ := DataW.trod_bool hu h
        simp only [Prod.mk.injEq, DataW.lit.injEq, Lit.bool.injEq] at hx
        obtain ⟨rfl, _⟩ := hx
        simpa using ha
      · cases ha
    · rename_i s hu
      split at ha
      · rename_i hk
        subst hk
        obtain ⟨z', rfl, hx, _⟩ := DataW.trod_string hu h
        simp only [Prod.mk.injEq, DataW.lit.injEq, Lit.string.injEq] at hx
        obtain ⟨rfl, _⟩ := hx
        obtain ⟨⟨l⟩⟩ := z'
        simpa using ha
      · cases ha
    · rename_i m e ds hu
      split at ha
      · rename_i hk
        obtain ⟨xs, m1, _, hx, _, hlen, hel⟩ := DataW.trod_array hu h
        simp only [Prod.mk.injEq, DataW.agg.injEq] at hx
        obtain ⟨rfl, _⟩ := hx
        obtain ⟨d', hd', hat⟩ := Option.bind_eq_some_iff.1 ha
        have h1 := hel _ hk.2
        rw [List.getElem?_map] at hd'
        obtain ⟨x, hxs, rfl⟩ := Option.map_eq_some_iff.1 hd'
        rw [hxs] at h1
        have h2 := ih _ _ _ _ x.2 _ _ h1 hat
        have h3 := get_piece h2
        rwa [Nat.mul_comm, Nat.div_add_mod] at h3
      · cases ha
    · rename_i fs ds hu
      obtain ⟨xs, m1, _, hx, _, hlen, hel⟩ := DataW.trod_struct hu h
      simp only [Prod.mk.injEq, DataW.agg.injEq] at hx
      obtain ⟨rfl, _⟩ := hx
      obtain ⟨j, _, hj⟩ := List.exists_of_findSome?_eq_some ha
      split at hj
      · rename_i f d' hf hd'
        split at hj
        · rename_i hk
          have h1 := hel j f hf
          rw [List.getElem?_map] at hd'
          obtain ⟨x, hxs, rfl⟩ := Option.map_eq_some_iff.1 hd'
          rw [hxs] at h1
          have h2 := ih _ _ _ _ x.2 _ _ h1 hj
          have h3 := get_piece h2
          rwa [Nat.add_sub_cancel' hk.1] at h3
        · cases hj
      · cases hj
    · cases ha

theorem laidVars_cell {P : Program} {w : World} : ∀ {l : List (String × DataW Unit)} {ps : List MemPlace}, DataW.LaidVars P w l ps → ∀ {j : Nat} {name : String} {d : DataW Unit} {g : Nat} {t : TypeId} {n i : Nat} {v : Value},
    l[j]? = some (name, d) → P.globalNamed name = some g → (P.globals[g]?).map (·.type) = some t → atCell P n t d i = some v → w.cell? ⟨g, i, none⟩ = some v := by
  intro l
  induction l with
  | nil => intro ps _ j name d g t n i v hj; simp at hj
  | cons x r ih =>
    obtain ⟨n0, d0⟩ := x
    intro ps h j name d g t n i v hj hg ht hat
    obtain ⟨g', t', cs, fuel, p, q, hg', ht', hv, hd, hr, _⟩ := h
    cases j with
    | zero =>
      simp only [List.getElem?_cons_zero, Option.some.injEq, Prod.mk.injEq] at hj
      obtain ⟨rfl, rfl⟩ := hj
      obtain rfl := Option.some.inj (hg.symm.trans hg')
      obtain rfl := Option.some.inj (ht.symm.trans ht')
      have h1 := atCell_of_trod n fuel _ _ _ _ _ _ hd hat
      rw [World.var?_cell hg hv i]
      rw [← Array.getElem?_toList]
      exact h1
    | succ j => exact ih hr (by simpa using hj) hg ht hat

/-- One cell of a laid variable. -/
theorem laid_cell {P : Program} {w : World} {l : List (String × DataW Unit)} (h : laidMetH P l w) (hp : (l.all fun x => x.2.handleName?.isNone) = true) (j : Nat) {name : String} {d : DataW Unit} {g : Nat} {t : TypeId} (n i : Nat) {v : Value}
    (hj : l[j]? = some (name, d)) (hg : P.globalNamed name = some g) (ht : (P.globals[g]?).map (·.type) = some t) (hat : atCell P n t d i = some v) : w.cell? ⟨g, i, none⟩ = some v := by
  rw [MakeChecks.laidMetH_plain _ _ _ hp] at h
  obtain ⟨ps, hl, _⟩ := h
  exact laidVars_cell hl hj hg ht hat
end Go.Proofs.YthdkbofnplnidaaDoor
