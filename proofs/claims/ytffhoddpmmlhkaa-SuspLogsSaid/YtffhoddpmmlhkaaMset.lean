/- Sets of ints: a map from int to nothing, as a set. -/
import Derived.Test.YtffhoddpmmlhkaaRowz
import Derived.Maps.Own
import Derived.Maps.OwnOps
import Derived.Maps.OwnSet
import Derived.Maps.Views
namespace Go.Proofs.Ytffhoddpmmlhkaa
open Go.ChangeShapes Go.WideShapes Go.ChangeAt Go.RowKit Go.Deep Go.Maps Go.ChangeMaps
set_option linter.unusedVariables false

theorem ikey : Keyed Try.prog 3 := int_keyed Try.underlying3
/-- Block b is the set S, of at most n that were put. -/
def Mset (w : World) (b n : Nat) (S : Int → Prop) : Prop := ∃ D : DataW Unit, IsMap D ∧ w.ownsMap Try.prog 3 unitElem b n D ∧ ∀ x : Int, (Lit.int .i64 x).wf = true → (has D (.int .i64 x) = true ↔ S x)
section
variable {w w' : World} {b n : Nat} {S S' : Int → Prop}
theorem isMap_put {D : DataW Unit} (h : IsMap D) (k : Lit) (d : DataW Unit) : IsMap (D.put k d) := by obtain ⟨es, rfl⟩ := h; exact ⟨_, rfl⟩
theorem isMap_del {D : DataW Unit} (h : IsMap D) (k : Lit) : IsMap (D.del k) := by obtain ⟨es, rfl⟩ := h; exact ⟨_, rfl⟩
theorem int_wf_key {x : Int} : WideAt.IsKeyLit (.int .i64 x) := by simp [WideAt.IsKeyLit]
theorem Mset.made (w : World) : Mset (w.alloc (.map #[] 0)) w.heap.size 0 (fun _ => False) :=
  ⟨.map [], ⟨[], rfl⟩, World.ownsMap_made _ _ _ _, fun x _ => by simp [has, has_eq]⟩
theorem Mset.lt (h : Mset w b n S) : b < w.heap.size := by obtain ⟨D, _, h, _⟩ := h; exact h.lt
theorem Mset.grown {row : Option Nat} (h : Mset w b n S) (hg : w.grownBy w' row) (hne : some b ≠ row) : Mset w' b n S := by
  obtain ⟨D, h1, h2, h3⟩ := h
  exact ⟨D, h1, h2.kept hg hne, h3⟩
theorem Mset.kept {T : Nat → Prop} (h : Mset w b n S) (hc : Chg T w w') (hn : ¬ T b) : Mset w' b n S := by
  obtain ⟨D, h1, ⟨es, clock, hb, F, h4, h5⟩, h3⟩ := h
  have hlt : b < w.heap.size := (Array.getElem?_eq_some_iff.1 hb).1
  exact ⟨D, h1, ⟨es, clock, (hc.block b hlt hn).trans hb, F, h4, h5⟩, h3⟩
theorem Mset.iff (h : Mset w b n S) (hs : ∀ x, S x ↔ S' x) : Mset w b n S' := by
  obtain ⟨D, h1, h2, h3⟩ := h
  exact ⟨D, h1, h2, fun x hx => (h3 x hx).trans (hs x)⟩
theorem Chg.mapped {T : Nat → Prop} {w1 : World} (h : Chg T w w1) (hg : w1.mapTurned w' b) (hb : T b ∨ w.heap.size ≤ b) : Chg T w w' := h.grown hg.grown (fun k hk => by cases hk; exact hb)
end
section
variable {ops : Array Oper} {rest : List Oper} {o : Oper} {a : Act} {V : World} {Q : Exit → Act → World → Prop} {b n : Nat} {S : Int → Prop}
theorem wpList_set_put (hg : o.guard = none) (m x v : Operand) (hop : o.op = Op.mapUpdate 42 m x v) (hm : a.eval m = .map (some b)) (hown : Mset V b n S) (hn : n ≤ 1048576)
    (z : Int) (hx : a.eval x = .int .i64 z) (hw : (Lit.int .i64 z).wf = true) (hv : a.eval v = .agg #[])
    (hK : ∀ w', Mset w' b (n + 1) (fun y => y = z ∨ S y) → V.grownBy w' (some b) → wpList Try.prog ops Q rest (a.put o.dst undef) w') : wpList Try.prog ops Q (o :: rest) a V := by
  obtain ⟨D, h1, h2, h3⟩ := hown
  refine wpList_mapUpdate_own V hg m x v 42 hop 3 45 ikey Try.underlying42 unitElem b n D hm h2 (by simp only [maxLen]; omega) _ _ (.int .i64 z) hx hv (keyOf_int_mk Try.underlying3 hw) (.agg []) [] unitElem_mk ?_
  intro w' r1 r2
  refine hK w' ⟨_, isMap_put h1 _ _, r1, fun y hy => ?_⟩ r2
  by_cases e : y = z
  · subst e
    rw [has_put_same h1 int_wf_key]
    simp
  · rw [has_put_other (by intro h; injection h with _ h; exact e h), h3 y hy]
    simp [e]
theorem wpList_set_has (hg : o.guard = none) (m x : Operand) (hop : o.op = Op.lookup 42 m x true) (hm : a.eval m = .map (some b)) (hown : Mset V b n S)
    (z : Int) (hx : a.eval x = .int .i64 z) (hw : (Lit.int .i64 z).wf = true) (t : Bool) (ht : t = true ↔ S z)
    (hK : wpList Try.prog ops Q rest (a.put o.dst (.tuple #[.agg #[], .bool t])) V) : wpList Try.prog ops Q (o :: rest) a V := by
  obtain ⟨D, h1, h2, h3⟩ := hown
  have e : has D (.int .i64 z) = t := by
    have := h3 z hw
    cases t <;> cases hh : has D (.int .i64 z) <;> simp_all
  refine wpList_lookup_own_unit V hg m x 42 hop 3 45 ikey Try.underlying42 (by kernel_rfl) b n D hm h2 _ (.int .i64 z) hx (keyOf_int_mk Try.underlying3 hw) ?_
  rw [e]
  exact hK
theorem wpList_set_del (hg : o.guard = none) (m x : Operand) (hop : o.op = Op.call { callee := Callee.builtin Builtin.delete, args := #[m, x], argTypes := #[42, 3] }) (hm : a.eval m = .map (some b)) (hown : Mset V b n S)
    (z : Int) (hx : a.eval x = .int .i64 z) (hw : (Lit.int .i64 z).wf = true)
    (hK : ∀ w', Mset w' b n (fun y => y ≠ z ∧ S y) → V.grownBy w' (some b) → wpList Try.prog ops Q rest (a.put o.dst (.tuple #[])) w') : wpList Try.prog ops Q (o :: rest) a V := by
  obtain ⟨D, h1, h2, h3⟩ := hown
  refine wpList_delete_own V hg m x 42 3 hop 45 ikey Try.underlying42 unitElem b n D hm h2 _ (.int .i64 z) hx (keyOf_int_mk Try.underlying3 hw) ?_
  intro w' r1 r2
  refine hK w' ⟨_, isMap_del h1 _, r1, fun y hy => ?_⟩ r2.grown
  by_cases e : y = z
  · subst e
    rw [has_del_same]
    simp
  · rw [has_del_other (by intro h; injection h with _ h; exact e h), h3 y hy]
    simp [e]
end
end Go.Proofs.Ytffhoddpmmlhkaa
