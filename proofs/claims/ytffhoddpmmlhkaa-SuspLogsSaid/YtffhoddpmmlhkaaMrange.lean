/- A range over a set of ints. -/
import Derived.Test.YtffhoddpmmlhkaaMset
import Derived.Maps.RangeWalk
namespace Go.Proofs.Ytffhoddpmmlhkaa
open Go.ChangeShapes Go.WideShapes Go.ChangeAt Go.RowKit Go.Deep Go.Maps Go.ChangeMaps
set_option linter.unusedVariables false

/-- Block r ranges over the set S in block b; L: those still to come. -/
def Mrng (w : World) (b r n : Nat) (S L : Int → Prop) (cnt : Nat) : Prop := ∃ (D : DataW Unit) (left : Lit → Bool), IsMap D ∧ w.ranges Try.prog 3 unitElem b r n D left cnt ∧ (∀ x : Int, (Lit.int .i64 x).wf = true → (has D (.int .i64 x) = true ↔ S x)) ∧ ∀ x : Int, (Lit.int .i64 x).wf = true → (left (.int .i64 x) = true ↔ L x)
section
variable {w w' : World} {b r n cnt : Nat} {S L : Int → Prop}
theorem Mrng.grown {row : Option Nat} (h : Mrng w b r n S L cnt) (hg : w.grownBy w' row) (h1 : some b ≠ row) (h2 : some r ≠ row) : Mrng w' b r n S L cnt := by
  obtain ⟨D, left, a1, a2, a3, a4⟩ := h
  exact ⟨D, left, a1, a2.kept hg h1 h2, a3, a4⟩
theorem Mrng.alloc (h : Mrng w b r n S L cnt) (o : Obj) : Mrng (w.alloc o) b r n S L cnt := by
  obtain ⟨D, left, a1, a2, a3, a4⟩ := h
  exact ⟨D, left, a1, a2.alloc o, a3, a4⟩
theorem Mrng.owns (h : Mrng w b r n S L cnt) : Mset w b n S := by
  obtain ⟨D, left, a1, a2, a3, a4⟩ := h
  exact ⟨D, a1, a2.owns, a3⟩
theorem Mrng.left_eq (h : Mrng w b r n S L cnt) : w.rangeLeft b r = cnt := by
  obtain ⟨D, left, a1, a2, a3, a4⟩ := h
  exact a2.left_eq
theorem Mrng.lt (h : Mrng w b r n S L cnt) : r < w.heap.size := by
  obtain ⟨D, left, a1, a2, a3, a4⟩ := h
  exact a2.lt
end
section
variable {ops : Array Oper} {rest : List Oper} {o : Oper} {a : Act} {V : World} {Q : Exit → Act → World → Prop} {b r n cnt : Nat} {S L : Int → Prop}
theorem wpList_set_range (hg : o.guard = none) (m : Operand) (hop : o.op = Op.range 42 m) (hm : a.eval m = .map (some b)) (hown : Mset V b n S)
    (hK : ∀ w' cnt, cnt ≤ n → Mrng w' b V.heap.size n S S cnt → V.grownBy w' none → w'.heap.size = V.heap.size + 1 → wpList Try.prog ops Q rest (a.put o.dst (.pointer (some ⟨V.heap.size, 0, none⟩))) w') : wpList Try.prog ops Q (o :: rest) a V := by
  obtain ⟨D, h1, h2, h3⟩ := hown
  refine wpList_range_own V hg m 42 hop 3 45 ikey Try.underlying42 unitElem b n D hm h2 ?_
  intro w' r1 r2 r3
  exact hK w' (Maps.size D) h2.size_le ⟨D, has D, h1, r1, h3, h3⟩ r2 r3
theorem same_int (y x : Int) : (Lit.int .i64 y).sameKey (.int .i64 x) = decide (y = x) := by
  simp [Lit.sameKey]
theorem wpList_set_next (hg : o.guard = none) (it : Operand) (hop : o.op = Op.next it false) (hit : a.eval it = .pointer (some ⟨r, 0, none⟩)) (h : Mrng V b r n S L cnt)
    (hDone : (∀ x : Int, (Lit.int .i64 x).wf = true → ¬ L x) → wpList Try.prog ops Q rest (a.put o.dst (.tuple #[.bool false])) V)
    (hMore : ∀ (x : Int) (w' : World) (cnt' : Nat), (Lit.int .i64 x).wf = true → L x → Mrng w' b r n S (fun y => L y ∧ y ≠ x) cnt' → cnt' < cnt → V.grownBy w' (some r) → w'.heap.size = V.heap.size → (Instr.entry (.pointer (some ⟨r, 0, none⟩))).run Try.prog w' = .ok (.tuple #[.int .i64 x, .agg #[]]) w' → wpList Try.prog ops Q rest (a.put o.dst (.tuple #[.bool true, .int .i64 x, .agg #[]])) w') : wpList Try.prog ops Q (o :: rest) a V := by
  obtain ⟨D, left, a1, a2, a3, a4⟩ := h
  refine wpList_next_ranges (α := Int) (β := Unit) V hg it hop 3 ikey unitElem (fun x => .int .i64 x) (fun _ => .agg #[]) (fun key kl hk => by obtain ⟨x, e, _⟩ := Maps.keyOf_int_inv Try.underlying3 hk; exact ⟨x, e⟩) (fun v y hv => ⟨(), (unitElem_inv hv).1⟩) b r n D left cnt hit a2 ?_ ?_
  · intro _ h0
    refine hDone fun x hx hl => ?_
    have := (a4 x hx).2 hl
    rw [h0] at this
    cases this
  · intro x c kl y w' cnt' hkey hlk hv hat hrg hlt hgr hsz hen
    obtain ⟨x', e1, rfl, hw⟩ := Maps.keyOf_int_inv Try.underlying3 hkey
    have e2 : x = x' := by injection e1
    subst e2
    refine hMore x w' cnt' hw ((a4 x hw).1 hlk) ⟨D, _, a1, hrg, a3, fun z hz => ?_⟩ hlt hgr hsz hen
    rw [same_int]
    simp only [Bool.and_eq_true, Bool.not_eq_true', decide_eq_false_iff_not]
    rw [a4 z hz]
end
end Go.Proofs.Ytffhoddpmmlhkaa
