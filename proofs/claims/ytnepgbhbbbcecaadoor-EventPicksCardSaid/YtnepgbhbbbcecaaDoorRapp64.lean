/- The append laws of rows of ints, at this program's types. -/
import Derived.Test.YtnepgbhbbbcecaaDoorRowz
import Derived.Deep.QuietTactic
import Derived.BigQuiet
namespace Go.Proofs.YtnepgbhbbbcecaaDoor
open Go.ChangeShapes Go.WideShapes Go.ChangeAt Go.RowKit Go.Deep
set_option linter.unusedVariables false
set_option linter.unusedSimpArgs false

theorem int64_info_ : (Tryd.prog.info? 2).map (fun i => (i.zero, i.size, i.bytes)) = some (some (.int .i64 0), 1, 8) := by kernel_rfl

theorem Rd.lit64 (w : World) (z : Int) (E : TypeId) : Rd (w.alloc (.cells #[.int .i64 z] E)) 1 (some ⟨w.heap.size, 0, none⟩) 1 (ints [z]) := by
  refine ⟨by simp, fun _ => ⟨w.heap.size, 0, rfl, by simp, fun j u hu => ?_⟩⟩
  have hj : j = 0 := by
    have := (List.getElem?_eq_some_iff.1 hu).1
    simp at this; omega
  subst hj
  have : u = .int .i64 z := by simpa [ints] using hu.symm
  subst this
  simp [go_sem]

theorem Rd.litn64 (w : World) (z : Int) (E : TypeId) (n : Nat) (hn : n = w.heap.size) : Rd (w.alloc (.cells #[.int .i64 z] E)) 1 (some ⟨n, 0, none⟩) 1 (ints [z]) := by
  subst hn; exact Rd.lit64 w z E
theorem wpList_app64 {ops : Array Oper} {rest : List Oper} {o : Oper} {a : Act} {V : World} {Q : Exit → Act → World → Prop} (hgd : o.guard = none) (s x : Operand)
    (ho : o.op = .call { callee := .builtin .append, args := #[s, x], argTypes := #[42, 42] })
    (base : Nat) (A : Option Addr) (n c : Nat) (xs : List Int) (hs : a.eval s = .slice A n c) (hown : Row V base 2 1 A n c (ints xs))
    (D : Option Addr) (m d : Nat) (ys : List Int) (hx : a.eval x = .slice D m d) (hr : Rd V 1 D m (ints ys))
    (h63 : n + m ≤ 1048576) (hbase : base ≤ V.heap.size)
    (h : ∀ A' c' w', Row w' base 2 1 A' (n + m) c' (ints (xs ++ ys)) → V.grownBy w' (blk A) → (blk A' = blk A ∨ blk A' = some V.heap.size) → wpList Tryd.prog ops Q rest (a.put o.dst (.slice A' (n + m) c')) w') : wpList Tryd.prog ops Q (o :: rest) a V := by
  obtain ⟨i0, hi, hz0, hz1, hz2⟩ := info_parts int64_info_
  refine wpList_append_rows V hgd s x 42 ho base 2 i0 (.int .i64 0) 1 8 Tryd.underlying42 hi hz0 hz1 hz2 rfl (by decide) A n c (ints xs) hs hown D m d (ints ys) hx hr (ints_one ys) h63 (by decide) hbase ?_
  intro A' c' w' h1 h2 h3
  exact h A' c' w' (by rw [ints_append]; exact h1) h2 h3
theorem step_app64 {ops : Array Oper} {o : Oper} {a : Act} {V : World} {K : Act → World → Prop} {Q : Exit → Act → World → Prop} {F : Prop} (hgd : o.guard = none) (s x : Operand)
    (ho : o.op = .call { callee := .builtin .append, args := #[s, x], argTypes := #[42, 42] })
    (base : Nat) (A : Option Addr) (n c : Nat) (xs : List Int) (hs : a.eval s = .slice A n c) (hown : Row V base 2 1 A n c (ints xs))
    (D : Option Addr) (m d : Nat) (ys : List Int) (hx : a.eval x = .slice D m d) (hr : Rd V 1 D m (ints ys))
    (h63 : n + m ≤ 1048576) (hbase : base ≤ V.heap.size)
    (h : ∀ A' c' w', Row w' base 2 1 A' (n + m) c' (ints (xs ++ ys)) → V.grownBy w' (blk A) → (blk A' = blk A ∨ blk A' = some V.heap.size) → K (a.put o.dst (.slice A' (n + m) c')) w') :
    if Region.wanted o (yielded ops a.tmps) = true then Oper.wp Tryd.prog o a V K Q else F := by
  obtain ⟨i0, hi, hz0, hz1, hz2⟩ := info_parts int64_info_
  refine step_append_rows V hgd s x 42 ho base 2 i0 (.int .i64 0) 1 8 Tryd.underlying42 hi hz0 hz1 hz2 rfl (by decide) A n c (ints xs) hs hown D m d (ints ys) hx hr (ints_one ys) h63 (by decide) hbase ?_
  intro A' c' w' h1 h2 h3
  exact h A' c' w' (by rw [ints_append]; exact h1) h2 h3
end Go.Proofs.YtnepgbhbbbcecaaDoor
