/- Who collects a walk of numbers. -/
import Derived.Test.YtobcaohginiegaaNumA
namespace Go.Proofs.Ytobcaohginiegaa
open Go.ChangeShapes Go.WideShapes Go.ChangeAt Go.RowKit Go.Deep Go.Shelf
set_option linter.unusedVariables false
attribute [local go_sem] Oper.semAt_some

theorem wpListIn_app {F : Fence} {nF : Nat} {ops : Array Oper} {rest : List Oper} {o : Oper} {a : Act} {V : World} {Q : Exit → Act → World → Prop} (hgd : o.guard = none) (s x : Operand)
    (ho : o.op = .call { callee := .builtin .append, args := #[s, x], argTypes := #[25, 25] })
    (base : Nat) (A : Option Addr) (n c : Nat) (xs : List Int) (hs : a.eval s = .slice A n c) (hown : Row V base 3 1 A n c (ints xs))
    (D : Option Addr) (m d : Nat) (ys : List Int) (hx : a.eval x = .slice D m d) (hr : Rd V 1 D m (ints ys))
    (h63 : n + m ≤ 1048576) (hbase : base ≤ V.heap.size)
    (h : ∀ A' c' w', Row w' base 3 1 A' (n + m) c' (ints (xs ++ ys)) → V.grownBy w' (blk A) → (blk A' = blk A ∨ blk A' = some V.heap.size) → wpListIn F nF Try.prog ops Q rest (a.put o.dst (.slice A' (n + m) c')) w') : wpListIn F nF Try.prog ops Q (o :: rest) a V := by
  obtain ⟨i0, hi, hz0, hz1, hz2⟩ := info_parts int_info
  refine wpListIn_plain hgd fun K hK => ?_
  obtain ⟨A', c', w', hrun, h2, h3, h4⟩ := append_rows (P := Try.prog) V base 25 o.type 3 i0 (.int .i64 0) 1 8 Try.underlying25 hi hz0 hz1 hz2 rfl (by decide) A n c (ints xs) hown D m d (ints ys) hr (ints_one ys) h63 (by decide) hbase
  unfold Oper.wpIn
  refine ⟨by simp [Oper.about, ho, resolve, Target.leads, Sem.run_pure], ?_⟩
  rw [Oper.semAt_plain F _ _ (by rw [ho]; intro c hc'; cases hc')]
  simp [execOp, ho, resolve, invoke, builtin, hs, hx, hrun, Result.andThen]
  exact hK _ _ (h A' c' w' (by rw [ints_append]; exact h2) h3 h4)

theorem keeps_of_chg {S : Nat → Prop} {B : Nat} {W W' : World} (hc : Chg S W W') (hS : ∀ k o, S k → W.heap[k]? = some o → o.isCells = true) : KeepsFrom B W W' :=
  ⟨hc.size, fun i o _ hi ho => (hc.block i (Array.getElem?_eq_some_iff.1 hi).1 (fun h => by rw [hS i o h hi] at ho; cases ho)).trans hi⟩

/-- What has been collected. -/
def Got (w : World) (hi : Nat) (pre : List Int) (W : World) : Prop := ∃ A c, Blk W w.heap.size 25 #[.slice A pre.length c] ∧ Row W hi 3 1 A pre.length c (ints pre) ∧ Below w.heap.size w W ∧ hi ≤ W.heap.size
theorem Row.cellsAt {W : World} {base n c : Nat} {E : TypeId} {A : Option Addr} {xs : List Value} (h : Row W base E 1 A n c xs) : ∀ k o, blk A = some k → W.heap[k]? = some o → o.isCells = true := by
  intro k o hk ho
  rcases h.2.2.2 with ⟨rfl, _⟩ | ⟨g, cur, rfl, _, hg, _⟩
  · cases hk
  · simp at hk
    subst hk
    rw [show W.heap[g]? = _ from hg] at ho
    cases ho
    rfl
theorem Got.own (w : World) (hi : Nat) (hhi : w.heap.size ≤ hi) : OwnFrom hi (Got w hi) := by
  rintro pre W W' row ⟨A, c, hB, hR, hb, hs⟩ hg hr
  have hne : ∀ k, (∀ o, W.heap[k]? = some o → o.isCells = true) → some k ≠ row := fun k hk e => by
    obtain ⟨_, o, ho, hc⟩ := hr k e.symm
    rw [hk o ho] at hc; cases hc
  refine ⟨A, c, hB.grown hg (hne _ (fun o ho => by rw [show W.heap[w.heap.size]? = _ from hB] at ho; cases ho; rfl)), hR.heap (fun g hgl e => hg.block g hgl (hne g (fun o ho => hR.cellsAt g o e ho))), hb.grown hg hb.size (fun k e => by have := (hr k e).1; omega), Nat.le_trans hs hg.size⟩

set_option maxHeartbeats 1000000 in
theorem iter_none (n lo hi : Nat) (w : World) : SeqStopsK Fence.wide n Try.prog 23 #[] (fun x : Int => #[Value.int .i64 x]) (Mid lo hi) (fun ys => ys = []) (fun pre => False) 0 w := fun l J Jx W hW _ _ hY h0 => by
  refine callsIn_of_wp Try.func23 rfl trivial ?_ rfl
  simp only [Try.ntmps23, List.size_toArray, List.length_cons, List.length_nil, Nat.reduceAdd, Nat.reduceSub, Array.replicate_succ, Array.replicate_zero, List.push_toArray, List.append_toArray, List.nil_append, List.cons_append]
  gi_wp2
  go_end0
  exact ⟨⟨_, rfl⟩, h0⟩
end Go.Proofs.Ytobcaohginiegaa
