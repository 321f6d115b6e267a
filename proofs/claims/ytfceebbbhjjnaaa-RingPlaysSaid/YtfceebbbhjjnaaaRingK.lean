/- The walk of the law RingKeeps. -/
import Derived.Test.YtfceebbbhjjnaaaRingH
namespace Go.Proofs.Ytfceebbbhjjnaaa
open Go.ChangeShapes Go.WideShapes Go.ChangeAt Go.RowKit Go.Deep
set_option linter.unusedVariables false

theorem perm_step {outs q ins o q' e : List Int} (h0 : (outs ++ q).Perm ins) (h1 : (o ++ q').Perm (q ++ e)) : ((outs ++ o) ++ q').Perm (ins ++ e) := by
  rw [List.append_assoc]
  refine (h1.append_left outs).trans ?_
  rw [← List.append_assoc]
  exact h0.append_right e
theorem beh_perm (n : Nat) (xs : List Int) (g : Int) : ((behF n xs g).1 ++ (behF n xs g).2).Perm (xs ++ [g]) := by
  unfold behF
  split
  · simp
  · show ((xs.take (n / 2) ++ [g]) ++ xs.drop (n / 2)).Perm (xs ++ [g])
    rw [List.append_assoc]
    refine ((List.perm_append_comm (l₁ := [g]) (l₂ := xs.drop (n / 2))).append_left (xs.take (n / 2))).trans ?_
    rw [← List.append_assoc, List.take_append_drop]
theorem put_perm (n : Nat) (nx : Int) (xs : List Int) (g : Int) (next : Bool) : ((putF n nx xs g next).1 ++ (nxl (putF n nx xs g next).2.1 ++ (putF n nx xs g next).2.2)).Perm ((nxl nx ++ xs) ++ (if g < 1 then [] else [g])) := by
  unfold putF
  by_cases hg : g < 1
  · simp [hg]
  · rw [if_neg hg, if_neg hg]
    have e1 : nxl g = [g] := by rw [nxl, if_neg (by omega)]
    by_cases hn : next = true
    · rw [if_pos hn]
      by_cases hx : nx = 0
      · rw [if_pos hx, hx]
        show ([] ++ (nxl g ++ xs)).Perm ((nxl 0 ++ xs) ++ [g])
        rw [e1]
        simpa [nxl] using (List.perm_append_comm (l₁ := [g]) (l₂ := xs))
      · rw [if_neg hx]
        show ((behF n xs nx).1 ++ (nxl g ++ (behF n xs nx).2)).Perm ((nxl nx ++ xs) ++ [g])
        have e2 : nxl nx = [nx] := by rw [nxl, if_neg hx]
        rw [e1, e2]
        have h1 := beh_perm n xs nx
        have h2 : ((behF n xs nx).1 ++ ([g] ++ (behF n xs nx).2)).Perm (((behF n xs nx).1 ++ (behF n xs nx).2) ++ [g]) := by
          rw [List.append_assoc]
          exact (List.perm_append_comm (l₁ := [g]) (l₂ := (behF n xs nx).2)).append_left _
        refine h2.trans ((h1.append_right [g]).trans ?_)
        exact (List.perm_append_comm (l₁ := xs) (l₂ := [nx])).append_right [g]
    · rw [if_neg hn]
      show ((behF n xs g).1 ++ (nxl nx ++ (behF n xs g).2)).Perm ((nxl nx ++ xs) ++ [g])
      have h1 := beh_perm n xs g
      have h2 : ((behF n xs g).1 ++ (nxl nx ++ (behF n xs g).2)).Perm (nxl nx ++ ((behF n xs g).1 ++ (behF n xs g).2)) := by
        rw [← List.append_assoc, ← List.append_assoc]
        exact (List.perm_append_comm).append_right _
      refine h2.trans ((h1.append_left (nxl nx)).trans ?_)
      rw [List.append_assoc]
theorem get_perm (nx : Int) (xs : List Int) : ((if (getF nx xs).2.1 = true then [(getF nx xs).1] else []) ++ (nxl (getF nx xs).2.2.1 ++ (getF nx xs).2.2.2)).Perm ((nxl nx ++ xs) ++ []) := by
  by_cases h : nx = 0
  · subst h
    cases xs <;> simp [getF, nxl]
  · simp [getF, nxl, h]
theorem grab_perm (nx : Int) (xs : List Int) : ((grabF nx xs).1 ++ (nxl (grabF nx xs).2.1 ++ (grabF nx xs).2.2)).Perm ((nxl nx ++ xs) ++ []) := by
  unfold grabF
  by_cases hx : xs = []
  · subst hx
    by_cases h : nx = 0 <;> simp [nxl, h]
  · rw [if_neg hx, List.append_nil]
    show (xs.take ((xs.length + 1) / 2) ++ (nxl nx ++ xs.drop ((xs.length + 1) / 2))).Perm (nxl nx ++ xs)
    rw [← List.append_assoc]
    refine ((List.perm_append_comm (l₁ := xs.take ((xs.length + 1) / 2)) (l₂ := nxl nx)).append_right _).trans ?_
    rw [List.append_assoc, List.take_append_drop]
/-- The ring, whoever was put, whoever has gone. -/
structure KS (w wr : World) (A : Option Addr) (n : Nat) (nx : Int) (xs : List Int) (Ai : Option Addr) (ni ci : Nat) (ins : List Int) (Ao : Option Addr) (no co : Nat) (outs : List Int) : Prop where
  ring : RQ wr w.heap.size w.heap.size A n nx xs
  win : Row wr w.heap.size 3 1 Ai ni ci (ints ins)
  wout : Row wr w.heap.size 3 1 Ao no co (ints outs)
  di : ∀ g, blk Ai = some g → ¬ Fp1 w.heap.size A g
  dout : ∀ g, blk Ao = some g → ¬ Fp1 w.heap.size A g ∧ blk Ai ≠ some g
  bel : Below w.heap.size w wr
section
variable {w wr W' V w2 : World} {A A' Ai Ao A3 : Option Addr} {n ni ci no co n3 c3 : Nat} {nx nx' : Int} {xs xs' ins outs ys : List Int}
theorem KS.same (h : KS w wr A n nx xs Ai ni ci ins Ao no co outs) (hc : Chg (fun _ => False) wr W') : KS w W' A n nx xs Ai ni ci ins Ao no co outs :=
  ⟨h.ring.same hc, h.win.kept hc (fun _ _ h => h), h.wout.kept hc (fun _ _ h => h), h.di, h.dout, h.bel.trans (hc.below h.bel.size (fun _ _ h => h.elim))⟩
theorem KS.op (h : KS w wr A n nx xs Ai ni ci ins Ao no co outs) (hq : RQ W' w.heap.size w.heap.size A' n nx' xs') (hc : Chg (Fp1 w.heap.size A) wr W') (hf : ∀ g, Fp1 w.heap.size A' g → Fp1 w.heap.size A g ∨ wr.heap.size ≤ g) : KS w W' A' n nx' xs' Ai ni ci ins Ao no co outs := by
  refine ⟨hq, h.win.kept hc h.di, h.wout.kept hc (fun g hg => (h.dout g hg).1), fun g hg hh => ?_, fun g hg => ⟨fun hh => ?_, (h.dout g hg).2⟩, h.bel.trans (hc.below h.bel.size (fun k _ hk => (h.ring.fp_lt k hk).1))⟩
  · rcases hf g hh with h1 | h1
    · exact h.di g hg h1
    · have := (h.win.blk_lt g hg).2; omega
  · rcases hf g hh with h1 | h1
    · exact (h.dout g hg).1 h1
    · have := (h.wout.blk_lt g hg).2; omega
theorem KS.opb (h : KS w wr A n nx xs Ai ni ci ins Ao no co outs) (hq : RQ W' w.heap.size w.heap.size A n nx' xs') (hc : Chg (fun g => g = w.heap.size) wr W') : KS w W' A n nx' xs' Ai ni ci ins Ao no co outs :=
  h.op hq (hc.mono (fun _ _ h => .inl h)) (fun _ h => .inl h)
theorem KS.want (h : KS w wr A n nx xs Ai ni ci ins Ao no co outs) (hv : Chg (fun _ => False) wr V) (r1 : Row w2 w.heap.size 3 1 A3 n3 c3 (ints ys)) (r2 : V.grownBy w2 (blk Ai)) (r3 : blk A3 = blk Ai ∨ blk A3 = some V.heap.size) : KS w w2 A n nx xs A3 n3 c3 ys Ao no co outs := by
  have hc : Chg (fun k => blk Ai = some k) wr w2 := Chg.grown (hv.mono (fun _ _ h => h.elim)) r2 (fun k hk => .inl hk)
  have hvs := hv.size
  refine ⟨h.ring.kept hc (fun k hk e => h.di k e hk), r1, h.wout.kept hc (fun g hg e => (h.dout g hg).2 e), fun g hg hh => ?_, fun g hg => ⟨(h.dout g hg).1, fun e => ?_⟩, h.bel.trans (hc.below h.bel.size (fun k _ hk => (h.win.blk_lt k hk).1))⟩
  · rcases r3 with r3 | r3
    · exact h.di g (r3 ▸ hg) hh
    · rw [r3] at hg
      have := (h.ring.fp_lt g hh).2
      injection hg with hg; omega
  · rcases r3 with r3 | r3
    · exact (h.dout g hg).2 (r3 ▸ e)
    · rw [r3] at e
      have := (h.wout.blk_lt g hg).2
      injection e with e; omega
theorem KS.got (h : KS w wr A n nx xs Ai ni ci ins Ao no co outs) (hv : Chg (fun _ => False) wr V) (r1 : Row w2 w.heap.size 3 1 A3 n3 c3 (ints ys)) (r2 : V.grownBy w2 (blk Ao)) (r3 : blk A3 = blk Ao ∨ blk A3 = some V.heap.size) : KS w w2 A n nx xs Ai ni ci ins A3 n3 c3 ys := by
  have hc : Chg (fun k => blk Ao = some k) wr w2 := Chg.grown (hv.mono (fun _ _ h => h.elim)) r2 (fun k hk => .inl hk)
  have hvs := hv.size
  refine ⟨h.ring.kept hc (fun k hk e => (h.dout k e).1 hk), h.win.kept hc (fun g hg e => (h.dout g e).2 hg), r1, h.di, fun g hg => ?_, h.bel.trans (hc.below h.bel.size (fun k _ hk => (h.wout.blk_lt k hk).1))⟩
  rcases r3 with r3 | r3
  · exact h.dout g (r3 ▸ hg)
  · rw [r3] at hg
    injection hg with hg
    exact ⟨fun hh => by have := (h.ring.fp_lt g hh).2; omega, fun e => by have := (h.win.blk_lt g e).2; omega⟩
end
def RoundRK (w : World) (n len : Nat) (iv ov i : Value) (wr : World) : Prop :=
  ∃ (k : Nat) (A : Option Addr) (nx : Int) (xs : List Int) (Ai : Option Addr) (ni ci : Nat) (ins : List Int) (Ao : Option Addr) (no co : Nat) (outs : List Int), k ≤ len ∧ i = .int .i64 k ∧ iv = .slice Ai ni ci ∧ ov = .slice Ao no co ∧ KS w wr A n nx xs Ai ni ci ins Ao no co outs ∧ (outs ++ (nxl nx ++ xs)).Perm ins ∧ ins.length ≤ k
theorem RoundRK.step {w w' : World} {n len k ni ci no co : Nat} {A Ai Ao : Option Addr} {nx : Int} {xs ins outs : List Int} (hk : k < len) (h : KS w w' A n nx xs Ai ni ci ins Ao no co outs) (hp : (outs ++ (nxl nx ++ xs)).Perm ins) (hl : ins.length ≤ k + 1) : RoundRK w n len (.slice Ai ni ci) (.slice Ao no co) (.int .i64 ((k : Int) + 1)) w' :=
  ⟨k + 1, A, nx, xs, Ai, ni, ci, ins, Ao, no, co, outs, by omega, by go_num, rfl, rfl, h, hp, hl⟩
theorem perm_len {outs q ins : List Int} (h : (outs ++ q).Perm ins) : outs.length + q.length = ins.length := by
  have := h.length_eq; simpa using this
theorem put_len (n : Nat) (nx : Int) (xs : List Int) (g : Int) (next : Bool) : (putF n nx xs g next).1.length ≤ n + 1 := by
  have hb : ∀ y, (behF n xs y).1.length ≤ n + 1 := fun y => by
    unfold behF
    split
    · simp
    · simp; omega
  unfold putF
  split
  · simp
  · split
    · split
      · simp
      · exact hb nx
    · exact hb g
end Go.Proofs.Ytfceebbbhjjnaaa
