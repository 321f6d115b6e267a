/- A function's code and safe places in memory. -/
import Derived.Test.YtnepgbhbbbcecaaDoorRk0
namespace Go.Proofs.YtnepgbhbbbcecaaDoor
open Go.ChangeShapes Go.WideShapes Go.ChangeAt Go.RowKit Go.Deep
set_option linter.unusedVariables false
set_option linter.unusedSimpArgs false

theorem Chg.ofB {W W' : World} (h : Below W.heap.size W W') : Chg (fun _ => False) W W' := (Chg.ofBelow h).mono (fun k hk h => absurd (show W.heap.size ≤ k from h) (by omega))
theorem Chg.toB {W W' : World} (h : Chg (fun _ => False) W W') : Below W.heap.size W W' := h.below (Nat.le_refl _) (fun _ _ h => h.elim)
/-- A row of truths. -/
def bls (bs : List Bool) : List Value := bs.map Value.bool
@[simp] theorem bls_length (bs : List Bool) : (bls bs).length = bs.length := by simp [bls]
theorem bls_get (bs : List Bool) (k : Nat) (h : k < bs.length) : (bls bs)[k]? = some (.bool bs[k]) := by simp [bls, h]
/-- Code and safe places of a function, in memory. -/
structure FM (W : World) (Ac : Option Addr) (nc : Nat) (As : Option Addr) (ns : Nat) (code : List (List Int)) (safe : List Bool) : Prop where
  c : Rd W 5 Ac nc (kv code)
  u : Uni 5 code
  s : Rd W 1 As ns (bls safe)
section
variable {W W' : World} {Ac As : Option Addr} {nc ns : Nat} {code : List (List Int)} {safe : List Bool}
theorem FM.chg (h : FM W Ac nc As ns code safe) (hc : Chg (fun _ => False) W W') : FM W' Ac nc As ns code safe := ⟨h.c.kept hc (fun _ _ h => h), h.u, h.s.kept hc (fun _ _ h => h)⟩
theorem FM.lenc (h : FM W Ac nc As ns code safe) : code.length = nc := h.c.lenk h.u (by decide)
theorem FM.lens (h : FM W Ac nc As ns code safe) : safe.length = ns := by have := h.s.1; simpa using this
/-- The parts of an instruction. -/
def ipart (code : List (List Int)) (k j : Nat) : Int := (code.getD k []).getD j 0
theorem FM.instr (h : FM W Ac nc As ns code safe) {k : Nat} (hk : k < nc) : ∃ b o, Ac = some ⟨b, o, none⟩ ∧ b < W.heap.size ∧ W.cell? ⟨b, o + k * 5, none⟩ = some (.int .i64 (ipart code k 0)) ∧ W.cell? ⟨b, o + k * 5 + 1, none⟩ = some (.int .i64 (ipart code k 1)) ∧ W.cell? ⟨b, o + k * 5 + 2, none⟩ = some (.int .i64 (ipart code k 2)) ∧ W.cell? ⟨b, o + k * 5 + 3, none⟩ = some (.int .i64 (ipart code k 3)) ∧ W.cell? ⟨b, o + k * 5 + 4, none⟩ = some (.int .i64 (ipart code k 4)) := by
  obtain ⟨hl, b, o, e, hb, hc⟩ := h.c.getk h.u (by decide) (by omega)
  have hk' : k < code.length := by omega
  have e0 : ∀ j, (code[k]'hk').getD j 0 = ipart code k j := fun j => by rw [ipart, List.getD_eq_getElem?_getD, List.getD_eq_getElem?_getD, List.getD_eq_getElem?_getD, List.getElem?_eq_getElem hk']; rfl
  have key : ∀ j, j < 5 → W.cell? ⟨b, o + (k * 5 + j), none⟩ = some (.int .i64 (ipart code k j)) := fun j hj => by rw [hc k hk' j hj, e0]
  refine ⟨b, o, e, hb, ?_, ?_, ?_, ?_, ?_⟩
  · exact key 0 (by decide)
  · simpa [Nat.add_assoc] using key 1 (by decide)
  · simpa [Nat.add_assoc] using key 2 (by decide)
  · simpa [Nat.add_assoc] using key 3 (by decide)
  · simpa [Nat.add_assoc] using key 4 (by decide)
theorem FM.safe_ (h : FM W Ac nc As ns code safe) (h0 : 0 < ns) : ∃ b o, As = some ⟨b, o, none⟩ ∧ b < W.heap.size ∧ ∀ k, k < ns → W.cell? ⟨b, o + k, none⟩ = some (.bool (safe.getD k false)) := by
  obtain ⟨b, o, e, hb, hc⟩ := h.s.2 h0
  refine ⟨b, o, e, hb, fun k hk => ?_⟩
  have hk' : k < safe.length := by rw [h.lens]; exact hk
  rw [hc k _ (bls_get safe k hk'), List.getD_eq_getElem?_getD, List.getElem?_eq_getElem hk']
  rfl
end
end Go.Proofs.YtnepgbhbbbcecaaDoor
