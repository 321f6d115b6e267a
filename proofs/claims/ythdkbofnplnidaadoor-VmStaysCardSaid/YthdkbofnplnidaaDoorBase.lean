/- Lemmas of my own that open a slice of structs (or of integers) whose fields are all of kind int: the cells, one by one. No statement is proved here. -/
import Derived.Test.YthdkbofnplnidaaDoorRows
import Derived.WalkKit
import Derived.ProofKit
import Derived.OpenShut
import Derived.ShutString
import Derived.ChangeOld
import Derived.Below
import Derived.Carry
import Derived.Deep.Slices
import Derived.Deep.Fields
import Derived.ChangeSame
namespace Go.Proofs.YthdkbofnplnidaaDoor
open Go.ChangeShapes Go.WideShapes Go.ChangeAt Go.RowKit Go.Deep

theorem own : ownKnob Tryd.prog.godebug = none := by kernel_rfl
theorem laidOut : laidOutB Tryd.prog = true := by kernel_rfl

/-- A slice value that came in, of 'len' elements of n cells each, all of them ints: cell number i holds z i. -/
def Flat (w : World) (A : Option Addr) (len n : Nat) (z : Nat → Int) : Prop :=
  len ≤ maxLen ∧ (0 < len → ∃ b o, A = some ⟨b, o, none⟩ ∧ b < w.heap.size ∧ ∀ i, i < len * n → w.cell? ⟨b, o + i, none⟩ = some (.int .i64 (z i)) ∧ (Lit.int .i64 (z i)).wf = true)

theorem Flat.below {w w' : World} {A : Option Addr} {len n : Nat} {z : Nat → Int} (h : Flat w A len n z) (hb : Below w.heap.size w w') : Flat w' A len n z := by
  refine ⟨h.1, fun hl => ?_⟩
  obtain ⟨b, o, e, hlt, hc⟩ := h.2 hl
  exact ⟨b, o, e, Nat.lt_of_lt_of_le hlt hb.size, fun i hi => ⟨(hb.cell (p := ⟨b, o + i, none⟩) hlt).trans (hc i hi).1, (hc i hi).2⟩⟩

/-- Every field is of kind int. -/
def intFields (P : Program) (fs : Array Field) : Bool := (List.range fs.size).all fun i => match fs[i]? with
  | some f => (match P.underlying f.type with
    | some (.int .i64) => true
    | _ => false)
  | none => false
theorem intFields_of {P : Program} {fs : Array Field} (h : intFields P fs = true) (j : Nat) (f : Field) (hj : fs[j]? = some f) : P.underlying f.type = some (.int .i64) := by
  have hl : j < fs.size := (Array.getElem?_eq_some_iff.1 hj).1
  have h1 := List.all_eq_true.1 h j (List.mem_range.2 hl)
  rw [hj] at h1
  simp only at h1
  split at h1
  · assumption
  · cases h1

theorem bcell {W w1 : World} (hb : Below W.heap.size W w1) : (∀ b o, b < W.heap.size → w1.cell? ⟨b, o, none⟩ = W.cell? ⟨b, o, none⟩) ∧ (∀ b o, b < W.heap.size → w1.frozen? ⟨b, o, none⟩ = W.frozen? ⟨b, o, none⟩) :=
  ⟨fun b o h => hb.cell (p := ⟨b, o, none⟩) h, fun b o h => hb.frozen (p := ⟨b, o, none⟩) h⟩

/-- A slice value that came in, of 'len' integers of kind k: element number i holds z i. -/
def Ints (k : IntKind) (w : World) (A : Option Addr) (len : Nat) (z : Nat → Int) : Prop :=
  len ≤ maxLen ∧ (0 < len → ∃ b o, A = some ⟨b, o, none⟩ ∧ b < w.heap.size ∧ ∀ i, i < len → w.cell? ⟨b, o + i, none⟩ = some (.int k (z i)) ∧ (Lit.int k (z i)).wf = true)

section
variable {H : Type} {enc : TypeId × Value → H} {P : Program} {w : World}
theorem open_row {k : IntKind} {t e : TypeId} {A : Option Addr} {len cap : Nat} {d : DataW H} {p : List MemPlace} (ht : P.underlying t = some (.slice e)) (he : P.underlying e = some (.int k)) (hC : P.cellsOf e = 1)
    (h : DataW.Trod enc P w 0 (fun _ => true) true t (.slice A len cap) d p) : ∃ z, Ints k w A len z := by
  obtain ⟨fuel, hf⟩ := h
  rcases open_ints ht he hC hf with ⟨hcs, _⟩ | ⟨x, l, c, zs, hcs, _, hl, hm, hz, _, hcell, hwz⟩
  · simp [Value.cells] at hcs
    obtain ⟨rfl, rfl, rfl⟩ := hcs
    exact ⟨fun _ => 0, Nat.zero_le _, fun h0 => absurd h0 (by omega)⟩
  · simp [Value.cells] at hcs
    obtain ⟨rfl, rfl, rfl⟩ := hcs
    have hz' : zs.length = cap := by simpa using hz
    refine ⟨fun i => zs.getD i 0, Nat.le_trans hl hm, fun h0 => ?_⟩
    obtain ⟨b, o, spot⟩ := x
    have h00 := hcell 0 (by omega)
    have hspot : spot = none := by simpa [Addr.add] using World.cell?_spot h00
    subst hspot
    refine ⟨b, o, rfl, ?_, fun i hi => ?_⟩
    · have hb0 := World.block_lt_of_cell? w _ h00
      simpa [Addr.add] using hb0
    · have hk := hcell i (by omega)
      have e : (⟨b, o, none⟩ : Addr).add i = ⟨b, o + i, none⟩ := by unfold Addr.add; split <;> simp_all
      rw [← e]
      refine ⟨hk, hwz _ ?_⟩
      show zs.getD i 0 ∈ zs
      rw [List.getD_eq_getElem?_getD, List.getElem?_eq_getElem (by omega)]
      simp
theorem open_flat {t e : TypeId} {fs : Array Field} {A : Option Addr} {len cap : Nat} {d : DataW H} {p : List MemPlace} (ht : P.underlying t = some (.slice e)) (he : P.underlying e = some (.struct fs))
    (hone : oneCellFields P fs = true) (hC : P.cellsOf e = fs.size) (hints : intFields P fs = true) (hpos : 0 < fs.size)
    (h : DataW.Trod enc P w 0 (fun _ => true) true t (.slice A len cap) d p) : ∃ z, Flat w A len fs.size z := by
  have hint := intFields_of hints
  obtain ⟨fuel, hf⟩ := h
  rcases open_slice ht hf with ⟨hcs, _⟩ | ⟨x, l, c, m, n, D, Pl, hcs, _, hl, hm, hmm, hx, hi⟩
  · simp [Value.cells] at hcs
    obtain ⟨rfl, rfl, rfl⟩ := hcs
    exact ⟨fun _ => 0, Nat.zero_le _, fun h0 => absurd h0 (by omega)⟩
  · simp [Value.cells] at hcs
    obtain ⟨rfl, rfl, rfl⟩ := hcs
    simp only [if_true] at hmm
    subst hmm
    rw [hC] at hi hx
    have key : ∀ i, i < len * fs.size → ∃ v : Int, w.cell? (x.add i) = some (.int .i64 v) ∧ (Lit.int .i64 v).wf = true := by
      intro i hil
      have hq : i / fs.size < len := (Nat.div_lt_iff_lt_mul hpos).2 hil
      have hr : i % fs.size < fs.size := Nat.mod_lt _ hpos
      obtain ⟨cs', hc, htr⟩ := hi (i / fs.size) (by omega)
      obtain ⟨ys, n', _, _, _, _, hfld⟩ := DataW.trod_struct he htr
      obtain ⟨_, hcl, hat⟩ := World.cells?_some hc
      obtain ⟨ho, hk⟩ := hone_of hone (i % fs.size) (fs[i % fs.size]'hr) (Array.getElem?_eq_getElem hr)
      have h1 := hfld (i % fs.size) (fs[i % fs.size]'hr) (Array.getElem?_eq_getElem hr)
      rw [ho, hk] at h1
      have hone' : (cs'.drop (i % fs.size)).take 1 = [cs'[i % fs.size]'(by omega)] := by
        rw [List.drop_eq_getElem_cons (by omega)]
        rfl
      rw [hone'] at h1
      cases hy : ys[i % fs.size]? with
      | none =>
        rw [hy] at h1
        exact absurd h1 (by
          have := hfld (i % fs.size) (fs[i % fs.size]'hr) (Array.getElem?_eq_getElem hr)
          intro hh
          simp_all)
      | some y =>
        rw [hy] at h1
        obtain ⟨v, hv, _, hw⟩ := DataW.trod_int (hint _ _ (Array.getElem?_eq_getElem hr)) h1
        refine ⟨v, ?_, hw⟩
        have hcell := hat (i % fs.size) (by omega)
        rw [Go.Deep.add_add, Nat.mul_comm, Nat.div_add_mod] at hcell
        rw [hcell, List.getElem?_eq_getElem (by omega)]
        simpa using hv
    refine ⟨fun i => if hh : i < len * fs.size then (key i hh).choose else 0, Nat.le_trans hl hm, fun h0 => ?_⟩
    have h00 : 0 < len * fs.size := Nat.mul_pos h0 hpos
    obtain ⟨b, o, spot⟩ := x
    obtain ⟨v0, hv0, _⟩ := key 0 h00
    have hspot : spot = none := by simpa [Addr.add] using World.cell?_spot hv0
    subst hspot
    refine ⟨b, o, rfl, ?_, fun i hi' => ?_⟩
    · have hb0 := World.block_lt_of_cell? w _ hv0
      simpa [Addr.add] using hb0
    · have hk := (key i hi').choose_spec
      simp only [dif_pos hi']
      have e : (⟨b, o, none⟩ : Addr).add i = ⟨b, o + i, none⟩ := by unfold Addr.add; split <;> simp_all
      rw [← e]
      exact hk
end
end Go.Proofs.YthdkbofnplnidaaDoor
