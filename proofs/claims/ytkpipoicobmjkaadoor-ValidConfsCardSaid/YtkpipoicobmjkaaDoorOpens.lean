/- An opener of my own: a struct by value whose fields are all of kind int. No statement is proved here. -/
import Derived.Test.YtkpipoicobmjkaaDoorBase
import Derived.Lib.SmallJoins
namespace Go.Proofs.YtkpipoicobmjkaaDoor
open Go.ChangeShapes Go.WideShapes Go.ChangeAt Go.RowKit Go.Deep
set_option linter.unusedVariables false
section
variable {H : Type} {enc : TypeId × Value → H} {P : Program} {w : World}
theorem open_struct_ints {r : Reach} {b0 : Nat} {t : TypeId} {fs : Array Field} {v : Value} {d : DataW H} {p : List MemPlace} (hs : P.underlying t = some (.struct fs)) (hone : oneCellFields P fs = true) (hC : P.cellsOf t = fs.size) (hints : intFields P fs = true)
    (hv : Value.okWide P w r b0 t v) (h : DataW.Trod enc P w 0 (fun _ => true) true t v d p) :
    ∃ z : Nat → Int, v = .agg ((List.range fs.size).map fun i => Value.int .i64 (z i)).toArray ∧ ∀ i, i < fs.size → (Lit.int .i64 (z i)).wf = true := by
  obtain ⟨cs, rfl, hsz⟩ := okWide_struct hs hv
  obtain ⟨fuel, hf⟩ := h
  obtain ⟨xs, n, _, hx, hl, hlen, hg⟩ := DataW.trod_struct hs hf
  have hsz' : cs.size = fs.size := hsz.trans hC
  have key : ∀ i (hi : i < fs.size), ∃ z : Int, cs[i]'(by omega) = .int .i64 z ∧ (Lit.int .i64 z).wf = true := by
    intro i hi
    obtain ⟨o0, k0⟩ := hone_of hone i (fs[i]'hi) (Array.getElem?_eq_getElem hi)
    have h1 := hg i (fs[i]'hi) (Array.getElem?_eq_getElem hi)
    rw [o0, k0] at h1
    have hone' : ((Value.agg cs).cells.toList.drop i).take 1 = [cs[i]'(by omega)] := by
      rw [List.drop_eq_getElem_cons (by simp [Value.cells]; omega)]
      simp [Value.cells]
    rw [hone'] at h1
    have hi' : i < xs.length := by omega
    rw [List.getElem?_eq_getElem hi'] at h1
    obtain ⟨z, hz, _, hw⟩ := DataW.trod_int (intFields_of hints i _ (Array.getElem?_eq_getElem hi)) h1
    exact ⟨z, by simpa using hz, hw⟩
  refine ⟨fun i => if hi : i < fs.size then (key i hi).choose else 0, ?_, fun i hi => ?_⟩
  · congr 1
    apply Array.ext
    · simp; omega
    · intro i h1 h2
      have hi : i < fs.size := by omega
      simp [dif_pos hi]
      exact (key i hi).choose_spec.1
  · simp only [dif_pos hi]
    exact (key i hi).choose_spec.2
end
end Go.Proofs.YtkpipoicobmjkaaDoor
