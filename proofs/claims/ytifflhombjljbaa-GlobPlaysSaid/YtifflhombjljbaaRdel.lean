/- slices.Delete of one element of a row of ints that the call owns. -/
import Derived.Test.YtifflhombjljbaaShelf
import Derived.Test.YtifflhombjljbaaRsetl
import Derived.Test.YtifflhombjljbaaQ2
namespace Go.Proofs.Ytifflhombjljbaa
open Go.ChangeShapes Go.WideShapes Go.ChangeAt Go.RowKit Go.Deep
set_option linter.unusedVariables false

theorem del_list (zs : List Int) (i : Nat) (hi : i < zs.length) : (zs.take i ++ zs.drop (i + 1) ++ List.replicate 1 0).length = zs.length ∧ (zs.take i ++ zs.drop (i + 1) ++ List.replicate 1 (0 : Int)).take (zs.length - 1) = zs.eraseIdx i := by
  have h1 : (zs.take i ++ zs.drop (i + 1)).length = zs.length - 1 := by simp; omega
  refine ⟨by rw [List.length_append, h1]; simp; omega, ?_⟩
  rw [← h1, List.take_left', List.eraseIdx_eq_take_drop_succ]
  rfl
theorem delete_any (base n c G i : Nat) (zs : List Int) (W : World) (h : Row W base 3 1 (some ⟨G, 0, none⟩) n c (ints zs)) (hi : i < n) :
    Calls Try.prog 29 #[.slice (some ⟨G, 0, none⟩) n c, .int .i64 i, .int .i64 ((i : Int) + 1)] W fun e W' => e = .returned (.slice (some ⟨G, 0, none⟩) (n - 1) c) ∧ Row W' base 3 1 (some ⟨G, 0, none⟩) (n - 1) c (ints (zs.eraseIdx i)) ∧ Chg (fun g => g = G) W W' := by
  have hz : zs.length = n := by simpa using h.1
  have hcell := h.rd
  have hc : ∀ j, j < zs.length → W.cell? ⟨G, 0 + j, none⟩ = some (.int .i64 (zs.getD j 0)) := fun j hj => by
    obtain ⟨b, o, he, _, hcc⟩ := hcell.at_ (by omega)
    cases he
    rw [hcc j hj]
    simp [List.getD, hj]
  have hf : ∀ j, j < n → W.frozen? ⟨G, 0 + j, none⟩ = false := fun j hj => by
    rcases h.2.2.2 with ⟨he, _⟩ | ⟨g, cur, he, _, hh, _⟩
    · cases he
    · cases he; exact Blk.frozen hh _
  have hs := Try.slices_Delete_int_cells G 0 n c i (i + 1) zs W (by omega) h.2.1 (by have := h.2.2.1; unfold maxLen at this; omega) (by omega) (by omega) hc hf
  rw [show ((i + 1 : Nat) : Int) = (i : Int) + 1 by omega, Nat.add_sub_cancel_left, ← hz, List.take_length] at hs
  rw [hz] at hs
  refine hs.mono ?_
  rintro e W' ⟨rfl, q, rfl⟩
  obtain ⟨l1, l2⟩ := del_list zs i (by omega)
  have hr := Row.setCells (zs.take i ++ zs.drop (i + 1) ++ List.replicate 1 0) zs 0 (W.drewN q) (h.drewN q)
  rw [setl_all _ _ _ (by rw [l1]; omega), l1] at hr
  simp only [List.take_zero, List.nil_append, Nat.zero_add, List.drop_length, List.append_nil] at hr
  have h2 := hr.short (k := n - 1) (by omega)
  rw [← hz, l2, hz] at h2
  refine ⟨rfl, h2, ?_⟩
  exact ((Chg.refl _ W).drewN q).trans (chg_setCells _ _ _) (fun _ _ h => h)
end Go.Proofs.Ytifflhombjljbaa
