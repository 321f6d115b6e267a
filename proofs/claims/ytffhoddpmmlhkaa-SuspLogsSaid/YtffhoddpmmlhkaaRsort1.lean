/- slices.Sort, slices.Compact of a row of ints that the call owns. -/
import Derived.Test.YtffhoddpmmlhkaaShelf
import Derived.Test.YtffhoddpmmlhkaaRset
import Derived.Test.YtffhoddpmmlhkaaUp
import Derived.Lib.SortBridge
namespace Go.Proofs.Ytffhoddpmmlhkaa
open Go.ChangeShapes Go.WideShapes Go.ChangeAt Go.RowKit Go.Deep Go.Sort
set_option linter.unusedVariables false

def setl : List Int → Nat → List Int → List Int
  | zs, _, [] => zs
  | zs, o, y :: r => setl (zs.set o y) (o + 1) r
theorem setl_len : ∀ (ys zs : List Int) (o : Nat), (setl zs o ys).length = zs.length
  | [], zs, o => rfl
  | y :: r, zs, o => by rw [setl, setl_len]; simp
theorem setl_all : ∀ (ys zs : List Int) (o : Nat), o + ys.length ≤ zs.length → setl zs o ys = zs.take o ++ ys ++ zs.drop (o + ys.length)
  | [], zs, o, h => by simp [setl]
  | y :: r, zs, o, h => by
    simp only [List.length_cons] at h
    rw [setl, setl_all r (zs.set o y) (o + 1) (by simp; omega)]
    have e1 : (zs.set o y).take (o + 1) = zs.take o ++ [y] := by
      rw [List.take_succ_eq_append_getElem (by simp; omega), List.take_set_of_le (Nat.le_refl _)]
      simp
    have e2 : (zs.set o y).drop (o + 1 + r.length) = zs.drop (o + (y :: r).length) := by
      rw [List.drop_set_of_lt (by omega)]
      congr 1
      simp; omega
    rw [e1, e2]
    simp
section
variable {w : World} {base n c G : Nat} {E : TypeId} {zs : List Int}
theorem Row.setCells : ∀ (ys : List Int) (zs : List Int) (o : Nat) (w : World), Row w base E 1 (some ⟨G, 0, none⟩) n c (ints zs) → Row (w.setCells G o (ints ys)) base E 1 (some ⟨G, 0, none⟩) n c (ints (setl zs o ys))
  | [], zs, o, w, h => h
  | y :: r, zs, o, w, h => Row.setCells r _ (o + 1) _ (h.set y)
theorem chg_setCells : ∀ (vs : List Value) (o : Nat) (w : World), Chg (fun g => g = G) w (w.setCells G o vs)
  | [], o, w => Chg.refl _ _
  | v :: r, o, w => ((Chg.refl (fun g => g = G) w).setCell (p := ⟨G, o, none⟩) (.inl rfl) v).trans (chg_setCells r (o + 1) _) (fun _ _ h => h)
theorem Row.holds (h : Row w base E 1 (some ⟨G, 0, none⟩) n c (ints zs)) : Holds (Value.int .i64) w G 0 zs.toArray := by
  intro j hj
  have hj' : j < zs.length := by simpa using hj
  rw [Nat.zero_add]
  refine ⟨?_, h.frozenAt j⟩
  rw [h.at_ j hj']
  simp [List.getD, hj']
theorem chg_grow (os : Array Obj) (w : World) : Chg (fun _ => False) w (grow w os) := ⟨rfl, rfl, rfl, by simp [grow], fun k hk _ => by simp [grow, Array.getElem?_append_left hk]⟩
theorem Row.sorted (h : Row w base E 1 (some ⟨G, 0, none⟩) n c (ints zs)) (ys : List Int) (hy : ys.length = n) (q : Nat) (os : Array Obj) :
    Row (grow (putRow (Value.int .i64) (Sort.ahead w q) G 0 ys.toArray) os) base E 1 (some ⟨G, 0, none⟩) n c (ints ys) ∧ Chg (fun g => g = G) w (grow (putRow (Value.int .i64) (Sort.ahead w q) G 0 ys.toArray) os) := by
  have hz : zs.length = n := by simpa using h.1
  rw [Lib.sorted_world (Value.int .i64) w G 0 q zs.toArray ys os h.holds (by simp [hy, hz])]
  have hr := Row.setCells ys zs 0 (w.drewN q) (h.drewN q)
  rw [setl_all ys zs 0 (by omega)] at hr
  have e : zs.drop (0 + ys.length) = [] := List.drop_of_length_le (by omega)
  rw [e, List.append_nil, List.take_zero, List.nil_append] at hr
  refine ⟨hr.kept (chg_grow os _) (fun _ _ h => h), (((Chg.refl (fun g => g = G) w).drewN q).trans (chg_setCells _ _ _) (fun _ _ h => h)).trans (chg_grow os _) (fun _ _ h => h.elim)⟩
end
theorem sort_any (base n c cap G : Nat) (zs : List Int) (W : World) (h : Row W base 3 1 (some ⟨G, 0, none⟩) n c (ints zs)) (hn : n ≤ 1048576) :
    Calls Try.prog 22 #[.slice (some ⟨G, 0, none⟩) n cap] W fun e W' => e = .returned (.tuple #[]) ∧ Row W' base 3 1 (some ⟨G, 0, none⟩) n c (ints (srt zs)) ∧ Chg (fun g => g = G) W W' := by
  have hz : zs.length = n := by simpa using h.1
  have hG := (h.blk_lt G rfl).2
  have hs := Try.slices_Sort_int G 0 cap zs W h.holds hG (by omega)
  rw [hz] at hs
  refine hs.mono ?_
  rintro e W' ⟨rfl, q, os, rfl⟩
  exact ⟨rfl, h.sorted (srt zs) (by simp [hz]) q os⟩
end Go.Proofs.Ytffhoddpmmlhkaa
