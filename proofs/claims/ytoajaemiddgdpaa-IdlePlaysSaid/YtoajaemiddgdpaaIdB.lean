/- One goes out of the links. -/
import Derived.Test.YtoajaemiddgdpaaIdA
namespace Go.Proofs.Ytoajaemiddgdpaa
open Go.ChangeShapes Go.WideShapes Go.ChangeAt Go.RowKit Go.Deep
set_option linter.unusedVariables false

theorem lnk_app (p : List Nat) (y : Nat) (t u : List Nat) : lnk (p ++ y :: t) = lnk (p ++ y :: u) := by cases p <;> rfl
theorem ah_top (k : Nat) (t : List Nat) (hn : (k :: t).Nodup) (i : Nat) : ah t i = if i = k then -1 else ah (k :: t) i := by
  by_cases h : i = k
  · subst h
    rw [if_pos rfl]
    exact ah_out t i (List.nodup_cons.1 hn).1
  · rw [if_neg h]
    simp only [ah]
    rw [if_neg h]
theorem ah_mid (y k : Nat) (t : List Nat) : ∀ (p : List Nat), (p ++ y :: k :: t).Nodup → ∀ i, ah (p ++ y :: t) i = if i = k then -1 else if i = y then lnk t else ah (p ++ y :: k :: t) i
  | [], hn, i => by
    simp only [List.nil_append] at hn ⊢
    obtain ⟨h1, h2⟩ := List.nodup_cons.1 hn
    have hyk : y ≠ k := fun e => h1 (by simp [e])
    have := ah_top k t h2 i
    by_cases hk : i = k
    · rw [if_pos hk]
      rw [if_pos hk] at this
      simp only [ah]
      rw [if_neg (by omega), this]
    · rw [if_neg hk] at this ⊢
      simp only [ah] at this ⊢
      by_cases hy : i = y
      · rw [if_pos hy, if_pos hy]
      · rw [if_neg hy, if_neg hy, if_neg hy]
        exact this
  | x :: p, hn, i => by
    obtain ⟨h1, h2⟩ := List.nodup_cons.1 (show (x :: (p ++ y :: k :: t)).Nodup from hn)
    have hxk : x ≠ k := fun e => h1 (by simp [e])
    have hxy : x ≠ y := fun e => h1 (by simp [e])
    have ih := ah_mid y k t p h2 i
    show ah (x :: (p ++ y :: t)) i = if i = k then -1 else if i = y then lnk t else ah (x :: (p ++ y :: k :: t)) i
    simp only [ah]
    by_cases hx : i = x
    · rw [if_pos hx, if_pos hx, if_neg (by omega), if_neg (by omega)]
      exact lnk_app _ _ _ _
    · rw [if_neg hx, if_neg hx]
      exact ih
theorem ah_self (p : List Nat) (k : Nat) (t : List Nat) (hn : (p ++ k :: t).Nodup) : ah (p ++ k :: t) k = lnk t := by
  induction p with
  | nil => simp [ah]
  | cons x p ih =>
    obtain ⟨h1, h2⟩ := List.nodup_cons.1 (show (x :: (p ++ k :: t)).Nodup from hn)
    have hxk : k ≠ x := fun e => h1 (by simp [e])
    show ah (x :: (p ++ k :: t)) k = _
    simp only [ah]
    rw [if_neg hxk]
    exact ih h2
/-- The row behind a drop of the first. -/
theorem arow_top (k : Nat) (t : List Nat) (most : Nat) (hn : (k :: t).Nodup) (hk : k < most) : (arow (k :: t) most).set k (-1) = arow t most := by
  apply List.ext_getElem (by simp)
  intro i h1 h2
  rw [List.getElem_set]
  simp only [arow, List.getElem_map, List.getElem_range]
  rw [ah_top k t hn i]
  by_cases h : k = i
  · rw [if_pos h, if_pos h.symm]
  · rw [if_neg h, if_neg (fun e => h e.symm)]
/-- The row behind a drop of one behind y. -/
theorem arow_mid (y k : Nat) (p t : List Nat) (most : Nat) (hn : (p ++ y :: k :: t).Nodup) (hy : y < most) (hk : k < most) : ((arow (p ++ y :: k :: t) most).set y (lnk t)).set k (-1) = arow (p ++ y :: t) most := by
  apply List.ext_getElem (by simp)
  intro i h1 h2
  rw [List.getElem_set, List.getElem_set]
  simp only [arow, List.getElem_map, List.getElem_range]
  rw [ah_mid y k t p hn i]
  by_cases h : k = i
  · rw [if_pos h, if_pos h.symm]
  · rw [if_neg h, if_neg (show ¬ i = k from fun e => h e.symm)]
    by_cases h' : y = i
    · rw [if_pos h', if_pos h'.symm]
    · rw [if_neg h', if_neg (show ¬ i = y from fun e => h' e.symm)]
theorem Il.drop_top (L R most k : Nat) (t : List Nat) (w : World) (h : Il w L R most (k :: t)) :
    Il (((w.setCell ⟨L, 1, none⟩ (.int .i64 (lnk t))).setCell ⟨R, k, none⟩ (.int .i64 (-1))).setCell ⟨L, 2, none⟩ (.int .i64 t.length)) L R most t := by
  have hne := h.ne
  obtain ⟨h1, h2, h3, h4, h5⟩ := h
  have hk : k < most := h4 k (by simp)
  refine ⟨?_, ?_, (List.nodup_cons.1 h3).2, fun x hx => h4 x (by simp [hx]), by simp at h5; omega⟩
  · have := ((h1.set_ 1 (.int .i64 (lnk t))).far (p := ⟨R, k, none⟩) hne (.int .i64 (-1))).set_ 2 (.int .i64 t.length)
    simpa [lnk] using this
  · have := ((h2.far (p := ⟨L, 1, none⟩) (fun e => hne e.symm) (.int .i64 (lnk t))).set_ k (.int .i64 (-1))).far (p := ⟨L, 2, none⟩) (fun e => hne e.symm) (.int .i64 t.length)
    rw [← arow_top k t most h3 hk]
    simpa [ints, List.map_set] using this
theorem Il.drop_mid (L R most y k : Nat) (p t : List Nat) (w : World) (h : Il w L R most (p ++ y :: k :: t)) :
    Il (((w.setCell ⟨R, y, none⟩ (.int .i64 (lnk t))).setCell ⟨R, k, none⟩ (.int .i64 (-1))).setCell ⟨L, 2, none⟩ (.int .i64 ((p ++ y :: t).length : Int))) L R most (p ++ y :: t) := by
  have hne := h.ne
  obtain ⟨h1, h2, h3, h4, h5⟩ := h
  have hk : k < most := h4 k (by simp)
  have hy : y < most := h4 y (by simp)
  have hsub : (p ++ y :: t).Sublist (p ++ y :: k :: t) := List.Sublist.append (List.Sublist.refl _) (.cons_cons _ (List.sublist_cons_self _ _))
  refine ⟨?_, ?_, h3.sublist hsub, fun x hx => h4 x (hsub.subset hx), by have := hsub.length_le; omega⟩
  · have := ((h1.far (p := ⟨R, y, none⟩) hne (.int .i64 (lnk t))).far (p := ⟨R, k, none⟩) hne (.int .i64 (-1))).set_ 2 (.int .i64 ((p ++ y :: t).length : Int))
    rw [lnk_app p y (k :: t) t] at this
    simpa using this
  · have := ((h2.set_ y (.int .i64 (lnk t))).set_ k (.int .i64 (-1))).far (p := ⟨L, 2, none⟩) (fun e => hne e.symm) (.int .i64 ((p ++ y :: t).length : Int))
    rw [← arow_mid y k p t most h3 hy hk]
    simpa [ints, List.map_set] using this
end Go.Proofs.Ytoajaemiddgdpaa
