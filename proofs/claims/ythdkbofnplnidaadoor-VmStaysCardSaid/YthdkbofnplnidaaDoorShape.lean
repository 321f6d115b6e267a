/- Lemmas of my own that open any argument: numbers, truths, strings, slices, arrays, structs of such, at any depth. No statement is proved here. -/
import Derived.Test.YthdkbofnplnidaaDoorRowz
namespace Go.Proofs.YthdkbofnplnidaaDoor
open Go.ChangeShapes Go.WideShapes Go.ChangeAt Go.RowKit Go.Deep
set_option linter.unusedVariables false
set_option linter.unusedSimpArgs false

/-- The shape of a type. -/
inductive Sh where
  | int (k : IntKind)
  | bool
  | str
  | sl (e : Sh)
  | arr (n : Nat) (e : Sh)
  | st (fs : Sh)
  | nil
  | cons (f rest : Sh)
namespace Sh
def size : Sh → Nat
  | int _ => 1
  | bool => 1
  | str => 1
  | sl _ => 1
  | arr n e => n * e.size
  | st fs => fs.size
  | nil => 0
  | cons f r => f.size + r.size
/-- What a value of that shape is. -/
def Den : Sh → Type
  | int _ => Int
  | bool => Bool
  | str => ByteArray
  | sl e => List e.Den
  | arr _ e => List e.Den
  | st fs => fs.Den
  | nil => Unit
  | cons f r => f.Den × r.Den
def fld : Sh → Bool
  | nil => true
  | cons _ _ => true
  | _ => false
end Sh
/-- These cells are that datum. -/
def Lies (w : World) : (S : Sh) → List Value → S.Den → Prop
  | .int k, cs, z => cs = [.int k z] ∧ (Lit.int k z).wf = true
  | .bool, cs, b => cs = [.bool b]
  | .str, cs, s => cs = [.string s] ∧ ByteArray.size s ≤ maxLen
  | .sl e, cs, l => ∃ A c, cs = [.slice A (@List.length e.Den l) c] ∧ @List.length e.Den l ≤ c ∧ c ≤ maxLen ∧ (0 < @List.length e.Den l → ∃ b o, A = some ⟨b, o, none⟩ ∧ b < w.heap.size ∧
      ∀ i d, (show List e.Den from l)[i]? = some d → ∃ cs', cs'.length = e.size ∧ (∀ j u, cs'[j]? = some u → w.cell? ⟨b, o + i * e.size + j, none⟩ = some u) ∧ Lies w e cs' d)
  | .arr n e, cs, l => @List.length e.Den l = n ∧ cs.length = n * e.size ∧ ∀ i d, (show List e.Den from l)[i]? = some d → Lies w e ((cs.drop (i * e.size)).take e.size) d
  | .st fs, cs, d => Lies w fs cs d
  | .nil, cs, _ => cs = []
  | .cons f r, cs, d => ∃ cs1 cs2, cs = cs1 ++ cs2 ∧ cs1.length = f.size ∧ Lies w f cs1 (Prod.fst d) ∧ Lies w r cs2 (Prod.snd d)
def fits (P : Program) : Sh → TypeId → List Field → Nat → Bool
  | .int k, t, _, _ => match P.underlying t with
    | some (.int k') => decide (k' = k)
    | _ => false
  | .bool, t, _, _ => match P.underlying t with
    | some .bool => true
    | _ => false
  | .str, t, _, _ => match P.underlying t with
    | some .string => true
    | _ => false
  | .sl e, t, _, _ => match P.underlying t with
    | some (.slice u) => decide (P.cellsOf u = e.size) && decide (0 < e.size) && !e.fld && fits P e u [] 0
    | _ => false
  | .arr n e, t, _, _ => match P.underlying t with
    | some (.array m u) => decide (m = n) && decide (P.cellsOf t = n * e.size) && decide (P.cellsOf u = e.size) && !e.fld && fits P e u [] 0
    | _ => false
  | .st fs, t, _, _ => match P.underlying t with
    | some (.struct fa) => decide (P.cellsOf t = fs.size) && fs.fld && fits P fs 0 fa.toList 0
    | _ => false
  | .nil, _, fl, _ => fl.isEmpty
  | .cons f r, _, fl, off => match fl with
    | g :: gs => decide (g.offset = off) && decide (P.cellsOf g.type = f.size) && !f.fld && fits P f g.type [] 0 && r.fld && fits P r 0 gs (off + f.size)
    | [] => false
theorem list_of {α : Type} {Q : Nat → α → Prop} : ∀ n, (∀ i, i < n → ∃ d, Q i d) → ∃ l : List α, l.length = n ∧ ∀ i d, l[i]? = some d → Q i d
  | 0, _ => ⟨[], rfl, fun i d h => by simp at h⟩
  | n + 1, h => by
    obtain ⟨l, hl, hq⟩ := list_of n (fun i hi => h i (by omega))
    obtain ⟨d, hd⟩ := h n (by omega)
    refine ⟨l ++ [d], by simp [hl], fun i x hx => ?_⟩
    by_cases hi : i < n
    · exact hq i x (by rw [← hx, List.getElem?_append_left (by omega)])
    · have hi2 : i < (l ++ [d]).length := (List.getElem?_eq_some_iff.1 hx).1
      have : i = n := by simp [hl] at hi2; omega
      subst this
      rw [List.getElem?_append_right (by omega), hl, Nat.sub_self] at hx
      have : d = x := by simpa using hx
      exact this ▸ hd
theorem trod_array {H : Type} {enc : TypeId × Value → H} {P : Program} {w : World} {base : Nat} {spare : Nat → Bool} {held : Bool} {t e : TypeId} {n fuel : Nat} {cs : List Value} {x : DataW H × List MemPlace} (ht : P.underlying t = some (.array n e)) (h : DataW.trod enc P w base spare held fuel t cs = some x) :
    ∃ (xs : List (DataW H × List MemPlace)) (m : Nat), cs.length = P.cellsOf t ∧ ∀ i, i < n → DataW.trod enc P w base spare held m e ((cs.drop (i * P.cellsOf e)).take (P.cellsOf e)) = xs[i]? ∧ xs.length = n := by
  cases fuel with
  | zero => simp [DataW.trod] at h
  | succ m =>
    unfold DataW.trod at h
    rw [ht] at h
    split at h <;> simp_all
    obtain ⟨hl, xs, hp, hd⟩ := h
    exact ⟨xs, m, fun i hi => ⟨mapM_some_get hp i i (by simp [hi]), by simpa using mapM_some_length hp⟩⟩
section
variable {H : Type} {enc : TypeId × Value → H} {P : Program} {w : World} {spare : Nat → Bool} {held : Bool}
theorem lies_of : ∀ (S : Sh),
    (∀ t fl off, S.fld = false → fits P S t fl off = true → ∀ (fuel : Nat) (cs : List Value) (x : DataW H × List MemPlace), DataW.trod enc P w 0 spare held fuel t cs = some x → ∃ d, Lies w S cs d) ∧
    (∀ t fl off, S.fld = true → fits P S t fl off = true → ∀ cs : List Value, cs.length = off + S.size → (∀ f ∈ fl, ∃ n y, DataW.trod enc P w 0 spare held n f.type ((cs.drop f.offset).take (P.cellsOf f.type)) = some y) → ∃ d, Lies w S (cs.drop off) d) := by
  intro S
  induction S with
  | int k =>
    refine ⟨fun t fl off _ hf fuel cs x h => ?_, fun t fl off hb => (by cases hb)⟩
    unfold fits at hf
    split at hf
    · rename_i k' hu
      have hk := of_decide_eq_true hf
      subst hk
      obtain ⟨n, h1, _, h2⟩ := DataW.trod_int hu h
      exact ⟨n, h1, h2⟩
    · cases hf
  | bool =>
    refine ⟨fun t fl off _ hf fuel cs x h => ?_, fun t fl off hb => (by cases hb)⟩
    unfold fits at hf
    split at hf
    · rename_i hu
      obtain ⟨b, h1, _⟩ := DataW.trod_bool hu h
      exact ⟨b, h1⟩
    · cases hf
  | str =>
    refine ⟨fun t fl off _ hf fuel cs x h => ?_, fun t fl off hb => (by cases hb)⟩
    unfold fits at hf
    split at hf
    · rename_i hu
      obtain ⟨s, h1, _, h2⟩ := DataW.trod_string hu h
      exact ⟨s, h1, h2⟩
    · cases hf
  | sl e ih =>
    refine ⟨fun t fl off _ hf fuel cs x h => ?_, fun t fl off hb => (by cases hb)⟩
    unfold fits at hf
    split at hf
    · rename_i u hu
      simp only [Bool.and_eq_true, decide_eq_true_eq, Bool.not_eq_true'] at hf
      obtain ⟨⟨⟨hc, hpos⟩, hfl⟩, hfit⟩ := hf
      rcases open_slice hu h with ⟨rfl, _⟩ | ⟨a, len, cap, m, n, D, Pl, rfl, _, hl, hm, hmm, _, hi⟩
      · exact ⟨([] : List e.Den), none, 0, rfl, Nat.le_refl _, Nat.zero_le _, fun h0 => absurd h0 (by simp)⟩
      · have hlm : len ≤ m := by rw [hmm]; split <;> omega
        have key : ∀ i, i < len → ∃ d : e.Den, ∃ cs' : List Value, cs'.length = e.size ∧ (∀ j u, cs'[j]? = some u → w.cell? ((a.add (i * e.size)).add j) = some u) ∧ Lies w e cs' d := by
          intro i hil
          obtain ⟨cs', h1, h2⟩ := hi i (by omega)
          rw [hc] at h1
          obtain ⟨_, h3, h4⟩ := World.cells?_some h1
          obtain ⟨d, hd⟩ := ih.1 u [] 0 hfl hfit n cs' _ h2
          exact ⟨d, cs', h3, fun j v hv => by rw [h4 j (by have := (List.getElem?_eq_some_iff.1 hv).1; omega)]; exact hv, hd⟩
        obtain ⟨l, hll, hq⟩ := list_of len key
        subst hll
        refine ⟨l, some a, cap, rfl, hl, hm, fun h0 => ?_⟩
        have h0' : 0 < l.length := h0
        obtain ⟨d0, hd0⟩ : ∃ d, l[0]? = some d := ⟨l[0], by simp [List.getElem?_eq_getElem h0']⟩
        obtain ⟨cs', h1, h2, _⟩ := hq 0 d0 hd0
        obtain ⟨u0, hu0⟩ : ∃ u, cs'[0]? = some u := ⟨cs'[0]'(by omega), List.getElem?_eq_getElem (by omega)⟩
        have hc0 := h2 0 u0 hu0
        obtain ⟨b, o, spot⟩ := a
        have hspot : spot = none := by simpa [Addr.add] using World.cell?_spot hc0
        subst hspot
        refine ⟨b, o, rfl, by simpa [Addr.add] using World.block_lt_of_cell? w _ hc0, fun i d hd => ?_⟩
        obtain ⟨cs', g1, g2, g3⟩ := hq i d hd
        refine ⟨cs', g1, fun j v hv => ?_, g3⟩
        have := g2 j v hv
        rw [Go.Deep.add_add] at this
        have e : (⟨b, o, none⟩ : Addr).add (i * e.size + j) = ⟨b, o + i * e.size + j, none⟩ := by unfold Addr.add; split <;> simp_all [Nat.add_assoc]
        rw [← e]
        exact this
    · cases hf
  | arr n e ih =>
    refine ⟨fun t fl off _ hf fuel cs x h => ?_, fun t fl off hb => (by cases hb)⟩
    unfold fits at hf
    split at hf
    · rename_i m u hu
      simp only [Bool.and_eq_true, decide_eq_true_eq, Bool.not_eq_true'] at hf
      obtain ⟨⟨⟨⟨rfl, hct⟩, hc⟩, hfl⟩, hfit⟩ := hf
      obtain ⟨xs, q, hlen, hi⟩ := trod_array hu h
      have key : ∀ i, i < m → ∃ d : e.Den, Lies w e ((cs.drop (i * e.size)).take e.size) d := by
        intro i hil
        obtain ⟨h1, h2⟩ := hi i hil
        rw [hc] at h1
        rw [List.getElem?_eq_getElem (by omega)] at h1
        exact ih.1 u [] 0 hfl hfit q _ _ h1
      obtain ⟨l, hll, hq⟩ := list_of m key
      exact ⟨l, hll, by rw [hlen, hct], hq⟩
    · cases hf
  | st fs ih =>
    refine ⟨fun t fl off _ hf fuel cs x h => ?_, fun t fl off hb => (by cases hb)⟩
    unfold fits at hf
    split at hf
    · rename_i fa hu
      simp only [Bool.and_eq_true, decide_eq_true_eq] at hf
      obtain ⟨⟨hct, hfl⟩, hfit⟩ := hf
      obtain ⟨xs, n, _, _, hlen, hxl, hfs⟩ := DataW.trod_struct hu h
      obtain ⟨d, hd⟩ := ih.2 0 fa.toList 0 hfl hfit cs (by omega) (fun f hf => by
        obtain ⟨i, hi, rfl⟩ := List.getElem_of_mem hf
        have hi' : i < fa.size := by simpa using hi
        have h1 := hfs i fa[i] (Array.getElem?_eq_getElem hi')
        rw [List.getElem?_eq_getElem (by omega)] at h1
        exact ⟨n, xs[i]'(by omega), by simpa using h1⟩)
      exact ⟨d, by simpa [Lies] using hd⟩
    · cases hf
  | nil =>
    refine ⟨fun t fl off hb => (by cases hb), fun t fl off _ hf cs hl _ => ⟨(), ?_⟩⟩
    show cs.drop off = []
    simp only [Sh.size] at hl
    exact List.drop_eq_nil_of_le (by omega)
  | cons f r ih1 ih2 =>
    refine ⟨fun t fl off hb => (by cases hb), fun t fl off _ hf cs hl hall => ?_⟩
    unfold fits at hf
    split at hf
    · rename_i g gs
      simp only [Bool.and_eq_true, decide_eq_true_eq, Bool.not_eq_true'] at hf
      obtain ⟨⟨⟨⟨⟨hgo, hgc⟩, hff⟩, hfit⟩, hrf⟩, hrfit⟩ := hf
      simp only [Sh.size] at hl
      obtain ⟨n, y, hy⟩ := hall g (by simp)
      rw [hgo, hgc] at hy
      obtain ⟨d1, hd1⟩ := ih1.1 g.type [] 0 hff hfit n _ _ hy
      obtain ⟨d2, hd2⟩ := ih2.2 0 gs (off + f.size) hrf hrfit cs (by omega) (fun f' hf' => hall f' (List.mem_cons_of_mem _ hf'))
      refine ⟨(d1, d2), (cs.drop off).take f.size, cs.drop (off + f.size), ?_, ?_, hd1, hd2⟩
      · rw [← List.drop_drop, List.take_append_drop]
      · rw [List.length_take, List.length_drop]; omega
    · cases hf
/-- A value of a parameter. -/
def Sh.val : Sh → List Value → Value
  | .st _, cs => .agg cs.toArray
  | .arr _ _, cs => .agg cs.toArray
  | _, cs => cs.headD undef
theorem open_any (S : Sh) {r : Reach} {b0 : Nat} {t : TypeId} {v : Value} {d : DataW H} {ps : List MemPlace} (hfl : S.fld = false) (hf : fits P S t [] 0 = true) (hval : Value.okWide P w r b0 t v) (h : DataW.Trod enc P w 0 spare held t v d ps) :
    ∃ (cs : List Value) (d : S.Den), v = S.val cs ∧ Lies w S cs d := by
  obtain ⟨fuel, hfu⟩ := h
  obtain ⟨d', hd'⟩ := (lies_of S).1 t [] 0 hfl hf fuel _ _ hfu
  refine ⟨v.cells.toList, d', ?_, hd'⟩
  cases S with
  | int k =>
    unfold fits at hf
    split at hf
    · rename_i k' hu
      have hk := of_decide_eq_true hf
      subst hk
      obtain ⟨z, rfl⟩ := okWide_int hu hval
      rfl
    · cases hf
  | bool =>
    unfold fits at hf
    split at hf
    · rename_i hu
      obtain ⟨z, rfl⟩ := okWide_bool hu hval
      rfl
    · cases hf
  | str =>
    unfold fits at hf
    split at hf
    · rename_i hu
      obtain ⟨z, rfl⟩ := okWide_string hu hval
      rfl
    · cases hf
  | sl e =>
    unfold fits at hf
    split at hf
    · rename_i u hu
      obtain ⟨A, len, cap, rfl⟩ := okWide_slice hu hval
      rfl
    · cases hf
  | arr n e =>
    unfold fits at hf
    split at hf
    · rename_i m u hu
      simp only [Value.okWide, hu] at hval
      obtain ⟨cs, h1, h2, _⟩ := hval
      subst h1
      simp [Value.cells, Sh.val]
    · cases hf
  | st fs =>
    unfold fits at hf
    split at hf
    · rename_i fa hu
      obtain ⟨cs, rfl, _⟩ := okWide_struct hu hval
      simp [Value.cells, Sh.val]
    · cases hf
  | nil => cases hfl
  | cons f r => cases hfl
theorem Lies.kept {w' : World} (hs : w.heap.size ≤ w'.heap.size) (hk : ∀ g, g < w.heap.size → w'.heap[g]? = w.heap[g]?) : ∀ (S : Sh) (cs : List Value) (d : S.Den), Lies w S cs d → Lies w' S cs d := by
  intro S
  induction S with
  | int k => intro cs d h; exact h
  | bool => intro cs d h; exact h
  | str => intro cs d h; exact h
  | sl e ih =>
    intro cs d h
    obtain ⟨A, c, h1, h2, h3, h4⟩ := h
    refine ⟨A, c, h1, h2, h3, fun h0 => ?_⟩
    obtain ⟨b, o, h5, h6, h7⟩ := h4 h0
    refine ⟨b, o, h5, by omega, fun i x hx => ?_⟩
    obtain ⟨cs', g1, g2, g3⟩ := h7 i x hx
    exact ⟨cs', g1, fun j u hu => (World.cell?_of_block (w := w) (hk b h6)).trans (g2 j u hu), ih _ _ g3⟩
  | arr n e ih =>
    intro cs d h
    obtain ⟨h1, h2, h3⟩ := h
    exact ⟨h1, h2, fun i x hx => ih _ _ (h3 i x hx)⟩
  | st fs ih => intro cs d h; exact ih cs d h
  | nil => intro cs d h; exact h
  | cons f r ih1 ih2 =>
    intro cs d h
    obtain ⟨c1, c2, h1, h2, h3, h4⟩ := h
    exact ⟨c1, c2, h1, h2, ih1 _ _ h3, ih2 _ _ h4⟩
theorem Lies.below {w' : World} {S : Sh} {cs : List Value} {d : S.Den} (h : Lies w S cs d) (hb : Below w.heap.size w w') : Lies w' S cs d := Lies.kept hb.size (fun g hg => hb.block g hg) S cs d h
end
end Go.Proofs.YthdkbofnplnidaaDoor
