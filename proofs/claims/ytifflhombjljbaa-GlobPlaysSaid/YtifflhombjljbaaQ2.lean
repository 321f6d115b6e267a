/- Two rows of ints in one struct (a block of two cells), of one call's own: what appends and cuts leave. -/
import Derived.Test.YtifflhombjljbaaRapp
namespace Go.Proofs.Ytifflhombjljbaa
open Go.ChangeShapes Go.WideShapes Go.ChangeAt Go.RowKit Go.Deep
set_option linter.unusedVariables false

theorem Row.form {w : World} {base size n c : Nat} {E : TypeId} {A : Option Addr} {xs : List Value} (h : Row w base E size A n c xs) (hn : 0 < n) : ∃ G, A = some ⟨G, 0, none⟩ ∧ base ≤ G ∧ G < w.heap.size := by
  rcases h.2.2.2 with ⟨_, h0, _⟩ | ⟨g, cur, rfl, hb, hg, _⟩
  · omega
  · exact ⟨g, rfl, hb, hg.lt⟩
theorem Row.nilc {w : World} {base size n c : Nat} {E : TypeId} {xs : List Value} (h : Row w base E size none n c xs) : n = 0 ∧ c = 0 := by
  rcases h.2.2.2 with ⟨_, h1, h2⟩ | ⟨g, cur, h, _⟩
  · exact ⟨h1, h2⟩
  · cases h
/-- The row's first k elements; the capacity stays. -/
theorem Row.short {w : World} {base n c k : Nat} {E : TypeId} {A : Option Addr} {xs : List Int} (h : Row w base E 1 A n c (ints xs)) (hk : k ≤ n) : Row w base E 1 A k c (ints (xs.take k)) := by
  rcases h.cut hk (Nat.le_trans hk h.2.1) (Nat.le_refl _) with h' | ⟨rfl, rfl⟩
  · rw [Nat.mul_one, ints_take] at h'; exact h'
  · obtain ⟨_, rfl⟩ := h.nilc
    exact Row.nil _ _ _ _

/-- The blocks of such a struct. -/
def Fp (K : Nat) (A1 A2 : Option Addr) (k : Nat) : Prop := k = K ∨ blk A1 = some k ∨ blk A2 = some k
def Q2 (T : TypeId) (w : World) (B K : Nat) (A1 A2 : Option Addr) (c1 c2 : Nat) (f b : List Int) : Prop :=
  B ≤ K ∧ Blk w K T #[.slice A1 f.length c1, .slice A2 b.length c2] ∧ Row w B 3 1 A1 f.length c1 (ints f) ∧ Row w B 3 1 A2 b.length c2 (ints b) ∧ (∀ g, blk A1 = some g → blk A2 ≠ some g)
section
variable {T : TypeId} {S : Nat → Prop} {w w' : World} {B K c1 c2 : Nat} {A1 A2 : Option Addr} {f b : List Int}
theorem Q2.kept (h : Q2 T w B K A1 A2 c1 c2 f b) (hc : Chg S w w') (hn : ∀ k, Fp K A1 A2 k → ¬ S k) : Q2 T w' B K A1 A2 c1 c2 f b := by
  obtain ⟨h0, hK, h1, h2, hne⟩ := h
  exact ⟨h0, hK.kept hc (hn _ (.inl rfl)), h1.kept hc (fun g hg => hn _ (.inr (.inl hg))), h2.kept hc (fun g hg => hn _ (.inr (.inr hg))), hne⟩
theorem Q2.same (h : Q2 T w B K A1 A2 c1 c2 f b) (hc : Chg (fun _ => False) w w') : Q2 T w' B K A1 A2 c1 c2 f b := h.kept hc (fun _ _ h => h)
theorem Q2.fp_lt (h : Q2 T w B K A1 A2 c1 c2 f b) : ∀ k, Fp K A1 A2 k → B ≤ k ∧ k < w.heap.size := by
  obtain ⟨h0, hK, h1, h2, hne⟩ := h
  rintro k (rfl | h | h)
  · exact ⟨h0, hK.lt⟩
  · exact h1.blk_lt k h
  · exact h2.blk_lt k h
end
theorem fp_same {K : Nat} {A1 A2 : Option Addr} {S : Nat → Prop} : ∀ g, Fp K A1 A2 g → Fp K A1 A2 g ∨ S g := fun _ h => .inl h

def QAft (T : TypeId) (W W' : World) (B K : Nat) (A1 A2 : Option Addr) (f b : List Int) : Prop :=
  ∃ A1' A2' c1' c2', Q2 T W' B K A1' A2' c1' c2' f b ∧ Chg (Fp K A1 A2) W W' ∧ ∀ g, Fp K A1' A2' g → Fp K A1 A2 g ∨ W.heap.size ≤ g
section
variable {T : TypeId} {W W1 W' w2 : World} {B K c1 c2 c1' c2' d : Nat} {A1 A2 A1' A2' D : Option Addr} {f b f' b' : List Int} {v : Int} {ob : Obj}
theorem QAft.same (h : Q2 T W B K A1 A2 c1 c2 f b) (hc : Chg (fun _ => False) W W') : QAft T W W' B K A1 A2 f b :=
  ⟨A1, A2, c1, c2, h.same hc, hc.mono (fun _ _ h => h.elim), fp_same⟩
theorem QAft.trans (h : Chg (Fp K A1 A2) W W1) (hn : ∀ g, Fp K A1' A2' g → Fp K A1 A2 g ∨ W.heap.size ≤ g) (k : QAft T W1 W' B K A1' A2' f b) : QAft T W W' B K A1 A2 f b := by
  obtain ⟨E1, E2, e1, e2, hq, hc, hg⟩ := k
  refine ⟨E1, E2, e1, e2, hq, h.trans hc (fun k hk hh => ?_), fun g hh => ?_⟩
  · rcases hn k hh with h | h
    · exact h
    · omega
  · rcases hg g hh with h' | h'
    · exact hn g h'
    · right; have := h.size; omega
theorem QAft.below {B0 : Nat} (h : QAft T W W' B K A1 A2 f' b') (hq : Q2 T W B K A1 A2 c1 c2 f b) (hB : B0 ≤ B) (hW : B0 ≤ W.heap.size) : Below B0 W W' := by
  obtain ⟨_, _, _, _, _, hc, _⟩ := h
  exact hc.below hW (fun k _ hk => by have := (hq.fp_lt k hk).1; omega)
/-- Behind an append to the first row: the field takes it. -/
theorem Q2.app1 (hT : 3 ≠ T) (h : Q2 T W B K A1 A2 c1 c2 f b) (hr : Row w2 B 3 1 D (f.length + 1) d (ints (f ++ [v]))) (hg : (W.alloc ob).grownBy w2 (blk A1)) (h3 : blk D = blk A1 ∨ blk D = some (W.alloc ob).heap.size) :
    Blk w2 K T #[.slice A1 f.length c1, .slice A2 b.length c2] ∧ Q2 T (w2.setCell ⟨K, 0, none⟩ (.slice D (f.length + 1) d)) B K D A2 d c2 (f ++ [v]) b ∧ Chg (Fp K A1 A2) W (w2.setCell ⟨K, 0, none⟩ (.slice D (f.length + 1) d)) ∧ ∀ g, Fp K D A2 g → Fp K A1 A2 g ∨ W.heap.size ≤ g := by
  obtain ⟨h0, hK, h1, h2, hne⟩ := h
  have hc : Chg (fun k => blk A1 = some k) W w2 := Chg.grown ((Chg.refl _ _).alloc ob) hg (fun k hk => .inl hk)
  have hK2 := hK.kept hc (fun h => h1.blk_ne hK hT h)
  have h22 := h2.kept hc (fun g hg h => hne g h hg)
  refine ⟨hK2, ⟨h0, by simpa using hK2.set_ 0 (.slice D (f.length + 1) d), ?_, h22.setCell (h22.blk_ne hK2 hT) _, fun g hg hg2 => ?_⟩, (hc.mono (fun k _ h => .inr (.inl h))).setCell (.inl (.inl rfl)) _, ?_⟩
  · have := hr.setCell (p := ⟨K, 0, none⟩) (hr.blk_ne hK2 hT) (.slice D (f.length + 1) d)
    simpa using this
  · rcases h3 with h3 | h3
    · exact hne g (h3 ▸ hg) hg2
    · rw [h3] at hg
      have := (h2.blk_lt g hg2).2
      simp at hg
      omega
  · rintro g (h | h | h)
    · exact .inl (.inl h)
    · rcases h3 with h3 | h3
      · exact .inl (.inr (.inl (h3 ▸ h)))
      · rw [h3] at h
        simp at h
        right; omega
    · exact .inl (.inr (.inr h))
theorem Q2.app2 (hT : 3 ≠ T) (h : Q2 T W B K A1 A2 c1 c2 f b) (hr : Row w2 B 3 1 D (b.length + 1) d (ints (b ++ [v]))) (hg : (W.alloc ob).grownBy w2 (blk A2)) (h3 : blk D = blk A2 ∨ blk D = some (W.alloc ob).heap.size) :
    Blk w2 K T #[.slice A1 f.length c1, .slice A2 b.length c2] ∧ Q2 T (w2.setCell ⟨K, 1, none⟩ (.slice D (b.length + 1) d)) B K A1 D c1 d f (b ++ [v]) ∧ Chg (Fp K A1 A2) W (w2.setCell ⟨K, 1, none⟩ (.slice D (b.length + 1) d)) ∧ ∀ g, Fp K A1 D g → Fp K A1 A2 g ∨ W.heap.size ≤ g := by
  obtain ⟨h0, hK, h1, h2, hne⟩ := h
  have hc : Chg (fun k => blk A2 = some k) W w2 := Chg.grown ((Chg.refl _ _).alloc ob) hg (fun k hk => .inl hk)
  have hK2 := hK.kept hc (fun h => h2.blk_ne hK hT h)
  have h11 := h1.kept hc (fun g hg h => hne g hg h)
  refine ⟨hK2, ⟨h0, by simpa using hK2.set_ 1 (.slice D (b.length + 1) d), h11.setCell (h11.blk_ne hK2 hT) _, ?_, fun g hg hg2 => ?_⟩, (hc.mono (fun k _ h => .inr (.inr h))).setCell (.inl (.inl rfl)) _, ?_⟩
  · have := hr.setCell (p := ⟨K, 1, none⟩) (hr.blk_ne hK2 hT) (.slice D (b.length + 1) d)
    simpa using this
  · rcases h3 with h3 | h3
    · exact hne g hg (h3 ▸ hg2)
    · rw [h3] at hg2
      have := (h1.blk_lt g hg).2
      simp at hg2
      omega
  · rintro g (h | h | h)
    · exact .inl (.inl h)
    · exact .inl (.inr (.inl h))
    · rcases h3 with h3 | h3
      · exact .inl (.inr (.inr (h3 ▸ h)))
      · rw [h3] at h
        simp at h
        right; omega
/-- The first row is cut short. -/
theorem Q2.cut1 (hT : 3 ≠ T) (h : Q2 T W B K A1 A2 c1 c2 f b) {k : Nat} (hk : k ≤ f.length) :
    Q2 T (W.setCell ⟨K, 0, none⟩ (.slice A1 k c1)) B K A1 A2 c1 c2 (f.take k) b ∧ Chg (Fp K A1 A2) W (W.setCell ⟨K, 0, none⟩ (.slice A1 k c1)) := by
  obtain ⟨h0, hK, h1, h2, hne⟩ := h
  have hl : (f.take k).length = k := by simp; omega
  refine ⟨⟨h0, ?_, ?_, h2.setCell (h2.blk_ne hK hT) _, hne⟩, (Chg.refl _ _).setCell (.inl (.inl rfl)) _⟩
  · rw [hl]; simpa using hK.set_ 0 (.slice A1 k c1)
  · rw [hl]; exact (h1.short hk).setCell (h1.blk_ne hK hT) _
theorem Q2.cut2 (hT : 3 ≠ T) (h : Q2 T W B K A1 A2 c1 c2 f b) {k : Nat} (hk : k ≤ b.length) :
    Q2 T (W.setCell ⟨K, 1, none⟩ (.slice A2 k c2)) B K A1 A2 c1 c2 f (b.take k) ∧ Chg (Fp K A1 A2) W (W.setCell ⟨K, 1, none⟩ (.slice A2 k c2)) := by
  obtain ⟨h0, hK, h1, h2, hne⟩ := h
  have hl : (b.take k).length = k := by simp; omega
  refine ⟨⟨h0, ?_, h1.setCell (h1.blk_ne hK hT) _, ?_, hne⟩, (Chg.refl _ _).setCell (.inl (.inl rfl)) _⟩
  · rw [hl]; simpa using hK.set_ 1 (.slice A2 k c2)
  · rw [hl]; exact (h2.short hk).setCell (h2.blk_ne hK hT) _
end
end Go.Proofs.Ytifflhombjljbaa
