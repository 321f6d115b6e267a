/- Contracts of a turn's list: g waits no more. -/
import Derived.Test.YtealbmadodommaaSemA
import Derived.Deep.RegionLaw
namespace Go.Proofs.Ytealbmadodommaa
open Go.ChangeShapes Go.WideShapes Go.ChangeAt Go.RowKit Go.Deep
set_option linter.unusedVariables false

/-- What a call leaves of the turn. -/
def Aft (W W' : World) (base K : Nat) (A : Option Addr) (o : Int) (xs : List Int) : Prop :=
  ∃ A', Sem W' base K A' o xs ∧ Chg (fun k => k = K ∨ blk A = some k) W W' ∧ ∀ g, blk A' = some g → blk A = some g ∨ W.heap.size ≤ g

theorem ahead_is (base K : Nat) (A : Option Addr) (o g v : Int) (xs : List Int) (W : World) (hS : Sem W base K A o xs) (hv : aheadOf g xs = v) :
    Calls Try.prog 17 #[.pointer (some ⟨K, 0, none⟩), .int .i64 g] W fun e W' => e = .returned (.int .i64 v) ∧ Chg (fun _ => False) W W' := by
  subst hv
  exact ahead_any base K A o g xs W hS
theorem Row.form {w : World} {base size n c : Nat} {E : TypeId} {A : Option Addr} {xs : List Value} (h : Row w base E size A n c xs) (hn : 0 < n) : ∃ G, A = some ⟨G, 0, none⟩ ∧ base ≤ G ∧ G < w.heap.size := by
  rcases h.2.2.2 with ⟨_, h0, _⟩ | ⟨g, cur, rfl, hb, hg, _⟩
  · omega
  · exact ⟨g, rfl, hb, hg.lt⟩
theorem Row.cut_ {w : World} {base n c G : Nat} {E : TypeId} {xs : List Int} (h : Row w base E 1 (some ⟨G, 0, none⟩) n c (ints xs)) {k c' : Nat} (hk : k ≤ n) (hkc : k ≤ c') (hc : c' ≤ c) : Row w base E 1 (some ⟨G, 0, none⟩) k c' (ints (xs.take k)) := by
  rcases h.cut hk hkc hc with h | ⟨h, _⟩
  · rw [Nat.mul_one, ints_take] at h; exact h
  · cases h

set_option maxHeartbeats 1000000 in
theorem cut_no (base K : Nat) (A : Option Addr) (o g : Int) (xs : List Int) (W : World) (hS : Sem W base K A o xs) (hg : g ∉ xs) :
    Calls Try.prog 21 #[.pointer (some ⟨K, 0, none⟩), .int .i64 g] W fun e W' => e = .returned (.bool false) ∧ Chg (fun _ => False) W W' := by
  go_enter Try.func21, Try.ntmps21
  go_wp2_with (go_at_call 17; refine (ahead_is base K A o g (-1) xs _ hS ?_).mono ?_; (simp [aheadOf, hg]); rintro e w1 ⟨rfl, hc1⟩)
  go_ret
  exact ⟨rfl, hc1⟩

/-- Behind the append: the field takes the new row. -/
theorem Aft.row {W V w2 : World} {base K n c2 : Nat} {A A2 : Option Addr} {o : Int} {xs ys : List Int} (hS : Sem W base K A o xs) (hc1 : Chg (fun _ => False) W V) (hr2 : Row w2 base 3 1 A2 n c2 (ints ys)) (hn : ys.length = n) (hl : n ≤ 10000)
    (hg : V.grownBy w2 (blk A)) (h3 : blk A2 = blk A ∨ blk A2 = some V.heap.size) : Aft W (w2.setCell ⟨K, 1, none⟩ (.slice A2 n c2)) base K A o ys := by
  obtain ⟨hb, c0, hB, hR, hl0⟩ := hS
  have hneA : blk A ≠ some K := hR.blk_ne hB (by decide)
  have hB1 := hB.kept hc1 (fun h => h)
  have hB2 := hB1.grown hg (fun e => hneA e.symm)
  have hne2 : blk A2 ≠ some K := hr2.blk_ne hB2 (by decide)
  subst hn
  refine ⟨A2, ⟨hb, c2, ?_, hr2.setCell hne2 _, hl⟩, ?_, ?_⟩
  · have := hB2.set_ 1 (.slice A2 ys.length c2)
    simpa using this
  · refine Chg.setCell ?_ (Or.inl (Or.inl rfl)) _
    exact Chg.grown (w1 := V) (hc1.mono (fun _ _ h => h.elim)) hg (fun k hk => Or.inl (Or.inr hk))
  · intro g hg'
    rcases h3 with h3 | h3
    · exact .inl (h3 ▸ hg')
    · right
      rw [h3] at hg'
      have := hc1.size
      simp at hg'
      omega

set_option maxHeartbeats 2000000 in
theorem cut_yes (base K : Nat) (A : Option Addr) (o g : Int) (xs : List Int) (W : World) (hS : Sem W base K A o xs) (hg : g ∈ xs) :
    Calls Try.prog 21 #[.pointer (some ⟨K, 0, none⟩), .int .i64 g] W fun e W' => e = .returned (.bool true) ∧ Aft W W' base K A o (xs.erase g) := by
  have hk : xs.idxOf g < xs.length := List.idxOf_lt_length_iff.2 hg
  have hv : aheadOf g xs = (xs.idxOf g : Int) := by rw [aheadOf, if_pos hg]
  have her : xs.take (xs.idxOf g) ++ xs.drop (xs.idxOf g + 1) = xs.erase g := by
    rw [List.erase_eq_eraseIdx_of_idxOf rfl, List.eraseIdx_eq_take_drop_succ]
  have hlen : (xs.take (xs.idxOf g) ++ xs.drop (xs.idxOf g + 1)).length = xs.idxOf g + (xs.length - (xs.idxOf g + 1)) := by simp; omega
  generalize xs.idxOf g = k at hk hv her hlen
  rw [← her]
  have Hv := Lib.hid hv
  have Hlen := Lib.hid hlen
  clear hv her hg hlen
  have hS0 := hS
  obtain ⟨hb, c, hB, hR, hl⟩ := hS
  obtain ⟨n, hn⟩ : ∃ n, n = xs.length := ⟨_, rfl⟩
  rw [← hn] at hB hR hl hk Hlen
  obtain ⟨G, rfl, hbG, hGlt⟩ := hR.form (by omega)
  have hnc := hR.2.1
  have Hn := Lib.hid hn
  clear hn
  have hi0 : (0 : Int) ≤ (k : Int) := by omega
  have hi1 : (k : Int) < (n : Int) := by omega
  have hi2 : (0 : Int) ≤ (k : Int) + 1 := by omega
  have hi3 : (k : Int) + 1 ≤ (n : Int) := by omega
  have hi4 : (k : Int) + 1 ≤ (c : Int) := by omega
  have hi5 : (k : Int) ≤ (c : Int) := by omega
  have hi6 : (k : Int) ≤ (k : Int) + 1 := by omega
  have hi7 : ((k : Int) + 1).toNat = k + 1 := by omega
  have hi8 : IntKind.i64.wrap ((k : Int) + 1) = (k : Int) + 1 := IntWalk.i64_in _ (by omega)
  have hmn : k + (n - (k + 1)) ≤ 1048576 := by omega
  have hm2 : k + (n - (k + 1)) ≤ 10000 := by omega
  go_enter Try.func21, Try.ntmps21
  go_wp2_with (go_at_call 17; refine (ahead_is base K _ o g (k : Int) xs _ hS0 Hv.out).mono ?_; rintro e w1 ⟨rfl, hc1⟩)
  have hB1 := hB.kept hc1 (fun h => h)
  have hR1 := hR.kept hc1 (fun _ _ h => h)
  have hK := hB1.lt
  have hbs : base ≤ w1.drew.heap.size := by
    show base ≤ w1.heap.size
    omega
  have hne : some K ≠ blk (some ⟨G, 0, none⟩) := fun e => hR1.blk_ne hB1 (by decide) e.symm
  have hcut := (hR1.cut_ (k := k) (c' := k) (by omega) (Nat.le_refl _) (by omega)).drew
  have e1 := hB1.cell 1
  have f1 := hB1.frozen 1
  simp at e1
  by_cases hck : c = k + 1
  · have hr : Rd w1.drew 1 (some ⟨G, 0, none⟩) (n - (k + 1)) (ints (xs.drop (k + 1))) := by
      have : n - (k + 1) = 0 := by omega
      have := Hn.out
      rw [‹n - (k + 1) = 0›, List.drop_of_length_le (by omega)]
      exact Rd.nil _ _ _
    go_region_law (refine step_app rfl (.tmp 18) (.tmp 25) rfl base _ _ _ (xs.take k) rfl hcut _ _ _ (xs.drop (k + 1)) rfl hr hmn hbs ?_; intro A2 c2 w2 h1 h2 h3; have hB2 := hB1.drew.grown h2 hne; have e2 := hB2.cell 1; have f2 := hB2.frozen 1; simp at e2)
    all_goals
      go_simp
      go_wp2
      go_ret
      exact ⟨rfl, Aft.row hS0 hc1.drew h1 Hlen.out hm2 h2 h3⟩
  · have hr : Rd w1.drew 1 (some ⟨G, k + 1, none⟩) (n - (k + 1)) (ints (xs.drop (k + 1))) := by
      have := hR1.rd.drop_ (k := k + 1) (by omega)
      rw [Nat.zero_add] at this
      exact this
    go_region_law (refine step_app rfl (.tmp 18) (.tmp 25) rfl base _ _ _ (xs.take k) rfl hcut _ _ _ (xs.drop (k + 1)) rfl hr hmn hbs ?_; intro A2 c2 w2 h1 h2 h3; have hB2 := hB1.drew.grown h2 hne; have e2 := hB2.cell 1; have f2 := hB2.frozen 1; simp at e2)
    all_goals
      go_simp
      go_wp2
      go_ret
      exact ⟨rfl, Aft.row hS0 hc1.drew h1 Hlen.out hm2 h2 h3⟩
end Go.Proofs.Ytealbmadodommaa
