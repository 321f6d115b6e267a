/- Contracts of a turn: Acquire, Release, Drop, Owner. -/
import Derived.Test.YtealbmadodommaaSemB
namespace Go.Proofs.Ytealbmadodommaa
open Go.ChangeShapes Go.WideShapes Go.ChangeAt Go.RowKit Go.Deep
set_option linter.unusedVariables false

theorem Aft.same {W W' : World} {base K : Nat} {A : Option Addr} {o : Int} {xs : List Int} (hS : Sem W base K A o xs) (hc : Chg (fun _ => False) W W') : Aft W W' base K A o xs :=
  ⟨A, hS.kept hc (fun h => h) (fun _ _ h => h), hc.mono (fun _ _ h => h.elim), fun _ h => .inl h⟩
theorem Aft.owner {W W' : World} {base K : Nat} {A : Option Addr} {o o' : Int} {xs : List Int} (hS : Sem W base K A o xs) (hc : W' = W.setCell ⟨K, 0, none⟩ (.int .i64 o')) : Aft W W' base K A o' xs := by
  subst hc
  obtain ⟨hb, c, hB, hR, hl⟩ := hS
  refine ⟨A, ⟨hb, c, by simpa using hB.set_ 0 (.int .i64 o'), hR.setCell (hR.blk_ne hB (by decide)) _, hl⟩, (Chg.refl _ _).setCell (.inl (.inl rfl)) _, fun _ h => .inl h⟩
theorem Aft.trans {W W1 W' : World} {base K : Nat} {A : Option Addr} {o o' : Int} {xs ys : List Int} (h : Aft W W1 base K A o xs) (hlt : ∀ g, blk A = some g → g < W.heap.size) (k : ∀ A1, Sem W1 base K A1 o xs → Aft W1 W' base K A1 o' ys) : Aft W W' base K A o' ys := by
  obtain ⟨A1, hS1, hc1, hg1⟩ := h
  obtain ⟨A2, hS2, hc2, hg2⟩ := k A1 hS1
  refine ⟨A2, hS2, hc1.trans hc2 ?_, ?_⟩
  · rintro k hk (rfl | h)
    · exact .inl rfl
    · rcases hg1 k h with h | h
      · exact .inr h
      · omega
  · intro g hg
    rcases hg2 g hg with h | h
    · exact hg1 g h
    · right; have := hc1.size; omega

def acqB (o g : Int) : Bool := decide (1 ≤ g) && (decide (o = 0) || decide (o = g))
def acqF (g : Int) : Int := if g < 1 then 1 else 0
def acqO (o g : Int) : Int := if g < 1 then o else if o = 0 then g else o
theorem acqO_bad {o g : Int} (h : g < 1) : acqO o g = o := if_pos h
theorem acqO_free {g : Int} (h : ¬ g < 1) : acqO 0 g = g := by rw [acqO, if_neg h, if_pos rfl]
theorem acqO_held {o g : Int} (h2 : ¬ o = 0) : acqO o g = o := by unfold acqO; split <;> simp_all
def acqX (o g : Int) (xs : List Int) : List Int := if g < 1 ∨ o = 0 ∨ o = g ∨ g ∈ xs then xs else xs ++ [g]

set_option maxHeartbeats 2000000 in
theorem acquire_any (base K : Nat) (A : Option Addr) (o g : Int) (xs : List Int) (W : World) (hS : Sem W base K A o xs) (hl5 : xs.length ≤ 5000) :
    Calls Try.prog 8 #[.pointer (some ⟨K, 0, none⟩), .int .i64 g] W fun e W' => e = .returned (.tuple #[.bool (acqB o g), .int .i64 (acqF g)]) ∧ Aft W W' base K A (acqO o g) (acqX o g xs) := by
  have hS0 := hS
  obtain ⟨hb, c, hB, hR, hl⟩ := hS
  have hK := hB.lt
  have e0 := hB.cell 0
  have e1 := hB.cell 1
  have f0 := hB.frozen 0
  have f1 := hB.frozen 1
  simp at e0 e1
  by_cases h1 : g < 1
  · go_enter Try.func8, Try.ntmps8
    go_wp2
    go_ret2
    have : ¬ 1 ≤ g := by omega
    refine ⟨by simp [acqB, acqF, h1, this], ?_⟩
    rw [acqO_bad h1, acqX, if_pos (.inl h1)]
    exact Aft.same hS0 (Chg.refl _ _)
  · have h1' : 1 ≤ g := by omega
    by_cases h2 : o = 0
    · subst h2
      go_enter Try.func8, Try.ntmps8
      go_wp2
      go_ret2
      refine ⟨by simp [acqB, acqF, h1], ?_⟩
      rw [acqO_free (by omega), acqX, if_pos (.inr (.inl rfl))]
      exact Aft.owner (o' := g) hS0 rfl
    · have d2 : (o == 0) = false := by simpa using h2
      by_cases h3 : o = g
      · subst h3
        go_enter Try.func8, Try.ntmps8
        go_wp2
        go_ret2
        refine ⟨by simp [acqB, acqF, h1], ?_⟩
        rw [acqO_held h2, acqX, if_pos (.inr (.inr (.inl rfl)))]
        exact Aft.same hS0 (Chg.refl _ _)
      · have d3 : (o == g) = false := by simpa using h3
        by_cases h4 : g ∈ xs
        · have hv : ∃ v : Int, 0 ≤ v ∧ aheadOf g xs = v := ⟨_, by rw [aheadOf, if_pos h4]; omega, rfl⟩
          obtain ⟨v, hv0, hv⟩ := hv
          have Hv := Lib.hid hv
          clear hv
          go_enter Try.func8, Try.ntmps8
          go_wp2_with (go_at_call 17; refine (ahead_is base K _ o g v xs _ hS0 Hv.out).mono ?_; rintro e w1 ⟨rfl, hc1⟩)
          go_ret2
          refine ⟨by simp [acqB, acqF, h1, h2, h3], ?_⟩
          rw [acqO_held h2, acqX, if_pos (.inr (.inr (.inr h4)))]
          exact Aft.same hS0 hc1
        · have Hv := Lib.hid (show aheadOf g xs = -1 by rw [aheadOf, if_neg h4])
          have hneA : some K ≠ blk A := fun e => hR.blk_ne hB (by decide) e.symm
          go_enter Try.func8, Try.ntmps8
          go_wp2_with (first | (go_at_call 17; refine (ahead_is base K _ o g (-1) xs _ hS0 Hv.out).mono ?_; rintro e w1 ⟨rfl, hc1⟩; have hB1 := hB.kept hc1 (fun h => h); have hR1 := hR.kept hc1 (fun _ _ h => h); have k1 := hB1.lt; have hne : some K ≠ blk A := hneA; have c1 := hB1.cell 1; have f1 := hB1.frozen 1; simp at c1) | (at_builtin; refine wpList_app rfl (.tmp 33) (.tmp 35) rfl base _ _ _ xs rfl (hR1.alloc _) _ 1 1 [g] rfl (Rd.lit _ _ _) ?c1 ?c2 ?_; (case c1 => omega); (case c2 => simp; omega); intro A2 c2 w2 r1 r2 r3; have hB2 := (hB1.alloc (.cells #[.int .i64 g] 3)).grown r2 hne; have q2 := hB2.cell 1; have p2 := hB2.frozen 1; simp at q2))
          go_ret2
          refine ⟨by simp [acqB, acqF, h1', h2, h3], ?_⟩
          rw [acqO_held h2, acqX, if_neg (by rintro (h | h | h | h); omega; exact h2 h; exact h3 h; exact h4 h)]
          exact Aft.row hS0 (hc1.alloc _) r1 (by simp) (by omega) r2 r3

set_option maxHeartbeats 1000000 in
theorem owner_any (base K : Nat) (A : Option Addr) (o : Int) (xs : List Int) (W : World) (hS : Sem W base K A o xs) :
    Calls Try.prog 14 #[.pointer (some ⟨K, 0, none⟩)] W fun e W' => e = .returned (.int .i64 o) ∧ W = W' := by
  obtain ⟨hb, c, hB, hR, hl⟩ := hS
  have hK := hB.lt
  have e0 := hB.cell 0
  simp at e0
  go_enter Try.func14, Try.ntmps14
  go_wp2
  go_ret
  exact ⟨rfl, rfl⟩
set_option maxHeartbeats 1000000 in
theorem drop_any (base K : Nat) (A : Option Addr) (o g : Int) (xs : List Int) (W : World) (hS : Sem W base K A o xs) :
    Calls Try.prog 12 #[.pointer (some ⟨K, 0, none⟩), .int .i64 g] W fun e W' => e = .returned (.bool (decide (g ∈ xs))) ∧ Aft W W' base K A o (xs.erase g) := by
  have hnn : ∀ W, (binOp .neq 24 (.pointer (some ⟨K, 0, none⟩)) (.pointer none)).run Try.prog W = .ok (.bool true) W := fun _ => by kernel_rfl
  by_cases hg : g ∈ xs
  · go_enter Try.func12, Try.ntmps12
    go_wp2_with (go_at_call 21; refine (cut_yes base K A o g xs _ hS hg).mono ?_; rintro e w1 ⟨rfl, ha⟩)
    go_ret
    exact ⟨ret_bool (by simp [hg]), ha⟩
  · go_enter Try.func12, Try.ntmps12
    go_wp2_with (go_at_call 21; refine (cut_no base K A o g xs _ hS hg).mono ?_; rintro e w1 ⟨rfl, hc⟩)
    go_ret
    refine ⟨ret_bool (by simp [hg]), ?_⟩
    rw [List.erase_of_not_mem hg]
    exact Aft.same hS hc
end Go.Proofs.Ytealbmadodommaa
