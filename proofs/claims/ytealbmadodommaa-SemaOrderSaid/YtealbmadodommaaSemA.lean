/- Contracts of a turn's list: who waits ahead; the list's copy. -/
import Derived.Test.YtealbmadodommaaRclone
import Derived.Test.YtealbmadodommaaRrem
import Derived.Test.YtealbmadodommaaRsame
namespace Go.Proofs.Ytealbmadodommaa
open Go.ChangeShapes Go.WideShapes Go.ChangeAt Go.RowKit Go.Deep
set_option linter.unusedVariables false

/-- How many are ahead of g; -1: it is not there. -/
def aheadOf (g : Int) (xs : List Int) : Int := if g ∈ xs then (xs.idxOf g : Int) else -1
theorem idx_at {g : Int} : ∀ {xs : List Int} {k : Nat} (hk : k < xs.length), xs[k] = g → (∀ j (h : j < xs.length), j < k → xs[j] ≠ g) → xs.idxOf g = k
  | [], k, hk, _, _ => absurd hk (by simp)
  | x :: xs, 0, hk, he, _ => by simp at he; subst he; simp
  | x :: xs, k + 1, hk, he, hno => by
    have h0 : x ≠ g := hno 0 (by simp) (by omega)
    have := idx_at (g := g) (xs := xs) (k := k) (by simpa using hk) (by simpa using he) (fun j h hj => hno (j + 1) (by simpa using h) (by omega))
    have hb : (x == g) = false := by simpa using h0
    simp [List.idxOf_cons, hb, this]
theorem ahead_at {g : Int} {xs : List Int} {k : Nat} (hk : k < xs.length) (he : xs[k] = g) (hno : ∀ j (h : j < xs.length), j < k → xs[j] ≠ g) : aheadOf g xs = k := by
  have : g ∈ xs := he ▸ List.getElem_mem hk
  rw [aheadOf, if_pos this, idx_at hk he hno]
theorem ahead_no {g : Int} {xs : List Int} (hno : ∀ j (h : j < xs.length), xs[j] ≠ g) : aheadOf g xs = -1 := by
  rw [aheadOf, if_neg]
  intro h
  obtain ⟨j, hj, e⟩ := List.getElem_of_mem h
  exact hno j hj e

set_option maxHeartbeats 1000000 in
theorem index_any (A : Option Addr) (n c G : Nat) (g : Int) (xs : List Int) (W : World) (hA : Rd W 1 A n (ints xs)) (hG : W.cell? ⟨G, 0, none⟩ = some (.int .i64 g)) (hm : n ≤ 1048576) :
    Calls Try.prog 24 #[.slice A n c, .func (.func 25) #[] #[.pointer (some ⟨G, 0, none⟩)]] W fun e W' => e = .returned (.int .i64 (aheadOf g xs)) ∧ W = W' := by
  have hn1 := hA.len
  go_enter Try.func24, Try.ntmps24
  go_wp2
  go_loop [8] (fun i => ∃ k : Nat, k ≤ n ∧ i = .int .i64 k ∧ Hid (∀ j (h : j < xs.length), j < k → xs[j] ≠ g)) (fun i => n - (intOf i).toNat)
  case atStart => exact ⟨0, Nat.zero_le _, rfl, fun _ _ h => absurd h (by omega)⟩
  case round =>
    obtain ⟨k, hk, rfl, hno⟩ := hrel
    by_cases hlt : k < n
    · obtain ⟨b, o, rfl, hb, hc⟩ := hA.at_ (by omega)
      have e0 := hc k (by omega)
      obtain ⟨z, hz⟩ : ∃ z, z = xs[k]'(by omega) := ⟨_, rfl⟩
      rw [← hz] at e0
      have Hz := Lib.hid hz
      clear hz hA hc
      by_cases he : z = g
      · subst he
        go_wp2_with (go_at_call 25; go_in)
        go_ret
        exact ⟨ret_int (ahead_at (by omega) Hz.out.symm hno.out).symm, rfl⟩
      · have hd : decide (z = g) = false := by simpa using he
        go_wp2_with (go_at_call 25; go_in)
        go_round
        case rel => exact ⟨k + 1, by omega, by go_num, fun j h hj => by
          rcases Nat.lt_or_ge j k with h1 | h1
          · exact hno.out j h h1
          · obtain rfl : j = k := by omega
            rw [← Hz.out]; exact he⟩
        case measure => simp [intOf]; omega
    · go_wp2
      go_ret
      exact ⟨ret_int (ahead_no fun j h => hno.out j h (by omega)).symm, rfl⟩

/-- The turn's block K: the owner o, who waits xs. -/
def Sem (w : World) (base K : Nat) (A : Option Addr) (o : Int) (xs : List Int) : Prop :=
  base ≤ K ∧ ∃ c, Blk w K 46 #[.int .i64 o, .slice A xs.length c] ∧ Row w base 3 1 A xs.length c (ints xs) ∧ xs.length ≤ 10000
theorem Sem.kept {S : Nat → Prop} {w w' : World} {base K : Nat} {A : Option Addr} {o : Int} {xs : List Int} (h : Sem w base K A o xs) (hc : Chg S w w') (h1 : ¬ S K) (h2 : ∀ g, blk A = some g → ¬ S g) : Sem w' base K A o xs := by
  obtain ⟨hb, c, hB, hR, hl⟩ := h
  exact ⟨hb, c, hB.kept hc h1, hR.kept hc h2, hl⟩
theorem Row.nilc {w : World} {base size n c : Nat} {E : TypeId} {xs : List Value} (h : Row w base E size none n c xs) : n = 0 ∧ c = 0 := by
  rcases h.2.2.2 with ⟨_, h1, h2⟩ | ⟨g, cur, h, _⟩
  · exact ⟨h1, h2⟩
  · cases h

set_option maxHeartbeats 1000000 in
theorem ahead_any (base K : Nat) (A : Option Addr) (o g : Int) (xs : List Int) (W : World) (hS : Sem W base K A o xs) :
    Calls Try.prog 17 #[.pointer (some ⟨K, 0, none⟩), .int .i64 g] W fun e W' => e = .returned (.int .i64 (aheadOf g xs)) ∧ Chg (fun _ => False) W W' := by
  have hmf : ∀ (fn : Fn) (first cap : Array Value) (W : World), (Instr.makeFunc fn first cap).run Try.prog W = .ok (.func fn first cap) W := fun _ _ _ _ => rfl
  obtain ⟨hb, c, hB, hR, hl⟩ := hS
  have hlt := hB.lt
  have e0 := hB.cell 0
  have e1 := hB.cell 1
  simp at e0 e1
  go_enter Try.func17, Try.ntmps17
  go_wp2_with (go_at_call 24; refine (index_any _ _ _ W.heap.size g _ _ (hR.rd.alloc _) ?_ ?_).mono ?_; (simp [go_sem]); omega; rintro e w1 ⟨rfl, rfl⟩)
  go_ret
  exact ⟨rfl, (Chg.refl _ _).alloc _⟩

set_option maxHeartbeats 1000000 in
theorem waits_any (base K : Nat) (A : Option Addr) (o : Int) (xs : List Int) (W : World) (hS : Sem W base K A o xs) :
    Calls Try.prog 16 #[.pointer (some ⟨K, 0, none⟩)] W fun e W' => ∃ A' c', e = .returned (.slice A' xs.length c') ∧ Rd W' 1 A' xs.length (ints xs) ∧ Chg (fun _ => False) W W' := by
  obtain ⟨hb, c, hB, hR, hl⟩ := hS
  have hlt := hB.lt
  have e0 := hB.cell 0
  have e1 := hB.cell 1
  simp at e0 e1
  go_enter Try.func16, Try.ntmps16
  go_wp2_with (go_at_call 23; refine (clone_any _ _ _ _ _ hR.rd (by omega) (fun h => by subst h; exact hR.nilc)).mono ?_; rintro e w1 ⟨A1, c1, rfl, hrow, hb1⟩)
  go_ret
  exact ⟨A1, c1, rfl, hrow.rd, (Chg.refl _ _).addBelow hb1 (Nat.le_refl _)⟩
end Go.Proofs.Ytealbmadodommaa
