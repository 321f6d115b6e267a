/- Contracts: Remove. -/
import Derived.Test.YtifflhombjljbaaRjoin
import Derived.Deep.RegionWith
namespace Go.Proofs.Ytifflhombjljbaa
open Go.ChangeShapes Go.WideShapes Go.ChangeAt Go.RowKit Go.Deep
set_option linter.unusedVariables false

theorem erase_at {g : Int} : ∀ {xs : List Int} {k : Nat} (hk : k < xs.length), xs[k] = g → (∀ j (h : j < xs.length), j < k → xs[j] ≠ g) → xs.take k ++ xs.drop (k + 1) = xs.erase g
  | [], k, hk, _, _ => absurd hk (by simp)
  | x :: xs, 0, hk, he, _ => by simp at he; subst he; simp
  | x :: xs, k + 1, hk, he, hno => by
    have h0 : x ≠ g := hno 0 (by simp) (by omega)
    have := erase_at (g := g) (xs := xs) (k := k) (by simpa using hk) (by simpa using he) (fun j h hj => hno (j + 1) (by simpa using h) (by omega))
    simp [h0, this]
theorem Rd.take_ {w : World} {A : Option Addr} {n k : Nat} {xs : List Int} (h : Rd w 1 A n (ints xs)) (hk : k ≤ n) : Rd w 1 A k (ints (xs.take k)) := by
  have hn := h.len
  refine ⟨by simp; omega, fun h0 => ?_⟩
  obtain ⟨b, o, e, hb, hc⟩ := h.2 (by omega)
  refine ⟨b, o, e, hb, fun j u hu => hc j u ?_⟩
  rw [← ints_take, List.getElem?_take] at hu
  split at hu
  · exact hu
  · cases hu
theorem Rd.drop_ {w : World} {b o n k : Nat} {xs : List Int} (h : Rd w 1 (some ⟨b, o, none⟩) n (ints xs)) (hk : k ≤ n) : Rd w 1 (some ⟨b, o + k, none⟩) (n - k) (ints (xs.drop k)) := by
  have hn := h.len
  refine ⟨by simp; omega, fun h0 => ?_⟩
  obtain ⟨b', o', e, hb, hc⟩ := h.2 (by omega)
  cases e
  refine ⟨b, o + k, rfl, hb, fun j u hu => ?_⟩
  rw [Nat.add_assoc]
  refine hc (k + j) u ?_
  rw [← ints_drop, List.getElem?_drop] at hu
  exact hu
/-- The tail behind number k, as the model spells its address. -/
theorem Rd.tail_ {w : World} {b o n c k : Nat} {xs : List Int} (h : Rd w 1 (some ⟨b, o, none⟩) n (ints xs)) (hk : k ≤ n) (hc : n ≤ c) : Rd w 1 (if c = k then some ⟨b, o, none⟩ else some ⟨b, o + k, none⟩) (n - k) (ints (xs.drop k)) := by
  split
  · have hn := h.len
    have : n - k = 0 := by omega
    rw [this, List.drop_of_length_le (by omega)]
    exact Rd.nil _ _ _
  · exact h.drop_ hk

set_option maxHeartbeats 1000000 in
theorem remove_no (A : Option Addr) (n c : Nat) (g : Int) (xs : List Int) (W : World) (hA : Rd W 1 A n (ints xs)) (hm : n ≤ 100000) (hg : g ∉ xs) :
    Calls Try.prog 23 #[.slice A n c, .int .i64 g] W fun e W' => e = .returned (.tuple #[.slice A n c, .bool false]) ∧ W = W' := by
  have hn1 := hA.len
  go_enter Try.func23, Try.ntmps23
  go_wp2
  go_loop [6] (fun i => ∃ k : Nat, k ≤ n ∧ i = .int .i64 k) (fun i => n - (intOf i).toNat)
  case atStart => exact ⟨0, Nat.zero_le _, rfl⟩
  case round =>
    obtain ⟨k, hk, rfl⟩ := hrel
    by_cases hlt : k < n
    · obtain ⟨b, o, rfl, hb, hc⟩ := hA.at_ (by omega)
      have e0 := hc k (by omega)
      have hne : ¬ xs[k]'(by omega) = g := by intro h; exact hg (h ▸ List.getElem_mem _)
      generalize xs[k]'(by omega) = z at e0 hne
      have hd : decide (z = g) = false := by simpa using hne
      clear hA hc
      go_wp2
      go_round
      case rel => exact ⟨k + 1, by omega, by go_num⟩
      case measure => simp [intOf]; omega
    · go_wp2
      go_ret2
      exact ⟨rfl, rfl⟩

set_option maxHeartbeats 1000000 in
theorem remove_yes (A : Option Addr) (n c : Nat) (g : Int) (xs : List Int) (W : World) (hA : Rd W 1 A n (ints xs)) (hm : n ≤ 100000) (hnc : n ≤ c) (hg : g ∈ xs) :
    Calls Try.prog 23 #[.slice A n c, .int .i64 g] W fun e W' => ∃ A' c', e = .returned (.tuple #[.slice A' (n - 1) c', .bool true]) ∧ Row W' W.heap.size 3 1 A' (n - 1) c' (ints (xs.erase g)) ∧ Below W.heap.size W W' := by
  have hn1 := hA.len
  go_enter Try.func23, Try.ntmps23
  go_wp2
  go_loop [6] (fun i => ∃ k : Nat, k ≤ n ∧ i = .int .i64 k ∧ Hid (∀ j (h : j < xs.length), j < k → xs[j] ≠ g)) (fun i => n - (intOf i).toNat)
  case atStart => exact ⟨0, Nat.zero_le _, rfl, fun _ _ h => absurd h (by omega)⟩
  case round =>
    obtain ⟨k, hk, rfl, hno⟩ := hrel
    by_cases hlt : k < n
    · obtain ⟨b, o, rfl, hb, hc⟩ := hA.at_ (by omega)
      have e0 := hc k (by omega)
      obtain ⟨z, hz⟩ : ∃ z, z = xs[k]'(by omega) := ⟨_, rfl⟩
      rw [← hz] at e0
      have Hz := Lib.hid hz
      clear hz hc
      by_cases he : z = g
      · subst he
        have hl := hA.take_ (k := k) (by omega)
        have her := Lib.hid (erase_at (g := z) (by omega) Hz.out.symm hno.out)
        have hi0 : (0 : Int) ≤ (k : Int) := by omega
        have hi1 : (k : Int) < (n : Int) := by omega
        have hi2 : (0 : Int) ≤ (k : Int) + 1 := by omega
        have hi3 : (k : Int) + 1 ≤ (n : Int) := by omega
        have hi4 : (k : Int) + 1 ≤ (c : Int) := by omega
        have hi5 : (k : Int) ≤ (c : Int) := by omega
        have hi6 : (k : Int) ≤ (k : Int) + 1 := by omega
        have hi7 : ((k : Int) + 1).toNat = k + 1 := by omega
        have hi8 : IntKind.i64.wrap ((k : Int) + 1) = (k : Int) + 1 := IntWalk.i64_in _ (by omega)
        have Hnn := Lib.hid (show k + (n - (k + 1)) = n - 1 by omega)
        have hmn : k + (n - (k + 1)) ≤ 100000 := by omega
        by_cases hck : c = k + 1
        · have hr : Rd W 1 (some ⟨b, o, none⟩) (n - (k + 1)) (ints (xs.drop (k + 1))) := by
            have : n - (k + 1) = 0 := by omega
            rw [this, List.drop_of_length_le (by omega)]
            exact Rd.nil _ _ _
          clear hA
          go_wp2
          go_region_with (go_at_call 21; refine (join_any _ _ _ _ _ _ _ _ _ hl.drew hr.drew hmn).mono ?_; rintro e w1 ⟨A1, c1, rfl, hrow, hb1⟩)
          all_goals
            go_simp
            go_wp2
            go_ret2
            refine ⟨A1, c1, ?_, ?_, below_undrew hb1⟩
            · rw [Hnn.out]; rfl
            · rw [← her.out, ← Hnn.out]; exact hrow
        · have hr := hA.drop_ (k := k + 1) (by omega)
          clear hA
          go_wp2
          go_region_with (go_at_call 21; refine (join_any _ _ _ _ _ _ _ _ _ hl.drew hr.drew hmn).mono ?_; rintro e w1 ⟨A1, c1, rfl, hrow, hb1⟩)
          all_goals
            go_simp
            go_wp2
            go_ret2
            refine ⟨A1, c1, ?_, ?_, below_undrew hb1⟩
            · rw [Hnn.out]; rfl
            · rw [← her.out, ← Hnn.out]; exact hrow
      · have hd : decide (z = g) = false := by simpa using he
        go_wp2
        go_round
        case rel => exact ⟨k + 1, by omega, by go_num, fun j h hj => by
          rcases Nat.lt_or_ge j k with h1 | h1
          · exact hno.out j h h1
          · obtain rfl : j = k := by omega
            rw [← Hz.out]; exact he⟩
        case measure => simp [intOf]; omega
    · exfalso
      obtain ⟨j, hj, rfl⟩ := List.getElem_of_mem hg
      exact hno.out j hj (by omega) rfl
end Go.Proofs.Ytifflhombjljbaa
