/- The plan of any world has each processor once: plain facts; contracts of Check. -/
import Derived.Test.YtanljdhliaeljaaWorld
import Derived.Test.YtanljdhliaeljaaMset
import Derived.WalkMore
namespace Go.Proofs.Ytanljdhliaeljaa
open Go.ChangeShapes Go.WideShapes Go.ChangeAt Go.RowKit Go.Deep Go.Maps
set_option linter.unusedVariables false

def Up (xs : List Int) : Prop := ∀ k (h : k < xs.length), 0 < k → xs[k - 1]'(by omega) < xs[k]
theorem Up.snoc {xs : List Int} {v : Int} (h : Up xs) (hv : ∀ x ∈ xs, x < v) : Up (xs ++ [v]) := by
  intro k hk h0
  by_cases hlt : k < xs.length
  · rw [List.getElem_append_left hlt, List.getElem_append_left (by omega)]
    exact h k hlt h0
  · have hk2 : k = xs.length := by simp at hk; omega
    subst hk2
    rw [List.getElem_append_right (Nat.le_refl _), List.getElem_append_left (by omega)]
    simp only [Nat.sub_self, List.getElem_cons_zero]
    exact hv _ (List.getElem_mem _)
theorem Up.nodup {xs : List Int} (h : Up xs) : ∀ i j (hi : i < xs.length) (hj : j < xs.length), i < j → xs[i] < xs[j] := by
  intro i j hi hj hij
  induction j with
  | zero => omega
  | succ j ih =>
    have h1 := h (j + 1) hj (by omega)
    simp only [Nat.add_sub_cancel] at h1
    by_cases e : i = j
    · subst e; exact h1
    · have := ih (by omega) (by omega); omega
/-- What holds of the first k places, parted. -/
structure Parted (z : Nat → Int) (self machines : Int) (k : Nat) : Prop where
  go_in : ∀ x ∈ (spr z self machines k).1, 0 ≤ x ∧ x < k ∧ x ≠ self ∧ 0 < z x.toNat
  idle_in : ∀ x ∈ (spr z self machines k).2, 0 ≤ x ∧ x < k ∧ x ≠ self ∧ (z x.toNat ≤ 0 ∨ machines ≤ (spr z self machines k).1.length)
  go_up : Up (spr z self machines k).1
  idle_up : Up (spr z self machines k).2
  apart : ∀ x ∈ (spr z self machines k).1, x ∉ (spr z self machines k).2
  many : ((spr z self machines k).1.length : Int) + (spr z self machines k).2.length = if 0 ≤ self ∧ self < k then (k : Int) - 1 else k
theorem parted (z : Nat → Int) (self machines : Int) : ∀ k, Parted z self machines k
  | 0 => ⟨by simp [spr], by simp [spr], fun k hk => by simp [spr] at hk, fun k hk => by simp [spr] at hk, by simp [spr], by simp [spr]⟩
  | k + 1 => by
    have ih := parted z self machines k
    obtain ⟨a, b, c, d, e, f⟩ := ih
    by_cases hs : (k : Int) = self
    · rw [show Parted z self machines (k + 1) = _ from rfl]
      have hsp := spr_self (z := z) (machines := machines) hs
      refine ⟨?_, ?_, ?_, ?_, ?_, ?_⟩
      · rw [hsp]; intro x hx; have := a x hx; exact ⟨this.1, by omega, this.2.2⟩
      · rw [hsp]; intro x hx; have := b x hx; exact ⟨this.1, by omega, this.2.2⟩
      · rw [hsp]; exact c
      · rw [hsp]; exact d
      · rw [hsp]; exact e
      · rw [hsp, f]; rw [if_neg (by omega), if_pos (by omega)]; try omega
    · by_cases hg : 0 < z k ∧ ((spr z self machines k).1.length : Int) < machines
      · have hsp := spr_go hs hg.1 hg.2
        refine ⟨?_, ?_, ?_, ?_, ?_, ?_⟩
        · rw [hsp]; intro x hx
          rcases List.mem_append.1 hx with hx | hx
          · have := a x hx; exact ⟨this.1, by omega, this.2.2⟩
          · have : x = k := by simpa using hx
            subst this
            exact ⟨by omega, by omega, hs, by simpa using hg.1⟩
        · rw [hsp]; intro x hx; have := b x hx; exact ⟨this.1, by omega, this.2.2.1, by rcases this.2.2.2 with h | h; exact .inl h; exact .inr (by simp; omega)⟩
        · rw [hsp]; exact c.snoc (fun x hx => (a x hx).2.1)
        · rw [hsp]; exact d
        · rw [hsp]; intro x hx hx2
          rcases List.mem_append.1 hx with hx | hx
          · exact e x hx hx2
          · have : x = k := by simpa using hx
            have := (b x hx2).2.1; omega
        · rw [hsp]; simp only [List.length_append, List.length_singleton]
          by_cases h : 0 ≤ self ∧ self < k
          · rw [if_pos h] at f; rw [if_pos (by omega)]; omega
          · rw [if_neg h] at f; rw [if_neg (by omega)]; omega
      · have hsp := spr_idle hs hg
        refine ⟨?_, ?_, ?_, ?_, ?_, ?_⟩
        · rw [hsp]; intro x hx; have := a x hx; exact ⟨this.1, by omega, this.2.2⟩
        · rw [hsp]; intro x hx
          rcases List.mem_append.1 hx with hx | hx
          · have := b x hx; exact ⟨this.1, by omega, this.2.2⟩
          · have : x = k := by simpa using hx
            subst this
            exact ⟨by omega, by omega, hs, by simp only [Int.toNat_natCast]; omega⟩
        · rw [hsp]; exact c
        · rw [hsp]; exact d.snoc (fun x hx => (b x hx).2.1)
        · rw [hsp]; intro x hx hx2
          rcases List.mem_append.1 hx2 with hx2 | hx2
          · exact e x hx hx2
          · have : x = k := by simpa using hx2
            have := (a x hx).2.1; omega
        · rw [hsp]; simp only [List.length_append, List.length_singleton]
          by_cases h : 0 ≤ self ∧ self < k
          · rw [if_pos h] at f; rw [if_pos (by omega)]; omega
          · rw [if_neg h] at f; rw [if_neg (by omega)]; omega

def RoundC (W : World) (b n : Nat) (S : Int → Prop) (xs : List Int) (i : Value) (wr : World) : Prop := ∃ k : Nat, k ≤ xs.length ∧ i = .int .i64 k ∧ Mset wr b n (fun y => y ∉ xs.take k ∧ S y) ∧ Chg (fun g => g = b) W wr
set_option maxHeartbeats 2000000 in
theorem rising_yes (A : Option Addr) (n c C b m : Nat) (xs : List Int) (S : Int → Prop) (W : World) (hA : Rd W 1 A n (ints xs)) (hn : n ≤ 100000) (hup : Up xs) (hS : ∀ x ∈ xs, S x ∧ (Lit.int .i64 x).wf = true) (hC : Blk W C 33 #[.map (some b)]) (hM : Mset W b m S) (hCb : C ≠ b) (hAb : ∀ g, blk A = some g → g ≠ b) :
    Calls Try.prog 11 #[.slice A n c, .pointer (some ⟨C, 0, none⟩)] W fun e W' => e = .returned (.bool true) ∧ Mset W' b m (fun y => y ∉ xs ∧ S y) ∧ Chg (fun g => g = b) W W' := by
  have hl := hA.len
  subst hl
  go_enter Try.func11, Try.ntmps11
  go_wp2
  go_loopw [10] (fun i wr => RoundC W b m S xs i wr) (fun i _ => xs.length - (intOf i).toNat)
  case atStart => exact ⟨0, Nat.zero_le _, rfl, hM.iff (by simp), Chg.refl _ _⟩
  case round =>
    clear hM
    obtain ⟨k, hk, rfl, hM, hc⟩ := hrel
    by_cases hlt : k < xs.length
    · obtain ⟨bl, o, rfl, hbl, hcc⟩ := (hA.kept hc (fun g hg h => hAb g hg h)).at_ (by omega)
      have e0 := hcc k hlt
      have hmem := hS _ (List.getElem_mem hlt)
      have hx1 : (xs[k] ∉ xs.take k) := by
        intro hx
        obtain ⟨j, hj, hjk⟩ := List.getElem_of_mem hx
        simp only [List.getElem_take] at hjk
        have hjl : j < k := by have := hj; rw [List.length_take] at this; omega
        have := hup.nodup j k (by omega) hlt hjl
        omega
      have hin : xs[k] ∉ xs.take k ∧ S xs[k] := ⟨hx1, hmem.1⟩
      have hwf := hmem.2
      have hsucc : ∀ y, (y ≠ xs[k] ∧ y ∉ xs.take k ∧ S y) ↔ (y ∉ xs.take (k + 1) ∧ S y) := by
        intro y
        rw [List.take_succ_eq_append_getElem hlt]
        simp only [List.mem_append, List.mem_singleton, not_or]
        exact ⟨fun h => ⟨⟨h.2.1, h.1⟩, h.2.2⟩, fun h => ⟨h.1.2, h.1.1, h.2⟩⟩
      have c0 := (hC.kept hc (by exact hCb)).cell 0
      simp at c0
      have hCl := (hC.kept hc (by exact hCb)).lt
      have hCn : C ≠ wr.heap.size := by omega
      have HM := Lib.hid hM
      have HC := Lib.hid hc
      have HS := Lib.hid hsucc
      have HI := Lib.hid hin
      have HW := Lib.hid hwf
      have hMl := hM.lt
      have k0 : (0 : Int) ≤ (k : Int) := by omega
      have k1 : (k : Int) < (xs.length : Int) := by omega
      by_cases hk0 : k = 0
      · subst hk0
        clear hM hc hsucc hin hwf hmem hcc hx1 hS hup
        generalize xs[0] = x at *
        simp only [Nat.add_zero] at e0
        go_wp2_with (first
          | (at_lookup; refine wpList_set_has rfl (.tmp 16) (.tmp 17) rfl rfl HM.out x rfl HW.out true (by simpa using HI.out) ?_)
          | (at_delete; refine wpList_set_del rfl (.tmp 36) (.tmp 37) rfl rfl (HM.out.kept (T := fun _ => False) ((Chg.refl _ _).alloc _) (fun h => h)) x rfl HW.out ?_; intro w3 r1 r2))
        go_roundw
        case measure => simp [intOf]; omega
        case rel => exact ⟨1, by omega, by go_num, r1.iff HS.out, (HC.out.alloc _).grown r2 (fun k hk => by cases hk; exact .inl rfl)⟩
      · have e1 := hcc (k - 1) (by omega)
        have hlt2 := hup k hlt (by omega)
        clear hM hc hsucc hin hwf hmem hcc hx1 hS hup
        generalize xs[k] = x at *
        generalize xs[k - 1]'(by omega) = y at *
        have hd : decide (x ≤ y) = false := by simp; omega
        have k2 : (0 : Int) < (k : Int) := by omega
        have k3 : (0 : Int) ≤ (k : Int) - 1 := by omega
        have k4 : ((k : Int) - 1).toNat = k - 1 := by omega
        go_wp2_with (first
          | (at_lookup; refine wpList_set_has rfl (.tmp 16) (.tmp 17) rfl rfl HM.out x rfl HW.out true (by simpa using HI.out) ?_)
          | (at_delete; refine wpList_set_del rfl (.tmp 36) (.tmp 37) rfl rfl (HM.out.kept (T := fun _ => False) ((Chg.refl _ _).alloc _) (fun h => h)) x rfl HW.out ?_; intro w3 r1 r2))
        go_roundw
        case measure => simp [intOf]; omega
        case rel => exact ⟨k + 1, by omega, by go_num, r1.iff HS.out, (HC.out.alloc _).grown r2 (fun k hk => by cases hk; exact .inl rfl)⟩
    · obtain rfl : k = xs.length := by omega
      rw [List.take_length] at hM
      have HM := Lib.hid hM
      have HC := Lib.hid hc
      clear hM hc
      go_wp2
      go_ret
      exact ⟨rfl, HM.out, HC.out⟩
end Go.Proofs.Ytanljdhliaeljaa
