/- Rows of truths that are the same; programs that are the same; at which places a thread may be stopped. -/
import Derived.Test.YtkpipoicobmjkaaDoorVaP
import Derived.BigRegion
namespace Go.Proofs.YtkpipoicobmjkaaDoor
open Go.ChangeShapes Go.WideShapes Go.ChangeAt Go.RowKit Go.Deep
set_option linter.unusedVariables false
set_option linter.unusedSimpArgs false

set_option maxHeartbeats 1000000 in
theorem truths_yes (A D : Option Addr) (n m c d : Nat) (bs : List Bool) (W : World) (hA : Rd W 1 A n (bls bs)) (hD : Rd W 1 D m (bls bs)) (hm : n ≤ 1048576) :
    Calls Tryd.prog 22 #[.slice A n c, .slice D m d] W fun e W' => e = .returned (.bool true) ∧ ∃ k, W' = W.drewN k := by
  have hn1 : bs.length = n := by have := hA.1; simpa using this
  have hn2 : bs.length = m := by have := hD.1; simpa using this
  obtain rfl : n = m := by omega
  go_enter Tryd.func22, Tryd.ntmps22
  go_wp2
  go_loopw [5] (fun i wr => (∃ k : Nat, k ≤ n ∧ i = .int .i64 k) ∧ ∃ q, wr = W.drewN q) (fun i _ => n - (intOf i).toNat)
  case atStart => exact ⟨⟨0, Nat.zero_le _, rfl⟩, 0, rfl⟩
  case round =>
    obtain ⟨⟨k, hk, rfl⟩, q, rfl⟩ := hrel
    by_cases hlt : k < n
    · obtain ⟨b, o, rfl, hb, hc⟩ := hA.2 (by omega)
      obtain ⟨b', o', rfl, hb', hc'⟩ := hD.2 (by omega)
      have e0 := hc k _ (bls_get bs k (by omega))
      have e1 := hc' k _ (bls_get bs k (by omega))
      generalize bs[k]'(by omega) = z at e0 e1
      have hi0 : (0 : Int) ≤ (k : Int) := by omega
      have hi1 : (k : Int) < (n : Int) := by omega
      clear hA hD hc hc'
      cases z
      all_goals
        go_wp2
        go_quiet (fail)
        go_wp2
        go_roundw
        case rel => exact ⟨⟨k + 1, by omega, by go_num⟩, _, rfl⟩
        case measure => simp [intOf]; omega
    · go_wp2
      go_ret
      exact ⟨rfl, q, rfl⟩
section
variable {Ac As : Option Addr} {nc cc ns cs : Nat} {code : List (List Int)} {safe : List Bool}
def stopsF (nc : Nat) (safe : List Bool) (pc : Int) : Bool := decide (0 ≤ pc ∧ pc < nc) && (decide (pc = 0) || safe.getD pc.toNat false)
theorem stops_no {nc : Nat} {safe : List Bool} {pc : Int} (h : pc < 0 ∨ (nc : Int) ≤ pc) : stopsF nc safe pc = false := by
  unfold stopsF; rw [decide_eq_false (by omega)]; rfl
theorem stops_0 {nc : Nat} {safe : List Bool} (h : 0 < nc) : stopsF nc safe 0 = true := by
  unfold stopsF; rw [decide_eq_true (by omega)]; rfl
theorem stops_k {nc : Nat} {safe : List Bool} {k : Nat} (h : k < nc) (h0 : 0 < k) : stopsF nc safe (k : Int) = safe.getD k false := by
  unfold stopsF; rw [decide_eq_true (by omega), decide_eq_false (by omega)]; simp
set_option maxHeartbeats 2000000 in
theorem stops_any {W : World} (hF : FM W Ac nc As ns code safe) (hm : nc ≤ 1000) (hm2 : ns ≤ 1000) (pc : Int) :
    Calls Tryd.prog 12 #[.agg #[.slice Ac nc cc, .slice As ns cs], .int .i64 pc] W fun e W' => e = .returned (.bool (stopsF nc safe pc)) ∧ Chg (fun _ => False) W W' := by
  have HB := Lib.hid (Blk.new W 33 #[.slice Ac nc cc, .slice As ns cs])
  rcases (show pc < 0 ∨ (nc : Int) ≤ pc ∧ 0 ≤ pc ∨ (pc = 0 ∧ 0 < nc) ∨ (0 < pc ∧ pc < nc) by omega) with h | ⟨h, h0⟩ | ⟨rfl, h⟩ | ⟨h, h2⟩
  · rw [stops_no (.inl h)]
    clear hF
    go_enter Tryd.func12, Tryd.ntmps12
    go_wp2
    go_ret
    exact ⟨rfl, (Chg.refl _ _).alloc _⟩
  · rw [stops_no (.inr h)]
    have x0 : ¬ pc < 0 := by omega
    have x1 : ¬ pc < (nc : Int) := by omega
    have x2 : decide ((nc : Int) ≤ pc) = true := decide_eq_true h
    have x3 : decide (pc < (nc : Int)) = false := decide_eq_false x1
    clear hF
    go_enter Tryd.func12, Tryd.ntmps12
    go_wp2
    go_ret
    exact ⟨rfl, (Chg.refl _ _).alloc _⟩
  · rw [stops_0 h]
    have x2 : ¬ nc = 0 := by omega
    have x3 : ¬ (nc : Int) ≤ 0 := by omega
    have x4 : decide ((nc : Int) ≤ 0) = false := decide_eq_false x3
    have x5 : (0 : Int) < nc := by omega
    clear hF
    go_enter Tryd.func12, Tryd.ntmps12
    go_wp2
    go_ret
    exact ⟨rfl, (Chg.refl _ _).alloc _⟩
  · obtain ⟨k, rfl⟩ : ∃ k : Nat, pc = k := ⟨pc.toNat, by omega⟩
    rw [stops_k (by omega) (by omega)]
    have x0 : ¬ (k : Int) < 0 := by omega
    have x1 : ¬ (nc : Int) ≤ (k : Int) := by omega
    have x2 : decide ((nc : Int) ≤ (k : Int)) = false := decide_eq_false x1
    have x6 : decide (nc ≤ k) = false := decide_eq_false (by omega)
    have x3 : ((k : Int) == 0) = false := beq_eq_false_iff_ne.2 (by omega)
    have x4 : decide ((k : Int) = 0) = false := decide_eq_false (by omega)
    have x5 : ¬ k = 0 := by omega
    have k0 : (0 : Int) ≤ k := by omega
    by_cases hlt : k < ns
    · obtain ⟨b, o, rfl, hb, hc⟩ := hF.safe_ (by omega)
      have e0 := hc k hlt
      have k1 : (k : Int) < ns := by omega
      have k2 : decide (k < ns) = true := decide_eq_true hlt
      generalize safe.getD k false = sk at *
      clear hc hF
      go_enter Tryd.func12, Tryd.ntmps12
      go_wp2
      go_ret
      exact ⟨ret_bool (by simp), (Chg.refl _ _).alloc _⟩
    · have hl := hF.lens
      have e : safe.getD k false = false := by rw [List.getD_eq_getElem?_getD, List.getElem?_eq_none (by omega)]; rfl
      rw [e]
      have k1 : ¬ (k : Int) < ns := by omega
      have k2 : decide (k < ns) = false := decide_eq_false hlt
      clear hF hl e
      go_enter Tryd.func12, Tryd.ntmps12
      go_wp2
      go_ret
      exact ⟨ret_bool (by simp), (Chg.refl _ _).alloc _⟩
set_option maxHeartbeats 2000000 in
theorem rstops_any {W : World} (hF : FM W Ac nc As ns code safe) (hm : nc ≤ 1000) (hm2 : ns ≤ 1000) (pc : Int) :
    Calls Tryd.prog 13 #[.agg #[.slice Ac nc cc, .slice As ns cs], .int .i64 pc] W fun e W' => e = .returned (.bool (stopsF nc safe pc)) ∧ Chg (fun _ => False) W W' := by
  have HB := Lib.hid (Blk.new W 33 #[.slice Ac nc cc, .slice As ns cs])
  have HF := Lib.hid (hF.chg ((Chg.refl (fun _ => False) W).alloc (.cells #[.slice Ac nc cc, .slice As ns cs] 33)))
  clear hF
  rcases (show pc < 0 ∨ (nc : Int) ≤ pc ∧ 0 ≤ pc ∨ (pc = 0 ∧ 0 < nc) ∨ (0 < pc ∧ pc < nc) by omega) with h | ⟨h, h0⟩ | ⟨rfl, h⟩ | ⟨h, h2⟩
  · rw [stops_no (.inl h)]
    have x0 : ¬ 0 ≤ pc := by omega
    have x1 : decide (0 ≤ pc) = false := decide_eq_false x0
    go_enter Tryd.func13, Tryd.ntmps13
    go_wp2
    go_ret
    exact ⟨rfl, (Chg.refl _ _).alloc _⟩
  · rw [stops_no (.inr h)]
    have x0 : decide (0 ≤ pc) = true := decide_eq_true h0
    have x1 : ¬ pc < (nc : Int) := by omega
    have x3 : decide (pc < (nc : Int)) = false := decide_eq_false x1
    go_enter Tryd.func13, Tryd.ntmps13
    go_wp2
    go_ret
    exact ⟨rfl, (Chg.refl _ _).alloc _⟩
  · rw [stops_0 h]
    have x5 : (0 : Int) < nc := by omega
    have x6 : decide ((0 : Int) < nc) = true := decide_eq_true x5
    have x7 : ¬ nc = 0 := by omega
    go_enter Tryd.func13, Tryd.ntmps13
    go_wp2
    go_ret
    exact ⟨rfl, (Chg.refl _ _).alloc _⟩
  · obtain ⟨k, rfl⟩ : ∃ k : Nat, pc = k := ⟨pc.toNat, by omega⟩
    rw [stops_k (by omega) (by omega)]
    have k0 : (0 : Int) ≤ k := by omega
    have k1 : (k : Int) < nc := by omega
    have k2 : decide (k < nc) = true := decide_eq_true (by omega)
    have x3 : ((k : Int) == 0) = false := beq_eq_false_iff_ne.2 (by omega)
    have x4 : decide ((k : Int) = 0) = false := decide_eq_false (by omega)
    have x5 : ¬ k = 0 := by omega
    have HS := Lib.hid (safe_any (cc := cc) (cs := cs) HF.out hm2 k (by omega))
    generalize safe.getD k false = sk at *
    go_enter Tryd.func13, Tryd.ntmps13
    go_wp2_with (go_at_call 21; refine HS.out.mono ?_; rintro e w1 ⟨rfl, hc1⟩; have HC1 := Lib.hid hc1; clear hc1)
    go_ret
    exact ⟨ret_bool (by simp), ((Chg.refl _ _).alloc _).trans HC1.out (fun _ _ h => h)⟩
set_option maxHeartbeats 1000000 in
theorem prologue_any (W : World) (hm : nc ≤ 9223372036854775807) (pc : Int) :
    Calls Tryd.prog 11 #[.agg #[.slice Ac nc cc, .slice As ns cs], .int .i64 pc] W fun e W' => e = .returned (.bool (decide (pc = 0 ∧ 0 < nc))) ∧ Chg (fun _ => False) W W' := by
  by_cases h : pc = 0
  · subst h
    have e : decide ((0 : Int) = 0 ∧ 0 < nc) = decide (0 < nc) := by simp
    rw [e]
    clear e
    go_enter Tryd.func11, Tryd.ntmps11
    go_wp2
    all_goals go_ret
    all_goals exact ⟨ret_bool (by first | (simp; done) | (simp; omega) | (simp [*]; done)), (Chg.refl _ _).alloc _⟩
  · have e : decide (pc = 0 ∧ 0 < nc) = false := decide_eq_false (fun h' => h h'.1)
    rw [e]
    have x0 : (pc == 0) = false := beq_eq_false_iff_ne.2 h
    have x1 : decide (pc = 0) = false := decide_eq_false h
    clear e
    go_enter Tryd.func11, Tryd.ntmps11
    go_wp2
    go_ret
    exact ⟨rfl, (Chg.refl _ _).alloc _⟩
end
end Go.Proofs.YtkpipoicobmjkaaDoor
