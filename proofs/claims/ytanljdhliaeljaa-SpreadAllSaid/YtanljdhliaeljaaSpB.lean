/- Check of a plan that parts all processors. -/
import Derived.Test.YtanljdhliaeljaaSpA
namespace Go.Proofs.Ytanljdhliaeljaa
open Go.ChangeShapes Go.WideShapes Go.ChangeAt Go.RowKit Go.Deep Go.Maps
set_option linter.unusedVariables false

structure Held (W wr : World) (m : Nat) (S : Int → Prop) (P1 P2 : Value) : Prop where
  set : Mset wr (W.heap.size + 1) m S
  cell : Blk wr (W.heap.size + 2) 33 #[.map (some (W.heap.size + 1))]
  plan : Blk wr W.heap.size 25 #[P1, P2]
  below : Below W.heap.size W wr
theorem Held.put {W wr w' : World} {m m' : Nat} {S S' : Int → Prop} {P1 P2 : Value} (h : Held W wr m S P1 P2) (hs : Mset w' (W.heap.size + 1) m' S') (hg : wr.grownBy w' (some (W.heap.size + 1))) : Held W w' m' S' P1 P2 :=
  ⟨hs, h.cell.grown hg (by simp), h.plan.grown hg (by simp), h.below.grown hg h.below.size (fun g hg => by cases hg; omega)⟩
def RoundM (W : World) (n : Nat) (P1 P2 : Value) (i : Value) (wr : World) : Prop := ∃ k : Nat, k ≤ n ∧ i = .int .i64 k ∧ Held W wr k (fun y => 0 ≤ y ∧ y < k) P1 P2
theorem RoundM.step {W w' : World} {n k : Nat} {P1 P2 : Value} (hk : k < n) (h : Held W w' (k + 1) (fun y => y = (k : Int) ∨ 0 ≤ y ∧ y < k) P1 P2) : RoundM W n P1 P2 (.int .i64 ((k : Int) + 1)) w' :=
  ⟨k + 1, by omega, by go_num, h.set.iff (fun x => by omega), h.cell, h.plan, h.below⟩
set_option maxRecDepth 100000 in
set_option maxHeartbeats 8000000 in
theorem check_yes (A1 A2 : Option Addr) (c1 c2 n : Nat) (gs is : List Int) (self : Int) (W : World) (h1 : Rd W 1 A1 gs.length (ints gs)) (h2 : Rd W 1 A2 is.length (ints is)) (hn : n ≤ 300) (hsw : (Lit.int .i64 self).wf = true)
    (hu1 : Up gs) (hu2 : Up is) (hi1 : ∀ x ∈ gs, 0 ≤ x ∧ x < n ∧ x ≠ self) (hi2 : ∀ x ∈ is, 0 ≤ x ∧ x < n ∧ x ≠ self) (hap : ∀ x ∈ gs, x ∉ is) (hl1 : gs.length ≤ n) (hl2 : is.length ≤ n) (hmany : (gs.length : Int) + is.length = if 0 ≤ self ∧ self < n then (n : Int) - 1 else n)
    (hb1 : ∀ g, blk A1 = some g → g < W.heap.size) (hb2 : ∀ g, blk A2 = some g → g < W.heap.size) :
    Calls Try.prog 10 #[.agg #[.slice A1 gs.length c1, .slice A2 is.length c2], .int .i64 n, .int .i64 self] W fun e W' => e = .returned (.bool true) ∧ Below W.heap.size W W' := by
  have hmm := @run_makeMap Try.prog
  have hmf : ∀ (fn : Fn) (first cap : Array Value) (W : World), (Instr.makeFunc fn first cap).run Try.prog W = .ok (.func fn first cap) W := fun _ _ _ _ => rfl
  have n0 : (0 : Int) ≤ (n : Int) := by omega
  have n1 : (n : Int) ≤ 300 := by omega
  have hmax : max (n : Int) 0 = n := by omega
  have H1 := Lib.hid h1
  have H2 := Lib.hid h2
  have HU1 := Lib.hid hu1
  have HU2 := Lib.hid hu2
  have HI1 := Lib.hid hi1
  have HI2 := Lib.hid hi2
  have HA := Lib.hid hap
  have HB1 := Lib.hid hb1
  have HB2 := Lib.hid hb2
  have hwf : ∀ x : Int, 0 ≤ x → x < n → (Lit.int .i64 x).wf = true := fun x h1 h2 => WalkArith.wf_i64 (by omega)
  have HWF := Lib.hid hwf
  have hl1' : (gs.length : Int) ≤ 300 := by omega
  have hl2' : (is.length : Int) ≤ 300 := by omega
  clear h1 h2 hu1 hu2 hi1 hi2 hap hb1 hb2 hwf hl1 hl2
  have hcase : (0 ≤ self ∧ self < n ∧ (gs.length : Int) + is.length = (n : Int) - 1) ∨ (self < 0 ∧ (gs.length : Int) + is.length = (n : Int)) ∨ (0 ≤ self ∧ (n : Int) ≤ self ∧ (gs.length : Int) + is.length = (n : Int)) := by
    by_cases h : 0 ≤ self ∧ self < n
    · rw [if_pos h] at hmany; exact .inl ⟨h.1, h.2, hmany⟩
    · rw [if_neg h] at hmany
      by_cases h2 : self < 0
      · exact .inr (.inl ⟨h2, hmany⟩)
      · exact .inr (.inr ⟨by omega, by omega, hmany⟩)
  clear hmany
  have HM1 := Lib.hid (Mset.made (W.alloc (.cells #[.slice A1 gs.length c1, .slice A2 is.length c2] 25)))
  rcases hcase with ⟨s0, s1, hmany⟩ | ⟨s0, hmany⟩ | ⟨s0, s1, hmany⟩
  all_goals
    have hneq : decide ((gs.length : Int) + is.length = (n : Int) - 1) = decide ((gs.length : Int) + is.length = (n : Int) - 1) := rfl
    clear hneq
    have HN := Lib.hid hmany
    go_enter Try.func10, Try.ntmps10
    go_wp2
    clear hmm
    go_loopw [33] (fun i wr => RoundM W n (.slice A1 gs.length c1) (.slice A2 is.length c2) i wr) (fun i _ => n - (intOf i).toNat)
    case atStart =>
      refine ⟨0, Nat.zero_le _, rfl, ?_, ?_, ?_, ?_⟩
      · have := (HM1.out.iff (S' := fun y => 0 ≤ y ∧ y < ((0 : Nat) : Int)) (fun x => by constructor; exact fun h => h.elim; omega)).kept (T := fun _ => False) ((Chg.refl _ _).alloc (.cells #[.map (some (W.heap.size + 1))] 33)) (fun h => h)
        simpa using this
      · have := Blk.new ((W.alloc (.cells #[.slice A1 gs.length c1, .slice A2 is.length c2] 25)).alloc (.map #[] 0)) 33 #[.map (some (W.heap.size + 1))]
        simpa using this
      · exact ((Blk.new W _ _).alloc _).alloc _
      · exact (((Below.refl _ _).alloc (Nat.le_refl _) _).alloc (by simp) _).alloc (by simp; omega) _
    case round =>
      obtain ⟨k, hk, rfl, hH⟩ := hrel
      have c0 := hH.cell.cell 0
      simp at c0
      have HH := Lib.hid hH
      have k0 : (0 : Int) ≤ (k : Int) := by omega
      by_cases hlt : k < n
      · have k1 : (k : Int) < (n : Int) := by omega
        have hw := HWF.out k k0 k1
        have HW := Lib.hid hw
        clear hw hH
        go_wp2_with (at_mapUpdate; refine wpList_set_put rfl (.tmp 36) (.tmp 37) (.tmp 38) rfl rfl HH.out.set (by omega) k rfl HW.out rfl ?_; intro w3 r1 r2)
        go_roundw
        case measure => simp [intOf]; omega
        case rel => exact RoundM.step hlt (HH.out.put r1 r2)
      · obtain rfl : k = n := by omega
        have p0 := hH.plan.cell 0
        have p1 := hH.plan.cell 1
        simp at p0 p1
        have hbw := Lib.hid hH.below
        have hsz := hH.below.size
        clear hH
        go_wp2_with (first
          | (at_delete; refine wpList_set_del rfl (.tmp 40) (.tmp 41) rfl rfl HH.out.set self rfl hsw ?_; intro w3 r1 r2; have HH3 := Lib.hid (HH.out.put r1 r2); clear r1 r2; have q0 := HH3.out.plan.cell 0; have q1 := HH3.out.plan.cell 1; simp at q0 q1))
        refine (rising_yes A1 _ c1 (W.heap.size + 2) (W.heap.size + 1) k gs _ w3 (H1.out.below HH3.out.below (Nat.le_refl _)) (by omega) HU1.out (fun x hx => ?_) HH3.out.cell HH3.out.set (by omega) (fun g hg => by have := HB1.out g hg; omega)).mono ?_
        · have := HI1.out x hx
          exact ⟨⟨this.2.2, this.1, this.2.1⟩, HWF.out x this.1 this.2.1⟩
        rintro e w4 ⟨rfl, hM4, hc4⟩
        have hC4 := HH3.out.cell.kept hc4 (by omega)
        have hP4 := HH3.out.plan.kept hc4 (by omega)
        have hB4 : Below W.heap.size W w4 := HH3.out.below.trans (hc4.below HH3.out.below.size (by rintro k _ rfl; omega))
        have r0 := hP4.cell 0
        have r1 := hP4.cell 1
        simp at r0 r1
        have HM4 := Lib.hid hM4
        have HC4 := Lib.hid hC4
        have HB4 := Lib.hid hB4
        clear hM4 hc4 hC4 hP4 hB4
        go_wp2_with fail
        refine (rising_yes A2 _ c2 (W.heap.size + 2) (W.heap.size + 1) k is _ w4 (H2.out.below HB4.out (Nat.le_refl _)) (by omega) HU2.out (fun x hx => ?_) HC4.out HM4.out (by omega) (fun g hg => by have := HB2.out g hg; omega)).mono ?_
        · have := HI2.out x hx
          exact ⟨⟨fun h => HA.out x h hx, this.2.2, this.1, this.2.1⟩, HWF.out x this.1 this.2.1⟩
        rintro e w5 ⟨rfl, hM5, hc5⟩
        have HB5 := Lib.hid (HB4.out.trans (hc5.below HB4.out.size (by rintro k _ rfl; omega)))
        clear hM5 hc5
        go_wp2_with fail
        go_ret
        exact ⟨rfl, HB5.out⟩
end Go.Proofs.Ytanljdhliaeljaa
