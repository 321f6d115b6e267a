/- Contract: Front (a range over slices.Backward). -/
import Derived.Test.YtifflhombjljbaaGlobG
import Derived.RangeFuncBox
import Derived.RangeFuncLeaves
import Derived.Shelf.Abstract
import Derived.WalkKit
import Derived.OwnWalkIn
import Derived.TacticsInMore
import Derived.LoopNIn
import Derived.LoopIn
import Derived.Maps.AppendAt
import Derived.Stop.RegionWithIn
namespace Go.Proofs.Ytifflhombjljbaa
open Go.ChangeShapes Go.WideShapes Go.ChangeAt Go.RowKit Go.Deep Go.Shelf
set_option linter.unusedVariables false
attribute [local go_sem] Oper.semAt_some

/-- These blocks lie as they lay. -/
def KpS (S : Nat → Prop) (W W' : World) : Prop := W.heap.size ≤ W'.heap.size ∧ ∀ k, S k → W'.heap[k]? = W.heap[k]?
theorem KpS.refl (S : Nat → Prop) (W : World) : KpS S W W := ⟨Nat.le_refl _, fun _ _ => rfl⟩
theorem KpS.trans {S : Nat → Prop} {A B C : World} (h : KpS S A B) (k : KpS S B C) : KpS S A C := ⟨Nat.le_trans h.1 k.1, fun i h1 => (k.2 i h1).trans (h.2 i h1)⟩
theorem KpS.cell {S : Nat → Prop} {b o : Nat} {W W' : World} (h : KpS S W W') (hb : S b) : W'.cell? ⟨b, o, none⟩ = W.cell? ⟨b, o, none⟩ := World.cell?_of_block (w := W) (h.2 b hb)
/-- What has come when k are still to come. -/
def Came (xs : List Int) (k : Nat) (pre : List (Int × Int)) : Prop := pre.map (·.2) = (xs.drop k).reverse
theorem Came.step {xs : List Int} {k : Nat} {pre : List (Int × Int)} (h : Came xs (k + 1) pre) (hk : k < xs.length) (i : Int) : Came xs k (pre ++ [(i, xs[k])]) := by
  unfold Came at *
  rw [List.map_append, h, List.drop_eq_getElem_cons hk, List.reverse_cons]
  rfl
theorem Came.len {xs : List Int} {k : Nat} {pre : List (Int × Int)} (h : Came xs k pre) : pre.length = xs.length - k := by
  have := congrArg List.length h
  simpa using this

set_option maxRecDepth 100000 in
set_option maxHeartbeats 4000000 in
/-- The iterator, for every body that keeps the boxes. -/
theorem back_in (n l Bs : Nat) (A : Option Addr) (c : Nat) (xs : List Int) (S : Nat → Prop) (J Jx : List (Int × Int) → World → Prop) (hn : 1 ≤ n) (hl : xs.length ≤ 100000) (hBs : S Bs) (hA : 0 < xs.length → ∀ g, blk A = some g → S g)
    (hY : ∀ pre x W, J pre W → pre.length < xs.length → YieldAt Fence.wide (n - 1) Try.prog l #[.int .i64 x.1, .int .i64 x.2] W fun e W' =>
      (e = .returned (.bool true) ∧ J (pre ++ [x]) W' ∧ KpS S W W') ∨ (e = .returned (.bool false) ∧ Jx (pre ++ [x]) W'))
    (W : World) (cs : W.cell? ⟨Bs, 0, none⟩ = some (.slice A xs.length c)) (hR : Rd W 1 A xs.length (ints xs)) (h0 : J [] W) :
    CallsIn Fence.wide n Try.prog 30 #[.func (.yield l) #[] #[], .pointer (some ⟨Bs, 0, none⟩)] W fun e W' => (∃ v, e = .returned v) ∧
      ((∃ ys, Came xs 0 ys ∧ J ys W') ∨ (∃ pre, True ∧ Jx pre W')) := by
  refine callsIn_of_wp Try.func30 rfl trivial ?_ rfl
  simp only [Try.ntmps30, List.size_toArray, List.length_cons, List.length_nil, Nat.reduceAdd, Nat.reduceSub, Array.replicate_succ, Array.replicate_zero, List.push_toArray, List.append_toArray, List.nil_append, List.cons_append]
  gi_wp2
  gi_loopw [3] (fun i wr => ∃ (k : Nat) (z : Int) (pre : List (Int × Int)), k ≤ xs.length ∧ i = .int .i64 z ∧ Hid (z = (k : Int) - 1) ∧ Hid (Came xs k pre) ∧ J pre wr ∧ KpS S W wr) (fun i _ => (intOf i + 1).toNat)
  case atStart => exact ⟨xs.length, _, [], Nat.le_refl _, rfl, Lib.hid rfl, Lib.hid (by simp [Came]), h0, KpS.refl _ _⟩
  case round =>
    obtain ⟨k, z, pre, hk, rfl, hz, hpre, hJ, hB⟩ := hrel
    rcases k with _ | m
    · obtain rfl : z = -1 := by have := hz.out; omega
      gi_wp2
      go_end0
      exact ⟨⟨_, rfl⟩, .inl ⟨_, hpre.out, hJ⟩⟩
    · obtain rfl : z = (m : Int) := by have := hz.out; omega
      obtain ⟨b, o, rfl, hbl, hcc⟩ := hR.at_ (by omega)
      have hSb : S b := hA (by omega) b rfl
      have e0 : wr.cell? ⟨b, o + m, none⟩ = some (.int .i64 (xs[m]'(by omega))) := (hB.cell (o := o + m) hSb).trans (hcc m (by omega))
      have e1 : wr.cell? ⟨Bs, 0, none⟩ = some (.slice (some ⟨b, o, none⟩) xs.length c) := (hB.cell (o := 0) hBs).trans cs
      obtain ⟨fn, tmps, assign, body, hy, hRn⟩ := hY pre ((m : Int), xs[m]'(by omega)) wr hJ (by rw [hpre.out.len]; omega)
      dsimp only at hy
      have HC := Lib.hid (hpre.out.step (by omega) (m : Int))
      have hm0 : (0 : Int) ≤ (m : Int) := by omega
      have hm1 : (m : Int) < (xs.length : Int) := by omega
      generalize xs[m]'(by omega) = x at *
      clear hcc hz hpre
      gi_wp2
      refine hRn.mono ?_
      rintro e W3 (⟨rfl, hJ3, hk3⟩ | ⟨rfl, hJx3⟩)
      · gi_wp2
        go_roundw
        case rel => exact ⟨m, _, _, by omega, rfl, Lib.hid rfl, HC, hJ3, hB.trans hk3⟩
        case measure => simp [intOf]
      · gi_wp2
        refine bodyPost_ret (results_none rfl _ _ _) rfl ?_
        exact ⟨⟨_, rfl⟩, .inr ⟨_, trivial, hJx3⟩⟩
theorem back_stops (n Bs : Nat) (A : Option Addr) (c : Nat) (xs : List Int) (w : World) (hn : 1 ≤ n) (hl : xs.length ≤ 100000) (hBs : Bs < w.heap.size)
    (cs : w.cell? ⟨Bs, 0, none⟩ = some (.slice A xs.length c)) (hR : Rd w 1 A xs.length (ints xs)) :
    SeqStopsK Fence.wide n Try.prog 30 #[.pointer (some ⟨Bs, 0, none⟩)] (fun x : Int × Int => #[Value.int .i64 x.1, Value.int .i64 x.2]) (KpS fun k => k = Bs ∨ (0 < xs.length ∧ blk A = some k)) (fun ys => Came xs 0 ys) (fun _ => True) xs.length w := fun l J Jx W hW _ _ hY h0 =>
  back_in n l Bs A c xs _ J Jx hn hl (.inl rfl) (fun h0 g h => .inr ⟨h0, h⟩) hY W ((hW.cell (p := ⟨Bs, 0, none⟩) hBs).trans cs) (hR.below hW (Nat.le_refl _)) h0
end Go.Proofs.Ytifflhombjljbaa
