/- A walk of numbers: Mod; the iterator; who collects it. -/
import Derived.Test.YtobcaohginiegaaRapp
import Derived.RangeFuncBox
import Derived.RangeFuncLeaves
import Derived.Shelf.Abstract
import Derived.WalkKit
import Derived.OwnWalkIn
import Derived.TacticsInMore
import Derived.LoopNIn
import Derived.LoopIn
import Derived.Maps.AppendAt
namespace Go.Proofs.Ytobcaohginiegaa
open Go.ChangeShapes Go.WideShapes Go.ChangeAt Go.RowKit Go.Deep Go.Shelf
set_option linter.unusedVariables false

def modOf (i n : Int) : Int := if n < 1 then 0 else i % n
theorem tmod_facts (i n : Int) (h : 1 ≤ n) : (0 ≤ Int.tmod i n → Int.tmod i n = i % n) ∧ (Int.tmod i n < 0 → Int.tmod i n + n = i % n) ∧ -n < Int.tmod i n ∧ Int.tmod i n < n := by
  have h0 : 0 ≤ i % n := Int.emod_nonneg _ (by omega)
  have h1 : i % n < n := Int.emod_lt_of_pos _ (by omega)
  rcases Int.le_total 0 i with hi | hi
  · have := Int.tmod_eq_emod_of_nonneg (b := n) hi
    rw [this]
    refine ⟨fun _ => rfl, fun h => ?_, by omega, by omega⟩
    omega
  · have e : Int.tmod i n = -(Int.tmod (-i) n) := by rw [Int.neg_tmod]; simp
    have e2 : Int.tmod (-i) n = (-i) % n := Int.tmod_eq_emod_of_nonneg (by omega)
    have h2 : 0 ≤ (-i) % n := Int.emod_nonneg _ (by omega)
    have h3 : (-i) % n < n := Int.emod_lt_of_pos _ (by omega)
    have h4 : ((-i) % n + i % n) % n = 0 := by
      rw [← Int.add_emod, show -i + i = 0 by omega]
      exact Int.zero_emod n
    rw [e, e2]
    have h5 : (-i) % n + i % n = 0 ∨ (-i) % n + i % n = n := by
      rcases Int.lt_or_le ((-i) % n + i % n) n with h | h
      · left; rw [Int.emod_eq_of_lt (by omega) h] at h4; exact h4
      · right
        have h6 : ((-i) % n + i % n - n) % n = 0 := by rw [Int.sub_emod, h4]; simp
        rw [Int.emod_eq_of_lt (by omega) (by omega)] at h6
        omega
    refine ⟨fun h => by omega, fun h => by omega, by omega, by omega⟩

set_option maxHeartbeats 1000000 in
theorem mod_any (i n : Int) (W : World) (hn : n ≤ 4611686018427387904) : Calls Try.prog 19 #[.int .i64 i, .int .i64 n] W fun e W' => e = .returned (.int .i64 (modOf i n)) ∧ W = W' := by
  by_cases h : n < 1
  · have hv := Lib.hid (show modOf i n = 0 from if_pos h)
    go_enter Try.func19, Try.ntmps19
    go_wp2
    go_ret
    exact ⟨ret_int hv.out.symm, rfl⟩
  · have h1 : 1 ≤ n := by omega
    have hv := Lib.hid (show modOf i n = i % n from if_neg h)
    obtain ⟨f1, f2, f3, f4⟩ := tmod_facts i n h1
    by_cases ht : Int.tmod i n < 0
    · have hw := Lib.hid (f2 ht)
      have hi : ¬ 0 ≤ i := fun h0 => by rw [Int.tmod_eq_emod_of_nonneg h0] at ht; have := Int.emod_nonneg i (show n ≠ 0 by omega); omega
      clear f1 f2 h
      go_enter Try.func19, Try.ntmps19
      go_wp2
      go_ret
      refine ⟨ret_int ?_, rfl⟩
      rw [hv.out, ← hw.out]
    · have hw := Lib.hid (f1 (by omega))
      clear f1 f2 h
      go_enter Try.func19, Try.ntmps19
      go_wp2
      go_ret
      refine ⟨ret_int ?_, rfl⟩
      rw [hv.out, ← hw.out]

/-- Where the walk is after k steps. -/
def wat (n start step : Int) : Nat → Int
  | 0 => modOf start n
  | k + 1 => modOf (wat n start step k + step) n
theorem wat_in (n start step : Int) (hn : 1 ≤ n) : ∀ k, 0 ≤ wat n start step k ∧ wat n start step k < n
  | 0 => by
    rw [wat, modOf, if_neg (by omega)]
    exact ⟨Int.emod_nonneg _ (by omega), Int.emod_lt_of_pos _ (by omega)⟩
  | k + 1 => by
    rw [wat, modOf, if_neg (by omega)]
    exact ⟨Int.emod_nonneg _ (by omega), Int.emod_lt_of_pos _ (by omega)⟩
def wlist (n start step : Int) (k : Nat) : List Int := (List.range k).map (wat n start step)
theorem wlist_succ (n start step : Int) (k : Nat) : wlist n start step (k + 1) = wlist n start step k ++ [wat n start step k] := by
  simp [wlist, List.range_succ]
theorem wlist_len (n start step : Int) (k : Nat) : (wlist n start step k).length = k := by simp [wlist]

theorem wlist_pre (n start step : Int) {j k : Nat} (h : j ≤ k) : wlist n start step j <+: wlist n start step k := by
  refine ⟨(List.range' j (k - j)).map (wat n start step), ?_⟩
  rw [wlist, wlist, ← List.map_append]
  congr 1
  rw [List.range_eq_range', List.range_eq_range']
  have := List.range'_append (s := 0) (m := j) (n := k - j) (step := 1)
  simp at this
  rw [this]; congr 1; omega

/-- The blocks from lo up to hi lie as they lay. -/
def Mid (lo hi : Nat) (W W' : World) : Prop := W.heap.size ≤ W'.heap.size ∧ ∀ k, lo ≤ k → k < hi → W'.heap[k]? = W.heap[k]?
theorem Mid.refl (lo hi : Nat) (W : World) : Mid lo hi W W := ⟨Nat.le_refl _, fun _ _ _ => rfl⟩
theorem Mid.trans {lo hi : Nat} {A B C : World} (h : Mid lo hi A B) (k : Mid lo hi B C) : Mid lo hi A C := ⟨Nat.le_trans h.1 k.1, fun i h1 h2 => (k.2 i h1 h2).trans (h.2 i h1 h2)⟩
theorem Mid.cell {lo hi b : Nat} {W W' : World} (h : Mid lo hi W W') (h1 : lo ≤ b) (h2 : b < hi) : W'.cell? ⟨b, 0, none⟩ = W.cell? ⟨b, 0, none⟩ := World.cell?_of_block (w := W) (h.2 b h1 h2)

attribute [local go_sem] Oper.semAt_some

set_option maxRecDepth 100000 in
set_option maxHeartbeats 4000000 in
/-- The iterator, for every body that keeps what lay below n₀. -/
theorem iter_in (n l bs bn bt lo hi : Nat) (nn start step : Int) (J Jx : List Int → World → Prop) (hn : 1 ≤ n) (h1 : 1 ≤ nn) (h2 : nn ≤ 1024) (h3 : 1 ≤ step) (h4 : step ≤ 1024) (hbs : lo ≤ bs ∧ bs < hi) (hbn : lo ≤ bn ∧ bn < hi) (hbt : lo ≤ bt ∧ bt < hi)
    (hY : ∀ pre x W, J pre W → pre.length < nn.toNat → YieldAt Fence.wide (n - 1) Try.prog l #[.int .i64 x] W fun e W' =>
      (e = .returned (.bool true) ∧ J (pre ++ [x]) W' ∧ Mid lo hi W W') ∨ (e = .returned (.bool false) ∧ Jx (pre ++ [x]) W'))
    (W : World) (cs : W.cell? ⟨bs, 0, none⟩ = some (.int .i64 start)) (cn : W.cell? ⟨bn, 0, none⟩ = some (.int .i64 nn)) (ct : W.cell? ⟨bt, 0, none⟩ = some (.int .i64 step)) (h0 : J [] W) :
    CallsIn Fence.wide n Try.prog 24 #[.func (.yield l) #[] #[], .pointer (some ⟨bs, 0, none⟩), .pointer (some ⟨bn, 0, none⟩), .pointer (some ⟨bt, 0, none⟩)] W fun e W' => (∃ v, e = .returned v) ∧
      ((∃ ys, ys = wlist nn start step nn.toNat ∧ J ys W') ∨ (∃ pre, pre <+: wlist nn start step nn.toNat ∧ Jx pre W')) := by
  obtain ⟨N, hN⟩ : ∃ N : Nat, nn = N := ⟨nn.toNat, by omega⟩
  subst hN
  simp only [Int.toNat_natCast] at hY ⊢
  refine callsIn_of_wp Try.func24 rfl trivial ?_ rfl
  simp only [Try.ntmps24, List.size_toArray, List.length_cons, List.length_nil, Nat.reduceAdd, Nat.reduceSub, Array.replicate_succ, Array.replicate_zero, List.push_toArray, List.append_toArray, List.nil_append, List.cons_append]
  gi_wp2_with (refine ⟨trivial, ?_⟩; gi_at_call 19; refine (callsIn_wide.2 (mod_any _ _ _ ?_)).mono ?_; omega; rintro e w9 ⟨rfl, rfl⟩)
  gi_loopw [5, 10] (fun at_ i wr => ∃ k : Nat, k ≤ N ∧ i = .int .i64 k ∧ at_ = .int .i64 (wat N start step k) ∧ J (wlist N start step k) wr ∧ Mid lo hi W wr) (fun _ i _ => N - (intOf i).toNat)
  case atStart => exact ⟨0, Nat.zero_le _, rfl, rfl, h0, Mid.refl _ _ _⟩
  case round =>
    obtain ⟨k, hk, rfl, rfl, hJ, hB⟩ := hrel
    by_cases hlt : k < N
    · obtain ⟨fn, tmps, assign, body, hy, hR⟩ := hY (wlist N start step k) (wat N start step k) wr hJ (by rw [wlist_len]; exact hlt)
      obtain ⟨hw0, hw1⟩ := wat_in N start step h1 k
      have hsucc := wlist_succ (N : Int) start step k
      have hnext : wat N start step (k + 1) = modOf (wat N start step k + step) N := rfl
      rw [← hsucc] at hR
      generalize wlist N start step (k + 1) = L1 at hR hsucc
      have Hs := Lib.hid hsucc
      have Hn := Lib.hid hnext
      clear hsucc hnext
      gi_wp2
      refine hR.mono ?_
      rintro e W3 (⟨rfl, hJ3, hk3⟩ | ⟨rfl, hJx3⟩)
      · have hB3 := hB.trans hk3
        have cn3 : W3.cell? ⟨bn, 0, none⟩ = some (.int .i64 (N : Int)) := (hB3.cell hbn.1 hbn.2).trans cn
        have ct3 : W3.cell? ⟨bt, 0, none⟩ = some (.int .i64 step) := (hB3.cell hbt.1 hbt.2).trans ct
        generalize wat N start step k = z at hw0 hw1 Hn
        gi_wp2_with (refine ⟨trivial, ?_⟩; gi_at_call 19; refine (callsIn_wide.2 (mod_any _ _ _ ?_)).mono ?_; omega; rintro e w9 ⟨rfl, rfl⟩)
        go_roundw
        case rel => exact ⟨k + 1, by omega, by go_num, by rw [Hn.out], by rw [wlist_succ, ← Hs.out]; exact hJ3, hB3⟩
        case measure => simp [intOf]; omega
      · gi_wp2
        refine bodyPost_ret (results_none rfl _ _ _) rfl ?_
        refine ⟨⟨_, rfl⟩, .inr ⟨L1, ?_, hJx3⟩⟩
        rw [Hs.out, ← wlist_succ]
        exact wlist_pre _ _ _ (by omega)
    · obtain rfl : k = N := by omega
      gi_wp2
      go_end0
      exact ⟨⟨_, rfl⟩, .inl ⟨_, rfl, hJ⟩⟩

theorem iter_stops (n bs bn bt lo hi : Nat) (nn start step : Int) (w : World) (hn : 1 ≤ n) (h1 : 1 ≤ nn) (h2 : nn ≤ 1024) (h3 : 1 ≤ step) (h4 : step ≤ 1024) (hbs : lo ≤ bs ∧ bs < hi) (hbn : lo ≤ bn ∧ bn < hi) (hbt : lo ≤ bt ∧ bt < hi) (hhi : hi ≤ w.heap.size)
    (cs : w.cell? ⟨bs, 0, none⟩ = some (.int .i64 start)) (cn : w.cell? ⟨bn, 0, none⟩ = some (.int .i64 nn)) (ct : w.cell? ⟨bt, 0, none⟩ = some (.int .i64 step)) :
    SeqStopsK Fence.wide n Try.prog 24 #[.pointer (some ⟨bs, 0, none⟩), .pointer (some ⟨bn, 0, none⟩), .pointer (some ⟨bt, 0, none⟩)] (fun x : Int => #[Value.int .i64 x]) (Mid lo hi) (fun ys => ys = wlist nn start step nn.toNat) (fun pre => pre <+: wlist nn start step nn.toNat) nn.toNat w := fun l J Jx W hW _ _ hY h0 =>
  iter_in n l bs bn bt lo hi nn start step J Jx hn h1 h2 h3 h4 hbs hbn hbt hY W ((hW.cell (p := ⟨bs, 0, none⟩) (Nat.lt_of_lt_of_le hbs.2 hhi)).trans cs) ((hW.cell (p := ⟨bn, 0, none⟩) (Nat.lt_of_lt_of_le hbn.2 hhi)).trans cn) ((hW.cell (p := ⟨bt, 0, none⟩) (Nat.lt_of_lt_of_le hbt.2 hhi)).trans ct) h0

set_option maxHeartbeats 2000000 in
/-- A walk of numbers: its three boxes. -/
theorem walk_yes (n : Nat) (nn start step : Int) (w : World) (h1 : 1 ≤ nn) (h2 : nn ≤ 1024) (h3 : 1 ≤ step) (h4 : step ≤ 1024) :
    Calls Try.prog 20 #[.int .i64 nn, .int .i64 start, .int .i64 step] w fun e w' => e = .returned (.func (.func 24) #[] #[.pointer (some ⟨w.heap.size + 1, 0, none⟩), .pointer (some ⟨w.heap.size, 0, none⟩), .pointer (some ⟨w.heap.size + 1 + 1, 0, none⟩)]) ∧
      w' = ((w.alloc (.cells #[.int .i64 nn] 3)).alloc (.cells #[.int .i64 start] 3)).alloc (.cells #[.int .i64 step] 3) := by
  have hmf : ∀ (fn : Fn) (first cap : Array Value) (W : World), (Instr.makeFunc fn first cap).run Try.prog W = .ok (.func fn first cap) W := fun _ _ _ _ => rfl
  go_enter Try.func20, Try.ntmps20
  go_wp2
  go_ret
  exact ⟨rfl, rfl⟩
set_option maxHeartbeats 2000000 in
theorem walk_no (nn start step : Int) (w : World) (h : nn < 1 ∨ 1024 < nn ∨ step < 1 ∨ 1024 < step) :
    Calls Try.prog 20 #[.int .i64 nn, .int .i64 start, .int .i64 step] w fun e w' => e = .returned (.func (.func 23) #[] #[]) ∧
      w' = ((w.alloc (.cells #[.int .i64 nn] 3)).alloc (.cells #[.int .i64 start] 3)).alloc (.cells #[.int .i64 step] 3) := by
  have hmf : ∀ (fn : Fn) (first cap : Array Value) (W : World), (Instr.makeFunc fn first cap).run Try.prog W = .ok (.func fn first cap) W := fun _ _ _ _ => rfl
  have hc : nn < 1 ∨ (¬ nn < 1 ∧ 1024 < nn) ∨ (¬ nn < 1 ∧ ¬ 1024 < nn ∧ step < 1) ∨ (¬ nn < 1 ∧ ¬ 1024 < nn ∧ ¬ step < 1 ∧ 1024 < step) := by omega
  clear h
  rcases hc with h1 | ⟨h1, h2⟩ | ⟨h1, h2, h3⟩ | ⟨h1, h2, h3, h4⟩
  all_goals
    go_enter Try.func20, Try.ntmps20
    go_wp2
    go_ret
    exact ⟨rfl, rfl⟩
end Go.Proofs.Ytobcaohginiegaa
