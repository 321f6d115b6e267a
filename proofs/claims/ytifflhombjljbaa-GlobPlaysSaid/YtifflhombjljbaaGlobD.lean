/- Contracts of the global row: Many, Batch. -/
import Derived.Test.YtifflhombjljbaaGlobC
import Derived.WalkLawsBesides
namespace Go.Proofs.Ytifflhombjljbaa
open Go.ChangeShapes Go.WideShapes Go.ChangeAt Go.RowKit Go.Deep
set_option linter.unusedVariables false

def manyOf (n p m : Int) : Int := if n < 1 ∨ p < 1 ∨ m < 1 then 0 else if n / p < n then min (min n m) (n / p + 1) else min n m
theorem manyOf_le (n : Nat) (p m : Int) : 0 ≤ manyOf n p m ∧ (manyOf n p m).toNat ≤ n := by
  unfold manyOf
  split
  · omega
  · rename_i h
    have h0 : 0 ≤ (n : Int) / p := Int.ediv_nonneg (by omega) (by omega)
    generalize (n : Int) / p = q at *
    split <;> omega
theorem manyOf_bad {n p m : Int} (h : n < 1 ∨ p < 1 ∨ m < 1) : manyOf n p m = 0 := if_pos h
theorem manyOf_few {n p m : Int} (h : ¬ (n < 1 ∨ p < 1 ∨ m < 1)) (hq : n / p < n) : manyOf n p m = min (min n m) (n / p + 1) := by rw [manyOf, if_neg h, if_pos hq]
theorem manyOf_all {n p m : Int} (h : ¬ (n < 1 ∨ p < 1 ∨ m < 1)) (hq : ¬ n / p < n) : manyOf n p m = min n m := by rw [manyOf, if_neg h, if_neg hq]

set_option maxHeartbeats 1000000 in
theorem many_any (n p m : Int) (W : World) (hn : n ≤ 9223372036854775807) (hp : p ≤ 9223372036854775807) (hm : m ≤ 9223372036854775807) :
    Calls Try.prog 14 #[.int .i64 n, .int .i64 p, .int .i64 m] W fun e W' => e = .returned (.int .i64 (manyOf n p m)) ∧ W = W' := by
  by_cases h : n < 1 ∨ p < 1 ∨ m < 1
  · have hv := Lib.hid (manyOf_bad h)
    have hc : n < 1 ∨ (¬ n < 1 ∧ p < 1) ∨ (¬ n < 1 ∧ ¬ p < 1 ∧ m < 1) := by omega
    clear h
    rcases hc with h1 | ⟨h1, h2⟩ | ⟨h1, h2, h3⟩
    all_goals
      go_enter Try.func14, Try.ntmps14
      go_wp2
      go_ret
      exact ⟨ret_int hv.out.symm, rfl⟩
  · have h1 : 1 ≤ n := by omega
    have h2 : 1 ≤ p := by omega
    have h3 : 1 ≤ m := by omega
    have hq0 : 0 ≤ n / p := Int.ediv_nonneg (by omega) (by omega)
    have hq1 : n / p ≤ n := Int.ediv_le_self p (by omega)
    by_cases hq : n / p < n
    · have hv := Lib.hid (manyOf_few h hq)
      clear h
      go_enter Try.func14, Try.ntmps14
      go_wp2
      all_goals
        go_ret
        exact ⟨ret_int (by rw [hv.out]; generalize n / p = q at *; omega), rfl⟩
    · have hv := Lib.hid (manyOf_all h hq)
      clear h
      go_enter Try.func14, Try.ntmps14
      go_wp2
      all_goals
        go_ret
        exact ⟨ret_int (by rw [hv.out]; generalize n / p = q at *; omega), rfl⟩

set_option maxHeartbeats 1000000 in
theorem rmany_any (n p m : Int) (W : World) (hn : n ≤ 9223372036854775807) (hp : p ≤ 9223372036854775807) (hm : m ≤ 9223372036854775807) :
    Calls Try.prog 15 #[.int .i64 n, .int .i64 p, .int .i64 m] W fun e W' => e = .returned (.int .i64 (manyOf n p m)) ∧ W = W' := by
  by_cases h : n < 1 ∨ p < 1 ∨ m < 1
  · have hv := Lib.hid (manyOf_bad h)
    have hc : p < 1 ∨ (¬ p < 1 ∧ m < 1) ∨ (¬ p < 1 ∧ ¬ m < 1 ∧ n < 1) := by omega
    clear h
    rcases hc with h1 | ⟨h1, h2⟩ | ⟨h1, h2, h3⟩
    all_goals
      go_enter Try.func15, Try.ntmps15
      go_wp2
      go_ret
      exact ⟨ret_int hv.out.symm, rfl⟩
  · have h1 : 1 ≤ n := by omega
    have h2 : 1 ≤ p := by omega
    have h3 : 1 ≤ m := by omega
    have hq0 : 0 ≤ n / p := Int.ediv_nonneg (by omega) (by omega)
    have hq1 : n / p ≤ n := Int.ediv_le_self p (by omega)
    by_cases hq : n / p < n
    · have hv := Lib.hid (manyOf_few h hq)
      clear h
      by_cases hqm : n / p < m
      all_goals
        go_enter Try.func15, Try.ntmps15
        go_wp2
        all_goals
          go_ret
          exact ⟨ret_int (by rw [hv.out]; generalize n / p = q at *; omega), rfl⟩
    · have hv := Lib.hid (manyOf_all h hq)
      clear h
      go_enter Try.func15, Try.ntmps15
      go_wp2
      all_goals
        go_ret
        exact ⟨ret_int (by rw [hv.out]; generalize n / p = q at *; omega), rfl⟩

def RoundB (W : World) (B K : Nat) (A1 A2 : Option Addr) (L : List Int) (m : Nat) (lv i : Value) (wr : World) : Prop :=
  ∃ (j : Nat) (E1 E2 Al : Option Addr) (cl : Nat), j ≤ m ∧ i = .int .i64 j ∧ lv = .slice Al j cl ∧ Row wr W.heap.size 3 1 Al j cl (ints (L.take j)) ∧ GQ wr B K E1 E2 (L.drop j) ∧ Chg (Fp K A1 A2) W wr ∧ (∀ g, Fp K E1 E2 g → Fp K A1 A2 g ∨ W.heap.size ≤ g) ∧ (∀ g, blk Al = some g → ¬ Fp K E1 E2 g)
theorem RoundB.step {W wr w1 w2 : World} {B K j m cl c2 : Nat} {A1 A2 E1 E2 Al A3 : Option Addr} {L : List Int} {z : Int} {ob : Obj} (hj : j < m) (hL : L.drop j = z :: L.drop (j + 1)) (hrow : Row wr W.heap.size 3 1 Al j cl (ints (L.take j))) (hq : GQ wr B K E1 E2 (z :: L.drop (j + 1))) (hc : Chg (Fp K A1 A2) W wr)
    (hf : ∀ g, Fp K E1 E2 g → Fp K A1 A2 g ∨ W.heap.size ≤ g) (hd : ∀ g, blk Al = some g → ¬ Fp K E1 E2 g) (ha : GAft wr w1 B K E1 E2 (L.drop (j + 1)))
    (r1 : Row w2 W.heap.size 3 1 A3 (j + 1) c2 (ints (L.take j ++ [z]))) (r2 : (w1.alloc ob).grownBy w2 (blk Al)) (r3 : blk A3 = blk Al ∨ blk A3 = some (w1.alloc ob).heap.size) : RoundB W B K A1 A2 L m (.slice A3 (j + 1) c2) (.int .i64 ((j : Int) + 1)) w2 := by
  obtain ⟨D1, D2, hq1, hc1, hf1⟩ := ha
  have hws := hc.size
  have hws1 := hc1.size
  have hrow1 := hrow.kept hc1 hd
  have hnD : ∀ g, blk Al = some g → ¬ Fp K D1 D2 g := fun g hg h => by
    rcases hf1 g h with h | h
    · exact hd g hg h
    · have := (hrow.blk_lt g hg).2; omega
  have hc2 : Chg (fun k => blk Al = some k) w1 w2 := Chg.grown ((Chg.refl _ _).alloc ob) r2 (fun k hk => .inl hk)
  have hjl : j < L.length := by
    rcases Nat.lt_or_ge j L.length with h | h
    · exact h
    · rw [List.drop_of_length_le h] at hL; cases hL
  have hz : L[j] = z := by
    rw [List.drop_eq_getElem_cons hjl] at hL
    injection hL
  refine ⟨j + 1, D1, D2, A3, c2, by omega, by go_num, rfl, ?_, hq1.kept hc2 (fun k hk h => hnD k h hk), ?_, fun g hg => ?_, fun g hg h => ?_⟩
  · rw [List.take_succ_eq_append_getElem hjl, hz]; exact r1
  · refine (hc.trans hc1 (fun k hk h => (hf k h).resolve_right (by omega))).trans hc2 (fun k hk h => ?_)
    have := (hrow.blk_lt k h).1; omega
  · rcases hf1 g hg with h | h
    · exact hf g h
    · right; omega
  · rcases r3 with r3 | r3
    · exact hnD g (r3 ▸ hg) h
    · rw [r3] at hg
      have := (hq1.fp_lt g h).2
      simp at hg; omega

set_option maxHeartbeats 4000000 in
theorem batch_any (B K : Nat) (A1 A2 : Option Addr) (p m : Int) (L : List Int) (W : World) (hS : GQ W B K A1 A2 L) (hB : B ≤ W.heap.size) (hp : p ≤ 9223372036854775807) (hm : m ≤ 9223372036854775807) :
    Calls Try.prog 17 #[.pointer (some ⟨K, 0, none⟩), .int .i64 p, .int .i64 m] W fun e W' => ∃ (j : Nat) (E1 E2 Al : Option Addr) (cl : Nat), j = (manyOf L.length p m).toNat ∧ e = .returned (.slice Al j cl) ∧ Row W' W.heap.size 3 1 Al j cl (ints (L.take j)) ∧ GQ W' B K E1 E2 (L.drop j) ∧ Chg (Fp K A1 A2) W W' ∧
      (∀ g, Fp K E1 E2 g → Fp K A1 A2 g ∨ W.heap.size ≤ g) ∧ (∀ g, blk Al = some g → ¬ Fp K E1 E2 g) := by
  have hmf : ∀ (fn : Fn) (first cap : Array Value) (W : World), (Instr.makeFunc fn first cap).run Try.prog W = .ok (.func fn first cap) W := fun _ _ _ _ => rfl
  have hLl : L.length ≤ 100000 := by obtain ⟨_, _, _, _, _, _, h⟩ := hS; exact h
  obtain ⟨hm0, hm1⟩ := manyOf_le L.length p m
  obtain ⟨n, hn⟩ : ∃ n : Nat, manyOf L.length p m = n := ⟨_, (Int.toNat_of_nonneg hm0).symm⟩
  have hR0 : ∀ q, RoundB W B K A1 A2 L n (.slice none 0 0) (.int .i64 0) (W.drewN q) := fun q => ⟨0, A1, A2, none, 0, Nat.zero_le _, rfl, rfl, Row.nil _ _ _ _, by simpa using hS.same ((Chg.refl _ _).drewN q), (Chg.refl _ _).drewN q, fp_same, fun g hg => by cases hg⟩
  have HR0 := Lib.hid hR0
  clear hR0
  have hnl : n ≤ L.length := by rw [hn] at hm1; simpa using hm1
  have Hn := Lib.hid hn
  clear hn hm0 hm1
  go_enter Try.func17, Try.ntmps17
  go_wp2_with (first
    | (go_at_call 11; refine (len_any B K A1 A2 _ _ hS).mono ?_; rintro e w9 ⟨rfl, q, rfl⟩)
    | (go_at_call 14; refine (many_any _ _ _ _ ?_ hp hm).mono ?_; omega; rintro e w9 ⟨rfl, rfl⟩; rw [Hn.out]))
  go_loopw [8, 18] (fun lv i wr => RoundB W B K A1 A2 L n lv i wr) (fun _ i _ => n - (intOf i).toNat)
  case atStart => exact HR0.out q
  case round =>
    clear HR0 hS
    obtain ⟨j, E1, E2, Al, cl, hj, rfl, rfl, hrow, hq, hc, hf, hd⟩ := hrel
    have hws := hc.size
    by_cases hlt : j < n
    · have hjl : j < L.length := by omega
      have hdr : L.drop j = L[j] :: L.drop (j + 1) := List.drop_eq_getElem_cons hjl
      generalize L[j] = z at hdr
      rw [hdr] at hq
      have Hdr := Lib.hid hdr
      clear hdr
      go_wp2_with (first
        | (go_at_call 18; refine (get_any B K E1 E2 z (L.drop (j + 1)) _ hq ?_).mono ?_; omega; rintro e w1 ⟨rfl, ha⟩; obtain ⟨_, _, _, hc1, _⟩ := id ha; have hws1 := hc1.size; have hrow1 := hrow.kept hc1 hd)
        | (at_builtin; refine wpList_app rfl (.tmp 25) (.tmp 27) rfl W.heap.size Al _ _ (L.take j) rfl (hrow1.alloc _) _ 1 1 [z] rfl (Rd.lit _ _ _) ?c1 ?c2 ?_; (case c1 => omega); (case c2 => (simp; omega)); intro A3 c3 w2 r1 r2 r3))
      go_roundw
      case rel => exact RoundB.step hlt Hdr.out hrow hq hc hf hd ha r1 r2 r3
      case measure => simp [intOf]; omega
    · obtain rfl : j = n := by omega
      go_wp2
      go_ret
      exact ⟨j, E1, E2, Al, cl, by rw [Hn.out]; simp, rfl, hrow, hq, hc, hf, hd⟩
end Go.Proofs.Ytifflhombjljbaa
