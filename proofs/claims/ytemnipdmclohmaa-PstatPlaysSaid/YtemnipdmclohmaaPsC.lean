/- What is done to a processor. -/
import Derived.Test.YtemnipdmclohmaaPsB
namespace Go.Proofs.Ytemnipdmclohmaa
open Go.ChangeShapes Go.WideShapes Go.ChangeAt Go.RowKit Go.Deep
set_option linter.unusedVariables false

def chg (ps : List (Int × Int)) (p m : Int) (ok : Int × Int → Bool) (nx : Int × Int → Int × Int) : List (Int × Int) × Int :=
  if p < 0 ∨ (ps.length : Int) ≤ p then (ps, 8) else if m < 0 ∨ 64 ≤ m then (ps, 2) else if ok (ps.getD p.toNat (0, 0)) = true then (ps.set p.toNat (nx (ps.getD p.toNat (0, 0))), 0) else (ps, 9)
theorem change_out (base T : Nat) (A : Option Addr) (ps : List (Int × Int)) (W : World) (hT : Tb W base T A ps) (p m : Int) (v1 v2 : Value) (hp : p < 0 ∨ (ps.length : Int) ≤ p) :
    Calls Try.prog 28 #[.pointer (some ⟨T, 0, none⟩), .int .i64 p, .int .i64 m, v1, v2] W fun e W' => e = .returned (.int .i64 8) ∧ W' = W := by
  obtain ⟨c, t0⟩ := hT.row
  have hl := hT.len
  go_enter Try.func28, Try.ntmps28
  by_cases h0 : p < 0
  · go_wp2_with (go_at_call 26; go_in)
    go_ret
    exact ⟨rfl, rfl⟩
  · have h1 : 0 ≤ p := by omega
    have h2 : decide (p < (ps.length : Int)) = false := by simp; omega
    go_wp2_with (go_at_call 26; go_in)
    go_ret
    exact ⟨rfl, rfl⟩
theorem change_range (base T : Nat) (A : Option Addr) (ps : List (Int × Int)) (W : World) (hT : Tb W base T A ps) (k : Nat) (m : Int) (v1 v2 : Value) (hk : k < ps.length) (hm : m < 0 ∨ 64 ≤ m) :
    Calls Try.prog 28 #[.pointer (some ⟨T, 0, none⟩), .int .i64 k, .int .i64 m, v1, v2] W fun e W' => e = .returned (.int .i64 2) ∧ W' = W := by
  obtain ⟨c, t0⟩ := hT.row
  have hl := hT.len
  have k0 : (0 : Int) ≤ (k : Int) := by omega
  have k1 : (k : Int) < (ps.length : Int) := by omega
  go_enter Try.func28, Try.ntmps28
  by_cases h0 : m < 0
  · go_wp2_with (go_at_call 26; go_in)
    go_ret
    exact ⟨rfl, rfl⟩
  · have h1 : 64 ≤ m := by omega
    go_wp2_with (go_at_call 26; go_in)
    go_ret
    exact ⟨rfl, rfl⟩
theorem change_any (base T K1 K2 : Nat) (A : Option Addr) (caps1 caps2 : Array Value) (ok : Int × Int → Bool) (nx : Int × Int → Int × Int) (p m : Int) (ps : List (Int × Int)) (W : World) (hT : Tb W base T A ps)
    (hrun : ∀ args W, (callFunc K1 args).run Try.prog W = .ok (.enter K1 args) W) (hrun2 : ∀ args W, (callFunc K2 args).run Try.prog W = .ok (.enter K2 args) W)
    (hmust : ∀ q : Int × Int, Calls Try.prog K1 (#[.agg #[.int .i64 q.1, .int .i64 q.2]] ++ caps1) W fun e W1 => e = .returned (.bool (ok q)) ∧ Chg (fun _ => False) W W1)
    (hthen : ∀ (q : Int × Int) W1, ok q = true → Chg (fun _ => False) W W1 → Calls Try.prog K2 (#[.agg #[.int .i64 q.1, .int .i64 q.2]] ++ caps2) W1 fun e W2 => e = .returned (.agg #[.int .i64 (nx q).1, .int .i64 (nx q).2]) ∧ Chg (fun _ => False) W1 W2) :
    Calls Try.prog 28 #[.pointer (some ⟨T, 0, none⟩), .int .i64 p, .int .i64 m, .func (.func K1) #[] caps1, .func (.func K2) #[] caps2] W fun e W' => e = .returned (.int .i64 (chg ps p m ok nx).2) ∧ TA W W' base T A (chg ps p m ok nx).1 := by
  unfold chg
  by_cases hp : p < 0 ∨ (ps.length : Int) ≤ p
  · rw [if_pos hp]
    refine (change_out base T A ps W hT p m _ _ hp).mono ?_
    rintro e W' ⟨rfl, rfl⟩
    exact ⟨rfl, TA.same hT (Chg.refl _ _)⟩
  · rw [if_neg hp]
    obtain ⟨k, rfl⟩ : ∃ k : Nat, p = k := ⟨p.toNat, by omega⟩
    have hk : k < ps.length := by omega
    have hgd : ps.getD k (0, 0) = ps[k] := by rw [List.getD_eq_getElem?_getD, List.getElem?_eq_getElem hk]; rfl
    rw [Int.toNat_natCast, hgd]
    by_cases hm : m < 0 ∨ 64 ≤ m
    · rw [if_pos hm]
      refine (change_range base T A ps W hT k m _ _ hk hm).mono ?_
      rintro e W' ⟨rfl, rfl⟩
      exact ⟨rfl, TA.same hT (Chg.refl _ _)⟩
    · rw [if_neg hm]
      have h1 := hmust ps[k]
      by_cases ho : ok ps[k] = true
      · rw [if_pos ho]
        rw [ho] at h1
        exact change_ok base T k K1 K2 A caps1 caps2 m _ _ ps W hT hk (by omega) (by omega) hrun hrun2 h1 (fun W1 hc => hthen ps[k] W1 ho hc)
      · rw [if_neg ho]
        rw [Bool.not_eq_true] at ho
        rw [ho] at h1
        refine (change_bad base T k K1 A caps1 _ m ps W hT hk (by omega) (by omega) hrun h1).mono ?_
        rintro e W' ⟨rfl, hc⟩
        exact ⟨rfl, TA.same hT hc⟩
theorem change_nil (p m : Int) (v1 v2 : Value) (W : World) : Calls Try.prog 28 #[.pointer none, .int .i64 p, .int .i64 m, v1, v2] W fun e W' => e = .returned (.int .i64 1) ∧ W' = W := by
  go_enter Try.func28, Try.ntmps28
  go_wp2
  go_ret
  exact ⟨rfl, rfl⟩

/-! The closures. -/
def okRun (q : Int × Int) : Bool := q.1 == 1
def okIdle (q : Int × Int) : Bool := q.1 == 0 && q.2 == -1
def okIts (m : Int) (q : Int × Int) : Bool := q.1 == 2 && q.2 == m
def okMay (q : Int × Int) : Bool := q.1 == 2 || q.1 == 0 || q.1 == 1
def okStand (q : Int × Int) : Bool := q.1 == 3
def nxStop (q : Int × Int) : Int × Int := if q.1 = 2 then (3, -1) else (3, q.2)
def nxGo (q : Int × Int) : Int × Int := if q.2 = -1 then (0, -1) else (1, q.2)
variable (q : Int × Int) (W : World)
set_option maxHeartbeats 1000000 in
theorem c_run : Calls Try.prog 30 (#[.agg #[.int .i64 q.1, .int .i64 q.2]] ++ #[]) W fun e W' => e = .returned (.bool (okRun q)) ∧ Chg (fun _ => False) W W' := by
  obtain ⟨a, b⟩ := q
  go_enter Try.func30, Try.ntmps30
  go_wp2
  all_goals go_returns
  all_goals refine ⟨by first | exact rfl | (refine ret_bool ?_; simp [okIdle, okMay, okIts, *]), ?_⟩
  all_goals repeat (first | exact Chg.refl _ _ | refine Chg.alloc ?_ _ | refine Chg.drew ?_ | refine Chg.setCell ?_ (.inr (by simp <;> omega)) _)
set_option maxHeartbeats 1000000 in
theorem c_idle : Calls Try.prog 27 (#[.agg #[.int .i64 q.1, .int .i64 q.2]] ++ #[]) W fun e W' => e = .returned (.bool (okIdle q)) ∧ Chg (fun _ => False) W W' := by
  obtain ⟨a, b⟩ := q
  go_enter Try.func27, Try.ntmps27
  go_wp2
  all_goals go_returns
  all_goals refine ⟨by first | exact rfl | (refine ret_bool ?_; simp [okIdle, okMay, okIts, *]), ?_⟩
  all_goals repeat (first | exact Chg.refl _ _ | refine Chg.alloc ?_ _ | refine Chg.drew ?_ | refine Chg.setCell ?_ (.inr (by simp <;> omega)) _)
set_option maxHeartbeats 1000000 in
theorem c_take (B : Nat) (m : Int) (hB : W.cell? ⟨B, 0, none⟩ = some (.int .i64 m)) : Calls Try.prog 29 (#[.agg #[.int .i64 q.1, .int .i64 q.2]] ++ #[.pointer (some ⟨B, 0, none⟩)]) W fun e W' => e = .returned (.agg #[.int .i64 1, .int .i64 m]) ∧ Chg (fun _ => False) W W' := by
  obtain ⟨a, b⟩ := q
  have hlt := World.block_lt_of_cell? W _ hB
  have n0 := World.new_ne W _ hB
  go_enter Try.func29, Try.ntmps29
  go_wp2
  all_goals go_returns
  all_goals refine ⟨by first | exact rfl | (refine ret_bool ?_; simp [okIdle, okMay, okIts, *]), ?_⟩
  all_goals repeat (first | exact Chg.refl _ _ | refine Chg.alloc ?_ _ | refine Chg.drew ?_ | refine Chg.setCell ?_ (.inr (by simp <;> omega)) _)
set_option maxHeartbeats 1000000 in
theorem c_its (B : Nat) (m : Int) (hB : W.cell? ⟨B, 0, none⟩ = some (.int .i64 m)) : Calls Try.prog 35 (#[.agg #[.int .i64 q.1, .int .i64 q.2]] ++ #[.pointer (some ⟨B, 0, none⟩)]) W fun e W' => e = .returned (.bool (okIts m q)) ∧ Chg (fun _ => False) W W' := by
  obtain ⟨a, b⟩ := q
  have hlt := World.block_lt_of_cell? W _ hB
  have n0 := World.new_ne W _ hB
  go_enter Try.func35, Try.ntmps35
  go_wp2
  all_goals go_returns
  all_goals refine ⟨by first | exact rfl | (refine ret_bool ?_; simp [okIdle, okMay, okIts, *]), ?_⟩
  all_goals repeat (first | exact Chg.refl _ _ | refine Chg.alloc ?_ _ | refine Chg.drew ?_ | refine Chg.setCell ?_ (.inr (by simp <;> omega)) _)
set_option maxHeartbeats 1000000 in
theorem c_leave (B : Nat) (m : Int) (hB : W.cell? ⟨B, 0, none⟩ = some (.int .i64 m)) : Calls Try.prog 36 (#[.agg #[.int .i64 q.1, .int .i64 q.2]] ++ #[.pointer (some ⟨B, 0, none⟩)]) W fun e W' => e = .returned (.agg #[.int .i64 1, .int .i64 m]) ∧ Chg (fun _ => False) W W' := by
  obtain ⟨a, b⟩ := q
  have hlt := World.block_lt_of_cell? W _ hB
  have n0 := World.new_ne W _ hB
  go_enter Try.func36, Try.ntmps36
  go_wp2
  all_goals go_returns
  all_goals refine ⟨by first | exact rfl | (refine ret_bool ?_; simp [okIdle, okMay, okIts, *]), ?_⟩
  all_goals repeat (first | exact Chg.refl _ _ | refine Chg.alloc ?_ _ | refine Chg.drew ?_ | refine Chg.setCell ?_ (.inr (by simp <;> omega)) _)
set_option maxHeartbeats 1000000 in
theorem c_enter : Calls Try.prog 31 (#[.agg #[.int .i64 q.1, .int .i64 q.2]] ++ #[]) W fun e W' => e = .returned (.agg #[.int .i64 2, .int .i64 q.2]) ∧ Chg (fun _ => False) W W' := by
  obtain ⟨a, b⟩ := q
  go_enter Try.func31, Try.ntmps31
  go_wp2
  all_goals go_returns
  all_goals refine ⟨by first | exact rfl | (refine ret_bool ?_; simp [okIdle, okMay, okIts, *]), ?_⟩
  all_goals repeat (first | exact Chg.refl _ _ | refine Chg.alloc ?_ _ | refine Chg.drew ?_ | refine Chg.setCell ?_ (.inr (by simp <;> omega)) _)
set_option maxHeartbeats 1000000 in
theorem c_release : Calls Try.prog 37 (#[.agg #[.int .i64 q.1, .int .i64 q.2]] ++ #[]) W fun e W' => e = .returned (.agg #[.int .i64 0, .int .i64 (-1)]) ∧ Chg (fun _ => False) W W' := by
  obtain ⟨a, b⟩ := q
  go_enter Try.func37, Try.ntmps37
  go_wp2
  all_goals go_returns
  all_goals refine ⟨by first | exact rfl | (refine ret_bool ?_; simp [okIdle, okMay, okIts, *]), ?_⟩
  all_goals repeat (first | exact Chg.refl _ _ | refine Chg.alloc ?_ _ | refine Chg.drew ?_ | refine Chg.setCell ?_ (.inr (by simp <;> omega)) _)
set_option maxHeartbeats 1000000 in
theorem c_stand : Calls Try.prog 38 (#[.agg #[.int .i64 q.1, .int .i64 q.2]] ++ #[]) W fun e W' => e = .returned (.bool (okStand q)) ∧ Chg (fun _ => False) W W' := by
  obtain ⟨a, b⟩ := q
  go_enter Try.func38, Try.ntmps38
  go_wp2
  all_goals go_returns
  all_goals refine ⟨by first | exact rfl | (refine ret_bool ?_; simp [okIdle, okMay, okIts, *]), ?_⟩
  all_goals repeat (first | exact Chg.refl _ _ | refine Chg.alloc ?_ _ | refine Chg.drew ?_ | refine Chg.setCell ?_ (.inr (by simp <;> omega)) _)
set_option maxHeartbeats 1000000 in
theorem c_go : Calls Try.prog 39 (#[.agg #[.int .i64 q.1, .int .i64 q.2]] ++ #[]) W fun e W' => e = .returned (.agg #[.int .i64 (nxGo q).1, .int .i64 (nxGo q).2]) ∧ Chg (fun _ => False) W W' := by
  obtain ⟨a, b⟩ := q
  unfold nxGo
  by_cases hb : b = -1
  · subst hb
    go_enter Try.func39, Try.ntmps39
    go_wp2
    all_goals go_returns
    all_goals refine ⟨by first | exact rfl | (refine ret_bool ?_; simp [okIdle, okMay, okIts, *]), ?_⟩
    all_goals repeat (first | exact Chg.refl _ _ | refine Chg.alloc ?_ _ | refine Chg.drew ?_ | refine Chg.setCell ?_ (.inr (by simp <;> omega)) _)
  · go_enter Try.func39, Try.ntmps39
    go_wp2
    all_goals go_returns
    all_goals refine ⟨by first | exact rfl | (refine ret_bool ?_; simp [okIdle, okMay, okIts, *]), ?_⟩
    all_goals repeat (first | exact Chg.refl _ _ | refine Chg.alloc ?_ _ | refine Chg.drew ?_ | refine Chg.setCell ?_ (.inr (by simp <;> omega)) _)
set_option maxHeartbeats 2000000 in
theorem c_may : Calls Try.prog 32 (#[.agg #[.int .i64 q.1, .int .i64 q.2]] ++ #[]) W fun e W' => e = .returned (.bool (okMay q)) ∧ Chg (fun _ => False) W W' := by
  obtain ⟨a, b⟩ := q
  by_cases h2 : a = 2
  · subst h2
    go_enter Try.func32, Try.ntmps32
    go_wp2_with (go_at_call 33; go_in)
    all_goals go_returns
    all_goals refine ⟨by first | exact rfl | (refine ret_bool ?_; simp [okIdle, okMay, okIts, *]), ?_⟩
    all_goals repeat (first | exact Chg.refl _ _ | refine Chg.alloc ?_ _ | refine Chg.drew ?_ | refine Chg.setCell ?_ (.inr (by simp <;> omega)) _)
  · by_cases h0 : a = 0
    · subst h0
      go_enter Try.func32, Try.ntmps32
      go_wp2_with (go_at_call 33; go_in)
      all_goals go_returns
      all_goals refine ⟨by first | exact rfl | (refine ret_bool ?_; simp [okIdle, okMay, okIts, *]), ?_⟩
      all_goals repeat (first | exact Chg.refl _ _ | refine Chg.alloc ?_ _ | refine Chg.drew ?_ | refine Chg.setCell ?_ (.inr (by simp <;> omega)) _)
    · by_cases h1 : a = 1
      · subst h1
        go_enter Try.func32, Try.ntmps32
        go_wp2_with (go_at_call 33; go_in)
        all_goals go_returns
        all_goals refine ⟨by first | exact rfl | (refine ret_bool ?_; simp [okIdle, okMay, okIts, *]), ?_⟩
        all_goals repeat (first | exact Chg.refl _ _ | refine Chg.alloc ?_ _ | refine Chg.drew ?_ | refine Chg.setCell ?_ (.inr (by simp <;> omega)) _)
      · skip
        go_enter Try.func32, Try.ntmps32
        go_wp2_with (go_at_call 33; go_in)
        all_goals go_returns
        all_goals refine ⟨by first | exact rfl | (refine ret_bool ?_; simp [okIdle, okMay, okIts, *]), ?_⟩
        all_goals repeat (first | exact Chg.refl _ _ | refine Chg.alloc ?_ _ | refine Chg.drew ?_ | refine Chg.setCell ?_ (.inr (by simp <;> omega)) _)
set_option maxHeartbeats 2000000 in
theorem c_stop (ho : okMay q = true) : Calls Try.prog 34 (#[.agg #[.int .i64 q.1, .int .i64 q.2]] ++ #[]) W fun e W' => e = .returned (.agg #[.int .i64 (nxStop q).1, .int .i64 (nxStop q).2]) ∧ Chg (fun _ => False) W W' := by
  obtain ⟨a, b⟩ := q
  by_cases h2 : a = 2
  · subst h2
    go_enter Try.func34, Try.ntmps34
    go_wp2_with (go_at_call 33; go_in)
    all_goals go_returns
    all_goals refine ⟨by first | exact rfl | (refine ret_bool ?_; simp [okIdle, okMay, okIts, *]), ?_⟩
    all_goals repeat (first | exact Chg.refl _ _ | refine Chg.alloc ?_ _ | refine Chg.drew ?_ | refine Chg.setCell ?_ (.inr (by simp <;> omega)) _)
  · by_cases h0 : a = 0
    · subst h0
      go_enter Try.func34, Try.ntmps34
      go_wp2_with (go_at_call 33; go_in)
      all_goals go_returns
      all_goals refine ⟨by first | exact rfl | (refine ret_bool ?_; simp [okIdle, okMay, okIts, *]), ?_⟩
      all_goals repeat (first | exact Chg.refl _ _ | refine Chg.alloc ?_ _ | refine Chg.drew ?_ | refine Chg.setCell ?_ (.inr (by simp <;> omega)) _)
    · have h1 : a = 1 := by simp [okMay] at ho; omega
      subst h1
      go_enter Try.func34, Try.ntmps34
      go_wp2_with (go_at_call 33; go_in)
      all_goals go_returns
      all_goals refine ⟨by first | exact rfl | (refine ret_bool ?_; simp [okIdle, okMay, okIts, *]), ?_⟩
      all_goals repeat (first | exact Chg.refl _ _ | refine Chg.alloc ?_ _ | refine Chg.drew ?_ | refine Chg.setCell ?_ (.inr (by simp <;> omega)) _)
end Go.Proofs.Ytemnipdmclohmaa
