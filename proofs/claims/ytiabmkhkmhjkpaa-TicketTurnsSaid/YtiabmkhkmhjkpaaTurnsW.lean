/- The walk of the law TicketTurns (P404). -/
import Derived.Test.YtiabmkhkmhjkpaaTick
namespace Go.Proofs.Ytiabmkhkmhjkpaa
open Go.ChangeShapes Go.WideShapes Go.ChangeAt Go.RowKit
set_option linter.unusedVariables false

set_option maxHeartbeats 1000000 in
theorem leave_hit (B K L R : Nat) (v0 v1 n : Int) (W : World) (hC : Cel W L R v0 v1 n) (hK : Loc W K L R) (hB : B ≤ L) (hB2 : B ≤ R) (hv0 : 0 ≤ v1) (hv1 : v1 < 1000) (hn0 : 0 ≤ n) (hn1 : n < 900) :
    Calls Try.prog 16 #[.pointer (some ⟨K, 0, none⟩), .int .i64 v1] W fun e W' => e = .returned (.int .i64 0) ∧ Aft W W' B L R v0 (v1 + 1) (n + 1 + 1) := by
  have hmf : ∀ (fn : Fn) (first cap : Array Value) (W : World), (Instr.makeFunc fn first cap).run Try.prog W = .ok (.func fn first cap) W := fun _ _ _ _ => rfl
  go_enter Try.func16, Try.ntmps16
  go_wp2_with fail
  refine (mine_any B K L R v0 v1 n v1 _ hC hK hB hB2 hn0 (by omega)).mono ?_
  rintro e w1 ⟨rfl, hC1, hb1, hf1⟩
  obtain ⟨k0, k1, hk1, hk2⟩ := hK.far hf1
  go_wp2_with (go_at_call 8; refine (store_1 B L R v0 v1 (v1 + 1) (n + 1) _ hC1 hB hB2 (by omega) (by omega)).mono ?_; rintro e w2 ⟨rfl, hC2, hb2, hf2⟩)
  go_ret
  exact ⟨rfl, hC2, hb1.trans hb2, hf1.trans hf2⟩
set_option maxHeartbeats 1000000 in
theorem leave_miss (B K L R : Nat) (v0 v1 n t : Int) (W : World) (hC : Cel W L R v0 v1 n) (hK : Loc W K L R) (hvt : (v1 == t) = false) (hB : B ≤ L) (hB2 : B ≤ R) (hn0 : 0 ≤ n) (hn1 : n < 900) :
    Calls Try.prog 16 #[.pointer (some ⟨K, 0, none⟩), .int .i64 t] W fun e W' => e = .returned (.int .i64 9) ∧ Aft W W' B L R v0 v1 (n + 1) := by
  have hmf : ∀ (fn : Fn) (first cap : Array Value) (W : World), (Instr.makeFunc fn first cap).run Try.prog W = .ok (.func fn first cap) W := fun _ _ _ _ => rfl
  go_enter Try.func16, Try.ntmps16
  go_wp2_with fail
  refine (mine_any B K L R v0 v1 n t _ hC hK hB hB2 hn0 (by omega)).mono ?_
  rintro e w1 ⟨rfl, hC1, hb1, hf1⟩
  go_wp2
  go_ret
  exact ⟨rfl, hC1, hb1, hf1⟩

theorem new_lock (L R : Nat) (v0 v1 n : Int) (W : World) (hC : Cel W L R v0 v1 n) : Calls Try.prog 9 #[.pointer (some ⟨L, 0, none⟩), .int .i64 0] W fun e W' => e = .returned (.pointer (some ⟨W.heap.size, 0, none⟩)) ∧ W' = W.alloc (.cells #[.pointer (some ⟨L, 0, none⟩), .int .i64 0] 55) := by
  obtain ⟨c0, c1, c2, c3, f1, f2, f3, hLR⟩ := hC
  go_enter Try.func9, Try.ntmps9
  go_wp2
  go_ret
  exact ⟨rfl, rfl⟩
/-- What holds at the head of a round. -/
def Round (w : World) (len : Nat) (tk gn i : Value) (wr : World) : Prop :=
  ∃ (k : Nat) (v0 v1 n : Int), k ≤ len ∧ i = .int .i64 k ∧ tk = .int .i64 v0 ∧ gn = .int .i64 v1 ∧ (0 ≤ v1 ∧ v1 ≤ v0 ∧ v0 ≤ k ∧ 0 ≤ n ∧ n ≤ 3 * k) ∧ Cel wr (w.heap.size + 1) w.heap.size v0 v1 n ∧ Loc wr (w.heap.size + 1 + 1) (w.heap.size + 1) w.heap.size ∧ Below w.heap.size w wr
theorem Round.step {w wr : World} {len k : Nat} {v0 v1 n : Int} (hk : k < len) (hs : 0 ≤ v1 ∧ v1 ≤ v0 ∧ v0 ≤ (k : Int) + 1 ∧ 0 ≤ n ∧ n ≤ 3 * (k : Int) + 3) (hC : Cel wr (w.heap.size + 1) w.heap.size v0 v1 n) (hK : Loc wr (w.heap.size + 1 + 1) (w.heap.size + 1) w.heap.size) (hb : Below w.heap.size w wr) :
    Round w len (.int .i64 v0) (.int .i64 v1) (.int .i64 ((k : Int) + 1)) wr :=
  ⟨k + 1, v0, v1, n, by omega, by go_num, rfl, rfl, by omega, hC, hK, hb⟩

set_option maxRecDepth 100000 in
set_option maxHeartbeats 8000000 in
theorem walk_ticketTurns (A : Option Addr) (len cap : Nat) (z : Nat → Int) (w : World) (hF : Flat w A len 2 z) :
    Calls Try.prog 4 #[.slice A len cap] w fun e w' => e = .returned (.bool true) ∧ Below w.heap.size w w' := by
  have hm := hF.1
  unfold maxLen at hm
  by_cases h100 : 100 < len
  · go_enter Try.func4, Try.ntmps4
    go_wp2_with (go_at_call 6; refine (alive_any _).mono ?_; rintro e w' ⟨rfl, hb⟩)
    go_ret
    exact ⟨rfl, hb⟩
  · have hC00 : Cel ((w.alloc (.cells #[.int .i64 0, .int .i64 0] 2)).alloc (.cells #[.slice (some ⟨w.heap.size, 0, none⟩) 2 2, .int .i64 0] 50)) (w.heap.size + 1) w.heap.size 0 0 0 := ⟨by simp [go_sem], by simp [go_sem], by simp [go_sem], by simp [go_sem], by simp [go_sem], by simp [go_sem], by simp [go_sem], by omega⟩
    have hC0 : Cel (((w.alloc (.cells #[.int .i64 0, .int .i64 0] 2)).alloc (.cells #[.slice (some ⟨w.heap.size, 0, none⟩) 2 2, .int .i64 0] 50)).alloc (.cells #[.pointer (some ⟨w.heap.size + 1, 0, none⟩), .int .i64 0] 55)) (w.heap.size + 1) w.heap.size 0 0 0 := ⟨by simp [go_sem], by simp [go_sem], by simp [go_sem], by simp [go_sem], by simp [go_sem], by simp [go_sem], by simp [go_sem], by omega⟩
    have hK0 : Loc (((w.alloc (.cells #[.int .i64 0, .int .i64 0] 2)).alloc (.cells #[.slice (some ⟨w.heap.size, 0, none⟩) 2 2, .int .i64 0] 50)).alloc (.cells #[.pointer (some ⟨w.heap.size + 1, 0, none⟩), .int .i64 0] 55)) (w.heap.size + 1 + 1) (w.heap.size + 1) w.heap.size := ⟨by simp [go_sem], by simp [go_sem], by omega, by omega⟩
    have hB0 : Below w.heap.size w (((w.alloc (.cells #[.int .i64 0, .int .i64 0] 2)).alloc (.cells #[.slice (some ⟨w.heap.size, 0, none⟩) 2 2, .int .i64 0] 50)).alloc (.cells #[.pointer (some ⟨w.heap.size + 1, 0, none⟩), .int .i64 0] 55)) := by go_grown
    go_enter Try.func4, Try.ntmps4
    go_wp2_with (first | (go_at_call 7; refine (new_2 _).mono ?_; rintro e w1 ⟨rfl, rfl⟩) | (go_at_call 9; refine (new_lock _ w.heap.size 0 0 0 _ hC00).mono ?_; rintro e w1 ⟨rfl, rfl⟩))
    go_loopw [4, 5, 6] (fun tk gn i wr => Round w len tk gn i wr) (fun _ _ i _ => len - (intOf i).toNat)
    case atStart => exact ⟨0, 0, 0, 0, Nat.zero_le _, rfl, rfl, rfl, by omega, hC0, hK0, hB0⟩
    case round =>
      clear hC0 hK0 hB0
      obtain ⟨k, v0, v1, n, hk, rfl, rfl, rfl, hs, hC, hK, hb⟩ := hrel
      by_cases hlt : k < len
      · obtain ⟨b, o, rfl, hbl, hc⟩ := hF.2 (by omega)
        have e0 : wr.cell? ⟨b, o + k * 2, none⟩ = some (.int .i64 (z (k * 2))) := (hb.cell (p := ⟨b, o + k * 2, none⟩) hbl).trans (hc (k * 2) (by omega)).1
        have e1 : wr.cell? ⟨b, o + k * 2 + 1, none⟩ = some (.int .i64 (z (k * 2 + 1))) := (hb.cell (p := ⟨b, o + k * 2 + 1, none⟩) hbl).trans (hc (k * 2 + 1) (by omega)).1
        generalize z (k * 2) = kd at e0
        generalize z (k * 2 + 1) = t at e1
        clear hF hc
        by_cases hkd : kd = 0
        · subst hkd
          go_wp2_with (go_at_call 14; refine (take_any w.heap.size _ _ _ v0 v1 n _ hC hK (by omega) (by omega) (by omega) (by omega) (by omega) (by omega)).mono ?_; rintro e w1 ⟨rfl, hC1, hb1, hf1⟩)
          go_roundw
          case rel => exact Round.step hlt (by omega) hC1 (hK.far hf1) (hb.trans hb1)
          case measure => simp [intOf]; omega
        have hk0 : (kd == 0) = false := by simpa using hkd
        clear hkd
        by_cases ht0 : t < 0
        · go_wp2
          go_roundw
          case rel => exact Round.step hlt (by omega) hC hK hb
          case measure => simp [intOf]; omega
        by_cases ht1 : v0 ≤ t
        · have d1 : decide (v0 ≤ t) = true := decide_eq_true ht1
          go_wp2
          go_roundw
          case rel => exact Round.step hlt (by omega) hC hK hb
          case measure => simp [intOf]; omega
        have d1 : decide (v0 ≤ t) = false := decide_eq_false ht1
        by_cases htv : t = v1
        · obtain rfl : v1 = t := htv.symm
          by_cases hk2 : kd = 2
          · subst hk2
            go_wp2_with (first | (go_at_call 15; refine (mine_any w.heap.size _ _ _ v0 v1 n _ _ hC hK (by omega) (by omega) (by omega) (by omega)).mono ?_; rintro e w1 ⟨rfl, hC1, hb1, hf1⟩; have hK1 := hK.far hf1; have x0 := (hb1.cell (p := ⟨b, o + k * 2, none⟩) hbl).trans e0; have x1 := (hb1.cell (p := ⟨b, o + k * 2 + 1, none⟩) hbl).trans e1) | (go_at_call 16; refine (leave_hit w.heap.size _ _ _ v0 v1 (n + 1) _ hC1 hK1 (by omega) (by omega) (by omega) (by omega) (by omega) (by omega)).mono ?_; rintro e w2 ⟨rfl, hC2, hb2, hf2⟩; have y0 := (hb2.cell (p := ⟨b, o + k * 2, none⟩) hbl).trans x0))
            go_roundw
            case rel => exact Round.step hlt (by omega) hC2 (hK1.far hf2) ((hb.trans hb1).trans hb2)
            case measure => simp [intOf]; omega
          · have hk2' : (kd == 2) = false := by simpa using hk2
            clear hk2
            go_wp2_with (go_at_call 15; refine (mine_any w.heap.size _ _ _ v0 v1 n _ _ hC hK (by omega) (by omega) (by omega) (by omega)).mono ?_; rintro e w1 ⟨rfl, hC1, hb1, hf1⟩; have hK1 := hK.far hf1; have x0 := (hb1.cell (p := ⟨b, o + k * 2, none⟩) hbl).trans e0; have x1 := (hb1.cell (p := ⟨b, o + k * 2 + 1, none⟩) hbl).trans e1)
            go_roundw
            case rel => exact Round.step hlt (by omega) hC1 hK1 (hb.trans hb1)
            case measure => simp [intOf]; omega
        · have hvt : (v1 == t) = false := by rw [beq_eq_false_iff_ne]; omega
          have htv' : (t == v1) = false := by rw [beq_eq_false_iff_ne]; omega
          clear htv
          by_cases hk2 : kd = 2
          · subst hk2
            go_wp2_with (first | (go_at_call 15; refine (mine_any w.heap.size _ _ _ v0 v1 n _ _ hC hK (by omega) (by omega) (by omega) (by omega)).mono ?_; rintro e w1 ⟨rfl, hC1, hb1, hf1⟩; have hK1 := hK.far hf1; have x0 := (hb1.cell (p := ⟨b, o + k * 2, none⟩) hbl).trans e0; have x1 := (hb1.cell (p := ⟨b, o + k * 2 + 1, none⟩) hbl).trans e1) | (go_at_call 16; refine (leave_miss w.heap.size _ _ _ v0 v1 (n + 1) _ _ hC1 hK1 hvt (by omega) (by omega) (by omega) (by omega)).mono ?_; rintro e w2 ⟨rfl, hC2, hb2, hf2⟩; have y0 := (hb2.cell (p := ⟨b, o + k * 2, none⟩) hbl).trans x0))
            go_roundw
            case rel => exact Round.step hlt (by omega) hC2 (hK1.far hf2) ((hb.trans hb1).trans hb2)
            case measure => simp [intOf]; omega
          · have hk2' : (kd == 2) = false := by simpa using hk2
            clear hk2
            go_wp2_with (go_at_call 15; refine (mine_any w.heap.size _ _ _ v0 v1 n _ _ hC hK (by omega) (by omega) (by omega) (by omega)).mono ?_; rintro e w1 ⟨rfl, hC1, hb1, hf1⟩; have hK1 := hK.far hf1; have x0 := (hb1.cell (p := ⟨b, o + k * 2, none⟩) hbl).trans e0; have x1 := (hb1.cell (p := ⟨b, o + k * 2 + 1, none⟩) hbl).trans e1)
            go_roundw
            case rel => exact Round.step hlt (by omega) hC1 hK1 (hb.trans hb1)
            case measure => simp [intOf]; omega
      · go_wp2_with (first | (go_at_call 17; refine (waits_any w.heap.size _ _ _ v0 v1 n _ hC hK (by omega) (by omega) (by omega) (by omega) (by omega) (by omega) (by omega)).mono ?_; rintro e w1 ⟨rfl, hb1⟩) | (go_at_call 6; refine (alive_any _).mono ?_; rintro e w2 ⟨rfl, hb2⟩))
        go_ret
        exact ⟨rfl, (hb.trans hb1).trans (hb2.mono (Nat.le_trans hb.size hb1.size))⟩
end Go.Proofs.Ytiabmkhkmhjkpaa
