/- An act of any kind but the sixth; are kinds such? -/
import Derived.Test.YtemnipdmclohmaaPsD
namespace Go.Proofs.Ytemnipdmclohmaa
open Go.ChangeShapes Go.WideShapes Go.ChangeAt Go.RowKit Go.Deep
set_option linter.unusedVariables false

def pact (ps : List (Int × Int)) (kd i m : Int) : List (Int × Int) × Int :=
  if kd = 0 then chg ps i m okIdle (fun _ => (1, m)) else if kd = 1 then chg ps i 0 okRun (fun q => (2, q.2)) else if kd = 2 then chg ps i m (okIts m) (fun _ => (1, m))
  else if kd = 3 then chg ps i 0 okRun (fun _ => (0, -1)) else if kd = 4 then chg ps i 0 okMay nxStop else chg ps i 0 okStand nxGo
theorem act_0 (base T : Nat) (A : Option Addr) (ps : List (Int × Int)) (i m : Int) (W : World) (hT : Tb W base T A ps) :
    Calls Try.prog 10 #[.pointer (some ⟨T, 0, none⟩), .agg #[.int .i64 0, .int .i64 i, .int .i64 m]] W fun e W' => e = .returned (.int .i64 (chg ps i m okIdle (fun _ => (1, m))).2) ∧ TA W W' base T A (chg ps i m okIdle (fun _ => (1, m))).1 := by
  have hop := take_any base T A ps (W.alloc (.cells #[.int .i64 0, .int .i64 i, .int .i64 m] 34)) (hT.same ((Chg.refl _ _).alloc _)) i m
  generalize chg ps i m okIdle (fun _ => (1, m)) = r at hop ⊢
  have HOP := Lib.hid hop
  clear hop hT
  go_enter Try.func10, Try.ntmps10
  go_wp2_with (go_at_call 16; refine HOP.out.mono ?_; rintro e w1 ⟨rfl, hA⟩)
  go_ret
  exact ⟨rfl, TA.pre ((Chg.refl _ _).alloc _) hA⟩
theorem act_1 (base T : Nat) (A : Option Addr) (ps : List (Int × Int)) (i m : Int) (W : World) (hT : Tb W base T A ps) :
    Calls Try.prog 10 #[.pointer (some ⟨T, 0, none⟩), .agg #[.int .i64 1, .int .i64 i, .int .i64 m]] W fun e W' => e = .returned (.int .i64 (chg ps i 0 okRun (fun q => (2, q.2))).2) ∧ TA W W' base T A (chg ps i 0 okRun (fun q => (2, q.2))).1 := by
  have hop := enter_any base T A ps (W.alloc (.cells #[.int .i64 1, .int .i64 i, .int .i64 m] 34)) (hT.same ((Chg.refl _ _).alloc _)) i
  generalize chg ps i 0 okRun (fun q => (2, q.2)) = r at hop ⊢
  have HOP := Lib.hid hop
  clear hop hT
  go_enter Try.func10, Try.ntmps10
  go_wp2_with (go_at_call 17; refine HOP.out.mono ?_; rintro e w1 ⟨rfl, hA⟩)
  go_ret
  exact ⟨rfl, TA.pre ((Chg.refl _ _).alloc _) hA⟩
theorem act_2 (base T : Nat) (A : Option Addr) (ps : List (Int × Int)) (i m : Int) (W : World) (hT : Tb W base T A ps) :
    Calls Try.prog 10 #[.pointer (some ⟨T, 0, none⟩), .agg #[.int .i64 2, .int .i64 i, .int .i64 m]] W fun e W' => e = .returned (.int .i64 (chg ps i m (okIts m) (fun _ => (1, m))).2) ∧ TA W W' base T A (chg ps i m (okIts m) (fun _ => (1, m))).1 := by
  have hop := leave_any base T A ps (W.alloc (.cells #[.int .i64 2, .int .i64 i, .int .i64 m] 34)) (hT.same ((Chg.refl _ _).alloc _)) i m
  generalize chg ps i m (okIts m) (fun _ => (1, m)) = r at hop ⊢
  have HOP := Lib.hid hop
  clear hop hT
  go_enter Try.func10, Try.ntmps10
  go_wp2_with (go_at_call 21; refine HOP.out.mono ?_; rintro e w1 ⟨rfl, hA⟩)
  go_ret
  exact ⟨rfl, TA.pre ((Chg.refl _ _).alloc _) hA⟩
theorem act_3 (base T : Nat) (A : Option Addr) (ps : List (Int × Int)) (i m : Int) (W : World) (hT : Tb W base T A ps) :
    Calls Try.prog 10 #[.pointer (some ⟨T, 0, none⟩), .agg #[.int .i64 3, .int .i64 i, .int .i64 m]] W fun e W' => e = .returned (.int .i64 (chg ps i 0 okRun (fun _ => (0, -1))).2) ∧ TA W W' base T A (chg ps i 0 okRun (fun _ => (0, -1))).1 := by
  have hop := release_any base T A ps (W.alloc (.cells #[.int .i64 3, .int .i64 i, .int .i64 m] 34)) (hT.same ((Chg.refl _ _).alloc _)) i
  generalize chg ps i 0 okRun (fun _ => (0, -1)) = r at hop ⊢
  have HOP := Lib.hid hop
  clear hop hT
  go_enter Try.func10, Try.ntmps10
  go_wp2_with (go_at_call 22; refine HOP.out.mono ?_; rintro e w1 ⟨rfl, hA⟩)
  go_ret
  exact ⟨rfl, TA.pre ((Chg.refl _ _).alloc _) hA⟩
theorem act_4 (base T : Nat) (A : Option Addr) (ps : List (Int × Int)) (i m : Int) (W : World) (hT : Tb W base T A ps) :
    Calls Try.prog 10 #[.pointer (some ⟨T, 0, none⟩), .agg #[.int .i64 4, .int .i64 i, .int .i64 m]] W fun e W' => e = .returned (.int .i64 (chg ps i 0 okMay nxStop).2) ∧ TA W W' base T A (chg ps i 0 okMay nxStop).1 := by
  have hop := stop_any base T A ps (W.alloc (.cells #[.int .i64 4, .int .i64 i, .int .i64 m] 34)) (hT.same ((Chg.refl _ _).alloc _)) i
  generalize chg ps i 0 okMay nxStop = r at hop ⊢
  have HOP := Lib.hid hop
  clear hop hT
  go_enter Try.func10, Try.ntmps10
  go_wp2_with (go_at_call 18; refine HOP.out.mono ?_; rintro e w1 ⟨rfl, hA⟩)
  go_ret
  exact ⟨rfl, TA.pre ((Chg.refl _ _).alloc _) hA⟩
theorem act_5 (base T : Nat) (A : Option Addr) (ps : List (Int × Int)) (i m : Int) (W : World) (hT : Tb W base T A ps) :
    Calls Try.prog 10 #[.pointer (some ⟨T, 0, none⟩), .agg #[.int .i64 5, .int .i64 i, .int .i64 m]] W fun e W' => e = .returned (.int .i64 (chg ps i 0 okStand nxGo).2) ∧ TA W W' base T A (chg ps i 0 okStand nxGo).1 := by
  have hop := go_any base T A ps (W.alloc (.cells #[.int .i64 5, .int .i64 i, .int .i64 m] 34)) (hT.same ((Chg.refl _ _).alloc _)) i
  generalize chg ps i 0 okStand nxGo = r at hop ⊢
  have HOP := Lib.hid hop
  clear hop hT
  go_enter Try.func10, Try.ntmps10
  go_wp2_with (go_at_call 23; refine HOP.out.mono ?_; rintro e w1 ⟨rfl, hA⟩)
  go_ret
  exact ⟨rfl, TA.pre ((Chg.refl _ _).alloc _) hA⟩
theorem act_any (base T : Nat) (A : Option Addr) (ps : List (Int × Int)) (kd i m : Int) (W : World) (hT : Tb W base T A ps) (h0 : 0 ≤ kd) (h6 : kd < 6) :
    Calls Try.prog 10 #[.pointer (some ⟨T, 0, none⟩), .agg #[.int .i64 kd, .int .i64 i, .int .i64 m]] W fun e W' => e = .returned (.int .i64 (pact ps kd i m).2) ∧ TA W W' base T A (pact ps kd i m).1 := by
  have hk : kd = 0 ∨ kd = 1 ∨ kd = 2 ∨ kd = 3 ∨ kd = 4 ∨ kd = 5 := by omega
  rcases hk with rfl | rfl | rfl | rfl | rfl | rfl
  · exact act_0 base T A ps i m W hT
  · exact act_1 base T A ps i m W hT
  · exact act_2 base T A ps i m W hT
  · exact act_3 base T A ps i m W hT
  · exact act_4 base T A ps i m W hT
  · exact act_5 base T A ps i m W hT
set_option maxHeartbeats 1000000 in
theorem light_any (A : Option Addr) (len cap : Nat) (z : Nat → Int) (W : World) (h : Flat W A len 3 z) :
    Calls Try.prog 6 #[.slice A len cap] W fun e W' => W' = W ∧ (e = .returned (.bool false) ∨ e = .returned (.bool true) ∧ len ≤ 60 ∧ ∀ k, k < len → 0 ≤ z (k * 3) ∧ z (k * 3) ≤ 6) := by
  have hm := h.1
  unfold maxLen at hm
  go_enter Try.func6, Try.ntmps6
  by_cases h60 : 60 < len
  · go_wp2
    go_ret
    first | exact ⟨rfl, .inl rfl⟩ | exact .inl rfl
  · go_wp2
    go_loopw [3] (fun i wr => ∃ k : Nat, k ≤ len ∧ i = .int .i64 k ∧ Hid (wr = W) ∧ Hid (∀ j, j < k → 0 ≤ z (j * 3) ∧ z (j * 3) ≤ 6)) (fun i _ => len - (intOf i).toNat)
    case atStart => exact ⟨0, Nat.zero_le _, rfl, rfl, fun j hj => by omega⟩
    case round =>
      obtain ⟨k, hk, rfl, HW, HZ⟩ := hrel
      obtain rfl := HW.out
      have k0 : (0 : Int) ≤ (k : Int) := by omega
      by_cases hlt : k < len
      · obtain ⟨b, of, rfl, hbl, hc⟩ := h.2 (by omega)
        have k1 : (k : Int) < (len : Int) := by omega
        have e0 := (hc (k * 3) (by omega)).1
        clear hc
        by_cases hz : z (k * 3) < 0
        · go_wp2
          go_ret
          first | exact ⟨rfl, .inl rfl⟩ | exact .inl rfl
        · have hz' : 0 ≤ z (k * 3) := by omega
          by_cases hz6 : 6 < z (k * 3)
          · go_wp2
            go_ret
            first | exact ⟨rfl, .inl rfl⟩ | exact .inl rfl
          · have hz6' : z (k * 3) ≤ 6 := by omega
            go_wp2
            refine ⟨⟨k + 1, by omega, by go_num, by first | exact trivial | rfl, fun j hj => ?_⟩, by simp [intOf]; omega⟩
            by_cases hjk : j = k
            · subst hjk; exact ⟨hz', hz6'⟩
            · exact HZ.out j (by omega)
      · have hkn : k = len := by omega
        subst hkn
        go_wp2
        go_ret
        first | exact ⟨rfl, .inr ⟨rfl, by omega, HZ.out⟩⟩ | exact .inr ⟨rfl, by omega, HZ.out⟩
end Go.Proofs.Ytemnipdmclohmaa
