/- Contract: Insert. -/
import Derived.Test.YtfceebbbhjjnaaaRcut
import Derived.Test.YtfceebbbhjjnaaaUp
import Derived.Handy
namespace Go.Proofs.Ytfceebbbhjjnaaa
open Go.ChangeShapes Go.WideShapes Go.ChangeAt Go.RowKit Go.Deep
set_option linter.unusedVariables false

def InsAt (xs : List Int) (v : Int) (k : Nat) : Prop := ∀ j (h : j < xs.length), j < k → xs[j] < v
set_option maxHeartbeats 4000000 in
theorem insert_any (A : Option Addr) (n c : Nat) (v : Int) (xs : List Int) (W : World) (hA : Rd W 1 A n (ints xs)) (hn : n ≤ 100000) (hnc : n ≤ c) (hcm : c ≤ maxLen) (hnil : n = 0 → A = none ∧ c = 0) :
    Calls Try.prog 30 #[.slice A n c, .int .i64 v] W fun e W' => ∃ A' c', e = .returned (.slice A' (n + 1) c') ∧ Row W' W.heap.size 3 1 A' (n + 1) c' (ints (ins xs v)) ∧ Chg (fun _ => False) W W' := by
  have hl := hA.len
  subst hl
  unfold maxLen at hcm
  have hrow : Row (W.alloc (.cells #[] 3)) W.heap.size 3 1 (some ⟨W.heap.size, 0, none⟩) 0 0 (ints []) := ⟨rfl, Nat.le_refl _, by decide, .inr ⟨W.heap.size, #[], rfl, Nat.le_refl _, Blk.new _ _ _, by simp, rfl⟩⟩
  have HR := Lib.hid hrow
  have HN := Lib.hid hnil
  clear hrow
  have l0 : (xs.length : Int) ≤ 100000 := by omega
  by_cases hz : xs.length = 0
  · have hxs : xs = [] := List.eq_nil_of_length_eq_zero hz
    subst hxs
    obtain ⟨rfl, rfl⟩ := hnil rfl
    clear hz HN
    go_enter Try.func30, Try.ntmps30
    go_wp2
    go_loop [5] (fun k => k = .int .i64 0) (fun k => 0)
    case atStart => rfl
    case round =>
      subst hrel
      go_wp2_with (first
        | (at_builtin; refine wpList_app rfl (.tmp 21) (.tmp 24) rfl W.heap.size _ 0 0 [] rfl HR.out none 0 0 [] rfl (Rd.nil _ _ _) (by omega) (by simp) ?_; intro A2 c2 w2 r2 g2 _; have R2 := Lib.hid r2; have C2 : Chg (fun _ => False) W w2 := ((Chg.refl _ _).alloc _).grown g2 (fun g hg => .inr (HR.out.blk_lt g hg).1); have K2 := Lib.hid C2; have s2 := C2.size; clear r2 g2 C2)
        | (at_builtin; refine wpList_app rfl (.tmp 26) (.tmp 28) rfl W.heap.size A2 0 c2 [] rfl (R2.out.alloc _) _ 1 1 [v] rfl (Rd.lit _ _ _) (by omega) (by simp; omega) ?_; intro A3 c3 w3 r3 g3 _; have R3 := Lib.hid r3; have C3 : Chg (fun _ => False) W w3 := (K2.out.alloc _).grown g3 (fun g hg => .inr (R2.out.blk_lt g hg).1); have K3 := Lib.hid C3; have s3 := C3.size; clear r3 g3 C3)
        | (at_builtin; refine wpList_app rfl (.tmp 30) (.tmp 33) rfl W.heap.size A3 1 c3 [v] rfl R3.out none 0 0 [] rfl (Rd.nil _ _ _) (by omega) (by omega) ?_; intro A4 c4 w4 r4 g4 _; have R4 := Lib.hid r4; have C4 : Chg (fun _ => False) W w4 := K3.out.grown g4 (fun g hg => .inr (R3.out.blk_lt g hg).1); have K4 := Lib.hid C4; clear r4 g4 C4))
      go_ret
      exact ⟨A4, c4, rfl, R4.out, K4.out⟩
  · obtain ⟨b, o, rfl, hb, hc⟩ := hA.at_ (by omega)
    have HA := Lib.hid hA
    have HC := Lib.hid hc
    clear hA hc hnil
    go_enter Try.func30, Try.ntmps30
    go_wp2
    go_loop [5] (fun k => ∃ j : Nat, j ≤ xs.length ∧ k = .int .i64 j ∧ Hid (InsAt xs v j)) (fun k => xs.length - (intOf k).toNat)
    case atStart => exact ⟨0, Nat.zero_le _, rfl, Lib.hid (fun j h hj => absurd hj (by omega))⟩
    case round =>
      obtain ⟨j, hj, rfl, hI⟩ := hrel
      have j0 : (0 : Int) ≤ j := by omega
      have j2 : (j : Int) ≤ c := by omega
      by_cases hgo : ∃ h : j < xs.length, xs[j] < v
      · obtain ⟨hlt, hv⟩ := hgo
        have e0 := HC.out j hlt
        have hs : Hid (InsAt xs v (j + 1)) := Lib.hid (fun i h hi => by
          by_cases e : i = j
          · subst e; exact hv
          · exact hI.out i h (by omega))
        generalize xs[j] = x at *
        have j1 : (j : Int) < xs.length := by omega
        go_wp2
        go_round
        case measure => simp [intOf]; omega
        case rel => exact ⟨j + 1, by omega, by go_num, hs⟩
      · have hins : Hid (ins xs v = xs.take j ++ [v] ++ xs.drop j) := Lib.hid (ins_at hj hI.out (fun h hv => hgo ⟨h, hv⟩))
        have j1 : (j : Int) ≤ xs.length := by omega
        have hnc2 : (xs.length : Int) ≤ c := by omega
        have r1 := Lib.hid (HA.out.take_ hj)
        have H9 := Lib.hid (HA.out.tail_ hj hnc)
        by_cases hcj : c = j
        · have H8 := H9.out
          rw [if_pos hcj] at H8
          have H8 := Lib.hid H8
          obtain rfl : j = xs.length := by omega
          have HD : Hid (xs.drop xs.length = []) := Lib.hid (List.drop_of_length_le (Nat.le_refl _))
          subst hcj
          go_wp2_with (first
            | (at_builtin; refine wpList_app rfl (.tmp 21) (.tmp 24) rfl W.heap.size _ 0 0 [] rfl HR.out _ xs.length _ (xs.take xs.length) rfl (r1.out.alloc _) (by omega) (by simp) ?_; intro A2 c2 w2 r2 g2 _; rw [Nat.zero_add, List.nil_append] at r2; have R2 := Lib.hid r2; have C2 : Chg (fun _ => False) W w2 := ((Chg.refl _ _).alloc _).grown g2 (fun g hg => .inr (HR.out.blk_lt g hg).1); have K2 := Lib.hid C2; have s2 := C2.size; clear r2 g2 C2)
            | (at_builtin; refine wpList_app rfl (.tmp 26) (.tmp 28) rfl W.heap.size A2 xs.length c2 (xs.take xs.length) (by simp [go_sem]) (R2.out.alloc _) _ 1 1 [v] rfl (Rd.lit _ _ _) (by omega) (by simp; omega) ?_; intro A3 c3 w3 r3 g3 _; have R3 := Lib.hid r3; have C3 : Chg (fun _ => False) W w3 := (K2.out.alloc _).grown g3 (fun g hg => .inr (R2.out.blk_lt g hg).1); have K3 := Lib.hid C3; have s3 := C3.size; clear r3 g3 C3)
            | (at_builtin; refine wpList_app rfl (.tmp 30) (.tmp 33) rfl W.heap.size A3 (xs.length + 1) c3 (xs.take xs.length ++ [v]) rfl R3.out _ 0 _ [] rfl (Rd.nil _ _ _) (by omega) (by omega) ?_; intro A4 c4 w4 r4 g4 _; have R4 := Lib.hid r4; have C4 : Chg (fun _ => False) W w4 := K3.out.grown g4 (fun g hg => .inr (R3.out.blk_lt g hg).1); have K4 := Lib.hid C4; clear r4 g4 C4))
          go_ret
          have R5 := R4.out
          rw [List.append_nil, show xs.take xs.length ++ [v] = ins xs v by rw [hins.out, HD.out, List.append_nil]] at R5
          exact ⟨A4, c4, rfl, R5, K4.out⟩
        · have H8 := H9.out
          rw [if_neg hcj] at H8
          have H8 := Lib.hid H8
          have hcj2 : (j : Int) < c := by omega
          by_cases hlt : j < xs.length
          · have e0 := HC.out j hlt
            have hv : ¬ xs[j] < v := fun hv => hgo ⟨hlt, hv⟩
            have j3 : (j : Int) < xs.length := by omega
            generalize xs[j] = x at *
            go_wp2_with (first
              | (at_builtin; refine wpList_app rfl (.tmp 21) (.tmp 24) rfl W.heap.size _ 0 0 [] rfl HR.out _ j _ (xs.take j) rfl (r1.out.alloc _) (by omega) (by simp) ?_; intro A2 c2 w2 r2 g2 _; rw [Nat.zero_add, List.nil_append] at r2; have R2 := Lib.hid r2; have C2 : Chg (fun _ => False) W w2 := ((Chg.refl _ _).alloc _).grown g2 (fun g hg => .inr (HR.out.blk_lt g hg).1); have K2 := Lib.hid C2; have s2 := C2.size; clear r2 g2 C2)
              | (at_builtin; refine wpList_app rfl (.tmp 26) (.tmp 28) rfl W.heap.size A2 j c2 (xs.take j) (by simp [go_sem]) (R2.out.alloc _) _ 1 1 [v] rfl (Rd.lit _ _ _) (by omega) (by simp; omega) ?_; intro A3 c3 w3 r3 g3 _; have R3 := Lib.hid r3; have C3 : Chg (fun _ => False) W w3 := (K2.out.alloc _).grown g3 (fun g hg => .inr (R2.out.blk_lt g hg).1); have K3 := Lib.hid C3; have s3 := C3.size; clear r3 g3 C3)
              | (at_builtin; refine wpList_app rfl (.tmp 30) (.tmp 33) rfl W.heap.size A3 (j + 1) c3 (xs.take j ++ [v]) rfl R3.out _ (xs.length - j) _ (xs.drop j) rfl (H8.out.kept K3.out (fun _ _ h => h)) (by omega) (by omega) ?_; intro A4 c4 w4 r4 g4 _; have R4 := Lib.hid r4; have C4 : Chg (fun _ => False) W w4 := K3.out.grown g4 (fun g hg => .inr (R3.out.blk_lt g hg).1); have K4 := Lib.hid C4; clear r4 g4 C4))
            go_ret
            have hn1 : j + 1 + (xs.length - j) = xs.length + 1 := by omega
            have R5 := R4.out
            rw [hn1, ← hins.out] at R5
            exact ⟨A4, c4, by rw [← hn1]; rfl, R5, K4.out⟩
          · have j3 : ¬ (j : Int) < xs.length := by omega
            go_wp2_with (first
              | (at_builtin; refine wpList_app rfl (.tmp 21) (.tmp 24) rfl W.heap.size _ 0 0 [] rfl HR.out _ j _ (xs.take j) rfl (r1.out.alloc _) (by omega) (by simp) ?_; intro A2 c2 w2 r2 g2 _; rw [Nat.zero_add, List.nil_append] at r2; have R2 := Lib.hid r2; have C2 : Chg (fun _ => False) W w2 := ((Chg.refl _ _).alloc _).grown g2 (fun g hg => .inr (HR.out.blk_lt g hg).1); have K2 := Lib.hid C2; have s2 := C2.size; clear r2 g2 C2)
              | (at_builtin; refine wpList_app rfl (.tmp 26) (.tmp 28) rfl W.heap.size A2 j c2 (xs.take j) (by simp [go_sem]) (R2.out.alloc _) _ 1 1 [v] rfl (Rd.lit _ _ _) (by omega) (by simp; omega) ?_; intro A3 c3 w3 r3 g3 _; have R3 := Lib.hid r3; have C3 : Chg (fun _ => False) W w3 := (K2.out.alloc _).grown g3 (fun g hg => .inr (R2.out.blk_lt g hg).1); have K3 := Lib.hid C3; have s3 := C3.size; clear r3 g3 C3)
              | (at_builtin; refine wpList_app rfl (.tmp 30) (.tmp 33) rfl W.heap.size A3 (j + 1) c3 (xs.take j ++ [v]) rfl R3.out _ (xs.length - j) _ (xs.drop j) rfl (H8.out.kept K3.out (fun _ _ h => h)) (by omega) (by omega) ?_; intro A4 c4 w4 r4 g4 _; have R4 := Lib.hid r4; have C4 : Chg (fun _ => False) W w4 := K3.out.grown g4 (fun g hg => .inr (R3.out.blk_lt g hg).1); have K4 := Lib.hid C4; clear r4 g4 C4))
            go_ret
            have hn1 : j + 1 + (xs.length - j) = xs.length + 1 := by omega
            have R5 := R4.out
            rw [hn1, ← hins.out] at R5
            exact ⟨A4, c4, by rw [← hn1]; rfl, R5, K4.out⟩
end Go.Proofs.Ytfceebbbhjjnaaa
