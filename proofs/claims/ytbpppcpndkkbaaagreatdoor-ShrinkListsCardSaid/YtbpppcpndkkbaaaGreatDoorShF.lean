/- Contracts: slices.Concat of two lists of entries; the program's Without. -/
import Derived.Test.YtbpppcpndkkbaaaGreatDoorShD
namespace Go.Proofs.YtbpppcpndkkbaaaGreatDoor
open Go.ChangeShapes Go.WideShapes Go.ChangeAt Go.RowKit Go.Deep
set_option linter.unusedVariables false

def szk (n1 n2 : Nat) : Nat → Nat
  | 0 => 0
  | 1 => n1
  | _ => n1 + n2
def upk (xs ys : List (List Int)) : Nat → List (List Int)
  | 0 => []
  | 1 => xs
  | _ => xs ++ ys
def CatR (W : World) (n1 n2 : Nat) (xs ys : List (List Int)) (ov iv : Value) (wr : World) : Prop :=
  ∃ (k : Nat) (A' : Option Addr) (n' c' : Nat), k ≤ 2 ∧ iv = .int .i64 k ∧ n' = szk n1 n2 k ∧ ov = .slice A' n' c' ∧ Row wr W.heap.size 47 3 A' n' c' (kv (upk xs ys k)) ∧ Chg (fun _ => False) W wr
set_option maxHeartbeats 2000000 in
theorem concat_two (S : Nat) (A1 A2 : Option Addr) (n1 c1 n2 c2 : Nat) (xs ys : List (List Int)) (W : World) (hS : Blk W S 22 #[.slice A1 n1 c1, .slice A2 n2 c2]) (h1 : Rd W 3 A1 n1 (kv xs)) (h2 : Rd W 3 A2 n2 (kv ys)) (hn : n1 + n2 ≤ 1000) :
    Calls Tryz.prog 22 #[.slice (some ⟨S, 0, none⟩) 2 2] W fun e W' => ∃ A' c', e = .returned (.slice A' (n1 + n2) c') ∧ Row W' W.heap.size 47 3 A' (n1 + n2) c' (kv (xs ++ ys)) ∧ Chg (fun _ => False) W W' := by
  have c0 := hS.cell 0
  have c1' := hS.cell 1
  simp at c0 c1'
  have HG := Lib.hid (grow_none (n1 + n2) W hn)
  go_enter Tryz.func22, Tryz.ntmps22
  go_wp2
  go_loopw [3, 11] (fun sv iv wr => ∃ k : Nat, k ≤ 2 ∧ iv = .int .i64 k ∧ sv = .int .i64 (szk n1 n2 k : Nat) ∧ W = wr) (fun _ iv _ => 2 - (intOf iv).toNat)
  case atStart => exact ⟨0, by omega, rfl, rfl, rfl⟩
  case round =>
    obtain ⟨k, hk, rfl, rfl, rfl⟩ := hrel
    match k, hk with
    | 0, _ =>
      simp only [szk]
      go_wp2
      go_roundw
      case rel => exact ⟨1, by omega, rfl, by simp, by trivial⟩
      case measure => simp [intOf]
    | 1, _ =>
      simp only [szk]
      have q1 : (0 : Int) ≤ n1 := by omega
      have q2 : (0 : Int) ≤ n2 := by omega
      have q3 : (n1 : Int) + n2 ≤ 1000 := by omega
      have q4 : ¬ ((n1 : Int) + n2 < 0) := by omega
      go_wp2
      go_roundw
      case rel => exact ⟨2, by omega, by rfl, by simp, by trivial⟩
      case measure => simp [intOf]
    | 2, _ =>
      simp only [szk]
      go_wp2_with (go_at_call 51; refine HG.out.mono ?_; rintro e w1 ⟨A0, cc, rfl, hr0, hc0⟩; have HR0 := Lib.hid hr0; have HC0 := Lib.hid hc0; clear hr0 hc0)
      go_loopw [6, 27] (fun ov iv wr => CatR W n1 n2 xs ys ov iv wr) (fun _ iv _ => 2 - (intOf iv).toNat)
      case atStart => exact ⟨0, A0, 0, cc, by omega, rfl, rfl, rfl, HR0.out, HC0.out⟩
      case round =>
        obtain ⟨j, A', n', c', hj, rfl, hn', rfl, hr, hc⟩ := hrel
        have hsz := hc.size
        have hcell0 : wr.cell? ⟨S, 0, none⟩ = some (.slice A1 n1 c1) := (hc.cell (p := ⟨S, 0, none⟩) hS.lt (fun h => h)).trans c0
        have hcell1 : wr.cell? ⟨S, 1, none⟩ = some (.slice A2 n2 c2) := (hc.cell (p := ⟨S, 1, none⟩) hS.lt (fun h => h)).trans c1'
        have HD1 := Lib.hid (h1.kept hc (fun _ _ h => h))
        have HD2 := Lib.hid (h2.kept hc (fun _ _ h => h))
        match j, hj with
        | 0, _ =>
          simp only [szk] at hn'
          simp only [upk] at hr
          subst hn'
          have HRR := Lib.hid hr
          have HCC := Lib.hid hc
          clear hr hc h1 h2 HR0 HC0
          go_wp2_with (at_builtin; refine wpList_apE rfl (.tmp 31) (.tmp 32) rfl rfl W.heap.size A' 0 c' [] rfl HRR.out A1 n1 c1 xs rfl HD1.out ?_ ?_ ?_; (next => omega); (next => exact hsz); intro A3 c3 w2 r1 r2 r3; have HX := Lib.hid r1; have HY := Lib.hid (HCC.out.grown r2 (fun g hg => .inr (HRR.out.blk_lt g hg).1)); clear r1 r2 r3)
          go_roundw
          case rel => exact ⟨1, A3, n1, c3, by omega, rfl, rfl, by simp, by simpa [upk] using HX.out, HY.out⟩
          case measure => simp [intOf]
        | 1, _ =>
          simp only [szk] at hn'
          simp only [upk] at hr
          subst hn'
          have HRR := Lib.hid hr
          have HCC := Lib.hid hc
          clear hr hc h1 h2 HR0 HC0
          go_wp2_with (at_builtin; refine wpList_apE rfl (.tmp 31) (.tmp 32) rfl rfl W.heap.size A' n' c' xs rfl HRR.out A2 n2 c2 ys rfl HD2.out ?_ ?_ ?_; (next => omega); (next => exact hsz); intro A3 c3 w2 r1 r2 r3; have HX := Lib.hid r1; have HY := Lib.hid (HCC.out.grown r2 (fun g hg => .inr (HRR.out.blk_lt g hg).1)); clear r1 r2 r3)
          go_roundw
          case rel => exact ⟨2, A3, n' + n2, c3, by omega, rfl, rfl, rfl, HX.out, HY.out⟩
          case measure => simp [intOf]
        | 2, _ =>
          simp only [szk] at hn'
          simp only [upk] at hr
          subst hn'
          go_wp2
          go_ret
          exact ⟨A', c', rfl, hr, hc⟩
end Go.Proofs.YtbpppcpndkkbaaaGreatDoor
