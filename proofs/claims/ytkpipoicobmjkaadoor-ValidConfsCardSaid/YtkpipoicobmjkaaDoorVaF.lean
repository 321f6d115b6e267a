/- Contracts: the example's function. -/
import Derived.Test.YtkpipoicobmjkaaDoorVaB
import Derived.WalkMore
import Derived.Deep.LoopGhost
namespace Go.Proofs.YtkpipoicobmjkaaDoor
open Go.ChangeShapes Go.WideShapes Go.ChangeAt Go.RowKit Go.Deep
set_option linter.unusedVariables false

structure Ex (W : World) (C S B D : Nat) (s : Bool) : Prop where
  t : Tab W
  c : Blk W C 43 codeB
  s : Blk W S 4 #[.bool s, .bool true]
  b : Blk W B 33 #[.slice (some ⟨C, 0, none⟩) 2 2, .slice (some ⟨S, 0, none⟩) 2 2]
  d : Blk W D 33 #[.slice (some ⟨C, 0, none⟩) 2 2, .slice (some ⟨S, 0, none⟩) 2 2]
theorem Ex.kept {W W' : World} {C S B D : Nat} {s : Bool} (h : Ex W C S B D s) (hc : Chg (fun _ => False) W W') : Ex W' C S B D s :=
  ⟨h.t.chg hc, h.c.kept hc (fun h => h), h.s.kept hc (fun h => h), h.b.kept hc (fun h => h), h.d.kept hc (fun h => h)⟩
set_option maxHeartbeats 4000000 in
theorem func_true (C S : Nat) (W : World) (hT : Tab W) (hC : Blk W C 43 codeB) (hS : Blk W S 4 #[.bool true, .bool true]) :
    Calls Tryd.prog 19 #[.agg #[.slice (some ⟨C, 0, none⟩) 2 2, .slice (some ⟨S, 0, none⟩) 2 2], .int .i64 1] W fun e W' => e = .returned (.tuple #[.int .i64 (-1), .int .i64 0]) ∧ Chg (fun _ => False) W W' := by
  have hf : Blk (W.alloc (.cells #[.slice (some ⟨C, 0, none⟩) 2 2, .slice (some ⟨S, 0, none⟩) 2 2] 33)) W.heap.size 33 #[.slice (some ⟨C, 0, none⟩) 2 2, .slice (some ⟨S, 0, none⟩) 2 2] := Blk.new _ _ _
  have hg : Blk ((W.alloc (.cells #[.slice (some ⟨C, 0, none⟩) 2 2, .slice (some ⟨S, 0, none⟩) 2 2] 33)).alloc (.cells #[.slice (some ⟨C, 0, none⟩) 2 2, .slice (some ⟨S, 0, none⟩) 2 2] 33)) (W.heap.size + 1) 33 #[.slice (some ⟨C, 0, none⟩) 2 2, .slice (some ⟨S, 0, none⟩) 2 2] := by
    have h := Blk.new (W.alloc (.cells #[.slice (some ⟨C, 0, none⟩) 2 2, .slice (some ⟨S, 0, none⟩) 2 2] 33)) 33 #[.slice (some ⟨C, 0, none⟩) 2 2, .slice (some ⟨S, 0, none⟩) 2 2]
    rw [show (W.alloc (.cells #[.slice (some ⟨C, 0, none⟩) 2 2, .slice (some ⟨S, 0, none⟩) 2 2] 33)).heap.size = W.heap.size + 1 from by simp] at h
    exact h
  have HE := Lib.hid (show Ex _ C S W.heap.size (W.heap.size + 1) true from ⟨(hT.alloc _).alloc _, (hC.alloc _).alloc _, (hS.alloc _).alloc _, hf.alloc _, hg⟩)
  clear hT hC hS hf hg
  go_enter Tryd.func19, Tryd.ntmps19
  go_wp2_with fail
  go_step3
  go_wp2_with (go_at_call 23; go_in)
  go_step3
  go_wp2_with fail
  go_loopg [7, 8, 32] 2 (fun j wv fv iv wr => ∃ k : Nat, k ≤ 2 ∧ j + k = 2 ∧ iv = .int .i64 k ∧ wv = .int .i64 (-1) ∧ fv = .int .i64 0 ∧ Chg (fun _ => False) ((W.alloc (.cells #[.slice (some ⟨C, 0, none⟩) 2 2, .slice (some ⟨S, 0, none⟩) 2 2] 33)).alloc (.cells #[.slice (some ⟨C, 0, none⟩) 2 2, .slice (some ⟨S, 0, none⟩) 2 2] 33)) wr)
  case atStart => exact ⟨0, by omega, rfl, rfl, rfl, rfl, Chg.refl _ _⟩
  case round =>
    obtain ⟨k, hk, hj, rfl, rfl, rfl, hc⟩ := hrel
    have HX := Lib.hid (HE.out.kept hc)
    have b0 := HX.out.b.cell 0
    simp at b0
    match k, hk with
    | 0, _ =>
      have c0 := HX.out.c.cell 0
      have c1 := HX.out.c.cell 1
      have c2 := HX.out.c.cell 2
      have c3 := HX.out.c.cell 3
      have c4 := HX.out.c.cell 4
      simp at c0 c1 c2 c3 c4
      go_wp2_with (first
        | (go_at_call 26; refine (isa0 _ (HX.out.t.alloc _)).mono ?_; rintro e w1 ⟨rfl, hc1⟩; have HX1 := Lib.hid (HX.out.kept (((Chg.refl _ _).alloc (.cells #[.int .i64 11, .int .i64 0, .int .i64 0, .int .i64 0, .int .i64 0] 43)).trans hc1 (fun _ _ h => h))); have HK1 := Lib.hid (hc.trans (((Chg.refl _ _).alloc (.cells #[.int .i64 11, .int .i64 0, .int .i64 0, .int .i64 0, .int .i64 0] 43)).trans hc1 (fun _ _ h => h)) (fun _ _ h => h)); have HB1 := Lib.hid ((Blk.new wr 43 #[.int .i64 11, .int .i64 0, .int .i64 0, .int .i64 0, .int .i64 0]).kept hc1 (fun h => h)); clear hc1)
        | (go_at_call 30; refine (wait0 C S (W.heap.size + 1) _ HX1.out.t HX1.out.c HX1.out.d).mono ?_; rintro e w2 ⟨rfl, hc2⟩; have HX2 := Lib.hid (HX1.out.kept hc2); have HK2 := Lib.hid (HK1.out.trans hc2 (fun _ _ h => h)); have HB2 := Lib.hid (HB1.out.kept hc2 (fun h => h)); have b1 := HX2.out.b.cell 1; have s0 := HX2.out.s.cell 0; have s1 := HX2.out.s.cell 1; have x0 := HB2.out.cell 0; simp at b1 s0 s1 x0; clear hc2))
      go_roundg 1
      case rel => exact ⟨1, by omega, rfl, rfl, rfl, rfl, HK2.out⟩
      case measure => omega
    | 1, _ =>
      have c0 := HX.out.c.cell 5
      have c1 := HX.out.c.cell 6
      have c2 := HX.out.c.cell 7
      have c3 := HX.out.c.cell 8
      have c4 := HX.out.c.cell 9
      simp at c0 c1 c2 c3 c4
      go_wp2_with (first
        | (go_at_call 26; refine (isa1 _ (HX.out.t.alloc _)).mono ?_; rintro e w1 ⟨rfl, hc1⟩; have HX1 := Lib.hid (HX.out.kept (((Chg.refl _ _).alloc (.cells #[.int .i64 14, .int .i64 0, .int .i64 0, .int .i64 0, .int .i64 0] 43)).trans hc1 (fun _ _ h => h))); have HK1 := Lib.hid (hc.trans (((Chg.refl _ _).alloc (.cells #[.int .i64 14, .int .i64 0, .int .i64 0, .int .i64 0, .int .i64 0] 43)).trans hc1 (fun _ _ h => h)) (fun _ _ h => h)); have HB1 := Lib.hid ((Blk.new wr 43 #[.int .i64 14, .int .i64 0, .int .i64 0, .int .i64 0, .int .i64 0]).kept hc1 (fun h => h)); clear hc1)
        | (go_at_call 30; refine (wait1 C S (W.heap.size + 1) _ HX1.out.t HX1.out.c HX1.out.d).mono ?_; rintro e w2 ⟨rfl, hc2⟩; have HX2 := Lib.hid (HX1.out.kept hc2); have HK2 := Lib.hid (HK1.out.trans hc2 (fun _ _ h => h)); have HB2 := Lib.hid (HB1.out.kept hc2 (fun h => h)); have b1 := HX2.out.b.cell 1; have s0 := HX2.out.s.cell 0; have s1 := HX2.out.s.cell 1; have x0 := HB2.out.cell 0; simp at b1 s0 s1 x0; clear hc2)
        | (go_at_call 27; refine (ends1 _ HX2.out.t).mono ?_; rintro e w3 ⟨rfl, hc3⟩; have HK3 := Lib.hid (HK2.out.trans hc3 (fun _ _ h => h)); clear hc3))
      go_roundg 0
      case rel => exact ⟨2, by omega, rfl, rfl, rfl, rfl, HK3.out⟩
      case measure => omega
    | 2, _ =>
      go_wp2
      rw [Exit.noGoto_ret]
      go_ret2
      exact ⟨rfl, (((Chg.refl _ _).alloc _).alloc _).trans hc (fun _ _ h => h)⟩
set_option maxHeartbeats 4000000 in
theorem func_false (C S : Nat) (W : World) (hT : Tab W) (hC : Blk W C 43 codeB) (hS : Blk W S 4 #[.bool false, .bool true]) :
    Calls Tryd.prog 19 #[.agg #[.slice (some ⟨C, 0, none⟩) 2 2, .slice (some ⟨S, 0, none⟩) 2 2], .int .i64 1] W fun e W' => e = .returned (.tuple #[.int .i64 0, .int .i64 10]) ∧ Chg (fun _ => False) W W' := by
  have hf : Blk (W.alloc (.cells #[.slice (some ⟨C, 0, none⟩) 2 2, .slice (some ⟨S, 0, none⟩) 2 2] 33)) W.heap.size 33 #[.slice (some ⟨C, 0, none⟩) 2 2, .slice (some ⟨S, 0, none⟩) 2 2] := Blk.new _ _ _
  have hg : Blk ((W.alloc (.cells #[.slice (some ⟨C, 0, none⟩) 2 2, .slice (some ⟨S, 0, none⟩) 2 2] 33)).alloc (.cells #[.slice (some ⟨C, 0, none⟩) 2 2, .slice (some ⟨S, 0, none⟩) 2 2] 33)) (W.heap.size + 1) 33 #[.slice (some ⟨C, 0, none⟩) 2 2, .slice (some ⟨S, 0, none⟩) 2 2] := by
    have h := Blk.new (W.alloc (.cells #[.slice (some ⟨C, 0, none⟩) 2 2, .slice (some ⟨S, 0, none⟩) 2 2] 33)) 33 #[.slice (some ⟨C, 0, none⟩) 2 2, .slice (some ⟨S, 0, none⟩) 2 2]
    rw [show (W.alloc (.cells #[.slice (some ⟨C, 0, none⟩) 2 2, .slice (some ⟨S, 0, none⟩) 2 2] 33)).heap.size = W.heap.size + 1 from by simp] at h
    exact h
  have HE := Lib.hid (show Ex _ C S W.heap.size (W.heap.size + 1) false from ⟨(hT.alloc _).alloc _, (hC.alloc _).alloc _, (hS.alloc _).alloc _, hf.alloc _, hg⟩)
  clear hT hC hS hf hg
  go_enter Tryd.func19, Tryd.ntmps19
  go_wp2_with fail
  go_step3
  go_wp2_with (go_at_call 23; go_in)
  go_step3
  go_wp2_with fail
  go_loopg [7, 8, 32] 2 (fun j wv fv iv wr => ∃ k : Nat, k ≤ 0 ∧ j + k = 2 ∧ iv = .int .i64 k ∧ wv = .int .i64 (-1) ∧ fv = .int .i64 0 ∧ Chg (fun _ => False) ((W.alloc (.cells #[.slice (some ⟨C, 0, none⟩) 2 2, .slice (some ⟨S, 0, none⟩) 2 2] 33)).alloc (.cells #[.slice (some ⟨C, 0, none⟩) 2 2, .slice (some ⟨S, 0, none⟩) 2 2] 33)) wr)
  case atStart => exact ⟨0, by omega, rfl, rfl, rfl, rfl, Chg.refl _ _⟩
  case round =>
    obtain ⟨k, hk, hj, rfl, rfl, rfl, hc⟩ := hrel
    have HX := Lib.hid (HE.out.kept hc)
    have b0 := HX.out.b.cell 0
    simp at b0
    match k, hk with
    | 0, _ =>
      have c0 := HX.out.c.cell 0
      have c1 := HX.out.c.cell 1
      have c2 := HX.out.c.cell 2
      have c3 := HX.out.c.cell 3
      have c4 := HX.out.c.cell 4
      simp at c0 c1 c2 c3 c4
      go_wp2_with (first
        | (go_at_call 26; refine (isa0 _ (HX.out.t.alloc _)).mono ?_; rintro e w1 ⟨rfl, hc1⟩; have HX1 := Lib.hid (HX.out.kept (((Chg.refl _ _).alloc (.cells #[.int .i64 11, .int .i64 0, .int .i64 0, .int .i64 0, .int .i64 0] 43)).trans hc1 (fun _ _ h => h))); have HK1 := Lib.hid (hc.trans (((Chg.refl _ _).alloc (.cells #[.int .i64 11, .int .i64 0, .int .i64 0, .int .i64 0, .int .i64 0] 43)).trans hc1 (fun _ _ h => h)) (fun _ _ h => h)); have HB1 := Lib.hid ((Blk.new wr 43 #[.int .i64 11, .int .i64 0, .int .i64 0, .int .i64 0, .int .i64 0]).kept hc1 (fun h => h)); clear hc1)
        | (go_at_call 30; refine (wait0 C S (W.heap.size + 1) _ HX1.out.t HX1.out.c HX1.out.d).mono ?_; rintro e w2 ⟨rfl, hc2⟩; have HX2 := Lib.hid (HX1.out.kept hc2); have HK2 := Lib.hid (HK1.out.trans hc2 (fun _ _ h => h)); have HB2 := Lib.hid (HB1.out.kept hc2 (fun h => h)); have b1 := HX2.out.b.cell 1; have s0 := HX2.out.s.cell 0; have s1 := HX2.out.s.cell 1; have x0 := HB2.out.cell 0; simp at b1 s0 s1 x0; clear hc2))
      rw [Exit.noGoto_ret]
      go_ret2
      exact ⟨rfl, (((Chg.refl _ _).alloc _).alloc _).trans HK2.out (fun _ _ h => h)⟩
end Go.Proofs.YtkpipoicobmjkaaDoor
