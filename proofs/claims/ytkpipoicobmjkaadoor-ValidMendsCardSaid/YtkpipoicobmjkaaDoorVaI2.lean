/- What must come at any rate. -/
import Derived.Test.YtkpipoicobmjkaaDoorVaO
namespace Go.Proofs.YtkpipoicobmjkaaDoor
open Go.ChangeShapes Go.WideShapes Go.ChangeAt Go.RowKit Go.Deep
set_option linter.unusedVariables false
set_option linter.unusedSimpArgs false
abbrev codeB : Array Value := #[.int .i64 11, .int .i64 0, .int .i64 0, .int .i64 0, .int .i64 0, .int .i64 14, .int .i64 0, .int .i64 0, .int .i64 0, .int .i64 0]
theorem exPM {W : World} {C S F : Nat} {s : Bool} (hC : Blk W C 43 codeB) (hS : Blk W S 4 #[.bool s, .bool true]) (hF : Blk W F 33 #[.slice (some ⟨C, 0, none⟩) 2 2, .slice (some ⟨S, 0, none⟩) 2 2]) :
    PM W (some ⟨F, 0, none⟩) 1 (fun _ => some ⟨C, 0, none⟩) (fun _ => 2) (fun _ => 2) (fun _ => some ⟨S, 0, none⟩) (fun _ => 2) (fun _ => 2) (fun _ => [[11, 0, 0, 0, 0], [14, 0, 0, 0, 0]]) (fun _ => [s, true]) := by
  refine ⟨fun _ => ⟨F, 0, rfl, hF.lt, fun i hi => ?_⟩, fun i hi => ⟨⟨rfl, fun _ => ⟨C, 0, rfl, hC.lt, fun j u hu => ?_⟩⟩, fun e he => ?_, ⟨rfl, fun _ => ⟨S, 0, rfl, hS.lt, fun j u hu => ?_⟩⟩⟩, fun i hi => ⟨by decide, by decide, by decide, by decide⟩⟩
  · obtain rfl : i = 0 := by omega
    exact ⟨hF.cell 0, hF.cell 1⟩
  · rw [Nat.zero_add, hC.cell]
    have e : codeB.toList = kv [[11, 0, 0, 0, 0], [14, 0, 0, 0, 0]] := rfl
    rw [← e] at hu
    simpa using hu
  · simp at he
    rcases he with rfl | rfl <;> rfl
  · rw [Nat.zero_add, hS.cell]
    have e : (#[Value.bool s, Value.bool true] : Array Value).toList = bls [s, true] := rfl
    rw [← e] at hu
    simpa using hu
theorem exT : progF 1 (fun _ => [[11, 0, 0, 0, 0], [14, 0, 0, 0, 0]]) (fun _ => [true, true]) = (-1, -1, 0) := by decide
theorem exF : progF 1 (fun _ => [[11, 0, 0, 0, 0], [14, 0, 0, 0, 0]]) (fun _ => [false, true]) = (0, 0, 10) := by decide
theorem check_true (C S F : Nat) (W : World) (hT : Tab W) (hC : Blk W C 43 codeB) (hS : Blk W S 4 #[.bool true, .bool true]) (hF : Blk W F 33 #[.slice (some ⟨C, 0, none⟩) 2 2, .slice (some ⟨S, 0, none⟩) 2 2]) :
    Calls Tryd.prog 9 #[.agg #[.slice (some ⟨F, 0, none⟩) 1 1]] W fun e W' => e = .returned (.tuple #[.int .i64 (-1), .int .i64 (-1), .int .i64 0]) ∧ Chg (fun _ => False) W W' := by
  have h := vcheck_any 1 (exPM hC hS hF) hT (by decide)
  rw [exT] at h
  exact h
theorem check_false (C S F : Nat) (W : World) (hT : Tab W) (hC : Blk W C 43 codeB) (hS : Blk W S 4 #[.bool false, .bool true]) (hF : Blk W F 33 #[.slice (some ⟨C, 0, none⟩) 2 2, .slice (some ⟨S, 0, none⟩) 2 2]) :
    Calls Tryd.prog 9 #[.agg #[.slice (some ⟨F, 0, none⟩) 1 1]] W fun e W' => e = .returned (.tuple #[.int .i64 0, .int .i64 0, .int .i64 10]) ∧ Chg (fun _ => False) W W' := by
  have h := vcheck_any 1 (exPM hC hS hF) hT (by decide)
  rw [exF] at h
  exact h
theorem blk_next {w : World} {o : Obj} {n : Nat} {t : TypeId} {cs : Array Value} (hn : (w.alloc o).heap.size = n) : Blk ((w.alloc o).alloc (.cells cs t)) n t cs := hn ▸ Blk.new _ _ _
theorem asz {w : World} {o : Obj} {n : Nat} (h : w.heap.size = n) : (w.alloc o).heap.size = n + 1 := by simp [h]
abbrev w1of (W : World) : World := W.alloc (.cells codeB 43)
abbrev w2of (W : World) : World := (w1of W).alloc (.cells #[.bool true, .bool true] 4)
abbrev w3of (W : World) : World := (w2of W).alloc (.cells #[.slice (some ⟨W.heap.size, 0, none⟩) 2 2, .slice (some ⟨W.heap.size + 1, 0, none⟩) 2 2] 33)
abbrev w4of (W : World) : World := (w3of W).alloc (.cells #[.slice (some ⟨W.heap.size + 1 + 1, 0, none⟩) 1 1] 24)
theorem chg4 (W : World) : Chg (fun _ => False) W (w4of W) := ((((Chg.refl _ _).alloc _).alloc _).alloc _).alloc _
structure Lit (w : World) (N : Nat) (S : Nat) (s : Bool) : Prop where
  t : Tab w
  c : Blk w N 43 codeB
  s : Blk w S 4 #[.bool s, .bool true]
  f : Blk w (N + 1 + 1) 33 #[.slice (some ⟨N, 0, none⟩) 2 2, .slice (some ⟨S, 0, none⟩) 2 2]
  p : Blk w (N + 1 + 1 + 1) 24 #[.slice (some ⟨N + 1 + 1, 0, none⟩) 1 1]
theorem Lit.kept {w w' : World} {N S : Nat} {s : Bool} (h : Lit w N S s) (hc : Chg (fun _ => False) w w') : Lit w' N S s :=
  ⟨h.t.chg hc, h.c.kept hc (fun h => h), h.s.kept hc (fun h => h), h.f.kept hc (fun h => h), h.p.kept hc (fun h => h)⟩
theorem lit4 (W : World) (hT : Tab W) : Lit (w4of W) W.heap.size (W.heap.size + 1) true :=
  ⟨(((hT.alloc _).alloc _).alloc _).alloc _, (((Blk.new _ _ _).alloc _).alloc _).alloc _, ((blk_next (asz rfl)).alloc _).alloc _, (blk_next (asz (asz rfl))).alloc _, blk_next (asz (asz (asz rfl)))⟩
theorem lit5 {w : World} {N S : Nat} (h : Lit w N S true) : Lit ((w.setCell ⟨N + 1 + 1, 1, none⟩ (.slice (some ⟨w.heap.size, 0, none⟩) 2 2)).alloc (.cells #[.bool false, .bool true] 4)) N w.heap.size false := by
  have hlt := h.f.lt
  have hsz : (w.setCell ⟨N + 1 + 1, 1, none⟩ (.slice (some ⟨w.heap.size, 0, none⟩) 2 2)).heap.size = w.heap.size := by simp
  have hc : Chg (fun g => g = N + 1 + 1) w (w.setCell ⟨N + 1 + 1, 1, none⟩ (.slice (some ⟨w.heap.size, 0, none⟩) 2 2)) := (Chg.refl (fun g => g = N + 1 + 1) w).setCell (p := ⟨N + 1 + 1, 1, none⟩) (.inl rfl) _
  refine ⟨Tab.alloc ?_ _, (h.c.kept hc (by omega)).alloc _, ?_, ?_, (h.p.kept hc (by omega)).alloc _⟩
  · obtain ⟨t, fr, ht⟩ := h.t
    exact ⟨t, fr, (hc.block 0 h.t.lt (by omega)).trans ht⟩
  · have := Blk.new (w.setCell ⟨N + 1 + 1, 1, none⟩ (.slice (some ⟨w.heap.size, 0, none⟩) 2 2)) 4 #[.bool false, .bool true]
    rwa [hsz] at this
  · exact (h.f.set_ 1 _).alloc _
set_option maxHeartbeats 4000000 in
theorem alive_any (W : World) (hT : Tab W) : Calls Tryd.prog 8 #[] W fun e W' => e = .returned (.bool true) ∧ Chg (fun _ => False) W W' := by
  have H4 := Lib.hid (lit4 W hT)
  clear hT
  go_enter Tryd.func8, Tryd.ntmps8
  go_wp2_with (first
    | (go_at_call 9; refine (check_false W.heap.size u1.heap.size (W.heap.size + 1 + 1) _ H5.out.t H5.out.c H5.out.s H5.out.f).mono ?_; rintro e u2 ⟨rfl, hc2⟩; have HK2 := Lib.hid (HK1.out.trans hc2 (fun _ _ h => h)); clear hc2)
    | (go_at_call 9; refine (check_true W.heap.size (W.heap.size + 1) (W.heap.size + 1 + 1) _ H4.out.t H4.out.c H4.out.s H4.out.f).mono ?_; rintro e u1 ⟨rfl, hc1⟩; have HL := Lib.hid (H4.out.kept hc1); have H5 := Lib.hid (lit5 HL.out); have HK1 := Lib.hid ((((chg4 W).trans hc1 (fun _ _ h => h)).setCell (p := ⟨W.heap.size + 1 + 1, 1, none⟩) (.inr (show W.heap.size ≤ W.heap.size + 1 + 1 by omega)) (.slice (some ⟨u1.heap.size, 0, none⟩) 2 2)).alloc (.cells #[.bool false, .bool true] 4)); have p0 := HL.out.p.cell 0; have f1 := HL.out.f.cell 1; have ff := HL.out.f.frozen 1; have p5 := H5.out.p.cell 0; have hlt := HL.out.p.lt; have hlt2 := HL.out.f.lt; simp at p0 f1; clear hc1))
  go_ret
  exact ⟨rfl, HK2.out⟩
end Go.Proofs.YtkpipoicobmjkaaDoor
