/- Any act on both rings. -/
import Derived.Test.YtfceebbbhjjnaaaRingV
namespace Go.Proofs.Ytfceebbbhjjnaaa
open Go.ChangeShapes Go.WideShapes Go.ChangeAt Go.RowKit Go.Deep
set_option linter.unusedVariables false

section
variable {W : World} {B b r n cr : Nat} {nx : Int} {xs : List Int} {A Ar : Option Addr}
set_option maxRecDepth 100000 in
set_option maxHeartbeats 8000000 in
theorem act_get (z : Int) (Al : Option Addr) (ml cl : Nat) (h : BSt W B b r n nx xs A Ar cr) (h1 : 2 ≤ n) (h2 : n ≤ 1000) (hB : B ≤ W.heap.size) :
    Calls Try.prog 9 #[.pointer (some ⟨b, 0, none⟩), .pointer (some ⟨r, 0, none⟩), .agg #[.int .i64 2, .int .i64 z, .slice Al ml cl]] W (ActR B b r n W) := by
  have hx := h.q.2.1
  have HNN := Lib.hid (get_nn nx xs)
  have hbx := Blk.new W 33 #[.int .i64 2, .int .i64 z, .slice Al ml cl]
  have HS := Lib.hid (h.same ((Chg.refl _ W).alloc (.cells #[.int .i64 2, .int .i64 z, .slice Al ml cl] 33)))
  have HB1 := Lib.hid (show B ≤ (W.alloc (.cells #[.int .i64 2, .int .i64 z, .slice Al ml cl] 33)).heap.size by simp; omega)
  have HBW := Lib.hid ((Below.refl B W).alloc hB (.cells #[.int .i64 2, .int .i64 z, .slice Al ml cl] 33))
  have HG := Lib.hid (get_q HS.out.q h1 h2)
  have HRG := Lib.hid (fun (V : World) (hh : RR V r n nx Ar cr xs) => rget_any hh h.nn h2 hx)
  clear h hbx
  generalize getF nx xs = gf at *
  obtain ⟨gg, gis, nx', xs'⟩ := gf
  go_enter Try.func9, Try.ntmps9
  go_wp2_with (first
    | (go_at_call 17; refine HG.out.mono ?_; rintro e u1 ⟨rfl, hq, hc⟩; have HQ := Lib.hid hq; have HC := Lib.hid (hc.mono (S' := Fp1 b A) (fun _ _ h => .inl h)); have HH := Lib.hid (HS.out.half HC.out (A2 := A) (fun _ h => .inl h)); clear hq hc)
    | (go_at_call 23; refine (HRG.out _ HH.out.1).mono ?_; rintro e u2 ⟨rfl, A3, c3, hr3, hc3, hf3⟩; have HBO := Lib.hid (HS.out.both HB1.out HC.out (fun _ h => .inl h) HQ.out hr3 hc3 (fun g hg => .inl (hf3 g hg)) HNN.out); have HSZ := Lib.hid (Nat.le_trans HC.out.size hc3.size); clear hr3 hc3 hf3))
  go_ret
  exact ActR.mk HBO.out.1 (HBW.out.trans HBO.out.2) (by have := HSZ.out; simp at this; omega) 0
set_option maxRecDepth 100000 in
set_option maxHeartbeats 8000000 in
theorem act_grab (z : Int) (Al : Option Addr) (ml cl : Nat) (h : BSt W B b r n nx xs A Ar cr) (h1 : 2 ≤ n) (h2 : n ≤ 1000) (hB : B ≤ W.heap.size) :
    Calls Try.prog 9 #[.pointer (some ⟨b, 0, none⟩), .pointer (some ⟨r, 0, none⟩), .agg #[.int .i64 3, .int .i64 z, .slice Al ml cl]] W (ActR B b r n W) := by
  have hx := h.q.2.1
  have HNN := Lib.hid (grab_nn nx xs h.nn)
  have HOL := Lib.hid (show (grabF nx xs).1.length ≤ 1048576 by unfold grabF; split; (split <;> simp); (simp; omega))
  have HS := Lib.hid (h.same ((Chg.refl _ W).alloc (.cells #[.int .i64 3, .int .i64 z, .slice Al ml cl] 33)))
  have HB1 := Lib.hid (show B ≤ (W.alloc (.cells #[.int .i64 3, .int .i64 z, .slice Al ml cl] 33)).heap.size by simp; omega)
  have HBW := Lib.hid ((Below.refl B W).alloc hB (.cells #[.int .i64 3, .int .i64 z, .slice Al ml cl] 33))
  have HG := Lib.hid (grab_q HS.out.q h1 h2 HB1.out)
  have HRG := Lib.hid (fun (V : World) (hh : RR V r n nx Ar cr xs) => rgrab_any hh h2 hx)
  clear h
  generalize grabF nx xs = gf at *
  obtain ⟨o, nx', xs'⟩ := gf
  go_enter Try.func9, Try.ntmps9
  go_wp2_with (first
    | (go_at_call 18; refine HG.out.mono ?_; rintro e u1 ⟨Ao, co, rfl, hrow, A2, hq, hc, hf, hd⟩; have HQ := Lib.hid hq; have HC := Lib.hid hc; have HF := Lib.hid hf; have HROW := Lib.hid hrow; have HH := Lib.hid (HS.out.half hc hf); clear hrow hq hc hf hd)
    | (go_at_call 24; refine (HRG.out _ HH.out.1).mono ?_; rintro e u2 ⟨Aq, cq, rfl, hrd, A3, c3, hr3, hc3, hf3⟩; have HR2 := Lib.hid (HROW.out.rd.kept hc3 (fun g hg e => by have := (HROW.out.blk_lt g hg).1; have := HS.out.d.b.lt; omega)); have HRD := Lib.hid hrd; have HBO := Lib.hid (HS.out.both HB1.out HC.out HF.out HQ.out hr3 hc3 hf3 HNN.out); have HSZ := Lib.hid (Nat.le_trans HC.out.size hc3.size); clear hrd hr3 hc3 hf3)
    | (go_at_call 10; refine (same_yes _ _ _ _ _ _ o u2 HR2.out HRD.out HOL.out).mono ?_; rintro e u3 ⟨rfl, q3, rfl⟩))
  go_ret
  exact ActR.mk HBO.out.1 (HBW.out.trans HBO.out.2) (by have := HSZ.out; simp at this; omega) q3
set_option maxRecDepth 100000 in
set_option maxHeartbeats 8000000 in
theorem act_drain (kd z : Int) (hkd : ¬ kd = 0 ∧ ¬ kd = 1 ∧ ¬ kd = 2 ∧ ¬ kd = 3 ∧ ¬ kd = 4) (Al : Option Addr) (ml cl : Nat) (h : BSt W B b r n nx xs A Ar cr) (h1 : 2 ≤ n) (h2 : n ≤ 1000) (hB : B ≤ W.heap.size) :
    Calls Try.prog 9 #[.pointer (some ⟨b, 0, none⟩), .pointer (some ⟨r, 0, none⟩), .agg #[.int .i64 kd, .int .i64 z, .slice Al ml cl]] W (ActR B b r n W) := by
  have hx := h.q.2.1
  obtain ⟨d0, d1, d2, d3, d4⟩ := hkd
  have hol : (nxl nx ++ xs).length ≤ 1048576 := by unfold nxl; split <;> simp <;> omega
  have HS := Lib.hid (h.same ((Chg.refl _ W).alloc (.cells #[.int .i64 kd, .int .i64 z, .slice Al ml cl] 33)))
  have HB1 := Lib.hid (show B ≤ (W.alloc (.cells #[.int .i64 kd, .int .i64 z, .slice Al ml cl] 33)).heap.size by simp; omega)
  have HBW := Lib.hid ((Below.refl B W).alloc hB (.cells #[.int .i64 kd, .int .i64 z, .slice Al ml cl] 33))
  have HG := Lib.hid (drain_q HS.out.q (by omega) h2)
  have HRG := Lib.hid (fun (V : World) (hh : RR V r n nx Ar cr xs) => rlist_any hh h2 hx)
  have HOL := Lib.hid hol
  clear h hol
  generalize nxl nx ++ xs = o at *
  go_enter Try.func9, Try.ntmps9
  go_wp2_with (first
    | (go_at_call 19; refine HG.out.mono ?_; rintro e u1 ⟨Ao, co, rfl, hrow, A2, hq, hc, hf, hd⟩; have HQ := Lib.hid hq; have HC := Lib.hid hc; have HF := Lib.hid hf; have HROW := Lib.hid hrow; have HH := Lib.hid (HS.out.half hc hf); clear hrow hq hc hf hd)
    | (go_at_call 12; refine (HRG.out _ HH.out.1).mono ?_; rintro e u2 ⟨Aq, cq, rfl, hrd, hc3⟩; have hr4 := HH.out.1.same hc3; obtain ⟨g0, g1, g2, gf0, gk⟩ := hr4.cells; have gf2 := hr4.b.frozen 2; have gf1 := hr4.b.frozen 1; have HR4 := Lib.hid hr4; have HR2 := Lib.hid (HROW.out.rd.kept hc3 (fun _ _ h => h)); have HRD := Lib.hid hrd; have HC3 := Lib.hid hc3; have HT := Lib.hid (RR.setrow hr4.b (A' := none) (c' := 0) (ys := []) (Nat.le_refl _) (Rd.nil _ _ _) (fun g hg => by cases hg)); have HT2 := Lib.hid (HT.out.1.setnx 0); have HC5 := Lib.hid (HT.out.2.trans HT2.out.2 (fun _ _ h => h)); clear hr4 hrd hc3)
    | (go_at_call 10; refine (same_yes _ _ _ _ _ _ o _ (HR2.out.kept HC5.out (fun g hg e => by have := (HROW.out.blk_lt g hg).1; have := HS.out.d.b.lt; omega)) (HRD.out.rd.kept HC5.out (fun g hg e => by have := (HRD.out.blk_lt g hg).1; have := HH.out.1.b.lt; omega)) HOL.out).mono ?_; rintro e u3 ⟨rfl, q3, rfl⟩))
  go_ret
  have HBO := HS.out.both HB1.out HC.out HF.out HQ.out HT2.out.1 ((HC3.out.mono (S' := fun g => g = r) (fun _ _ h => h.elim)).trans HC5.out (fun _ _ h => h)) (fun g hg => by cases hg) (Int.le_refl 0)
  exact ActR.mk HBO.1 (HBW.out.trans HBO.2) (by have h5 := HC.out.size; have h6 := HC3.out.size; have h7 := HC5.out.size; simp at h5; omega) q3
set_option maxRecDepth 100000 in
set_option maxHeartbeats 8000000 in
theorem act_fill (z : Int) (Al : Option Addr) (cl : Nat) (l : List Int) (hl : Rd W 1 Al l.length (ints l)) (hlc : l.length ≤ cl) (hl30 : l.length ≤ 30) (hAl : 0 < l.length → ∀ g, blk Al = some g → g < B) (h : BSt W B b r n nx xs A Ar cr) (h1 : 2 ≤ n) (h2 : n ≤ 1000) (hB : B ≤ W.heap.size) :
    Calls Try.prog 9 #[.pointer (some ⟨b, 0, none⟩), .pointer (some ⟨r, 0, none⟩), .agg #[.int .i64 4, .int .i64 z, .slice Al l.length cl]] W (ActR B b r n W) := by
  have hx := h.q.2.1
  have hnn := h.nn
  have hol : (fillF n xs l).1.length ≤ 1048576 := by unfold fillF; split <;> simp <;> omega
  have hbx := Blk.new W 33 #[.int .i64 4, .int .i64 z, .slice Al l.length cl]
  have hpx : ¬ Fp1 b A W.heap.size := fun hh => by have := (h.q.fp_lt _ hh).2; omega
  have hrx : ¬ W.heap.size = r := fun e => by have := h.d.b.lt; omega
  have HS := Lib.hid (h.same (((Chg.refl _ W).alloc (.cells #[.int .i64 4, .int .i64 z, .slice Al l.length cl] 33)).drew))
  have HB1 := Lib.hid (show B ≤ ((W.alloc (.cells #[.int .i64 4, .int .i64 z, .slice Al l.length cl] 33)).drew).heap.size by simp; omega)
  have HBW := Lib.hid ((((Below.refl B W).alloc hB (.cells #[.int .i64 4, .int .i64 z, .slice Al l.length cl] 33)).drew))
  have hs0 : (W.alloc (.cells #[.int .i64 4, .int .i64 z, .slice Al l.length cl] 33)).drew.cell? ⟨W.heap.size, 2, none⟩ = some (.slice Al l.length cl) := hbx.drew.cell 2
  have HL := Lib.hid (hl.kept (((Chg.refl (fun _ => False) W).alloc (.cells #[.int .i64 4, .int .i64 z, .slice Al l.length cl] 33)).drew) (fun _ _ h => h))
  have HAl := Lib.hid hAl
  have HFI := Lib.hid (fill_q (W := (W.alloc (.cells #[.int .i64 4, .int .i64 z, .slice Al l.length cl] 33)).drew) HS.out.q h1 h2 HB1.out Al cl l HL.out hlc hl30 hAl)
  have HRF := Lib.hid (fun (V : World) (hh : RR V r n nx Ar cr xs) (hl' : Rd V 1 Al l.length (ints l)) => rfill_any hh h1 h2 hx Al cl l hl' hlc hl30 (fun h0 g hg e => by have := HAl.out h0 g hg; have := HS.out.br; omega))
  have HLK := Lib.hid (fun (V : World) (hc : Chg (Fp1 b A) (W.alloc (.cells #[.int .i64 4, .int .i64 z, .slice Al l.length cl] 33)).drew V) => show Rd V 1 Al l.length (ints l) from by
    rcases Nat.eq_zero_or_pos l.length with h0 | h0
    · have hln : l = [] := List.eq_nil_of_length_eq_zero h0
      subst hln
      exact Rd.nil _ _ _
    · exact HL.out.kept hc (fun g hg hh => by have := HAl.out h0 g hg; have := (HS.out.q.fp_lt g hh).1; omega))
  have HBX := Lib.hid hbx.drew
  have HNN := Lib.hid hnn
  have HOL := Lib.hid hol
  clear hbx h hnn hol hl hAl
  generalize fillF n xs l = pf at *
  obtain ⟨o, xs'⟩ := pf
  go_enter Try.func9, Try.ntmps9
  go_wp2_with fail
  go_region_held3 (fun w' => w'.cell? ⟨W.heap.size, 2, none⟩ = some (.slice Al l.length cl)) (first | assumption)
    ((first
      | (go_at_call 21; refine HFI.out.mono ?_; rintro e u1 ⟨Ao, co, rfl, hrow, A2, hq, hc, hf, hd⟩; have hb1 := HBX.out.kept hc (fun hh => hpx hh); have hs1 := hb1.cell 2; simp at hs1; have HB2 := Lib.hid hb1; have HH := Lib.hid (HS.out.half hc hf); have HL1 := Lib.hid (HLK.out _ hc); have HROW := Lib.hid hrow; have HQ := Lib.hid hq; have HC := Lib.hid hc; have HF := Lib.hid hf; clear hb1 hrow hq hc hf hd)
      | (go_at_call 25; refine (HRF.out _ HH.out.1 HL1.out).mono ?_; rintro e u2 ⟨Aq, cq, rfl, hrd, A3, c3, hr3, hc3, hf3⟩; have hb3 := HB2.out.kept hc3 (fun hh => hrx hh); have hs2 := hb3.cell 2; simp at hs2; have HR2 := Lib.hid (HROW.out.rd.kept hc3 (fun g hg e => by have := (HROW.out.blk_lt g hg).1; have := HS.out.d.b.lt; omega)); have HRD := Lib.hid hrd; have HBO := Lib.hid (HS.out.both HB1.out HC.out HF.out HQ.out hr3 hc3 hf3 HNN.out); have HSZ := Lib.hid (Nat.le_trans HC.out.size hc3.size); have HB3 := Lib.hid hb3; clear hb3 hrd hr3 hc3 hf3)
      | (go_at_call 10; refine (same_yes _ _ _ _ _ _ o u2 HR2.out HRD.out HOL.out).mono ?_; rintro e u3 ⟨rfl, q3, rfl⟩; have hb4 := HB3.out.drewN q3; have hs3 := hb4.cell 2; simp at hs3; clear hb4)))
  all_goals go_simp
  all_goals go_wp2
  all_goals go_ret
  all_goals exact ActR.mk HBO.out.1 (HBW.out.trans HBO.out.2) (by have := HSZ.out; simp at this; omega) q3
theorem ract_any (kd z : Int) (Al : Option Addr) (cl : Nat) (l : List Int) (hl : Rd W 1 Al l.length (ints l)) (hlc : l.length ≤ cl) (hl30 : l.length ≤ 30) (hAl : 0 < l.length → ∀ g, blk Al = some g → g < B) (h : BSt W B b r n nx xs A Ar cr) (h1 : 2 ≤ n) (h2 : n ≤ 1000) (hB : B ≤ W.heap.size) :
    Calls Try.prog 9 #[.pointer (some ⟨b, 0, none⟩), .pointer (some ⟨r, 0, none⟩), .agg #[.int .i64 kd, .int .i64 z, .slice Al l.length cl]] W (ActR B b r n W) := by
  by_cases d0 : kd = 0
  · exact act_put false kd z (.inl ⟨d0, rfl⟩) Al _ cl h h1 h2 hB
  by_cases d1 : kd = 1
  · exact act_put true kd z (.inr ⟨d1, rfl⟩) Al _ cl h h1 h2 hB
  by_cases d2 : kd = 2
  · subst d2; exact act_get z Al _ cl h h1 h2 hB
  by_cases d3 : kd = 3
  · subst d3; exact act_grab z Al _ cl h h1 h2 hB
  by_cases d4 : kd = 4
  · subst d4; exact act_fill z Al cl l hl hlc hl30 hAl h h1 h2 hB
  exact act_drain kd z ⟨d0, d1, d2, d3, d4⟩ Al _ cl h h1 h2 hB
end
end Go.Proofs.Ytfceebbbhjjnaaa
