/- An act on both rings. -/
import Derived.Test.YtfceebbbhjjnaaaRingU
import Derived.Test.YtfceebbbhjjnaaaRingK
import Derived.Deep.RegionHeld3
namespace Go.Proofs.Ytfceebbbhjjnaaa
open Go.ChangeShapes Go.WideShapes Go.ChangeAt Go.RowKit Go.Deep
set_option linter.unusedVariables false

/-- Both rings. -/
structure BSt (W : World) (B b r n : Nat) (nx : Int) (xs : List Int) (A Ar : Option Addr) (cr : Nat) : Prop where
  q : RQ W B b A n nx xs
  d : RR W r n nx Ar cr xs
  br : B ≤ r
  sep : ∀ g, blk Ar = some g → ¬ Fp1 b A g ∧ B ≤ g
  ner : ¬ Fp1 b A r
  nn : 0 ≤ nx
section
variable {W W' u1 u2 : World} {B b r n cr c3 : Nat} {nx nx' : Int} {xs xs' o : List Int} {A Ar A2 A3 : Option Addr}
theorem BSt.same (h : BSt W B b r n nx xs A Ar cr) (hc : Chg (fun _ => False) W W') : BSt W' B b r n nx xs A Ar cr := ⟨h.q.same hc, h.d.same hc, h.br, h.sep, h.ner, h.nn⟩
/-- Behind the program's act. -/
theorem BSt.half (h : BSt W B b r n nx xs A Ar cr) (hc : Chg (Fp1 b A) W u1) (hf : ∀ g, Fp1 b A2 g → Fp1 b A g ∨ W.heap.size ≤ g) : RR u1 r n nx Ar cr xs ∧ (∀ g, blk Ar = some g → ¬ Fp1 b A2 g) ∧ ¬ Fp1 b A2 r := by
  refine ⟨h.d.kept hc h.ner (fun g hg => (h.sep g hg).1), fun g hg hh => ?_, fun hh => ?_⟩
  · rcases hf g hh with h1 | h1
    · exact (h.sep g hg).1 h1
    · have := (h.d.ne g hg).2; omega
  · rcases hf r hh with h1 | h1
    · exact h.ner h1
    · have := h.d.b.lt; omega
/-- Behind both. -/
theorem BSt.both (h : BSt W B b r n nx xs A Ar cr) (hB : B ≤ W.heap.size) (hc : Chg (Fp1 b A) W u1) (hf : ∀ g, Fp1 b A2 g → Fp1 b A g ∨ W.heap.size ≤ g) (hq : RQ u1 B b A2 n nx' xs') (hr : RR u2 r n nx' A3 c3 xs') (hc2 : Chg (fun g => g = r) u1 u2) (hf2 : ∀ g, blk A3 = some g → blk Ar = some g ∨ u1.heap.size ≤ g) (hnn : 0 ≤ nx') :
    BSt u2 B b r n nx' xs' A2 A3 c3 ∧ Below B W u2 := by
  obtain ⟨h1, h2, h3⟩ := h.half hc hf
  have hs1 := hc.size
  refine ⟨⟨hq.kept hc2 (fun k hk e => by subst e; exact h3 hk), hr, h.br, fun g hg => ?_, h3, hnn⟩, (hc.below (B := B) hB (fun k _ hk => (h.q.fp_lt k hk).1)).trans (hc2.below (B := B) (by omega) (fun k _ hk => by have := h.br; omega))⟩
  rcases hf2 g hg with h4 | h4
  · exact ⟨h2 g h4, (h.sep g h4).2⟩
  · exact ⟨fun hh => by have := (hq.fp_lt g hh).2; omega, by omega⟩
def ActR (B b r n : Nat) (W : World) (e : Ending) (W' : World) : Prop := e = .returned (.bool true) ∧ ∃ nx xs A Ar cr, BSt W' B b r n nx xs A Ar cr ∧ Below B W W' ∧ W.heap.size ≤ W'.heap.size
theorem ActR.mk (h : BSt W B b r n nx xs A Ar cr) (hb : Below B W' W) (hs : W'.heap.size ≤ W.heap.size) (q : Nat) : ActR B b r n W' (.returned (.bool true)) (W.drewN q) :=
  ⟨rfl, nx, xs, A, Ar, cr, h.same ((Chg.refl _ _).drewN q), belowN hb q, hs⟩
end
theorem put_nn (n : Nat) (nx : Int) (xs : List Int) (g : Int) (next : Bool) (h : 0 ≤ nx) : 0 ≤ (putF n nx xs g next).2.1 := by
  unfold putF
  split
  · exact h
  · split
    · split
      · show 0 ≤ g; omega
      · show 0 ≤ g; omega
    · exact h
theorem get_nn (nx : Int) (xs : List Int) : 0 ≤ (getF nx xs).2.2.1 := by
  unfold getF
  split
  · cases xs <;> simp
  · simp
theorem grab_nn (nx : Int) (xs : List Int) (h : 0 ≤ nx) : 0 ≤ (grabF nx xs).2.1 := by
  unfold grabF
  split
  · simp
  · exact h
section
variable {W : World} {B b r n cr : Nat} {nx : Int} {xs : List Int} {A Ar : Option Addr}
def BoxA (W : World) (p : Nat) (kd z : Int) (Al : Option Addr) (ml cl : Nat) (V : World) : Prop := Blk V p 33 #[.int .i64 kd, .int .i64 z, .slice Al ml cl]
set_option maxRecDepth 100000 in
set_option maxHeartbeats 8000000 in
theorem act_put (nb : Bool) (kd z : Int) (hkd : (kd = 0 ∧ nb = false) ∨ (kd = 1 ∧ nb = true)) (Al : Option Addr) (ml cl : Nat) (h : BSt W B b r n nx xs A Ar cr) (h1 : 2 ≤ n) (h2 : n ≤ 1000) (hB : B ≤ W.heap.size) :
    Calls Try.prog 9 #[.pointer (some ⟨b, 0, none⟩), .pointer (some ⟨r, 0, none⟩), .agg #[.int .i64 kd, .int .i64 z, .slice Al ml cl]] W (ActR B b r n W) := by
  have hx := h.q.2.1
  have hnn := put_nn n nx xs z nb h.nn
  have hol : (putF n nx xs z nb).1.length ≤ 1048576 := by have := put_len n nx xs z nb; omega
  have hbx := Blk.new W 33 #[.int .i64 kd, .int .i64 z, .slice Al ml cl]
  have hpx : ¬ Fp1 b A W.heap.size := fun hh => by have := (h.q.fp_lt _ hh).2; omega
  have hrx : ¬ W.heap.size = r := fun e => by have := h.d.b.lt; omega
  have HS := Lib.hid (h.same (((Chg.refl _ W).alloc (.cells #[.int .i64 kd, .int .i64 z, .slice Al ml cl] 33)).drew))
  have HB1 := Lib.hid (show B ≤ ((W.alloc (.cells #[.int .i64 kd, .int .i64 z, .slice Al ml cl] 33)).drew).heap.size by simp; omega)
  have HBW := Lib.hid ((((Below.refl B W).alloc hB (.cells #[.int .i64 kd, .int .i64 z, .slice Al ml cl] 33)).drew))
  have hs0 : (W.alloc (.cells #[.int .i64 kd, .int .i64 z, .slice Al ml cl] 33)).drew.cell? ⟨W.heap.size, 0, none⟩ = some (.int .i64 kd) ∧ (W.alloc (.cells #[.int .i64 kd, .int .i64 z, .slice Al ml cl] 33)).drew.cell? ⟨W.heap.size, 1, none⟩ = some (.int .i64 z) := ⟨hbx.drew.cell 0, hbx.drew.cell 1⟩
  have HPUT := Lib.hid (put_q (W := (W.alloc (.cells #[.int .i64 kd, .int .i64 z, .slice Al ml cl] 33)).drew) HS.out.q h1 h2 HB1.out z nb)
  have HRP := Lib.hid (fun (V : World) (hh : RR V r n nx Ar cr xs) => rput_any z nb hh h2 h1 hx)
  have HBX := Lib.hid hbx.drew
  have HNN := Lib.hid hnn
  have HOL := Lib.hid hol
  clear hbx h hnn hol
  generalize putF n nx xs z nb = pf at *
  obtain ⟨o, nx', xs'⟩ := pf
  rcases hkd with ⟨rfl, rfl⟩ | ⟨rfl, rfl⟩
  · go_enter Try.func9, Try.ntmps9
    go_wp2_with fail
    go_region_held3 (fun w' => w'.cell? ⟨W.heap.size, 0, none⟩ = some (.int .i64 0) ∧ w'.cell? ⟨W.heap.size, 1, none⟩ = some (.int .i64 z)) (first | assumption)
      ((first
        | (go_at_call 16; refine HPUT.out.mono ?_; rintro e u1 ⟨Ao, co, rfl, hrow, A2, hq, hc, hf, hd⟩; have hb1 := HBX.out.kept hc (fun hh => hpx hh); have hs1 := And.intro (hb1.cell 0) (hb1.cell 1); have HB2 := Lib.hid hb1; have HH := Lib.hid (HS.out.half hc hf); have HROW := Lib.hid hrow; have HQ := Lib.hid hq; have HC := Lib.hid hc; have HF := Lib.hid hf; clear hb1 hrow hq hc hf hd)
        | (go_at_call 22; refine (HRP.out _ HH.out.1).mono ?_; rintro e u2 ⟨Aq, cq, rfl, hrd, A3, c3, hr3, hc3, hf3⟩; have hb3 := HB2.out.kept hc3 (fun hh => hrx hh); have hs2 := And.intro (hb3.cell 0) (hb3.cell 1); have HR2 := Lib.hid (HROW.out.rd.kept hc3 (fun g hg e => by have := (HROW.out.blk_lt g hg).1; have := HS.out.d.b.lt; omega)); have HRD := Lib.hid hrd; have HBO := Lib.hid (HS.out.both HB1.out HC.out HF.out HQ.out hr3 hc3 hf3 HNN.out); have HSZ := Lib.hid (Nat.le_trans HC.out.size hc3.size); have HB3 := Lib.hid hb3; clear hb3 hrd hr3 hc3 hf3)
        | (go_at_call 10; refine (same_yes _ _ _ _ _ _ o u2 HR2.out HRD.out HOL.out).mono ?_; rintro e u3 ⟨rfl, q3, rfl⟩; have hb4 := HB3.out.drewN q3; have hs3 := And.intro (hb4.cell 0) (hb4.cell 1); clear hb4)))
    all_goals go_simp
    all_goals go_wp2
    all_goals go_ret
    all_goals exact ActR.mk HBO.out.1 (HBW.out.trans HBO.out.2) (by have := HSZ.out; simp at this; omega) q3
  · go_enter Try.func9, Try.ntmps9
    go_wp2_with fail
    go_region_held3 (fun w' => w'.cell? ⟨W.heap.size, 0, none⟩ = some (.int .i64 1) ∧ w'.cell? ⟨W.heap.size, 1, none⟩ = some (.int .i64 z)) (first | assumption)
      ((first
        | (go_at_call 16; refine HPUT.out.mono ?_; rintro e u1 ⟨Ao, co, rfl, hrow, A2, hq, hc, hf, hd⟩; have hb1 := HBX.out.kept hc (fun hh => hpx hh); have hs1 := And.intro (hb1.cell 0) (hb1.cell 1); have HB2 := Lib.hid hb1; have HH := Lib.hid (HS.out.half hc hf); have HROW := Lib.hid hrow; have HQ := Lib.hid hq; have HC := Lib.hid hc; have HF := Lib.hid hf; clear hb1 hrow hq hc hf hd)
        | (go_at_call 22; refine (HRP.out _ HH.out.1).mono ?_; rintro e u2 ⟨Aq, cq, rfl, hrd, A3, c3, hr3, hc3, hf3⟩; have hb3 := HB2.out.kept hc3 (fun hh => hrx hh); have hs2 := And.intro (hb3.cell 0) (hb3.cell 1); have HR2 := Lib.hid (HROW.out.rd.kept hc3 (fun g hg e => by have := (HROW.out.blk_lt g hg).1; have := HS.out.d.b.lt; omega)); have HRD := Lib.hid hrd; have HBO := Lib.hid (HS.out.both HB1.out HC.out HF.out HQ.out hr3 hc3 hf3 HNN.out); have HSZ := Lib.hid (Nat.le_trans HC.out.size hc3.size); have HB3 := Lib.hid hb3; clear hb3 hrd hr3 hc3 hf3)
        | (go_at_call 10; refine (same_yes _ _ _ _ _ _ o u2 HR2.out HRD.out HOL.out).mono ?_; rintro e u3 ⟨rfl, q3, rfl⟩; have hb4 := HB3.out.drewN q3; have hs3 := And.intro (hb4.cell 0) (hb4.cell 1); clear hb4)))
    all_goals go_simp
    all_goals go_wp2
    all_goals go_ret
    all_goals exact ActR.mk HBO.out.1 (HBW.out.trans HBO.out.2) (by have := HSZ.out; simp at this; omega) q3
end
end Go.Proofs.Ytfceebbbhjjnaaa
