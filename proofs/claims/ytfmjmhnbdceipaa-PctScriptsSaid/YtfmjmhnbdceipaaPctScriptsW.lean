/- The walk of the law PctScripts. -/
import Derived.Test.YtfmjmhnbdceipaaPcK
import Derived.Test.YtfmjmhnbdceipaaPctFairW
import Derived.Deep.RegionHeld3
namespace Go.Proofs.Ytfmjmhnbdceipaa
open Go.ChangeShapes Go.WideShapes Go.ChangeAt Go.RowKit Go.Deep
set_option linter.unusedVariables false

def GotE (W W' : World) (es : List (List Int)) (f : Int) (en : Ending) : Prop := ∃ A d, en = .returned (.tuple #[.slice A es.length d, .int .i64 f]) ∧ Rd W' 3 A es.length (kv es) ∧ Below W.heap.size W W'
def sharesL (es : List (List Int)) (q : Int) : List Int := if 1 ≤ q ∧ q ≤ 64 then shr q.toNat es else []
theorem sharesL_le (es : List (List Int)) (q : Int) : (sharesL es q).length ≤ 64 := by
  unfold sharesL
  split
  · rw [shr_len]; omega
  · simp
theorem GotE.nil_ (W W' : World) (h : Below W.heap.size W W') : GotE W W' [] 1 (.returned (.tuple #[.slice none 0 0, .int .i64 1])) := ⟨none, 0, rfl, (show Rd W' 3 none 0 [] from Rd.nil _ _ _), h⟩
theorem scripts_all (seed m s c e : Int) (hs : ¬ (1000 < s ∧ s ≤ 65536)) : ∃ (es : List (List Int)) (f : Int) (b : Bool), Uni 3 es ∧ es.length ≤ 1000 ∧
    (∀ W, Calls Try.prog 8 #[.agg #[.int .u64 seed, .int .i64 m, .int .i64 s, .int .i64 c, .int .i64 e]] W fun en W' => GotE W W' es f en) ∧
    (∀ W, Calls Try.prog 9 #[.agg #[.int .u64 seed, .int .i64 m, .int .i64 s, .int .i64 c, .int .i64 e]] W fun en W' => GotE W W' es f en) ∧
    (∀ W, Calls Try.prog 12 #[.agg #[.int .u64 seed, .int .i64 m, .int .i64 s, .int .i64 c, .int .i64 e]] W fun en W' => en = .returned (.bool b) ∧ Below W.heap.size W W') ∧
    (∀ W, Calls Try.prog 13 #[.agg #[.int .u64 seed, .int .i64 m, .int .i64 s, .int .i64 c, .int .i64 e]] W fun en W' => en = .returned (.bool b) ∧ Below W.heap.size W W') := by
  by_cases hr : rightP m s c e
  · obtain ⟨⟨m1, m2⟩, ⟨e1, e2⟩, ⟨s0, s1⟩, c0, c1⟩ := id hr
    obtain ⟨m, rfl⟩ : ∃ k : Nat, m = k := ⟨m.toNat, by omega⟩
    obtain ⟨n, rfl⟩ : ∃ k : Nat, s = k := ⟨s.toNat, by omega⟩
    obtain ⟨c, rfl⟩ : ∃ k : Nat, c = k := ⟨c.toNat, by omega⟩
    refine ⟨scr (orderOf seed m) (pointsOf (IntKind.u64.wrap (seed + 1)) n c) e m n, 0, true, scr_uni _ _ _ _ _, by rw [scr_len]; omega, fun W => ?_, fun W => ?_, fun W => ?_, fun W => ?_⟩
    · refine (script_yes seed e m n c W hr).mono ?_
      rintro en W' ⟨A, d, rfl, h1, _, _, h2⟩
      exact ⟨A, d, by rw [scr_len], by rw [scr_len]; exact h1, h2⟩
    · refine (rscript_yes seed e m n c W hr).mono ?_
      rintro en W' ⟨A, d, rfl, h1, _, h2⟩
      exact ⟨A, d, by rw [scr_len], by rw [scr_len]; exact h1, h2⟩
    · refine (right_yes seed m n c e W hr).mono ?_
      rintro en W' ⟨rfl, rfl⟩
      exact ⟨rfl, (Below.refl _ _).alloc (Nat.le_refl _) _⟩
    · refine (rright_yes seed m n c e W hr).mono ?_
      rintro en W' ⟨rfl, rfl⟩
      exact ⟨rfl, (Below.refl _ _).alloc (Nat.le_refl _) _⟩
  · refine ⟨[], 1, false, Uni.nil 3, by simp, fun W => ?_, fun W => ?_, fun W => ?_, fun W => ?_⟩
    · refine (script_no seed m s c e W hr).mono ?_
      rintro en W' ⟨rfl, h⟩
      exact GotE.nil_ _ _ h
    · refine (rscript_no seed m s c e W hr).mono ?_
      rintro en W' ⟨rfl, h⟩
      exact GotE.nil_ _ _ h
    · refine (right_no seed m s c e W hr).mono ?_
      rintro en W' ⟨rfl, rfl⟩
      exact ⟨rfl, (Below.refl _ _).alloc (Nat.le_refl _) _⟩
    · refine (rright_no seed m s c e W hr).mono ?_
      rintro en W' ⟨rfl, rfl⟩
      exact ⟨rfl, (Below.refl _ _).alloc (Nat.le_refl _) _⟩
theorem Got.of_blk {W W' : World} {l : List Int} {n : Nat} {t : TypeId} (h : Blk W' W.heap.size t (ints l).toArray) (hl : l.length = n) (hc : Chg (fun _ => False) W W') : Got W W' l (.returned (.slice (some ⟨W.heap.size, 0, none⟩) n n)) := by
  subst hl
  refine ⟨_, _, rfl, ⟨by simp, fun _ => ⟨_, _, rfl, h.lt, fun j u hu => ?_⟩⟩, fun g hg => ?_, hc.below (Nat.le_refl _) (fun _ _ h => h.elim)⟩
  · rw [Nat.zero_add, h.cell j]; simpa using hu
  · have h3 : some W.heap.size = some g := hg
    have h4 := Option.some.inj h3
    have := h.lt
    omega
theorem shares_all (A : Option Addr) (c : Nat) (es : List (List Int)) (q : Int) (W : World) (hA : Rd W 3 A es.length (kv es)) (hu : Uni 3 es) (hn : es.length ≤ 1000) : Calls Try.prog 15 #[.slice A es.length c, .int .i64 q] W fun e W' => Got W W' (sharesL es q) e := by
  by_cases h : 1 ≤ q ∧ q ≤ 64
  · obtain ⟨k, rfl⟩ : ∃ k : Nat, q = k := ⟨q.toNat, by omega⟩
    refine (shares_yes A _ c k es W hA hu (by omega) (by omega) (by omega)).mono ?_
    rintro e W' ⟨rfl, h1, h2⟩
    rw [sharesL, if_pos h, Int.toNat_natCast]
    exact Got.of_blk h1 (shr_len _ _) h2
  · refine (shares_no A _ c q W (by omega)).mono ?_
    rintro e W' ⟨rfl, rfl⟩
    rw [sharesL, if_neg h]
    exact Got.nil_ _
theorem rshares_all (A : Option Addr) (c : Nat) (es : List (List Int)) (q : Int) (W : World) (hA : Rd W 3 A es.length (kv es)) (hu : Uni 3 es) (hn : es.length ≤ 1000) : Calls Try.prog 16 #[.slice A es.length c, .int .i64 q] W fun e W' => Got W W' (sharesL es q) e := by
  by_cases h : 1 ≤ q ∧ q ≤ 64
  · obtain ⟨k, rfl⟩ : ∃ k : Nat, q = k := ⟨q.toNat, by omega⟩
    refine (rshares_yes A _ c k es W hA hu (by omega) (by omega) (by omega)).mono ?_
    rintro e W' ⟨rfl, h1, h2⟩
    rw [sharesL, if_pos h, Int.toNat_natCast]
    exact Got.of_blk h1 (shr_len _ _) h2
  · refine (rshares_no A _ c q W (by omega)).mono ?_
    rintro e W' ⟨rfl, rfl⟩
    rw [sharesL, if_neg h]
    exact Got.nil_ _
theorem same_any' {A D : Option Addr} {c d : Nat} (xs : List Int) (W : World) (hA : Rd W 1 A xs.length (ints xs)) (hD : Rd W 1 D xs.length (ints xs)) (hm : xs.length ≤ 64) :
    Calls Try.prog 14 #[.slice A xs.length c, .slice D xs.length d] W fun e W' => e = .returned (.bool true) ∧ Below W.heap.size W W' := (same_yes A D _ _ c d xs W hA hD (by omega)).mono fun e W' ⟨h1, k, h2⟩ => ⟨h1, by rw [h2]; exact belowN (Below.refl _ _) k⟩
theorem esame_any' {A D : Option Addr} {c d : Nat} (es : List (List Int)) (W : World) (hu : Uni 3 es) (hA : Rd W 3 A es.length (kv es)) (hD : Rd W 3 D es.length (kv es)) (hm : es.length ≤ 1000) :
    Calls Try.prog 11 #[.slice A es.length c, .slice D es.length d] W fun e W' => e = .returned (.bool true) ∧ Below W.heap.size W W' := (esame_yes A D _ _ c d es W hu hA hD (by omega)).mono fun e W' ⟨h1, k, h2⟩ => ⟨h1, by rw [h2]; exact belowN (Below.refl _ _) k⟩
abbrev planCells (b : Nat) (seed m s c e : Int) (w : World) : Prop := w.cell? ⟨b, 0, none⟩ = some (.int .u64 seed) ∧ w.cell? ⟨b, 1, none⟩ = some (.int .i64 m) ∧ w.cell? ⟨b, 2, none⟩ = some (.int .i64 s) ∧ w.cell? ⟨b, 3, none⟩ = some (.int .i64 c) ∧ w.cell? ⟨b, 4, none⟩ = some (.int .i64 e)
set_option maxRecDepth 100000 in
set_option maxHeartbeats 16000000 in
theorem walk_pctScripts' (seed m s c e q : Int) (w : World) :
    Calls Try.prog 3 #[.agg #[.int .u64 seed, .int .i64 m, .int .i64 s, .int .i64 c, .int .i64 e], .int .i64 q] w fun e w' => e = .returned (.bool true) ∧ Below w.heap.size w w' := by
  have KW := Lib.hid (fun (w3 : World) (hb : Below (w.alloc (.cells #[.int .u64 seed, .int .i64 m, .int .i64 s, .int .i64 c, .int .i64 e] 24)).heap.size (w.alloc (.cells #[.int .u64 seed, .int .i64 m, .int .i64 s, .int .i64 c, .int .i64 e] 24)) w3) =>
    show Blk w3 w.heap.size 24 #[.int .u64 seed, .int .i64 m, .int .i64 s, .int .i64 c, .int .i64 e] ∧ w.heap.size + 1 ≤ w3.heap.size ∧ Below w.heap.size w w3 from
    ⟨(hb.block w.heap.size (by simp)).trans (Blk.new w 24 #[.int .u64 seed, .int .i64 m, .int .i64 s, .int .i64 c, .int .i64 e]), by have := hb.size; simpa using this, ((Below.refl _ _).alloc (Nat.le_refl _) _).trans (hb.mono (by simp))⟩)
  by_cases hs : 1000 < s ∧ s ≤ 65536
  · obtain ⟨s1, s2⟩ := hs
    go_enter Try.func3, Try.ntmps3
    go_wp2_with (go_at_call 7; refine (alive_any _).mono ?_; rintro e w' ⟨rfl, hb2⟩; have H2 := Lib.hid (KW.out _ hb2))
    go_ret
    exact ⟨rfl, H2.out.2.2⟩
  · obtain ⟨es, f, b, hu, hl, h1, h2, h3, h4⟩ := scripts_all seed m s c e hs
    have H1 := Lib.hid h1
    have H2 := Lib.hid h2
    have H3 := Lib.hid h3
    have H4 := Lib.hid h4
    have H5 := Lib.hid (fun A c W hA => shares_all A c es q W hA hu hl)
    have H6 := Lib.hid (fun A c W hA => rshares_all A c es q W hA hu hl)
    have H7 := Lib.hid (fun A D c d W hA hD => same_any' (A := A) (D := D) (c := c) (d := d) (sharesL es q) W hA hD (sharesL_le es q))
    have H8 := Lib.hid (fun A D c d W hA hD => esame_any' (A := A) (D := D) (c := c) (d := d) es W hu hA hD hl)
    generalize sharesL es q = sl at *
    clear h1 h2 h3 h4 hu hl
    have hs2 : 1000 < s → ¬ s ≤ 65536 := fun h1 h2 => hs ⟨h1, h2⟩
    clear hs
    by_cases hs3 : 1000 < s
    · have hs4 := hs2 hs3
      clear hs2
      go_enter Try.func3, Try.ntmps3
      go_wp2_with (first
        | (go_at_call 8; refine (H1.out _).mono ?_; rintro e u1 ⟨A1, d1, rfl, r1, b1⟩; obtain ⟨p1, z1, q1⟩ := KW.out u1 b1; obtain ⟨a0, a1, a2, a3, a4⟩ := plan_cells p1; have HP1 := Lib.hid p1; have HQ1 := Lib.hid q1; have HZ1 := Lib.hid z1; have HR1 := Lib.hid r1; clear p1 q1 z1 r1 b1)
        | (go_at_call 10; refine (of_any seed m s c e _).mono ?_; rintro e u2 ⟨rfl, b2⟩; have HB2 := Lib.hid b2; clear b2)
        | (go_at_call 9; refine (H2.out _).mono ?_; rintro e u3 ⟨A3, d3, rfl, r3, b3⟩; have HR3 := Lib.hid r3; have HB3 := Lib.hid (HB2.out.trans (b3.mono HB2.out.size)); clear r3 b3))
      have KC := Lib.hid (fun (w' : World) (hb : Below u3.heap.size u3 w') => plan_cells (show Blk w' w.heap.size _ _ from (hb.block w.heap.size (by have := HB3.out.size; have := HZ1.out; omega)).trans ((HB3.out.block w.heap.size HZ1.out).trans HP1.out)))
      have KR1 := Lib.hid (fun (w' : World) (hb : Below u3.heap.size u3 w') => (HR1.out.below HB3.out (Nat.le_refl _)).below hb (Nat.le_refl _))
      have KR3 := Lib.hid (fun (w' : World) (hb : Below u3.heap.size u3 w') => HR3.out.below hb (Nat.le_refl _))
      have H9 := Lib.hid (HQ1.out.trans (HB3.out.mono HQ1.out.size))
      have hplan := KC.out u3 (Below.refl _ _)
      go_region_held3 (fun w' => w'.cell? ⟨w.heap.size, 0, none⟩ = some (.int .u64 seed) ∧ w'.cell? ⟨w.heap.size, 1, none⟩ = some (.int .i64 m) ∧ w'.cell? ⟨w.heap.size, 2, none⟩ = some (.int .i64 s) ∧ w'.cell? ⟨w.heap.size, 3, none⟩ = some (.int .i64 c) ∧ w'.cell? ⟨w.heap.size, 4, none⟩ = some (.int .i64 e)) (first | exact KC.out _ ⟨B8.out.os, B8.out.tape, B8.out.output, B8.out.size, B8.out.block⟩ | exact KC.out _ ⟨B7.out.os, B7.out.tape, B7.out.output, B7.out.size, B7.out.block⟩ | exact KC.out _ ⟨B6.out.os, B6.out.tape, B6.out.output, B6.out.size, B6.out.block⟩ | exact KC.out _ ⟨B5.out.os, B5.out.tape, B5.out.output, B5.out.size, B5.out.block⟩ | exact KC.out _ ⟨B4.out.os, B4.out.tape, B4.out.output, B4.out.size, B4.out.block⟩ | exact KC.out _ ⟨B3.out.os, B3.out.tape, B3.out.output, B3.out.size, B3.out.block⟩ | exact KC.out _ ⟨B2.out.os, B2.out.tape, B2.out.output, B2.out.size, B2.out.block⟩ | exact KC.out _ ⟨B1.out.os, B1.out.tape, B1.out.output, B1.out.size, B1.out.block⟩ | exact KC.out _ ⟨rfl, rfl, rfl, Nat.le_refl _, fun _ _ => rfl⟩)
        (first
          | (go_at_call 11; refine Calls.mono (H8.out _ _ _ _ _ ?_ ?_) ?_; (next => exact KR1.out _ ⟨rfl, rfl, rfl, Nat.le_refl _, fun _ _ => rfl⟩); (next => exact KR3.out _ ⟨rfl, rfl, rfl, Nat.le_refl _, fun _ _ => rfl⟩); rintro e x1 ⟨rfl, b1⟩; have B1 := Lib.hid (show Below u3.heap.size u3 x1 from ⟨b1.os, b1.tape, b1.output, b1.size, b1.block⟩); clear b1)
          | (go_at_call 12; refine (H3.out _).mono ?_; rintro e x2 ⟨rfl, b2⟩; have B2 := Lib.hid (B1.out.trans ((show Below x1.heap.size x1 x2 from ⟨b2.os, b2.tape, b2.output, b2.size, b2.block⟩).mono B1.out.size)); clear b2)
          | (go_at_call 10; refine (of_any seed m s c e _).mono ?_; rintro e x3 ⟨rfl, b3⟩; have B3 := Lib.hid (B2.out.trans ((show Below x2.heap.size x2 x3 from ⟨b3.os, b3.tape, b3.output, b3.size, b3.block⟩).mono B2.out.size)); clear b3)
          | (go_at_call 13; refine (H4.out _).mono ?_; rintro e x4 ⟨rfl, b4⟩; have B4 := Lib.hid (B3.out.trans ((show Below x3.heap.size x3 x4 from ⟨b4.os, b4.tape, b4.output, b4.size, b4.block⟩).mono B3.out.size)); clear b4)
          | (go_at_call 15; refine Calls.mono (H5.out _ _ _ ?_) ?_; (next => exact KR1.out _ ⟨B4.out.os, B4.out.tape, B4.out.output, B4.out.size, B4.out.block⟩); rintro e x5 ⟨A5, d5, rfl, r5, q5, b5⟩; have R5 := Lib.hid r5; clear r5 q5; have B5 := Lib.hid (B4.out.trans ((show Below x4.heap.size x4 x5 from ⟨b5.os, b5.tape, b5.output, b5.size, b5.block⟩).mono B4.out.size)); clear b5)
          | (go_at_call 16; refine Calls.mono (H6.out _ _ _ ?_) ?_; (next => exact KR3.out _ ⟨B5.out.os, B5.out.tape, B5.out.output, B5.out.size, B5.out.block⟩); rintro e x6 ⟨A6, d6, rfl, r6, q6, b6⟩; have R6 := Lib.hid r6; have R56 := Lib.hid (R5.out.below (show Below x5.heap.size x5 x6 from ⟨b6.os, b6.tape, b6.output, b6.size, b6.block⟩) (Nat.le_refl _)); clear r6 q6; have B6 := Lib.hid (B5.out.trans ((show Below x5.heap.size x5 x6 from ⟨b6.os, b6.tape, b6.output, b6.size, b6.block⟩).mono B5.out.size)); clear b6)
          | (go_at_call 14; refine Calls.mono (H7.out _ _ _ _ _ ?_ ?_) ?_; (next => exact R56.out); (next => exact R6.out); rintro e x7 ⟨rfl, b7⟩; have B7 := Lib.hid (B6.out.trans ((show Below x6.heap.size x6 x7 from ⟨b7.os, b7.tape, b7.output, b7.size, b7.block⟩).mono B6.out.size)); clear b7)
          | (go_at_call 7; refine (alive_any _).mono ?_; rintro e x8 ⟨rfl, b8⟩; have B8 := Lib.hid (B7.out.trans ((show Below x7.heap.size x7 x8 from ⟨b8.os, b8.tape, b8.output, b8.size, b8.block⟩).mono B7.out.size)); clear b8))
      all_goals go_wp2
      all_goals (go_ret; exact ⟨rfl, H9.out.trans (B8.out.mono H9.out.size)⟩)
    · clear hs2
      go_enter Try.func3, Try.ntmps3
      go_wp2_with (first
        | (go_at_call 8; refine (H1.out _).mono ?_; rintro e u1 ⟨A1, d1, rfl, r1, b1⟩; obtain ⟨p1, z1, q1⟩ := KW.out u1 b1; obtain ⟨a0, a1, a2, a3, a4⟩ := plan_cells p1; have HP1 := Lib.hid p1; have HQ1 := Lib.hid q1; have HZ1 := Lib.hid z1; have HR1 := Lib.hid r1; clear p1 q1 z1 r1 b1)
        | (go_at_call 10; refine (of_any seed m s c e _).mono ?_; rintro e u2 ⟨rfl, b2⟩; have HB2 := Lib.hid b2; clear b2)
        | (go_at_call 9; refine (H2.out _).mono ?_; rintro e u3 ⟨A3, d3, rfl, r3, b3⟩; have HR3 := Lib.hid r3; have HB3 := Lib.hid (HB2.out.trans (b3.mono HB2.out.size)); clear r3 b3))
      have KC := Lib.hid (fun (w' : World) (hb : Below u3.heap.size u3 w') => plan_cells (show Blk w' w.heap.size _ _ from (hb.block w.heap.size (by have := HB3.out.size; have := HZ1.out; omega)).trans ((HB3.out.block w.heap.size HZ1.out).trans HP1.out)))
      have KR1 := Lib.hid (fun (w' : World) (hb : Below u3.heap.size u3 w') => (HR1.out.below HB3.out (Nat.le_refl _)).below hb (Nat.le_refl _))
      have KR3 := Lib.hid (fun (w' : World) (hb : Below u3.heap.size u3 w') => HR3.out.below hb (Nat.le_refl _))
      have H9 := Lib.hid (HQ1.out.trans (HB3.out.mono HQ1.out.size))
      have hplan := KC.out u3 (Below.refl _ _)
      go_region_held3 (fun w' => w'.cell? ⟨w.heap.size, 0, none⟩ = some (.int .u64 seed) ∧ w'.cell? ⟨w.heap.size, 1, none⟩ = some (.int .i64 m) ∧ w'.cell? ⟨w.heap.size, 2, none⟩ = some (.int .i64 s) ∧ w'.cell? ⟨w.heap.size, 3, none⟩ = some (.int .i64 c) ∧ w'.cell? ⟨w.heap.size, 4, none⟩ = some (.int .i64 e)) (first | exact KC.out _ ⟨B8.out.os, B8.out.tape, B8.out.output, B8.out.size, B8.out.block⟩ | exact KC.out _ ⟨B7.out.os, B7.out.tape, B7.out.output, B7.out.size, B7.out.block⟩ | exact KC.out _ ⟨B6.out.os, B6.out.tape, B6.out.output, B6.out.size, B6.out.block⟩ | exact KC.out _ ⟨B5.out.os, B5.out.tape, B5.out.output, B5.out.size, B5.out.block⟩ | exact KC.out _ ⟨B4.out.os, B4.out.tape, B4.out.output, B4.out.size, B4.out.block⟩ | exact KC.out _ ⟨B3.out.os, B3.out.tape, B3.out.output, B3.out.size, B3.out.block⟩ | exact KC.out _ ⟨B2.out.os, B2.out.tape, B2.out.output, B2.out.size, B2.out.block⟩ | exact KC.out _ ⟨B1.out.os, B1.out.tape, B1.out.output, B1.out.size, B1.out.block⟩ | exact KC.out _ ⟨rfl, rfl, rfl, Nat.le_refl _, fun _ _ => rfl⟩)
        (first
          | (go_at_call 11; refine Calls.mono (H8.out _ _ _ _ _ ?_ ?_) ?_; (next => exact KR1.out _ ⟨rfl, rfl, rfl, Nat.le_refl _, fun _ _ => rfl⟩); (next => exact KR3.out _ ⟨rfl, rfl, rfl, Nat.le_refl _, fun _ _ => rfl⟩); rintro e x1 ⟨rfl, b1⟩; have B1 := Lib.hid (show Below u3.heap.size u3 x1 from ⟨b1.os, b1.tape, b1.output, b1.size, b1.block⟩); clear b1)
          | (go_at_call 12; refine (H3.out _).mono ?_; rintro e x2 ⟨rfl, b2⟩; have B2 := Lib.hid (B1.out.trans ((show Below x1.heap.size x1 x2 from ⟨b2.os, b2.tape, b2.output, b2.size, b2.block⟩).mono B1.out.size)); clear b2)
          | (go_at_call 10; refine (of_any seed m s c e _).mono ?_; rintro e x3 ⟨rfl, b3⟩; have B3 := Lib.hid (B2.out.trans ((show Below x2.heap.size x2 x3 from ⟨b3.os, b3.tape, b3.output, b3.size, b3.block⟩).mono B2.out.size)); clear b3)
          | (go_at_call 13; refine (H4.out _).mono ?_; rintro e x4 ⟨rfl, b4⟩; have B4 := Lib.hid (B3.out.trans ((show Below x3.heap.size x3 x4 from ⟨b4.os, b4.tape, b4.output, b4.size, b4.block⟩).mono B3.out.size)); clear b4)
          | (go_at_call 15; refine Calls.mono (H5.out _ _ _ ?_) ?_; (next => exact KR1.out _ ⟨B4.out.os, B4.out.tape, B4.out.output, B4.out.size, B4.out.block⟩); rintro e x5 ⟨A5, d5, rfl, r5, q5, b5⟩; have R5 := Lib.hid r5; clear r5 q5; have B5 := Lib.hid (B4.out.trans ((show Below x4.heap.size x4 x5 from ⟨b5.os, b5.tape, b5.output, b5.size, b5.block⟩).mono B4.out.size)); clear b5)
          | (go_at_call 16; refine Calls.mono (H6.out _ _ _ ?_) ?_; (next => exact KR3.out _ ⟨B5.out.os, B5.out.tape, B5.out.output, B5.out.size, B5.out.block⟩); rintro e x6 ⟨A6, d6, rfl, r6, q6, b6⟩; have R6 := Lib.hid r6; have R56 := Lib.hid (R5.out.below (show Below x5.heap.size x5 x6 from ⟨b6.os, b6.tape, b6.output, b6.size, b6.block⟩) (Nat.le_refl _)); clear r6 q6; have B6 := Lib.hid (B5.out.trans ((show Below x5.heap.size x5 x6 from ⟨b6.os, b6.tape, b6.output, b6.size, b6.block⟩).mono B5.out.size)); clear b6)
          | (go_at_call 14; refine Calls.mono (H7.out _ _ _ _ _ ?_ ?_) ?_; (next => exact R56.out); (next => exact R6.out); rintro e x7 ⟨rfl, b7⟩; have B7 := Lib.hid (B6.out.trans ((show Below x6.heap.size x6 x7 from ⟨b7.os, b7.tape, b7.output, b7.size, b7.block⟩).mono B6.out.size)); clear b7)
          | (go_at_call 7; refine (alive_any _).mono ?_; rintro e x8 ⟨rfl, b8⟩; have B8 := Lib.hid (B7.out.trans ((show Below x7.heap.size x7 x8 from ⟨b8.os, b8.tape, b8.output, b8.size, b8.block⟩).mono B7.out.size)); clear b8))
      all_goals go_wp2
      all_goals (go_ret; exact ⟨rfl, H9.out.trans (B8.out.mono H9.out.size)⟩)
theorem walk_pctScripts (cs0 : List Value) (d0 : ShPlan.Den) (a1 : Int) (w : World) (hL0 : Lies w ShPlan cs0 d0) (w1 : (Lit.int .i64 a1).wf = true) :
    Calls Try.prog 3 #[Sh.val ShPlan cs0, .int .i64 a1] w fun e w' => e = .returned (.bool true) ∧ Below w.heap.size w w' := by
  obtain ⟨seed, m, s, c, e, h, _⟩ := open_plan hL0
  rw [h]
  exact walk_pctScripts' seed m s c e a1 w
end Go.Proofs.Ytfmjmhnbdceipaa
