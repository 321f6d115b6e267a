/- What was told, by the program and by the document. -/
import Derived.Test.YtnepgbhbbbcecaaDoorEvB
import Derived.Deep.RegionHeld3
import Derived.WalkMore
namespace Go.Proofs.YtnepgbhbbbcecaaDoor
open Go.ChangeShapes Go.WideShapes Go.ChangeAt Go.RowKit Go.Deep
set_option linter.unusedVariables false
set_option linter.unusedSimpArgs false

def tell (m : Nat) (nc : Nat → Nat) (code : Nat → List (List Int)) (g : Int) (e : List Int) : Bool :=
  decide (e.getD 0 0 = 2) && (decide (g = 0) || decide (e.getD 1 0 = g)) && decide (opAt m nc code (e.getD 2 0) (e.getD 3 0) = 15)
def told (m : Nat) (nc : Nat → Nat) (code : Nat → List (List Int)) (g : Int) (es : List (List Int)) : List Int := (es.filter (tell m nc code g)).map fun e => e.getD 4 0
section
variable {m : Nat} {nc : Nat → Nat} {code : Nat → List (List Int)} {g : Int} {es : List (List Int)}
theorem told_len (m : Nat) (nc : Nat → Nat) (code : Nat → List (List Int)) (g : Int) (es : List (List Int)) : (told m nc code g es).length ≤ es.length := by
  unfold told; rw [List.length_map]; exact List.length_filter_le _ _
theorem told_yes {k : Nat} (hk : k < es.length) (h : tell m nc code g es[k] = true) : told m nc code g (es.take (k + 1)) = told m nc code g (es.take k) ++ [(es[k]).getD 4 0] := by
  rw [told, List.take_succ_eq_append_getElem hk, List.filter_append]
  simp [told, h]
theorem told_no {k : Nat} (hk : k < es.length) (h : tell m nc code g es[k] = false) : told m nc code g (es.take (k + 1)) = told m nc code g (es.take k) := by
  rw [told, List.take_succ_eq_append_getElem hk, List.filter_append]
  simp [told, h]
theorem tell_kind {e : List Int} (h : e.getD 0 0 ≠ 2) : tell m nc code g e = false := by simp only [tell, decide_eq_false h, Bool.false_and]
theorem tell_other {e : List Int} (h0 : g ≠ 0) (h : e.getD 1 0 ≠ g) : tell m nc code g e = false := by simp only [tell, decide_eq_false h0, decide_eq_false h, Bool.or_false, Bool.and_false, Bool.false_and]
theorem tell_op {e : List Int} (h : opAt m nc code (e.getD 2 0) (e.getD 3 0) ≠ 15) : tell m nc code g e = false := by simp only [tell, decide_eq_false h, Bool.and_false]
theorem tell_all {e : List Int} (h1 : e.getD 0 0 = 2) (h : opAt m nc code (e.getD 2 0) (e.getD 3 0) = 15) : tell m nc code 0 e = true := by simp only [tell, decide_eq_true h1, decide_eq_true h, decide_true, Bool.true_or, Bool.and_true]
theorem tell_one {e : List Int} (h1 : e.getD 0 0 = 2) (h2 : e.getD 1 0 = g) (h : opAt m nc code (e.getD 2 0) (e.getD 3 0) = 15) : tell m nc code g e = true := by simp only [tell, decide_eq_true h1, decide_eq_true h2, decide_eq_true h, Bool.or_true, Bool.and_true]
end
theorem rowfar {w : World} {n c : Nat} {A : Option Addr} {xs : List Value} {E t : TypeId} {cs : Array Value} {V : World} {ob : Obj} (hB : Blk w V.heap.size t cs) (hR : Row w V.heap.size E 1 A n c xs) (hne : E ≠ t) : ∀ g, blk A = some g → (V.alloc ob).heap.size ≤ g := by
  intro g hg
  have h1 := (hR.blk_lt g hg).1
  have h2 := hR.blk_ne hB hne
  have h3 : g ≠ V.heap.size := fun e => h2 (by rw [hg, e])
  simp; omega
def EmR (W : World) (base : Nat) (tl : Nat → List Int) (n : Nat) (lv iv : Value) (wr : World) : Prop :=
  ∃ (k : Nat) (A : Option Addr) (c : Nat), k ≤ n ∧ iv = .int .i64 k ∧ lv = .slice A (tl k).length c ∧ Row wr base 2 1 A (tl k).length c (ints (tl k)) ∧ Chg (fun _ => False) W wr
section
variable {W : World} {A : Option Addr} {m : Nat} {Ac : Nat → Option Addr} {nc cc : Nat → Nat} {As : Nat → Option Addr} {ns cs : Nat → Nat} {code : Nat → List (List Int)} {safe : Nat → List Bool}
set_option maxRecDepth 100000 in
set_option maxHeartbeats 16000000 in
theorem emits_any (c : Nat) (hP : PM W A m Ac nc cc As ns cs code safe) (hm : m ≤ 100) (D : Option Addr) (n cap : Nat) (g : Int) (es : List (List Int)) (hu : Uni 5 es) (hD : Rd W 5 D n (kv es)) (hn : n ≤ 1000) :
    Calls Tryd.prog 23 #[.agg #[.slice A m c], .slice D n cap, .int .i64 g] W fun e W' => ∃ A1 c1, e = .returned (.slice A1 (told m nc code g es).length c1) ∧ Row W' W.heap.size 2 1 A1 (told m nc code g es).length c1 (ints (told m nc code g es)) ∧ Chg (fun _ => False) W W' := by
  have hlen := hD.lenk hu (by decide)
  have hc0 : Chg (fun _ => False) W (W.alloc (.cells #[.slice A m c] 37)) := (Chg.refl _ _).alloc _
  have HC0 := Lib.hid hc0
  have HD := Lib.hid (hD.kept hc0 (fun _ _ h => h))
  have HU := Lib.hid hu
  have HB := Lib.hid (Blk.new W 37 #[.slice A m c])
  obtain ⟨tl, htl⟩ : ∃ tl : Nat → List Int, tl = fun k => told m nc code g (es.take k) := ⟨_, rfl⟩
  have HT := Lib.hid htl
  have HPP := Lib.hid (fun (V : World) (hc : Chg (fun _ => False) (W.alloc (.cells #[.slice A m c] 37)) V) (K G F P N : Int) => op_any c K G F P N (hP.chg (hc0.trans hc (fun _ _ h => h))) hm)
  have hend : told m nc code g es = tl n := by rw [htl]; simp only; rw [List.take_of_length_le (by omega)]
  rw [hend]
  have hlt : ∀ k, (tl k).length ≤ k := fun k => by rw [htl]; have := told_len m nc code g (es.take k); rw [List.length_take] at this; simp only; omega
  have HLT := Lib.hid hlt
  clear hD hu hP hc0 htl hend hlt
  go_enter Tryd.func23, Tryd.ntmps23
  go_wp2_with fail
  go_loopw [7, 12] (fun lv iv wr => EmR (W.alloc (.cells #[.slice A m c] 37)) W.heap.size tl n lv iv wr) (fun _ iv _ => n - (intOf iv).toNat)
  case atStart =>
    have h0 : tl 0 = [] := by rw [HT.out]; simp [told]
    exact ⟨0, none, 0, Nat.zero_le _, rfl, by rw [h0]; rfl, by rw [h0]; exact Row.nil _ _ _ _, Chg.refl _ _⟩
  case round =>
    obtain ⟨k, A', c', hk, rfl, rfl, hr, hc⟩ := hrel
    have k0 : (0 : Int) ≤ k := by omega
    have HR := Lib.hid hr
    have HC := Lib.hid hc
    have hsz := hc.size
    rw [show (W.alloc (.cells #[.slice A m c] 37)).heap.size = W.heap.size + 1 from by simp] at hsz
    have b0 := (HB.out.kept hc (fun h => h)).cell 0
    simp at b0
    have b1 : W.heap.size < wr.heap.size := by omega
    clear hr hc
    by_cases hlt : k < n
    · have k1 : (k : Int) < n := by omega
      have hke : k < es.length := by omega
      obtain ⟨_, b, o, rfl, hb, hcc⟩ := (HD.out.kept HC.out (fun _ _ h => h)).getk HU.out (by decide) (by omega)
      have c0 := hcc k hke 0 (by decide)
      have c1 := hcc k hke 1 (by decide)
      have c2 := hcc k hke 2 (by decide)
      have c3 := hcc k hke 3 (by decide)
      have c4 := hcc k hke 4 (by decide)
      simp only [Nat.add_zero] at c0
      rw [← Nat.add_assoc] at c1 c2 c3 c4
      have HY := Lib.hid (fun (h : tell m nc code g es[k] = true) => show tl (k + 1) = tl k ++ [(es[k]).getD 4 0] from by rw [HT.out]; exact told_yes hke h)
      have HN := Lib.hid (fun (h : tell m nc code g es[k] = false) => show tl (k + 1) = tl k from by rw [HT.out]; exact told_no hke h)
      have T1 := Lib.hid (@tell_kind m nc code g es[k])
      have T2 := Lib.hid (@tell_other m nc code g es[k])
      have T3 := Lib.hid (@tell_op m nc code g es[k])
      have T4 := Lib.hid (fun (h : g = 0) (h1 : (es[k]).getD 0 0 = 2) (h2 : opAt m nc code ((es[k]).getD 2 0) ((es[k]).getD 3 0) = 15) => show tell m nc code g es[k] = true from by subst h; exact tell_all h1 h2)
      have T5 := Lib.hid (@tell_one m nc code g es[k])
      have hol := HLT.out k
      have HOP := Lib.hid (fun (V : World) (hc : Chg (fun _ => False) wr V) => HPP.out V (HC.out.trans hc (fun _ _ h => h)) ((es[k]).getD 0 0) ((es[k]).getD 1 0) ((es[k]).getD 2 0) ((es[k]).getD 3 0) ((es[k]).getD 4 0))
      generalize opAt m nc code ((es[k]).getD 2 0) ((es[k]).getD 3 0) = v at *
      generalize (es[k]).getD 0 0 = x0 at *
      generalize (es[k]).getD 1 0 = x1 at *
      generalize (es[k]).getD 2 0 = x2 at *
      generalize (es[k]).getD 3 0 = x3 at *
      generalize (es[k]).getD 4 0 = x4 at *
      generalize tell m nc code g es[k] = te at *
      clear hcc HD HU HPP
      by_cases h0 : x0 = 2
      · subst h0
        by_cases hv : v = 15
        · subst hv
          by_cases hg : g = 0
          · subst hg
            have HE := Lib.hid (HY.out (T4.out rfl rfl rfl))
            clear HY HN T1 T2 T3 T4 T5
            go_wp2_with (first | (go_at_call 19; refine (HOP.out _ ((Chg.refl _ wr).alloc (.cells #[.int .i64 2, .int .i64 x1, .int .i64 x2, .int .i64 x3, .int .i64 x4] 28))).mono ?_; rintro e w1 ⟨rfl, hc1⟩; have HB1 := Lib.hid ((Blk.new wr 28 #[.int .i64 2, .int .i64 x1, .int .i64 x2, .int .i64 x3, .int .i64 x4]).kept hc1 (fun h => h)); have q4 := HB1.out.cell 4; simp at q4; have hq := HB1.out.lt; have HR1 := Lib.hid ((HR.out.alloc _).kept hc1 (fun _ _ h => h)); have HC1 := Lib.hid ((HC.out.alloc _).trans hc1 (fun _ _ h => h)); clear hc1; have HB1X := Lib.hid (HB.out.kept HC1.out (fun h => h))) | (at_builtin; refine wpList_app64 rfl (.tmp 35) (.tmp 38) rfl W.heap.size A' (tl k).length c' (tl k) rfl (HR1.out.alloc _) _ 1 1 [x4] rfl (Rd.litn64 _ _ _ _ (by simp)) ?_ ?_ ?_; (next => omega); (next => have := HC1.out.size; simp at this ⊢; omega); intro A3 c3 w3 r1 r2 r3; have HX := Lib.hid r1; have HZ := Lib.hid ((HC1.out.alloc _).grown (S := fun _ => False) r2 (fun g hg => .inr (rowfar HB1X.out HR1.out (by decide) g hg))); clear r1 r2 r3))
            go_roundw
            case rel => exact ⟨k + 1, A3, c3, by omega, by go_num, by rw [HE.out]; simp, by rw [HE.out]; simpa using HX.out, HZ.out⟩
            case measure => simp [intOf]; omega
          · have hgd : (g == 0) = false := beq_eq_false_iff_ne.2 hg
            by_cases h1 : x1 = g
            · subst h1
              have HE := Lib.hid (HY.out (T5.out rfl rfl rfl))
              clear HY HN T1 T2 T3 T4 T5
              go_wp2_with (first | (go_at_call 19; refine (HOP.out _ ((Chg.refl _ wr).alloc (.cells #[.int .i64 2, .int .i64 x1, .int .i64 x2, .int .i64 x3, .int .i64 x4] 28))).mono ?_; rintro e w1 ⟨rfl, hc1⟩; have HB1 := Lib.hid ((Blk.new wr 28 #[.int .i64 2, .int .i64 x1, .int .i64 x2, .int .i64 x3, .int .i64 x4]).kept hc1 (fun h => h)); have q4 := HB1.out.cell 4; simp at q4; have hq := HB1.out.lt; have HR1 := Lib.hid ((HR.out.alloc _).kept hc1 (fun _ _ h => h)); have HC1 := Lib.hid ((HC.out.alloc _).trans hc1 (fun _ _ h => h)); clear hc1; have HB1X := Lib.hid (HB.out.kept HC1.out (fun h => h))) | (at_builtin; refine wpList_app64 rfl (.tmp 35) (.tmp 38) rfl W.heap.size A' (tl k).length c' (tl k) rfl (HR1.out.alloc _) _ 1 1 [x4] rfl (Rd.litn64 _ _ _ _ (by simp)) ?_ ?_ ?_; (next => omega); (next => have := HC1.out.size; simp at this ⊢; omega); intro A3 c3 w3 r1 r2 r3; have HX := Lib.hid r1; have HZ := Lib.hid ((HC1.out.alloc _).grown (S := fun _ => False) r2 (fun g hg => .inr (rowfar HB1X.out HR1.out (by decide) g hg))); clear r1 r2 r3))
              go_roundw
              case rel => exact ⟨k + 1, A3, c3, by omega, by go_num, by rw [HE.out]; simp, by rw [HE.out]; simpa using HX.out, HZ.out⟩
              case measure => simp [intOf]; omega
            · have hxd : (x1 == g) = false := beq_eq_false_iff_ne.2 h1
              have HE := Lib.hid (HN.out (T2.out hg h1))
              clear HY HN T1 T2 T3 T4 T5
              go_wp2
              go_roundw
              case rel => exact ⟨k + 1, A', c', by omega, by go_num, by rw [HE.out], by rw [HE.out]; exact HR.out.alloc _, HC.out.alloc _⟩
              case measure => simp [intOf]; omega
        · have hvd : (v == 15) = false := beq_eq_false_iff_ne.2 hv
          have HE := Lib.hid (HN.out (T3.out hv))
          by_cases hg : g = 0
          · subst hg
            clear HY HN T1 T2 T3 T4 T5
            go_wp2_with ((go_at_call 19; refine (HOP.out _ ((Chg.refl _ wr).alloc (.cells #[.int .i64 2, .int .i64 x1, .int .i64 x2, .int .i64 x3, .int .i64 x4] 28))).mono ?_; rintro e w1 ⟨rfl, hc1⟩; have HB1 := Lib.hid ((Blk.new wr 28 #[.int .i64 2, .int .i64 x1, .int .i64 x2, .int .i64 x3, .int .i64 x4]).kept hc1 (fun h => h)); have q4 := HB1.out.cell 4; simp at q4; have hq := HB1.out.lt; have HR1 := Lib.hid ((HR.out.alloc _).kept hc1 (fun _ _ h => h)); have HC1 := Lib.hid ((HC.out.alloc _).trans hc1 (fun _ _ h => h)); clear hc1))
            go_roundw
            case rel => exact ⟨k + 1, A', c', by omega, by go_num, by rw [HE.out], by rw [HE.out]; exact HR1.out, HC1.out⟩
            case measure => simp [intOf]; omega
          · have hgd : (g == 0) = false := beq_eq_false_iff_ne.2 hg
            by_cases h1 : x1 = g
            · subst h1
              clear HY HN T1 T2 T3 T4 T5
              go_wp2_with ((go_at_call 19; refine (HOP.out _ ((Chg.refl _ wr).alloc (.cells #[.int .i64 2, .int .i64 x1, .int .i64 x2, .int .i64 x3, .int .i64 x4] 28))).mono ?_; rintro e w1 ⟨rfl, hc1⟩; have HB1 := Lib.hid ((Blk.new wr 28 #[.int .i64 2, .int .i64 x1, .int .i64 x2, .int .i64 x3, .int .i64 x4]).kept hc1 (fun h => h)); have q4 := HB1.out.cell 4; simp at q4; have hq := HB1.out.lt; have HR1 := Lib.hid ((HR.out.alloc _).kept hc1 (fun _ _ h => h)); have HC1 := Lib.hid ((HC.out.alloc _).trans hc1 (fun _ _ h => h)); clear hc1))
              go_roundw
              case rel => exact ⟨k + 1, A', c', by omega, by go_num, by rw [HE.out], by rw [HE.out]; exact HR1.out, HC1.out⟩
              case measure => simp [intOf]; omega
            · have hxd : (x1 == g) = false := beq_eq_false_iff_ne.2 h1
              clear HY HN T1 T2 T3 T4 T5
              go_wp2
              go_roundw
              case rel => exact ⟨k + 1, A', c', by omega, by go_num, by rw [HE.out], by rw [HE.out]; exact HR.out.alloc _, HC.out.alloc _⟩
              case measure => simp [intOf]; omega
      · have h0d : (x0 == 2) = false := beq_eq_false_iff_ne.2 h0
        have HE := Lib.hid (HN.out (T1.out h0))
        clear HY HN T1 T2 T3 T4 T5
        go_wp2
        go_roundw
        case rel => exact ⟨k + 1, A', c', by omega, by go_num, by rw [HE.out], by rw [HE.out]; exact HR.out.alloc _, HC.out.alloc _⟩
        case measure => simp [intOf]; omega
    · obtain rfl : k = n := by omega
      have HR2 := Lib.hid HR.out
      go_wp2
      go_ret
      exact ⟨A', c', rfl, HR.out, HC0.out.trans HC.out (fun _ _ h => h)⟩
set_option maxRecDepth 100000 in
set_option maxHeartbeats 16000000 in
theorem remits_any (c : Nat) (hP : PM W A m Ac nc cc As ns cs code safe) (hm : m ≤ 100) (D : Option Addr) (n cap : Nat) (g : Int) (es : List (List Int)) (hu : Uni 5 es) (hD : Rd W 5 D n (kv es)) (hn : n ≤ 1000) :
    Calls Tryd.prog 24 #[.agg #[.slice A m c], .slice D n cap, .int .i64 g] W fun e W' => ∃ A1 c1, e = .returned (.slice A1 (told m nc code g es).length c1) ∧ Row W' W.heap.size 2 1 A1 (told m nc code g es).length c1 (ints (told m nc code g es)) ∧ Chg (fun _ => False) W W' := by
  have hlen := hD.lenk hu (by decide)
  have hc0 : Chg (fun _ => False) W (W.alloc (.cells #[.slice A m c] 37)) := (Chg.refl _ _).alloc _
  have HC0 := Lib.hid hc0
  have HD := Lib.hid (hD.kept hc0 (fun _ _ h => h))
  have HU := Lib.hid hu
  have HB := Lib.hid (Blk.new W 37 #[.slice A m c])
  obtain ⟨tl, htl⟩ : ∃ tl : Nat → List Int, tl = fun k => told m nc code g (es.take k) := ⟨_, rfl⟩
  have HT := Lib.hid htl
  have HPP := Lib.hid (fun (V : World) (hc : Chg (fun _ => False) (W.alloc (.cells #[.slice A m c] 37)) V) (K G F P N : Int) => rop_any c K G F P N (hP.chg (hc0.trans hc (fun _ _ h => h))) hm)
  have hend : told m nc code g es = tl n := by rw [htl]; simp only; rw [List.take_of_length_le (by omega)]
  rw [hend]
  have hlt : ∀ k, (tl k).length ≤ k := fun k => by rw [htl]; have := told_len m nc code g (es.take k); rw [List.length_take] at this; simp only; omega
  have HLT := Lib.hid hlt
  clear hD hu hP hc0 htl hend hlt
  go_enter Tryd.func24, Tryd.ntmps24
  go_wp2_with fail
  go_loopw [7, 8] (fun lv iv wr => EmR (W.alloc (.cells #[.slice A m c] 37)) W.heap.size tl n lv iv wr) (fun _ iv _ => n - (intOf iv).toNat)
  case atStart =>
    have h0 : tl 0 = [] := by rw [HT.out]; simp [told]
    exact ⟨0, none, 0, Nat.zero_le _, rfl, by rw [h0]; rfl, by rw [h0]; exact Row.nil _ _ _ _, Chg.refl _ _⟩
  case round =>
    obtain ⟨k, A', c', hk, rfl, rfl, hr, hc⟩ := hrel
    have k0 : (0 : Int) ≤ k := by omega
    have HR := Lib.hid hr
    have HC := Lib.hid hc
    have hsz := hc.size
    rw [show (W.alloc (.cells #[.slice A m c] 37)).heap.size = W.heap.size + 1 from by simp] at hsz
    have b0 := (HB.out.kept hc (fun h => h)).cell 0
    simp at b0
    have b1 : W.heap.size < wr.heap.size := by omega
    clear hr hc
    by_cases hlt : k < n
    · have k1 : (k : Int) < n := by omega
      have hke : k < es.length := by omega
      obtain ⟨_, b, o, rfl, hb, hcc⟩ := (HD.out.kept HC.out (fun _ _ h => h)).getk HU.out (by decide) (by omega)
      have c0 := hcc k hke 0 (by decide)
      have c1 := hcc k hke 1 (by decide)
      have c2 := hcc k hke 2 (by decide)
      have c3 := hcc k hke 3 (by decide)
      have c4 := hcc k hke 4 (by decide)
      simp only [Nat.add_zero] at c0
      rw [← Nat.add_assoc] at c1 c2 c3 c4
      have HY := Lib.hid (fun (h : tell m nc code g es[k] = true) => show tl (k + 1) = tl k ++ [(es[k]).getD 4 0] from by rw [HT.out]; exact told_yes hke h)
      have HN := Lib.hid (fun (h : tell m nc code g es[k] = false) => show tl (k + 1) = tl k from by rw [HT.out]; exact told_no hke h)
      have T1 := Lib.hid (@tell_kind m nc code g es[k])
      have T2 := Lib.hid (@tell_other m nc code g es[k])
      have T3 := Lib.hid (@tell_op m nc code g es[k])
      have T4 := Lib.hid (fun (h : g = 0) (h1 : (es[k]).getD 0 0 = 2) (h2 : opAt m nc code ((es[k]).getD 2 0) ((es[k]).getD 3 0) = 15) => show tell m nc code g es[k] = true from by subst h; exact tell_all h1 h2)
      have T5 := Lib.hid (@tell_one m nc code g es[k])
      have hol := HLT.out k
      have HOP := Lib.hid (fun (V : World) (hc : Chg (fun _ => False) wr V) => HPP.out V (HC.out.trans hc (fun _ _ h => h)) ((es[k]).getD 0 0) ((es[k]).getD 1 0) ((es[k]).getD 2 0) ((es[k]).getD 3 0) ((es[k]).getD 4 0))
      generalize opAt m nc code ((es[k]).getD 2 0) ((es[k]).getD 3 0) = v at *
      generalize (es[k]).getD 0 0 = x0 at *
      generalize (es[k]).getD 1 0 = x1 at *
      generalize (es[k]).getD 2 0 = x2 at *
      generalize (es[k]).getD 3 0 = x3 at *
      generalize (es[k]).getD 4 0 = x4 at *
      generalize tell m nc code g es[k] = te at *
      clear hcc HD HU HPP
      have hs0 : wr.drew.cell? ⟨W.heap.size, 0, none⟩ = some (.slice A m c) ∧ wr.drew.cell? ⟨b, o + k * 5, none⟩ = some (.int .i64 x0) ∧ wr.drew.cell? ⟨b, o + k * 5 + 1, none⟩ = some (.int .i64 x1) ∧ wr.drew.cell? ⟨b, o + k * 5 + 2, none⟩ = some (.int .i64 x2) ∧ wr.drew.cell? ⟨b, o + k * 5 + 3, none⟩ = some (.int .i64 x3) ∧ wr.drew.cell? ⟨b, o + k * 5 + 4, none⟩ = some (.int .i64 x4) := ⟨b0, c0, c1, c2, c3, c4⟩
      by_cases h0 : x0 = 2
      · subst h0
        by_cases hv : v = 15
        · subst hv
          by_cases hg : g = 0
          · subst hg
            have HE := Lib.hid (HY.out (T4.out rfl rfl rfl))
            clear HY HN T1 T2 T3 T4 T5
            go_wp2
            refine wp_region_held_drew (S := fun w' => w'.cell? ⟨W.heap.size, 0, none⟩ = some (.slice A m c) ∧ w'.cell? ⟨b, o + k * 5, none⟩ = some (.int .i64 2) ∧ w'.cell? ⟨b, o + k * 5 + 1, none⟩ = some (.int .i64 x1) ∧ w'.cell? ⟨b, o + k * 5 + 2, none⟩ = some (.int .i64 x2) ∧ w'.cell? ⟨b, o + k * 5 + 3, none⟩ = some (.int .i64 x3) ∧ w'.cell? ⟨b, o + k * 5 + 4, none⟩ = some (.int .i64 x4)) (by kernel_rfl) hs0 (fun hHeld => ?_)
            refine wpAnyH_take (i := 0) (oi := Oper.mk _ _ _ _ _ _) (v := ?v1) rfl (by kernel_rfl) (by kernel_rfl) (by kernel_rfl) (fun _ _ _ h => h) (Or.inl ⟨by rfl, ?hy1⟩) (by assumption) ?rs1
            case hy1 => (intro w hSw; (try dsimp only at hSw); go_simp <;> with_reducible rfl)
            try simp only [Act.put, List.setIfInBounds_toArray, List.set_cons_zero, List.set_cons_succ]
            refine wpAnyH_take (i := 1) (oi := Oper.mk _ _ _ _ _ _) (v := ?v2) rfl (by kernel_rfl) (by kernel_rfl) (by kernel_rfl) (fun _ _ _ h => h) (Or.inl ⟨by rfl, ?hy2⟩) (by assumption) ?rs2
            case hy2 => (intro w hSw; (try dsimp only at hSw); go_simp <;> with_reducible rfl)
            try simp only [Act.put, List.setIfInBounds_toArray, List.set_cons_zero, List.set_cons_succ]
            refine wpAnyH_take (i := 2) (oi := Oper.mk _ _ _ _ _ _) (v := ?v3) rfl (by kernel_rfl) (by kernel_rfl) (by kernel_rfl) (fun _ _ _ h => h) (Or.inl ⟨by rfl, ?hy3⟩) (by assumption) ?rs3
            case hy3 => (intro w hSw; (try dsimp only at hSw); go_simp <;> with_reducible rfl)
            try simp only [Act.put, List.setIfInBounds_toArray, List.set_cons_zero, List.set_cons_succ]
            refine wpAnyH_take (i := 3) (oi := Oper.mk _ _ _ _ _ _) (v := ?v4) rfl (by kernel_rfl) (by kernel_rfl) (by kernel_rfl) (fun _ _ _ h => h) (Or.inl ⟨by rfl, ?hy4⟩) (by assumption) ?rs4
            case hy4 => (intro w hSw; (try dsimp only at hSw); go_simp <;> with_reducible rfl)
            try simp only [Act.put, List.setIfInBounds_toArray, List.set_cons_zero, List.set_cons_succ]
            refine wpAnyH_take (i := 4) (oi := Oper.mk _ _ _ _ _ _) (v := ?v5) rfl (by kernel_rfl) (by kernel_rfl) (by kernel_rfl) (fun _ _ _ h => h) (Or.inl ⟨by rfl, ?hy5⟩) (by assumption) ?rs5
            case hy5 => (intro w hSw; (try dsimp only at hSw); go_simp <;> with_reducible rfl)
            try simp only [Act.put, List.setIfInBounds_toArray, List.set_cons_zero, List.set_cons_succ]
            refine wpAnyH_take (i := 5) (oi := Oper.mk _ _ _ _ _ _) (v := ?v6) rfl (by kernel_rfl) (by kernel_rfl) (by kernel_rfl) (fun _ _ _ h => h) (Or.inl ⟨by rfl, ?hy6⟩) (by assumption) ?rs6
            case hy6 => (intro w hSw; (try dsimp only at hSw); go_simp <;> with_reducible rfl)
            try simp only [Act.put, List.setIfInBounds_toArray, List.set_cons_zero, List.set_cons_succ]
            refine wpAnyH_take (i := 6) (oi := Oper.mk _ _ _ _ _ _) (v := ?v7) rfl (by kernel_rfl) (by kernel_rfl) (by kernel_rfl) (fun _ _ _ h => h) (Or.inl ⟨by rfl, ?hy7⟩) (by assumption) ?rs7
            case hy7 => (intro w hSw; (try dsimp only at hSw); go_simp <;> with_reducible rfl)
            try simp only [Act.put, List.setIfInBounds_toArray, List.set_cons_zero, List.set_cons_succ]
            refine wpAnyH_take (i := 7) (oi := Oper.mk _ _ _ _ _ _) (v := ?v8) rfl (by kernel_rfl) (by kernel_rfl) (by kernel_rfl) (fun _ _ _ h => h) (Or.inl ⟨by rfl, ?hy8⟩) (by assumption) ?rs8
            case hy8 => (intro w hSw; (try dsimp only at hSw); go_simp <;> with_reducible rfl)
            try simp only [Act.put, List.setIfInBounds_toArray, List.set_cons_zero, List.set_cons_succ]
            refine wpAnyH_take (i := 8) (oi := Oper.mk _ _ _ _ _ _) (v := ?v9) rfl (by kernel_rfl) (by kernel_rfl) (by kernel_rfl) (fun _ _ _ h => h) (Or.inl ⟨by rfl, ?hy9⟩) (by assumption) ?rs9
            case hy9 => (intro w hSw; (try dsimp only at hSw); go_simp <;> with_reducible rfl)
            try simp only [Act.put, List.setIfInBounds_toArray, List.set_cons_zero, List.set_cons_succ]
            refine wpAnyH_take (i := 9) (oi := Oper.mk _ _ _ _ _ _) (v := ?v10) rfl (by kernel_rfl) (by kernel_rfl) (by kernel_rfl) (fun _ _ _ h => h) (Or.inl ⟨by rfl, ?hy10⟩) (by assumption) ?rs10
            case hy10 => (intro w hSw; (try dsimp only at hSw); go_simp <;> with_reducible rfl)
            try simp only [Act.put, List.setIfInBounds_toArray, List.set_cons_zero, List.set_cons_succ]
            refine wpAnyH_take (i := 10) (oi := Oper.mk _ _ _ _ _ _) (v := ?v11) rfl (by kernel_rfl) (by kernel_rfl) (by kernel_rfl) (fun _ _ _ h => h) (Or.inl ⟨by rfl, ?hy11⟩) (by assumption) ?rs11
            case hy11 => (intro w hSw; (try dsimp only at hSw); go_simp <;> with_reducible rfl)
            try simp only [Act.put, List.setIfInBounds_toArray, List.set_cons_zero, List.set_cons_succ]
            refine wpAnyH_take (i := 11) (oi := Oper.mk _ _ _ _ _ _) (v := ?v12) rfl (by kernel_rfl) (by kernel_rfl) (by kernel_rfl) (fun _ _ _ h => h) (Or.inl ⟨by rfl, ?hy12⟩) (by assumption) ?rs12
            case hy12 => (intro w hSw; (try dsimp only at hSw); go_simp <;> with_reducible rfl)
            try simp only [Act.put, List.setIfInBounds_toArray, List.set_cons_zero, List.set_cons_succ]
            refine wpAnyH_ready (rs := [12]) (by kernel_rfl) (by simp) ?_
            refine AllReadyH.cons (o := Oper.mk _ _ _ _ _ _) rfl (fun K hK => ?_) AllReadyH.nil
            go_simp
            go_at_call 20; refine (HOP.out _ ((Chg.refl _ wr).drew)).mono ?_; rintro e w1 ⟨rfl, hc1⟩; have hc2 := ((Chg.refl (fun _ => False) wr).drew).trans hc1 (fun _ _ h => h); have hs1 : w1.cell? ⟨W.heap.size, 0, none⟩ = some (.slice A m c) ∧ w1.cell? ⟨b, o + k * 5, none⟩ = some (.int .i64 2) ∧ w1.cell? ⟨b, o + k * 5 + 1, none⟩ = some (.int .i64 x1) ∧ w1.cell? ⟨b, o + k * 5 + 2, none⟩ = some (.int .i64 x2) ∧ w1.cell? ⟨b, o + k * 5 + 3, none⟩ = some (.int .i64 x3) ∧ w1.cell? ⟨b, o + k * 5 + 4, none⟩ = some (.int .i64 x4) := ⟨(hc2.cell (p := ⟨W.heap.size, 0, none⟩) b1 (fun h => h)).trans b0, (hc2.cell (p := ⟨b, _, none⟩) hb (fun h => h)).trans c0, (hc2.cell (p := ⟨b, _, none⟩) hb (fun h => h)).trans c1, (hc2.cell (p := ⟨b, _, none⟩) hb (fun h => h)).trans c2, (hc2.cell (p := ⟨b, _, none⟩) hb (fun h => h)).trans c3, (hc2.cell (p := ⟨b, _, none⟩) hb (fun h => h)).trans c4⟩; have q4 := hs1.2.2.2.2.2; have hbw := hc2.size; have HR1 := Lib.hid (HR.out.kept hc2 (fun _ _ h => h)); have HC1 := Lib.hid (HC.out.trans hc2 (fun _ _ h => h)); clear hc1 hc2
            refine hK.out _ _ hs1 (fun hHeld => ?_)
            clear hK K
            try simp only [Act.put, List.setIfInBounds_toArray, List.set_cons_zero, List.set_cons_succ]
            refine wpAnyH_take (i := 13) (oi := Oper.mk _ _ _ _ _ _) (v := ?v14) rfl (by kernel_rfl) (by kernel_rfl) (by kernel_rfl) (fun _ _ _ h => h) (Or.inl ⟨by rfl, ?hy14⟩) (by assumption) ?rs14
            case hy14 => (intro w hSw; (try dsimp only at hSw); go_simp <;> with_reducible rfl)
            try simp only [Act.put, List.setIfInBounds_toArray, List.set_cons_zero, List.set_cons_succ]
            refine wpAnyH_take (i := 14) (oi := Oper.mk _ _ _ _ _ _) (v := ?v15) rfl (by kernel_rfl) (by kernel_rfl) (by kernel_rfl) (fun _ _ _ h => h) (Or.inl ⟨by rfl, ?hy15⟩) (by assumption) ?rs15
            case hy15 => (intro w hSw; (try dsimp only at hSw); go_simp <;> with_reducible rfl)
            try simp only [Act.put, List.setIfInBounds_toArray, List.set_cons_zero, List.set_cons_succ]
            refine wpAnyH_take (i := 15) (oi := Oper.mk _ _ _ _ _ _) (v := ?v16) rfl (by kernel_rfl) (by kernel_rfl) (by kernel_rfl) (fun _ _ _ h => h) (Or.inl ⟨by rfl, ?hy16⟩) (by assumption) ?rs16
            case hy16 => (intro w hSw; (try dsimp only at hSw); go_simp <;> with_reducible rfl)
            try simp only [Act.put, List.setIfInBounds_toArray, List.set_cons_zero, List.set_cons_succ]
            refine wpAnyH_take (i := 16) (oi := Oper.mk _ _ _ _ _ _) (v := ?v17) rfl (by kernel_rfl) (by kernel_rfl) (by kernel_rfl) (fun _ _ _ h => h) (Or.inl ⟨by rfl, ?hy17⟩) (by assumption) ?rs17
            case hy17 => (intro w hSw; (try dsimp only at hSw); go_simp <;> with_reducible rfl)
            try simp only [Act.put, List.setIfInBounds_toArray, List.set_cons_zero, List.set_cons_succ]
            refine wpAnyH_take (i := 17) (oi := Oper.mk _ _ _ _ _ _) (v := ?v18) rfl (by kernel_rfl) (by kernel_rfl) (by kernel_rfl) (fun _ _ _ h => h) (Or.inl ⟨by rfl, ?hy18⟩) (by assumption) ?rs18
            case hy18 => (intro w hSw; (try dsimp only at hSw); go_simp <;> with_reducible rfl)
            try simp only [Act.put, List.setIfInBounds_toArray, List.set_cons_zero, List.set_cons_succ]
            refine wpAnyH_take (i := 18) (oi := Oper.mk _ _ _ _ _ _) (v := ?v19) rfl (by kernel_rfl) (by kernel_rfl) (by kernel_rfl) (fun _ _ _ h => h) (Or.inl ⟨by rfl, ?hy19⟩) (by assumption) ?rs19
            case hy19 => (intro w hSw; (try dsimp only at hSw); go_simp <;> with_reducible rfl)
            try simp only [Act.put, List.setIfInBounds_toArray, List.set_cons_zero, List.set_cons_succ]
            refine wpAnyH_take (i := 19) (oi := Oper.mk _ _ _ _ _ _) (v := undef) rfl (by kernel_rfl) (by kernel_rfl) (by kernel_rfl) (fun _ _ _ h => h) (Or.inr ⟨by rfl, rfl⟩) (by assumption) ?_
            try simp only [Act.put, List.setIfInBounds_toArray, List.set_cons_zero, List.set_cons_succ]
            refine wpAnyH_take (i := 20) (oi := Oper.mk _ _ _ _ _ _) (v := undef) rfl (by kernel_rfl) (by kernel_rfl) (by kernel_rfl) (fun _ _ _ h => h) (Or.inr ⟨by rfl, rfl⟩) (by assumption) ?_
            try simp only [Act.put, List.setIfInBounds_toArray, List.set_cons_zero, List.set_cons_succ]
            refine wpAnyH_take (i := 21) (oi := Oper.mk _ _ _ _ _ _) (v := undef) rfl (by kernel_rfl) (by kernel_rfl) (by kernel_rfl) (fun _ _ _ h => h) (Or.inr ⟨by rfl, rfl⟩) (by assumption) ?_
            try simp only [Act.put, List.setIfInBounds_toArray, List.set_cons_zero, List.set_cons_succ]
            refine wpAnyH_take (i := 22) (oi := Oper.mk _ _ _ _ _ _) (v := undef) rfl (by kernel_rfl) (by kernel_rfl) (by kernel_rfl) (fun _ _ _ h => h) (Or.inr ⟨by rfl, rfl⟩) (by assumption) ?_
            try simp only [Act.put, List.setIfInBounds_toArray, List.set_cons_zero, List.set_cons_succ]
            refine wpAnyH_take (i := 23) (oi := Oper.mk _ _ _ _ _ _) (v := undef) rfl (by kernel_rfl) (by kernel_rfl) (by kernel_rfl) (fun _ _ _ h => h) (Or.inr ⟨by rfl, rfl⟩) (by assumption) ?_
            try simp only [Act.put, List.setIfInBounds_toArray, List.set_cons_zero, List.set_cons_succ]
            refine wpAnyH_take (i := 24) (oi := Oper.mk _ _ _ _ _ _) (v := undef) rfl (by kernel_rfl) (by kernel_rfl) (by kernel_rfl) (fun _ _ _ h => h) (Or.inr ⟨by rfl, rfl⟩) (by assumption) ?_
            try simp only [Act.put, List.setIfInBounds_toArray, List.set_cons_zero, List.set_cons_succ]
            refine wpAnyH_take (i := 25) (oi := Oper.mk _ _ _ _ _ _) (v := undef) rfl (by kernel_rfl) (by kernel_rfl) (by kernel_rfl) (fun _ _ _ h => h) (Or.inr ⟨by rfl, rfl⟩) (by assumption) ?_
            try simp only [Act.put, List.setIfInBounds_toArray, List.set_cons_zero, List.set_cons_succ]
            refine wpAnyH_take (i := 26) (oi := Oper.mk _ _ _ _ _ _) (v := ?v27) rfl (by kernel_rfl) (by kernel_rfl) (by kernel_rfl) (fun _ _ _ h => h) (Or.inl ⟨by rfl, ?hy27⟩) (by assumption) ?rs27
            case hy27 => (intro w hSw; (try dsimp only at hSw); go_simp <;> with_reducible rfl)
            try simp only [Act.put, List.setIfInBounds_toArray, List.set_cons_zero, List.set_cons_succ]
            refine wpAnyH_take (i := 27) (oi := Oper.mk _ _ _ _ _ _) (v := ?v28) rfl (by kernel_rfl) (by kernel_rfl) (by kernel_rfl) (fun _ _ _ h => h) (Or.inl ⟨by rfl, ?hy28⟩) (by assumption) ?rs28
            case hy28 => (intro w hSw; (try dsimp only at hSw); go_simp <;> with_reducible rfl)
            try simp only [Act.put, List.setIfInBounds_toArray, List.set_cons_zero, List.set_cons_succ]
            refine wpAnyH_done (by kernel_rfl) ?_ _
            have HB1X := Lib.hid (HB.out.kept HC1.out (fun h => h))
            go_wp2_with (at_builtin; refine wpList_app64 rfl (.tmp 43) (.tmp 49) rfl W.heap.size A' (tl k).length c' (tl k) rfl (HR1.out.alloc _) _ 1 1 [x4] rfl (Rd.litn64 _ _ _ _ (by simp)) ?_ ?_ ?_; (next => omega); (next => have := HC1.out.size; simp at this ⊢; omega); intro A3 c3 w3 r1 r2 r3; have HX := Lib.hid r1; have HZ := Lib.hid ((HC1.out.alloc _).grown (S := fun _ => False) r2 (fun g hg => .inr (rowfar HB1X.out HR1.out (by decide) g hg))); clear r1 r2 r3)
            go_roundw
            case rel => exact ⟨k + 1, A3, c3, by omega, by go_num, by rw [HE.out]; simp, by rw [HE.out]; simpa using HX.out, HZ.out⟩
            case measure => simp [intOf]; omega
          · have hgd : (g == 0) = false := beq_eq_false_iff_ne.2 hg
            by_cases h1 : x1 = g
            · subst h1
              have HE := Lib.hid (HY.out (T5.out rfl rfl rfl))
              clear HY HN T1 T2 T3 T4 T5
              go_wp2
              refine wp_region_held_drew (S := fun w' => w'.cell? ⟨W.heap.size, 0, none⟩ = some (.slice A m c) ∧ w'.cell? ⟨b, o + k * 5, none⟩ = some (.int .i64 2) ∧ w'.cell? ⟨b, o + k * 5 + 1, none⟩ = some (.int .i64 x1) ∧ w'.cell? ⟨b, o + k * 5 + 2, none⟩ = some (.int .i64 x2) ∧ w'.cell? ⟨b, o + k * 5 + 3, none⟩ = some (.int .i64 x3) ∧ w'.cell? ⟨b, o + k * 5 + 4, none⟩ = some (.int .i64 x4)) (by kernel_rfl) hs0 (fun hHeld => ?_)
              refine wpAnyH_take (i := 0) (oi := Oper.mk _ _ _ _ _ _) (v := ?v29) rfl (by kernel_rfl) (by kernel_rfl) (by kernel_rfl) (fun _ _ _ h => h) (Or.inl ⟨by rfl, ?hy29⟩) (by assumption) ?rs29
              case hy29 => (intro w hSw; (try dsimp only at hSw); go_simp <;> with_reducible rfl)
              try simp only [Act.put, List.setIfInBounds_toArray, List.set_cons_zero, List.set_cons_succ]
              refine wpAnyH_take (i := 1) (oi := Oper.mk _ _ _ _ _ _) (v := ?v30) rfl (by kernel_rfl) (by kernel_rfl) (by kernel_rfl) (fun _ _ _ h => h) (Or.inl ⟨by rfl, ?hy30⟩) (by assumption) ?rs30
              case hy30 => (intro w hSw; (try dsimp only at hSw); go_simp <;> with_reducible rfl)
              try simp only [Act.put, List.setIfInBounds_toArray, List.set_cons_zero, List.set_cons_succ]
              refine wpAnyH_take (i := 2) (oi := Oper.mk _ _ _ _ _ _) (v := ?v31) rfl (by kernel_rfl) (by kernel_rfl) (by kernel_rfl) (fun _ _ _ h => h) (Or.inl ⟨by rfl, ?hy31⟩) (by assumption) ?rs31
              case hy31 => (intro w hSw; (try dsimp only at hSw); go_simp <;> with_reducible rfl)
              try simp only [Act.put, List.setIfInBounds_toArray, List.set_cons_zero, List.set_cons_succ]
              refine wpAnyH_take (i := 3) (oi := Oper.mk _ _ _ _ _ _) (v := ?v32) rfl (by kernel_rfl) (by kernel_rfl) (by kernel_rfl) (fun _ _ _ h => h) (Or.inl ⟨by rfl, ?hy32⟩) (by assumption) ?rs32
              case hy32 => (intro w hSw; (try dsimp only at hSw); go_simp <;> with_reducible rfl)
              try simp only [Act.put, List.setIfInBounds_toArray, List.set_cons_zero, List.set_cons_succ]
              refine wpAnyH_take (i := 4) (oi := Oper.mk _ _ _ _ _ _) (v := ?v33) rfl (by kernel_rfl) (by kernel_rfl) (by kernel_rfl) (fun _ _ _ h => h) (Or.inl ⟨by rfl, ?hy33⟩) (by assumption) ?rs33
              case hy33 => (intro w hSw; (try dsimp only at hSw); go_simp <;> with_reducible rfl)
              try simp only [Act.put, List.setIfInBounds_toArray, List.set_cons_zero, List.set_cons_succ]
              refine wpAnyH_take (i := 5) (oi := Oper.mk _ _ _ _ _ _) (v := ?v34) rfl (by kernel_rfl) (by kernel_rfl) (by kernel_rfl) (fun _ _ _ h => h) (Or.inl ⟨by rfl, ?hy34⟩) (by assumption) ?rs34
              case hy34 => (intro w hSw; (try dsimp only at hSw); go_simp <;> with_reducible rfl)
              try simp only [Act.put, List.setIfInBounds_toArray, List.set_cons_zero, List.set_cons_succ]
              refine wpAnyH_take (i := 6) (oi := Oper.mk _ _ _ _ _ _) (v := ?v35) rfl (by kernel_rfl) (by kernel_rfl) (by kernel_rfl) (fun _ _ _ h => h) (Or.inl ⟨by rfl, ?hy35⟩) (by assumption) ?rs35
              case hy35 => (intro w hSw; (try dsimp only at hSw); go_simp <;> with_reducible rfl)
              try simp only [Act.put, List.setIfInBounds_toArray, List.set_cons_zero, List.set_cons_succ]
              refine wpAnyH_take (i := 7) (oi := Oper.mk _ _ _ _ _ _) (v := ?v36) rfl (by kernel_rfl) (by kernel_rfl) (by kernel_rfl) (fun _ _ _ h => h) (Or.inl ⟨by rfl, ?hy36⟩) (by assumption) ?rs36
              case hy36 => (intro w hSw; (try dsimp only at hSw); go_simp <;> with_reducible rfl)
              try simp only [Act.put, List.setIfInBounds_toArray, List.set_cons_zero, List.set_cons_succ]
              refine wpAnyH_take (i := 8) (oi := Oper.mk _ _ _ _ _ _) (v := ?v37) rfl (by kernel_rfl) (by kernel_rfl) (by kernel_rfl) (fun _ _ _ h => h) (Or.inl ⟨by rfl, ?hy37⟩) (by assumption) ?rs37
              case hy37 => (intro w hSw; (try dsimp only at hSw); go_simp <;> with_reducible rfl)
              try simp only [Act.put, List.setIfInBounds_toArray, List.set_cons_zero, List.set_cons_succ]
              refine wpAnyH_take (i := 9) (oi := Oper.mk _ _ _ _ _ _) (v := ?v38) rfl (by kernel_rfl) (by kernel_rfl) (by kernel_rfl) (fun _ _ _ h => h) (Or.inl ⟨by rfl, ?hy38⟩) (by assumption) ?rs38
              case hy38 => (intro w hSw; (try dsimp only at hSw); go_simp <;> with_reducible rfl)
              try simp only [Act.put, List.setIfInBounds_toArray, List.set_cons_zero, List.set_cons_succ]
              refine wpAnyH_take (i := 10) (oi := Oper.mk _ _ _ _ _ _) (v := ?v39) rfl (by kernel_rfl) (by kernel_rfl) (by kernel_rfl) (fun _ _ _ h => h) (Or.inl ⟨by rfl, ?hy39⟩) (by assumption) ?rs39
              case hy39 => (intro w hSw; (try dsimp only at hSw); go_simp <;> with_reducible rfl)
              try simp only [Act.put, List.setIfInBounds_toArray, List.set_cons_zero, List.set_cons_succ]
              refine wpAnyH_take (i := 11) (oi := Oper.mk _ _ _ _ _ _) (v := ?v40) rfl (by kernel_rfl) (by kernel_rfl) (by kernel_rfl) (fun _ _ _ h => h) (Or.inl ⟨by rfl, ?hy40⟩) (by assumption) ?rs40
              case hy40 => (intro w hSw; (try dsimp only at hSw); go_simp <;> with_reducible rfl)
              try simp only [Act.put, List.setIfInBounds_toArray, List.set_cons_zero, List.set_cons_succ]
              refine wpAnyH_ready (rs := [12]) (by kernel_rfl) (by simp) ?_
              refine AllReadyH.cons (o := Oper.mk _ _ _ _ _ _) rfl (fun K hK => ?_) AllReadyH.nil
              go_simp
              go_at_call 20; refine (HOP.out _ ((Chg.refl _ wr).drew)).mono ?_; rintro e w1 ⟨rfl, hc1⟩; have hc2 := ((Chg.refl (fun _ => False) wr).drew).trans hc1 (fun _ _ h => h); have hs1 : w1.cell? ⟨W.heap.size, 0, none⟩ = some (.slice A m c) ∧ w1.cell? ⟨b, o + k * 5, none⟩ = some (.int .i64 2) ∧ w1.cell? ⟨b, o + k * 5 + 1, none⟩ = some (.int .i64 x1) ∧ w1.cell? ⟨b, o + k * 5 + 2, none⟩ = some (.int .i64 x2) ∧ w1.cell? ⟨b, o + k * 5 + 3, none⟩ = some (.int .i64 x3) ∧ w1.cell? ⟨b, o + k * 5 + 4, none⟩ = some (.int .i64 x4) := ⟨(hc2.cell (p := ⟨W.heap.size, 0, none⟩) b1 (fun h => h)).trans b0, (hc2.cell (p := ⟨b, _, none⟩) hb (fun h => h)).trans c0, (hc2.cell (p := ⟨b, _, none⟩) hb (fun h => h)).trans c1, (hc2.cell (p := ⟨b, _, none⟩) hb (fun h => h)).trans c2, (hc2.cell (p := ⟨b, _, none⟩) hb (fun h => h)).trans c3, (hc2.cell (p := ⟨b, _, none⟩) hb (fun h => h)).trans c4⟩; have q4 := hs1.2.2.2.2.2; have hbw := hc2.size; have HR1 := Lib.hid (HR.out.kept hc2 (fun _ _ h => h)); have HC1 := Lib.hid (HC.out.trans hc2 (fun _ _ h => h)); clear hc1 hc2
              refine hK.out _ _ hs1 (fun hHeld => ?_)
              clear hK K
              try simp only [Act.put, List.setIfInBounds_toArray, List.set_cons_zero, List.set_cons_succ]
              refine wpAnyH_take (i := 13) (oi := Oper.mk _ _ _ _ _ _) (v := ?v42) rfl (by kernel_rfl) (by kernel_rfl) (by kernel_rfl) (fun _ _ _ h => h) (Or.inl ⟨by rfl, ?hy42⟩) (by assumption) ?rs42
              case hy42 => (intro w hSw; (try dsimp only at hSw); go_simp <;> with_reducible rfl)
              try simp only [Act.put, List.setIfInBounds_toArray, List.set_cons_zero, List.set_cons_succ]
              refine wpAnyH_take (i := 14) (oi := Oper.mk _ _ _ _ _ _) (v := ?v43) rfl (by kernel_rfl) (by kernel_rfl) (by kernel_rfl) (fun _ _ _ h => h) (Or.inl ⟨by rfl, ?hy43⟩) (by assumption) ?rs43
              case hy43 => (intro w hSw; (try dsimp only at hSw); go_simp <;> with_reducible rfl)
              try simp only [Act.put, List.setIfInBounds_toArray, List.set_cons_zero, List.set_cons_succ]
              refine wpAnyH_take (i := 15) (oi := Oper.mk _ _ _ _ _ _) (v := ?v44) rfl (by kernel_rfl) (by kernel_rfl) (by kernel_rfl) (fun _ _ _ h => h) (Or.inl ⟨by rfl, ?hy44⟩) (by assumption) ?rs44
              case hy44 => (intro w hSw; (try dsimp only at hSw); go_simp <;> with_reducible rfl)
              try simp only [Act.put, List.setIfInBounds_toArray, List.set_cons_zero, List.set_cons_succ]
              refine wpAnyH_take (i := 16) (oi := Oper.mk _ _ _ _ _ _) (v := ?v45) rfl (by kernel_rfl) (by kernel_rfl) (by kernel_rfl) (fun _ _ _ h => h) (Or.inl ⟨by rfl, ?hy45⟩) (by assumption) ?rs45
              case hy45 => (intro w hSw; (try dsimp only at hSw); go_simp <;> with_reducible rfl)
              try simp only [Act.put, List.setIfInBounds_toArray, List.set_cons_zero, List.set_cons_succ]
              refine wpAnyH_take (i := 17) (oi := Oper.mk _ _ _ _ _ _) (v := ?v46) rfl (by kernel_rfl) (by kernel_rfl) (by kernel_rfl) (fun _ _ _ h => h) (Or.inl ⟨by rfl, ?hy46⟩) (by assumption) ?rs46
              case hy46 => (intro w hSw; (try dsimp only at hSw); go_simp <;> with_reducible rfl)
              try simp only [Act.put, List.setIfInBounds_toArray, List.set_cons_zero, List.set_cons_succ]
              refine wpAnyH_take (i := 18) (oi := Oper.mk _ _ _ _ _ _) (v := ?v47) rfl (by kernel_rfl) (by kernel_rfl) (by kernel_rfl) (fun _ _ _ h => h) (Or.inl ⟨by rfl, ?hy47⟩) (by assumption) ?rs47
              case hy47 => (intro w hSw; (try dsimp only at hSw); go_simp <;> with_reducible rfl)
              try simp only [Act.put, List.setIfInBounds_toArray, List.set_cons_zero, List.set_cons_succ]
              refine wpAnyH_take (i := 19) (oi := Oper.mk _ _ _ _ _ _) (v := ?v48) rfl (by kernel_rfl) (by kernel_rfl) (by kernel_rfl) (fun _ _ _ h => h) (Or.inl ⟨by rfl, ?hy48⟩) (by assumption) ?rs48
              case hy48 => (intro w hSw; (try dsimp only at hSw); go_simp <;> with_reducible rfl)
              try simp only [Act.put, List.setIfInBounds_toArray, List.set_cons_zero, List.set_cons_succ]
              refine wpAnyH_take (i := 20) (oi := Oper.mk _ _ _ _ _ _) (v := ?v49) rfl (by kernel_rfl) (by kernel_rfl) (by kernel_rfl) (fun _ _ _ h => h) (Or.inl ⟨by rfl, ?hy49⟩) (by assumption) ?rs49
              case hy49 => (intro w hSw; (try dsimp only at hSw); go_simp <;> with_reducible rfl)
              try simp only [Act.put, List.setIfInBounds_toArray, List.set_cons_zero, List.set_cons_succ]
              refine wpAnyH_take (i := 21) (oi := Oper.mk _ _ _ _ _ _) (v := ?v50) rfl (by kernel_rfl) (by kernel_rfl) (by kernel_rfl) (fun _ _ _ h => h) (Or.inl ⟨by rfl, ?hy50⟩) (by assumption) ?rs50
              case hy50 => (intro w hSw; (try dsimp only at hSw); go_simp <;> with_reducible rfl)
              try simp only [Act.put, List.setIfInBounds_toArray, List.set_cons_zero, List.set_cons_succ]
              refine wpAnyH_take (i := 22) (oi := Oper.mk _ _ _ _ _ _) (v := ?v51) rfl (by kernel_rfl) (by kernel_rfl) (by kernel_rfl) (fun _ _ _ h => h) (Or.inl ⟨by rfl, ?hy51⟩) (by assumption) ?rs51
              case hy51 => (intro w hSw; (try dsimp only at hSw); go_simp <;> with_reducible rfl)
              try simp only [Act.put, List.setIfInBounds_toArray, List.set_cons_zero, List.set_cons_succ]
              refine wpAnyH_take (i := 23) (oi := Oper.mk _ _ _ _ _ _) (v := ?v52) rfl (by kernel_rfl) (by kernel_rfl) (by kernel_rfl) (fun _ _ _ h => h) (Or.inl ⟨by rfl, ?hy52⟩) (by assumption) ?rs52
              case hy52 => (intro w hSw; (try dsimp only at hSw); go_simp <;> with_reducible rfl)
              try simp only [Act.put, List.setIfInBounds_toArray, List.set_cons_zero, List.set_cons_succ]
              refine wpAnyH_take (i := 24) (oi := Oper.mk _ _ _ _ _ _) (v := ?v53) rfl (by kernel_rfl) (by kernel_rfl) (by kernel_rfl) (fun _ _ _ h => h) (Or.inl ⟨by rfl, ?hy53⟩) (by assumption) ?rs53
              case hy53 => (intro w hSw; (try dsimp only at hSw); go_simp <;> with_reducible rfl)
              try simp only [Act.put, List.setIfInBounds_toArray, List.set_cons_zero, List.set_cons_succ]
              refine wpAnyH_take (i := 25) (oi := Oper.mk _ _ _ _ _ _) (v := ?v54) rfl (by kernel_rfl) (by kernel_rfl) (by kernel_rfl) (fun _ _ _ h => h) (Or.inl ⟨by rfl, ?hy54⟩) (by assumption) ?rs54
              case hy54 => (intro w hSw; (try dsimp only at hSw); go_simp <;> with_reducible rfl)
              try simp only [Act.put, List.setIfInBounds_toArray, List.set_cons_zero, List.set_cons_succ]
              refine wpAnyH_take (i := 26) (oi := Oper.mk _ _ _ _ _ _) (v := ?v55) rfl (by kernel_rfl) (by kernel_rfl) (by kernel_rfl) (fun _ _ _ h => h) (Or.inl ⟨by rfl, ?hy55⟩) (by assumption) ?rs55
              case hy55 => (intro w hSw; (try dsimp only at hSw); go_simp <;> with_reducible rfl)
              try simp only [Act.put, List.setIfInBounds_toArray, List.set_cons_zero, List.set_cons_succ]
              refine wpAnyH_take (i := 27) (oi := Oper.mk _ _ _ _ _ _) (v := ?v56) rfl (by kernel_rfl) (by kernel_rfl) (by kernel_rfl) (fun _ _ _ h => h) (Or.inl ⟨by rfl, ?hy56⟩) (by assumption) ?rs56
              case hy56 => (intro w hSw; (try dsimp only at hSw); go_simp <;> with_reducible rfl)
              try simp only [Act.put, List.setIfInBounds_toArray, List.set_cons_zero, List.set_cons_succ]
              refine wpAnyH_done (by kernel_rfl) ?_ _
              have HB1X := Lib.hid (HB.out.kept HC1.out (fun h => h))
              go_wp2_with (at_builtin; refine wpList_app64 rfl (.tmp 43) (.tmp 49) rfl W.heap.size A' (tl k).length c' (tl k) rfl (HR1.out.alloc _) _ 1 1 [x4] rfl (Rd.litn64 _ _ _ _ (by simp)) ?_ ?_ ?_; (next => omega); (next => have := HC1.out.size; simp at this ⊢; omega); intro A3 c3 w3 r1 r2 r3; have HX := Lib.hid r1; have HZ := Lib.hid ((HC1.out.alloc _).grown (S := fun _ => False) r2 (fun g hg => .inr (rowfar HB1X.out HR1.out (by decide) g hg))); clear r1 r2 r3)
              go_roundw
              case rel => exact ⟨k + 1, A3, c3, by omega, by go_num, by rw [HE.out]; simp, by rw [HE.out]; simpa using HX.out, HZ.out⟩
              case measure => simp [intOf]; omega
            · have hxd : (x1 == g) = false := beq_eq_false_iff_ne.2 h1
              have HE := Lib.hid (HN.out (T2.out hg h1))
              clear HY HN T1 T2 T3 T4 T5
              go_wp2
              refine wp_region_held_drew (S := fun w' => w'.cell? ⟨W.heap.size, 0, none⟩ = some (.slice A m c) ∧ w'.cell? ⟨b, o + k * 5, none⟩ = some (.int .i64 2) ∧ w'.cell? ⟨b, o + k * 5 + 1, none⟩ = some (.int .i64 x1) ∧ w'.cell? ⟨b, o + k * 5 + 2, none⟩ = some (.int .i64 x2) ∧ w'.cell? ⟨b, o + k * 5 + 3, none⟩ = some (.int .i64 x3) ∧ w'.cell? ⟨b, o + k * 5 + 4, none⟩ = some (.int .i64 x4)) (by kernel_rfl) hs0 (fun hHeld => ?_)
              refine wpAnyH_take (i := 0) (oi := Oper.mk _ _ _ _ _ _) (v := ?v57) rfl (by kernel_rfl) (by kernel_rfl) (by kernel_rfl) (fun _ _ _ h => h) (Or.inl ⟨by rfl, ?hy57⟩) (by assumption) ?rs57
              case hy57 => (intro w hSw; (try dsimp only at hSw); go_simp <;> with_reducible rfl)
              try simp only [Act.put, List.setIfInBounds_toArray, List.set_cons_zero, List.set_cons_succ]
              refine wpAnyH_take (i := 1) (oi := Oper.mk _ _ _ _ _ _) (v := ?v58) rfl (by kernel_rfl) (by kernel_rfl) (by kernel_rfl) (fun _ _ _ h => h) (Or.inl ⟨by rfl, ?hy58⟩) (by assumption) ?rs58
              case hy58 => (intro w hSw; (try dsimp only at hSw); go_simp <;> with_reducible rfl)
              try simp only [Act.put, List.setIfInBounds_toArray, List.set_cons_zero, List.set_cons_succ]
              refine wpAnyH_take (i := 2) (oi := Oper.mk _ _ _ _ _ _) (v := ?v59) rfl (by kernel_rfl) (by kernel_rfl) (by kernel_rfl) (fun _ _ _ h => h) (Or.inl ⟨by rfl, ?hy59⟩) (by assumption) ?rs59
              case hy59 => (intro w hSw; (try dsimp only at hSw); go_simp <;> with_reducible rfl)
              try simp only [Act.put, List.setIfInBounds_toArray, List.set_cons_zero, List.set_cons_succ]
              refine wpAnyH_take (i := 3) (oi := Oper.mk _ _ _ _ _ _) (v := ?v60) rfl (by kernel_rfl) (by kernel_rfl) (by kernel_rfl) (fun _ _ _ h => h) (Or.inl ⟨by rfl, ?hy60⟩) (by assumption) ?rs60
              case hy60 => (intro w hSw; (try dsimp only at hSw); go_simp <;> with_reducible rfl)
              try simp only [Act.put, List.setIfInBounds_toArray, List.set_cons_zero, List.set_cons_succ]
              refine wpAnyH_take (i := 4) (oi := Oper.mk _ _ _ _ _ _) (v := ?v61) rfl (by kernel_rfl) (by kernel_rfl) (by kernel_rfl) (fun _ _ _ h => h) (Or.inl ⟨by rfl, ?hy61⟩) (by assumption) ?rs61
              case hy61 => (intro w hSw; (try dsimp only at hSw); go_simp <;> with_reducible rfl)
              try simp only [Act.put, List.setIfInBounds_toArray, List.set_cons_zero, List.set_cons_succ]
              refine wpAnyH_take (i := 5) (oi := Oper.mk _ _ _ _ _ _) (v := ?v62) rfl (by kernel_rfl) (by kernel_rfl) (by kernel_rfl) (fun _ _ _ h => h) (Or.inl ⟨by rfl, ?hy62⟩) (by assumption) ?rs62
              case hy62 => (intro w hSw; (try dsimp only at hSw); go_simp <;> with_reducible rfl)
              try simp only [Act.put, List.setIfInBounds_toArray, List.set_cons_zero, List.set_cons_succ]
              refine wpAnyH_take (i := 6) (oi := Oper.mk _ _ _ _ _ _) (v := ?v63) rfl (by kernel_rfl) (by kernel_rfl) (by kernel_rfl) (fun _ _ _ h => h) (Or.inl ⟨by rfl, ?hy63⟩) (by assumption) ?rs63
              case hy63 => (intro w hSw; (try dsimp only at hSw); go_simp <;> with_reducible rfl)
              try simp only [Act.put, List.setIfInBounds_toArray, List.set_cons_zero, List.set_cons_succ]
              refine wpAnyH_take (i := 7) (oi := Oper.mk _ _ _ _ _ _) (v := ?v64) rfl (by kernel_rfl) (by kernel_rfl) (by kernel_rfl) (fun _ _ _ h => h) (Or.inl ⟨by rfl, ?hy64⟩) (by assumption) ?rs64
              case hy64 => (intro w hSw; (try dsimp only at hSw); go_simp <;> with_reducible rfl)
              try simp only [Act.put, List.setIfInBounds_toArray, List.set_cons_zero, List.set_cons_succ]
              refine wpAnyH_take (i := 8) (oi := Oper.mk _ _ _ _ _ _) (v := ?v65) rfl (by kernel_rfl) (by kernel_rfl) (by kernel_rfl) (fun _ _ _ h => h) (Or.inl ⟨by rfl, ?hy65⟩) (by assumption) ?rs65
              case hy65 => (intro w hSw; (try dsimp only at hSw); go_simp <;> with_reducible rfl)
              try simp only [Act.put, List.setIfInBounds_toArray, List.set_cons_zero, List.set_cons_succ]
              refine wpAnyH_take (i := 9) (oi := Oper.mk _ _ _ _ _ _) (v := ?v66) rfl (by kernel_rfl) (by kernel_rfl) (by kernel_rfl) (fun _ _ _ h => h) (Or.inl ⟨by rfl, ?hy66⟩) (by assumption) ?rs66
              case hy66 => (intro w hSw; (try dsimp only at hSw); go_simp <;> with_reducible rfl)
              try simp only [Act.put, List.setIfInBounds_toArray, List.set_cons_zero, List.set_cons_succ]
              refine wpAnyH_take (i := 10) (oi := Oper.mk _ _ _ _ _ _) (v := ?v67) rfl (by kernel_rfl) (by kernel_rfl) (by kernel_rfl) (fun _ _ _ h => h) (Or.inl ⟨by rfl, ?hy67⟩) (by assumption) ?rs67
              case hy67 => (intro w hSw; (try dsimp only at hSw); go_simp <;> with_reducible rfl)
              try simp only [Act.put, List.setIfInBounds_toArray, List.set_cons_zero, List.set_cons_succ]
              refine wpAnyH_take (i := 11) (oi := Oper.mk _ _ _ _ _ _) (v := ?v68) rfl (by kernel_rfl) (by kernel_rfl) (by kernel_rfl) (fun _ _ _ h => h) (Or.inl ⟨by rfl, ?hy68⟩) (by assumption) ?rs68
              case hy68 => (intro w hSw; (try dsimp only at hSw); go_simp <;> with_reducible rfl)
              try simp only [Act.put, List.setIfInBounds_toArray, List.set_cons_zero, List.set_cons_succ]
              refine wpAnyH_ready (rs := [12]) (by kernel_rfl) (by simp) ?_
              refine AllReadyH.cons (o := Oper.mk _ _ _ _ _ _) rfl (fun K hK => ?_) AllReadyH.nil
              go_simp
              go_at_call 20; refine (HOP.out _ ((Chg.refl _ wr).drew)).mono ?_; rintro e w1 ⟨rfl, hc1⟩; have hc2 := ((Chg.refl (fun _ => False) wr).drew).trans hc1 (fun _ _ h => h); have hs1 : w1.cell? ⟨W.heap.size, 0, none⟩ = some (.slice A m c) ∧ w1.cell? ⟨b, o + k * 5, none⟩ = some (.int .i64 2) ∧ w1.cell? ⟨b, o + k * 5 + 1, none⟩ = some (.int .i64 x1) ∧ w1.cell? ⟨b, o + k * 5 + 2, none⟩ = some (.int .i64 x2) ∧ w1.cell? ⟨b, o + k * 5 + 3, none⟩ = some (.int .i64 x3) ∧ w1.cell? ⟨b, o + k * 5 + 4, none⟩ = some (.int .i64 x4) := ⟨(hc2.cell (p := ⟨W.heap.size, 0, none⟩) b1 (fun h => h)).trans b0, (hc2.cell (p := ⟨b, _, none⟩) hb (fun h => h)).trans c0, (hc2.cell (p := ⟨b, _, none⟩) hb (fun h => h)).trans c1, (hc2.cell (p := ⟨b, _, none⟩) hb (fun h => h)).trans c2, (hc2.cell (p := ⟨b, _, none⟩) hb (fun h => h)).trans c3, (hc2.cell (p := ⟨b, _, none⟩) hb (fun h => h)).trans c4⟩; have q4 := hs1.2.2.2.2.2; have hbw := hc2.size; have HR1 := Lib.hid (HR.out.kept hc2 (fun _ _ h => h)); have HC1 := Lib.hid (HC.out.trans hc2 (fun _ _ h => h)); clear hc1 hc2
              refine hK.out _ _ hs1 (fun hHeld => ?_)
              clear hK K
              try simp only [Act.put, List.setIfInBounds_toArray, List.set_cons_zero, List.set_cons_succ]
              refine wpAnyH_take (i := 13) (oi := Oper.mk _ _ _ _ _ _) (v := ?v70) rfl (by kernel_rfl) (by kernel_rfl) (by kernel_rfl) (fun _ _ _ h => h) (Or.inl ⟨by rfl, ?hy70⟩) (by assumption) ?rs70
              case hy70 => (intro w hSw; (try dsimp only at hSw); go_simp <;> with_reducible rfl)
              try simp only [Act.put, List.setIfInBounds_toArray, List.set_cons_zero, List.set_cons_succ]
              refine wpAnyH_take (i := 14) (oi := Oper.mk _ _ _ _ _ _) (v := ?v71) rfl (by kernel_rfl) (by kernel_rfl) (by kernel_rfl) (fun _ _ _ h => h) (Or.inl ⟨by rfl, ?hy71⟩) (by assumption) ?rs71
              case hy71 => (intro w hSw; (try dsimp only at hSw); go_simp <;> with_reducible rfl)
              try simp only [Act.put, List.setIfInBounds_toArray, List.set_cons_zero, List.set_cons_succ]
              refine wpAnyH_take (i := 15) (oi := Oper.mk _ _ _ _ _ _) (v := ?v72) rfl (by kernel_rfl) (by kernel_rfl) (by kernel_rfl) (fun _ _ _ h => h) (Or.inl ⟨by rfl, ?hy72⟩) (by assumption) ?rs72
              case hy72 => (intro w hSw; (try dsimp only at hSw); go_simp <;> with_reducible rfl)
              try simp only [Act.put, List.setIfInBounds_toArray, List.set_cons_zero, List.set_cons_succ]
              refine wpAnyH_take (i := 16) (oi := Oper.mk _ _ _ _ _ _) (v := ?v73) rfl (by kernel_rfl) (by kernel_rfl) (by kernel_rfl) (fun _ _ _ h => h) (Or.inl ⟨by rfl, ?hy73⟩) (by assumption) ?rs73
              case hy73 => (intro w hSw; (try dsimp only at hSw); go_simp <;> with_reducible rfl)
              try simp only [Act.put, List.setIfInBounds_toArray, List.set_cons_zero, List.set_cons_succ]
              refine wpAnyH_take (i := 17) (oi := Oper.mk _ _ _ _ _ _) (v := ?v74) rfl (by kernel_rfl) (by kernel_rfl) (by kernel_rfl) (fun _ _ _ h => h) (Or.inl ⟨by rfl, ?hy74⟩) (by assumption) ?rs74
              case hy74 => (intro w hSw; (try dsimp only at hSw); go_simp <;> with_reducible rfl)
              try simp only [Act.put, List.setIfInBounds_toArray, List.set_cons_zero, List.set_cons_succ]
              refine wpAnyH_take (i := 18) (oi := Oper.mk _ _ _ _ _ _) (v := ?v75) rfl (by kernel_rfl) (by kernel_rfl) (by kernel_rfl) (fun _ _ _ h => h) (Or.inl ⟨by rfl, ?hy75⟩) (by assumption) ?rs75
              case hy75 => (intro w hSw; (try dsimp only at hSw); go_simp <;> with_reducible rfl)
              try simp only [Act.put, List.setIfInBounds_toArray, List.set_cons_zero, List.set_cons_succ]
              refine wpAnyH_take (i := 19) (oi := Oper.mk _ _ _ _ _ _) (v := ?v76) rfl (by kernel_rfl) (by kernel_rfl) (by kernel_rfl) (fun _ _ _ h => h) (Or.inl ⟨by rfl, ?hy76⟩) (by assumption) ?rs76
              case hy76 => (intro w hSw; (try dsimp only at hSw); go_simp <;> with_reducible rfl)
              try simp only [Act.put, List.setIfInBounds_toArray, List.set_cons_zero, List.set_cons_succ]
              refine wpAnyH_take (i := 20) (oi := Oper.mk _ _ _ _ _ _) (v := ?v77) rfl (by kernel_rfl) (by kernel_rfl) (by kernel_rfl) (fun _ _ _ h => h) (Or.inl ⟨by rfl, ?hy77⟩) (by assumption) ?rs77
              case hy77 => (intro w hSw; (try dsimp only at hSw); go_simp <;> with_reducible rfl)
              try simp only [Act.put, List.setIfInBounds_toArray, List.set_cons_zero, List.set_cons_succ]
              refine wpAnyH_take (i := 21) (oi := Oper.mk _ _ _ _ _ _) (v := ?v78) rfl (by kernel_rfl) (by kernel_rfl) (by kernel_rfl) (fun _ _ _ h => h) (Or.inl ⟨by rfl, ?hy78⟩) (by assumption) ?rs78
              case hy78 => (intro w hSw; (try dsimp only at hSw); go_simp <;> with_reducible rfl)
              try simp only [Act.put, List.setIfInBounds_toArray, List.set_cons_zero, List.set_cons_succ]
              refine wpAnyH_take (i := 22) (oi := Oper.mk _ _ _ _ _ _) (v := ?v79) rfl (by kernel_rfl) (by kernel_rfl) (by kernel_rfl) (fun _ _ _ h => h) (Or.inl ⟨by rfl, ?hy79⟩) (by assumption) ?rs79
              case hy79 => (intro w hSw; (try dsimp only at hSw); go_simp <;> with_reducible rfl)
              try simp only [Act.put, List.setIfInBounds_toArray, List.set_cons_zero, List.set_cons_succ]
              refine wpAnyH_take (i := 23) (oi := Oper.mk _ _ _ _ _ _) (v := ?v80) rfl (by kernel_rfl) (by kernel_rfl) (by kernel_rfl) (fun _ _ _ h => h) (Or.inl ⟨by rfl, ?hy80⟩) (by assumption) ?rs80
              case hy80 => (intro w hSw; (try dsimp only at hSw); go_simp <;> with_reducible rfl)
              try simp only [Act.put, List.setIfInBounds_toArray, List.set_cons_zero, List.set_cons_succ]
              refine wpAnyH_take (i := 24) (oi := Oper.mk _ _ _ _ _ _) (v := ?v81) rfl (by kernel_rfl) (by kernel_rfl) (by kernel_rfl) (fun _ _ _ h => h) (Or.inl ⟨by rfl, ?hy81⟩) (by assumption) ?rs81
              case hy81 => (intro w hSw; (try dsimp only at hSw); go_simp <;> with_reducible rfl)
              try simp only [Act.put, List.setIfInBounds_toArray, List.set_cons_zero, List.set_cons_succ]
              refine wpAnyH_take (i := 25) (oi := Oper.mk _ _ _ _ _ _) (v := ?v82) rfl (by kernel_rfl) (by kernel_rfl) (by kernel_rfl) (fun _ _ _ h => h) (Or.inl ⟨by rfl, ?hy82⟩) (by assumption) ?rs82
              case hy82 => (intro w hSw; (try dsimp only at hSw); go_simp <;> with_reducible rfl)
              try simp only [Act.put, List.setIfInBounds_toArray, List.set_cons_zero, List.set_cons_succ]
              refine wpAnyH_take (i := 26) (oi := Oper.mk _ _ _ _ _ _) (v := ?v83) rfl (by kernel_rfl) (by kernel_rfl) (by kernel_rfl) (fun _ _ _ h => h) (Or.inl ⟨by rfl, ?hy83⟩) (by assumption) ?rs83
              case hy83 => (intro w hSw; (try dsimp only at hSw); go_simp <;> with_reducible rfl)
              try simp only [Act.put, List.setIfInBounds_toArray, List.set_cons_zero, List.set_cons_succ]
              refine wpAnyH_take (i := 27) (oi := Oper.mk _ _ _ _ _ _) (v := ?v84) rfl (by kernel_rfl) (by kernel_rfl) (by kernel_rfl) (fun _ _ _ h => h) (Or.inl ⟨by rfl, ?hy84⟩) (by assumption) ?rs84
              case hy84 => (intro w hSw; (try dsimp only at hSw); go_simp <;> with_reducible rfl)
              try simp only [Act.put, List.setIfInBounds_toArray, List.set_cons_zero, List.set_cons_succ]
              refine wpAnyH_done (by kernel_rfl) ?_ _
              go_wp2
              go_roundw
              case rel => exact ⟨k + 1, A', c', by omega, by go_num, by rw [HE.out], by rw [HE.out]; exact HR1.out, HC1.out⟩
              case measure => simp [intOf]; omega
        · have hvd : (v == 15) = false := beq_eq_false_iff_ne.2 hv
          have HE := Lib.hid (HN.out (T3.out hv))
          by_cases hg : g = 0
          · subst hg
            clear HY HN T1 T2 T3 T4 T5
            go_wp2
            refine wp_region_held_drew (S := fun w' => w'.cell? ⟨W.heap.size, 0, none⟩ = some (.slice A m c) ∧ w'.cell? ⟨b, o + k * 5, none⟩ = some (.int .i64 2) ∧ w'.cell? ⟨b, o + k * 5 + 1, none⟩ = some (.int .i64 x1) ∧ w'.cell? ⟨b, o + k * 5 + 2, none⟩ = some (.int .i64 x2) ∧ w'.cell? ⟨b, o + k * 5 + 3, none⟩ = some (.int .i64 x3) ∧ w'.cell? ⟨b, o + k * 5 + 4, none⟩ = some (.int .i64 x4)) (by kernel_rfl) hs0 (fun hHeld => ?_)
            refine wpAnyH_take (i := 0) (oi := Oper.mk _ _ _ _ _ _) (v := ?v85) rfl (by kernel_rfl) (by kernel_rfl) (by kernel_rfl) (fun _ _ _ h => h) (Or.inl ⟨by rfl, ?hy85⟩) (by assumption) ?rs85
            case hy85 => (intro w hSw; (try dsimp only at hSw); go_simp <;> with_reducible rfl)
            try simp only [Act.put, List.setIfInBounds_toArray, List.set_cons_zero, List.set_cons_succ]
            refine wpAnyH_take (i := 1) (oi := Oper.mk _ _ _ _ _ _) (v := ?v86) rfl (by kernel_rfl) (by kernel_rfl) (by kernel_rfl) (fun _ _ _ h => h) (Or.inl ⟨by rfl, ?hy86⟩) (by assumption) ?rs86
            case hy86 => (intro w hSw; (try dsimp only at hSw); go_simp <;> with_reducible rfl)
            try simp only [Act.put, List.setIfInBounds_toArray, List.set_cons_zero, List.set_cons_succ]
            refine wpAnyH_take (i := 2) (oi := Oper.mk _ _ _ _ _ _) (v := ?v87) rfl (by kernel_rfl) (by kernel_rfl) (by kernel_rfl) (fun _ _ _ h => h) (Or.inl ⟨by rfl, ?hy87⟩) (by assumption) ?rs87
            case hy87 => (intro w hSw; (try dsimp only at hSw); go_simp <;> with_reducible rfl)
            try simp only [Act.put, List.setIfInBounds_toArray, List.set_cons_zero, List.set_cons_succ]
            refine wpAnyH_take (i := 3) (oi := Oper.mk _ _ _ _ _ _) (v := ?v88) rfl (by kernel_rfl) (by kernel_rfl) (by kernel_rfl) (fun _ _ _ h => h) (Or.inl ⟨by rfl, ?hy88⟩) (by assumption) ?rs88
            case hy88 => (intro w hSw; (try dsimp only at hSw); go_simp <;> with_reducible rfl)
            try simp only [Act.put, List.setIfInBounds_toArray, List.set_cons_zero, List.set_cons_succ]
            refine wpAnyH_take (i := 4) (oi := Oper.mk _ _ _ _ _ _) (v := ?v89) rfl (by kernel_rfl) (by kernel_rfl) (by kernel_rfl) (fun _ _ _ h => h) (Or.inl ⟨by rfl, ?hy89⟩) (by assumption) ?rs89
            case hy89 => (intro w hSw; (try dsimp only at hSw); go_simp <;> with_reducible rfl)
            try simp only [Act.put, List.setIfInBounds_toArray, List.set_cons_zero, List.set_cons_succ]
            refine wpAnyH_take (i := 5) (oi := Oper.mk _ _ _ _ _ _) (v := ?v90) rfl (by kernel_rfl) (by kernel_rfl) (by kernel_rfl) (fun _ _ _ h => h) (Or.inl ⟨by rfl, ?hy90⟩) (by assumption) ?rs90
            case hy90 => (intro w hSw; (try dsimp only at hSw); go_simp <;> with_reducible rfl)
            try simp only [Act.put, List.setIfInBounds_toArray, List.set_cons_zero, List.set_cons_succ]
            refine wpAnyH_take (i := 6) (oi := Oper.mk _ _ _ _ _ _) (v := ?v91) rfl (by kernel_rfl) (by kernel_rfl) (by kernel_rfl) (fun _ _ _ h => h) (Or.inl ⟨by rfl, ?hy91⟩) (by assumption) ?rs91
            case hy91 => (intro w hSw; (try dsimp only at hSw); go_simp <;> with_reducible rfl)
            try simp only [Act.put, List.setIfInBounds_toArray, List.set_cons_zero, List.set_cons_succ]
            refine wpAnyH_take (i := 7) (oi := Oper.mk _ _ _ _ _ _) (v := ?v92) rfl (by kernel_rfl) (by kernel_rfl) (by kernel_rfl) (fun _ _ _ h => h) (Or.inl ⟨by rfl, ?hy92⟩) (by assumption) ?rs92
            case hy92 => (intro w hSw; (try dsimp only at hSw); go_simp <;> with_reducible rfl)
            try simp only [Act.put, List.setIfInBounds_toArray, List.set_cons_zero, List.set_cons_succ]
            refine wpAnyH_take (i := 8) (oi := Oper.mk _ _ _ _ _ _) (v := ?v93) rfl (by kernel_rfl) (by kernel_rfl) (by kernel_rfl) (fun _ _ _ h => h) (Or.inl ⟨by rfl, ?hy93⟩) (by assumption) ?rs93
            case hy93 => (intro w hSw; (try dsimp only at hSw); go_simp <;> with_reducible rfl)
            try simp only [Act.put, List.setIfInBounds_toArray, List.set_cons_zero, List.set_cons_succ]
            refine wpAnyH_take (i := 9) (oi := Oper.mk _ _ _ _ _ _) (v := ?v94) rfl (by kernel_rfl) (by kernel_rfl) (by kernel_rfl) (fun _ _ _ h => h) (Or.inl ⟨by rfl, ?hy94⟩) (by assumption) ?rs94
            case hy94 => (intro w hSw; (try dsimp only at hSw); go_simp <;> with_reducible rfl)
            try simp only [Act.put, List.setIfInBounds_toArray, List.set_cons_zero, List.set_cons_succ]
            refine wpAnyH_take (i := 10) (oi := Oper.mk _ _ _ _ _ _) (v := ?v95) rfl (by kernel_rfl) (by kernel_rfl) (by kernel_rfl) (fun _ _ _ h => h) (Or.inl ⟨by rfl, ?hy95⟩) (by assumption) ?rs95
            case hy95 => (intro w hSw; (try dsimp only at hSw); go_simp <;> with_reducible rfl)
            try simp only [Act.put, List.setIfInBounds_toArray, List.set_cons_zero, List.set_cons_succ]
            refine wpAnyH_take (i := 11) (oi := Oper.mk _ _ _ _ _ _) (v := ?v96) rfl (by kernel_rfl) (by kernel_rfl) (by kernel_rfl) (fun _ _ _ h => h) (Or.inl ⟨by rfl, ?hy96⟩) (by assumption) ?rs96
            case hy96 => (intro w hSw; (try dsimp only at hSw); go_simp <;> with_reducible rfl)
            try simp only [Act.put, List.setIfInBounds_toArray, List.set_cons_zero, List.set_cons_succ]
            refine wpAnyH_ready (rs := [12]) (by kernel_rfl) (by simp) ?_
            refine AllReadyH.cons (o := Oper.mk _ _ _ _ _ _) rfl (fun K hK => ?_) AllReadyH.nil
            go_simp
            go_at_call 20; refine (HOP.out _ ((Chg.refl _ wr).drew)).mono ?_; rintro e w1 ⟨rfl, hc1⟩; have hc2 := ((Chg.refl (fun _ => False) wr).drew).trans hc1 (fun _ _ h => h); have hs1 : w1.cell? ⟨W.heap.size, 0, none⟩ = some (.slice A m c) ∧ w1.cell? ⟨b, o + k * 5, none⟩ = some (.int .i64 2) ∧ w1.cell? ⟨b, o + k * 5 + 1, none⟩ = some (.int .i64 x1) ∧ w1.cell? ⟨b, o + k * 5 + 2, none⟩ = some (.int .i64 x2) ∧ w1.cell? ⟨b, o + k * 5 + 3, none⟩ = some (.int .i64 x3) ∧ w1.cell? ⟨b, o + k * 5 + 4, none⟩ = some (.int .i64 x4) := ⟨(hc2.cell (p := ⟨W.heap.size, 0, none⟩) b1 (fun h => h)).trans b0, (hc2.cell (p := ⟨b, _, none⟩) hb (fun h => h)).trans c0, (hc2.cell (p := ⟨b, _, none⟩) hb (fun h => h)).trans c1, (hc2.cell (p := ⟨b, _, none⟩) hb (fun h => h)).trans c2, (hc2.cell (p := ⟨b, _, none⟩) hb (fun h => h)).trans c3, (hc2.cell (p := ⟨b, _, none⟩) hb (fun h => h)).trans c4⟩; have q4 := hs1.2.2.2.2.2; have hbw := hc2.size; have HR1 := Lib.hid (HR.out.kept hc2 (fun _ _ h => h)); have HC1 := Lib.hid (HC.out.trans hc2 (fun _ _ h => h)); clear hc1 hc2
            refine hK.out _ _ hs1 (fun hHeld => ?_)
            clear hK K
            try simp only [Act.put, List.setIfInBounds_toArray, List.set_cons_zero, List.set_cons_succ]
            refine wpAnyH_take (i := 13) (oi := Oper.mk _ _ _ _ _ _) (v := ?v98) rfl (by kernel_rfl) (by kernel_rfl) (by kernel_rfl) (fun _ _ _ h => h) (Or.inl ⟨by rfl, ?hy98⟩) (by assumption) ?rs98
            case hy98 => (intro w hSw; (try dsimp only at hSw); go_simp <;> with_reducible rfl)
            try simp only [Act.put, List.setIfInBounds_toArray, List.set_cons_zero, List.set_cons_succ]
            refine wpAnyH_take (i := 14) (oi := Oper.mk _ _ _ _ _ _) (v := ?v99) rfl (by kernel_rfl) (by kernel_rfl) (by kernel_rfl) (fun _ _ _ h => h) (Or.inl ⟨by rfl, ?hy99⟩) (by assumption) ?rs99
            case hy99 => (intro w hSw; (try dsimp only at hSw); go_simp <;> with_reducible rfl)
            try simp only [Act.put, List.setIfInBounds_toArray, List.set_cons_zero, List.set_cons_succ]
            refine wpAnyH_take (i := 15) (oi := Oper.mk _ _ _ _ _ _) (v := ?v100) rfl (by kernel_rfl) (by kernel_rfl) (by kernel_rfl) (fun _ _ _ h => h) (Or.inl ⟨by rfl, ?hy100⟩) (by assumption) ?rs100
            case hy100 => (intro w hSw; (try dsimp only at hSw); go_simp <;> with_reducible rfl)
            try simp only [Act.put, List.setIfInBounds_toArray, List.set_cons_zero, List.set_cons_succ]
            refine wpAnyH_take (i := 16) (oi := Oper.mk _ _ _ _ _ _) (v := undef) rfl (by kernel_rfl) (by kernel_rfl) (by kernel_rfl) (fun _ _ _ h => h) (Or.inr ⟨by rfl, rfl⟩) (by assumption) ?_
            try simp only [Act.put, List.setIfInBounds_toArray, List.set_cons_zero, List.set_cons_succ]
            refine wpAnyH_take (i := 17) (oi := Oper.mk _ _ _ _ _ _) (v := undef) rfl (by kernel_rfl) (by kernel_rfl) (by kernel_rfl) (fun _ _ _ h => h) (Or.inr ⟨by rfl, rfl⟩) (by assumption) ?_
            try simp only [Act.put, List.setIfInBounds_toArray, List.set_cons_zero, List.set_cons_succ]
            refine wpAnyH_take (i := 18) (oi := Oper.mk _ _ _ _ _ _) (v := undef) rfl (by kernel_rfl) (by kernel_rfl) (by kernel_rfl) (fun _ _ _ h => h) (Or.inr ⟨by rfl, rfl⟩) (by assumption) ?_
            try simp only [Act.put, List.setIfInBounds_toArray, List.set_cons_zero, List.set_cons_succ]
            refine wpAnyH_take (i := 19) (oi := Oper.mk _ _ _ _ _ _) (v := undef) rfl (by kernel_rfl) (by kernel_rfl) (by kernel_rfl) (fun _ _ _ h => h) (Or.inr ⟨by rfl, rfl⟩) (by assumption) ?_
            try simp only [Act.put, List.setIfInBounds_toArray, List.set_cons_zero, List.set_cons_succ]
            refine wpAnyH_take (i := 20) (oi := Oper.mk _ _ _ _ _ _) (v := undef) rfl (by kernel_rfl) (by kernel_rfl) (by kernel_rfl) (fun _ _ _ h => h) (Or.inr ⟨by rfl, rfl⟩) (by assumption) ?_
            try simp only [Act.put, List.setIfInBounds_toArray, List.set_cons_zero, List.set_cons_succ]
            refine wpAnyH_take (i := 21) (oi := Oper.mk _ _ _ _ _ _) (v := undef) rfl (by kernel_rfl) (by kernel_rfl) (by kernel_rfl) (fun _ _ _ h => h) (Or.inr ⟨by rfl, rfl⟩) (by assumption) ?_
            try simp only [Act.put, List.setIfInBounds_toArray, List.set_cons_zero, List.set_cons_succ]
            refine wpAnyH_take (i := 22) (oi := Oper.mk _ _ _ _ _ _) (v := undef) rfl (by kernel_rfl) (by kernel_rfl) (by kernel_rfl) (fun _ _ _ h => h) (Or.inr ⟨by rfl, rfl⟩) (by assumption) ?_
            try simp only [Act.put, List.setIfInBounds_toArray, List.set_cons_zero, List.set_cons_succ]
            refine wpAnyH_take (i := 23) (oi := Oper.mk _ _ _ _ _ _) (v := undef) rfl (by kernel_rfl) (by kernel_rfl) (by kernel_rfl) (fun _ _ _ h => h) (Or.inr ⟨by rfl, rfl⟩) (by assumption) ?_
            try simp only [Act.put, List.setIfInBounds_toArray, List.set_cons_zero, List.set_cons_succ]
            refine wpAnyH_take (i := 24) (oi := Oper.mk _ _ _ _ _ _) (v := undef) rfl (by kernel_rfl) (by kernel_rfl) (by kernel_rfl) (fun _ _ _ h => h) (Or.inr ⟨by rfl, rfl⟩) (by assumption) ?_
            try simp only [Act.put, List.setIfInBounds_toArray, List.set_cons_zero, List.set_cons_succ]
            refine wpAnyH_take (i := 25) (oi := Oper.mk _ _ _ _ _ _) (v := undef) rfl (by kernel_rfl) (by kernel_rfl) (by kernel_rfl) (fun _ _ _ h => h) (Or.inr ⟨by rfl, rfl⟩) (by assumption) ?_
            try simp only [Act.put, List.setIfInBounds_toArray, List.set_cons_zero, List.set_cons_succ]
            refine wpAnyH_take (i := 26) (oi := Oper.mk _ _ _ _ _ _) (v := undef) rfl (by kernel_rfl) (by kernel_rfl) (by kernel_rfl) (fun _ _ _ h => h) (Or.inr ⟨by rfl, rfl⟩) (by assumption) ?_
            try simp only [Act.put, List.setIfInBounds_toArray, List.set_cons_zero, List.set_cons_succ]
            refine wpAnyH_take (i := 27) (oi := Oper.mk _ _ _ _ _ _) (v := ?v112) rfl (by kernel_rfl) (by kernel_rfl) (by kernel_rfl) (fun _ _ _ h => h) (Or.inl ⟨by rfl, ?hy112⟩) (by assumption) ?rs112
            case hy112 => (intro w hSw; (try dsimp only at hSw); go_simp <;> with_reducible rfl)
            try simp only [Act.put, List.setIfInBounds_toArray, List.set_cons_zero, List.set_cons_succ]
            refine wpAnyH_done (by kernel_rfl) ?_ _
            go_wp2
            go_roundw
            case rel => exact ⟨k + 1, A', c', by omega, by go_num, by rw [HE.out], by rw [HE.out]; exact HR1.out, HC1.out⟩
            case measure => simp [intOf]; omega
          · have hgd : (g == 0) = false := beq_eq_false_iff_ne.2 hg
            by_cases h1 : x1 = g
            · subst h1
              clear HY HN T1 T2 T3 T4 T5
              go_wp2
              refine wp_region_held_drew (S := fun w' => w'.cell? ⟨W.heap.size, 0, none⟩ = some (.slice A m c) ∧ w'.cell? ⟨b, o + k * 5, none⟩ = some (.int .i64 2) ∧ w'.cell? ⟨b, o + k * 5 + 1, none⟩ = some (.int .i64 x1) ∧ w'.cell? ⟨b, o + k * 5 + 2, none⟩ = some (.int .i64 x2) ∧ w'.cell? ⟨b, o + k * 5 + 3, none⟩ = some (.int .i64 x3) ∧ w'.cell? ⟨b, o + k * 5 + 4, none⟩ = some (.int .i64 x4)) (by kernel_rfl) hs0 (fun hHeld => ?_)
              refine wpAnyH_take (i := 0) (oi := Oper.mk _ _ _ _ _ _) (v := ?v113) rfl (by kernel_rfl) (by kernel_rfl) (by kernel_rfl) (fun _ _ _ h => h) (Or.inl ⟨by rfl, ?hy113⟩) (by assumption) ?rs113
              case hy113 => (intro w hSw; (try dsimp only at hSw); go_simp <;> with_reducible rfl)
              try simp only [Act.put, List.setIfInBounds_toArray, List.set_cons_zero, List.set_cons_succ]
              refine wpAnyH_take (i := 1) (oi := Oper.mk _ _ _ _ _ _) (v := ?v114) rfl (by kernel_rfl) (by kernel_rfl) (by kernel_rfl) (fun _ _ _ h => h) (Or.inl ⟨by rfl, ?hy114⟩) (by assumption) ?rs114
              case hy114 => (intro w hSw; (try dsimp only at hSw); go_simp <;> with_reducible rfl)
              try simp only [Act.put, List.setIfInBounds_toArray, List.set_cons_zero, List.set_cons_succ]
              refine wpAnyH_take (i := 2) (oi := Oper.mk _ _ _ _ _ _) (v := ?v115) rfl (by kernel_rfl) (by kernel_rfl) (by kernel_rfl) (fun _ _ _ h => h) (Or.inl ⟨by rfl, ?hy115⟩) (by assumption) ?rs115
              case hy115 => (intro w hSw; (try dsimp only at hSw); go_simp <;> with_reducible rfl)
              try simp only [Act.put, List.setIfInBounds_toArray, List.set_cons_zero, List.set_cons_succ]
              refine wpAnyH_take (i := 3) (oi := Oper.mk _ _ _ _ _ _) (v := ?v116) rfl (by kernel_rfl) (by kernel_rfl) (by kernel_rfl) (fun _ _ _ h => h) (Or.inl ⟨by rfl, ?hy116⟩) (by assumption) ?rs116
              case hy116 => (intro w hSw; (try dsimp only at hSw); go_simp <;> with_reducible rfl)
              try simp only [Act.put, List.setIfInBounds_toArray, List.set_cons_zero, List.set_cons_succ]
              refine wpAnyH_take (i := 4) (oi := Oper.mk _ _ _ _ _ _) (v := ?v117) rfl (by kernel_rfl) (by kernel_rfl) (by kernel_rfl) (fun _ _ _ h => h) (Or.inl ⟨by rfl, ?hy117⟩) (by assumption) ?rs117
              case hy117 => (intro w hSw; (try dsimp only at hSw); go_simp <;> with_reducible rfl)
              try simp only [Act.put, List.setIfInBounds_toArray, List.set_cons_zero, List.set_cons_succ]
              refine wpAnyH_take (i := 5) (oi := Oper.mk _ _ _ _ _ _) (v := ?v118) rfl (by kernel_rfl) (by kernel_rfl) (by kernel_rfl) (fun _ _ _ h => h) (Or.inl ⟨by rfl, ?hy118⟩) (by assumption) ?rs118
              case hy118 => (intro w hSw; (try dsimp only at hSw); go_simp <;> with_reducible rfl)
              try simp only [Act.put, List.setIfInBounds_toArray, List.set_cons_zero, List.set_cons_succ]
              refine wpAnyH_take (i := 6) (oi := Oper.mk _ _ _ _ _ _) (v := ?v119) rfl (by kernel_rfl) (by kernel_rfl) (by kernel_rfl) (fun _ _ _ h => h) (Or.inl ⟨by rfl, ?hy119⟩) (by assumption) ?rs119
              case hy119 => (intro w hSw; (try dsimp only at hSw); go_simp <;> with_reducible rfl)
              try simp only [Act.put, List.setIfInBounds_toArray, List.set_cons_zero, List.set_cons_succ]
              refine wpAnyH_take (i := 7) (oi := Oper.mk _ _ _ _ _ _) (v := ?v120) rfl (by kernel_rfl) (by kernel_rfl) (by kernel_rfl) (fun _ _ _ h => h) (Or.inl ⟨by rfl, ?hy120⟩) (by assumption) ?rs120
              case hy120 => (intro w hSw; (try dsimp only at hSw); go_simp <;> with_reducible rfl)
              try simp only [Act.put, List.setIfInBounds_toArray, List.set_cons_zero, List.set_cons_succ]
              refine wpAnyH_take (i := 8) (oi := Oper.mk _ _ _ _ _ _) (v := ?v121) rfl (by kernel_rfl) (by kernel_rfl) (by kernel_rfl) (fun _ _ _ h => h) (Or.inl ⟨by rfl, ?hy121⟩) (by assumption) ?rs121
              case hy121 => (intro w hSw; (try dsimp only at hSw); go_simp <;> with_reducible rfl)
              try simp only [Act.put, List.setIfInBounds_toArray, List.set_cons_zero, List.set_cons_succ]
              refine wpAnyH_take (i := 9) (oi := Oper.mk _ _ _ _ _ _) (v := ?v122) rfl (by kernel_rfl) (by kernel_rfl) (by kernel_rfl) (fun _ _ _ h => h) (Or.inl ⟨by rfl, ?hy122⟩) (by assumption) ?rs122
              case hy122 => (intro w hSw; (try dsimp only at hSw); go_simp <;> with_reducible rfl)
              try simp only [Act.put, List.setIfInBounds_toArray, List.set_cons_zero, List.set_cons_succ]
              refine wpAnyH_take (i := 10) (oi := Oper.mk _ _ _ _ _ _) (v := ?v123) rfl (by kernel_rfl) (by kernel_rfl) (by kernel_rfl) (fun _ _ _ h => h) (Or.inl ⟨by rfl, ?hy123⟩) (by assumption) ?rs123
              case hy123 => (intro w hSw; (try dsimp only at hSw); go_simp <;> with_reducible rfl)
              try simp only [Act.put, List.setIfInBounds_toArray, List.set_cons_zero, List.set_cons_succ]
              refine wpAnyH_take (i := 11) (oi := Oper.mk _ _ _ _ _ _) (v := ?v124) rfl (by kernel_rfl) (by kernel_rfl) (by kernel_rfl) (fun _ _ _ h => h) (Or.inl ⟨by rfl, ?hy124⟩) (by assumption) ?rs124
              case hy124 => (intro w hSw; (try dsimp only at hSw); go_simp <;> with_reducible rfl)
              try simp only [Act.put, List.setIfInBounds_toArray, List.set_cons_zero, List.set_cons_succ]
              refine wpAnyH_ready (rs := [12]) (by kernel_rfl) (by simp) ?_
              refine AllReadyH.cons (o := Oper.mk _ _ _ _ _ _) rfl (fun K hK => ?_) AllReadyH.nil
              go_simp
              go_at_call 20; refine (HOP.out _ ((Chg.refl _ wr).drew)).mono ?_; rintro e w1 ⟨rfl, hc1⟩; have hc2 := ((Chg.refl (fun _ => False) wr).drew).trans hc1 (fun _ _ h => h); have hs1 : w1.cell? ⟨W.heap.size, 0, none⟩ = some (.slice A m c) ∧ w1.cell? ⟨b, o + k * 5, none⟩ = some (.int .i64 2) ∧ w1.cell? ⟨b, o + k * 5 + 1, none⟩ = some (.int .i64 x1) ∧ w1.cell? ⟨b, o + k * 5 + 2, none⟩ = some (.int .i64 x2) ∧ w1.cell? ⟨b, o + k * 5 + 3, none⟩ = some (.int .i64 x3) ∧ w1.cell? ⟨b, o + k * 5 + 4, none⟩ = some (.int .i64 x4) := ⟨(hc2.cell (p := ⟨W.heap.size, 0, none⟩) b1 (fun h => h)).trans b0, (hc2.cell (p := ⟨b, _, none⟩) hb (fun h => h)).trans c0, (hc2.cell (p := ⟨b, _, none⟩) hb (fun h => h)).trans c1, (hc2.cell (p := ⟨b, _, none⟩) hb (fun h => h)).trans c2, (hc2.cell (p := ⟨b, _, none⟩) hb (fun h => h)).trans c3, (hc2.cell (p := ⟨b, _, none⟩) hb (fun h => h)).trans c4⟩; have q4 := hs1.2.2.2.2.2; have hbw := hc2.size; have HR1 := Lib.hid (HR.out.kept hc2 (fun _ _ h => h)); have HC1 := Lib.hid (HC.out.trans hc2 (fun _ _ h => h)); clear hc1 hc2
              refine hK.out _ _ hs1 (fun hHeld => ?_)
              clear hK K
              try simp only [Act.put, List.setIfInBounds_toArray, List.set_cons_zero, List.set_cons_succ]
              refine wpAnyH_take (i := 13) (oi := Oper.mk _ _ _ _ _ _) (v := ?v126) rfl (by kernel_rfl) (by kernel_rfl) (by kernel_rfl) (fun _ _ _ h => h) (Or.inl ⟨by rfl, ?hy126⟩) (by assumption) ?rs126
              case hy126 => (intro w hSw; (try dsimp only at hSw); go_simp <;> with_reducible rfl)
              try simp only [Act.put, List.setIfInBounds_toArray, List.set_cons_zero, List.set_cons_succ]
              refine wpAnyH_take (i := 14) (oi := Oper.mk _ _ _ _ _ _) (v := ?v127) rfl (by kernel_rfl) (by kernel_rfl) (by kernel_rfl) (fun _ _ _ h => h) (Or.inl ⟨by rfl, ?hy127⟩) (by assumption) ?rs127
              case hy127 => (intro w hSw; (try dsimp only at hSw); go_simp <;> with_reducible rfl)
              try simp only [Act.put, List.setIfInBounds_toArray, List.set_cons_zero, List.set_cons_succ]
              refine wpAnyH_take (i := 15) (oi := Oper.mk _ _ _ _ _ _) (v := ?v128) rfl (by kernel_rfl) (by kernel_rfl) (by kernel_rfl) (fun _ _ _ h => h) (Or.inl ⟨by rfl, ?hy128⟩) (by assumption) ?rs128
              case hy128 => (intro w hSw; (try dsimp only at hSw); go_simp <;> with_reducible rfl)
              try simp only [Act.put, List.setIfInBounds_toArray, List.set_cons_zero, List.set_cons_succ]
              refine wpAnyH_take (i := 16) (oi := Oper.mk _ _ _ _ _ _) (v := undef) rfl (by kernel_rfl) (by kernel_rfl) (by kernel_rfl) (fun _ _ _ h => h) (Or.inr ⟨by rfl, rfl⟩) (by assumption) ?_
              try simp only [Act.put, List.setIfInBounds_toArray, List.set_cons_zero, List.set_cons_succ]
              refine wpAnyH_take (i := 17) (oi := Oper.mk _ _ _ _ _ _) (v := undef) rfl (by kernel_rfl) (by kernel_rfl) (by kernel_rfl) (fun _ _ _ h => h) (Or.inr ⟨by rfl, rfl⟩) (by assumption) ?_
              try simp only [Act.put, List.setIfInBounds_toArray, List.set_cons_zero, List.set_cons_succ]
              refine wpAnyH_take (i := 18) (oi := Oper.mk _ _ _ _ _ _) (v := undef) rfl (by kernel_rfl) (by kernel_rfl) (by kernel_rfl) (fun _ _ _ h => h) (Or.inr ⟨by rfl, rfl⟩) (by assumption) ?_
              try simp only [Act.put, List.setIfInBounds_toArray, List.set_cons_zero, List.set_cons_succ]
              refine wpAnyH_take (i := 19) (oi := Oper.mk _ _ _ _ _ _) (v := undef) rfl (by kernel_rfl) (by kernel_rfl) (by kernel_rfl) (fun _ _ _ h => h) (Or.inr ⟨by rfl, rfl⟩) (by assumption) ?_
              try simp only [Act.put, List.setIfInBounds_toArray, List.set_cons_zero, List.set_cons_succ]
              refine wpAnyH_take (i := 20) (oi := Oper.mk _ _ _ _ _ _) (v := undef) rfl (by kernel_rfl) (by kernel_rfl) (by kernel_rfl) (fun _ _ _ h => h) (Or.inr ⟨by rfl, rfl⟩) (by assumption) ?_
              try simp only [Act.put, List.setIfInBounds_toArray, List.set_cons_zero, List.set_cons_succ]
              refine wpAnyH_take (i := 21) (oi := Oper.mk _ _ _ _ _ _) (v := undef) rfl (by kernel_rfl) (by kernel_rfl) (by kernel_rfl) (fun _ _ _ h => h) (Or.inr ⟨by rfl, rfl⟩) (by assumption) ?_
              try simp only [Act.put, List.setIfInBounds_toArray, List.set_cons_zero, List.set_cons_succ]
              refine wpAnyH_take (i := 22) (oi := Oper.mk _ _ _ _ _ _) (v := undef) rfl (by kernel_rfl) (by kernel_rfl) (by kernel_rfl) (fun _ _ _ h => h) (Or.inr ⟨by rfl, rfl⟩) (by assumption) ?_
              try simp only [Act.put, List.setIfInBounds_toArray, List.set_cons_zero, List.set_cons_succ]
              refine wpAnyH_take (i := 23) (oi := Oper.mk _ _ _ _ _ _) (v := undef) rfl (by kernel_rfl) (by kernel_rfl) (by kernel_rfl) (fun _ _ _ h => h) (Or.inr ⟨by rfl, rfl⟩) (by assumption) ?_
              try simp only [Act.put, List.setIfInBounds_toArray, List.set_cons_zero, List.set_cons_succ]
              refine wpAnyH_take (i := 24) (oi := Oper.mk _ _ _ _ _ _) (v := undef) rfl (by kernel_rfl) (by kernel_rfl) (by kernel_rfl) (fun _ _ _ h => h) (Or.inr ⟨by rfl, rfl⟩) (by assumption) ?_
              try simp only [Act.put, List.setIfInBounds_toArray, List.set_cons_zero, List.set_cons_succ]
              refine wpAnyH_take (i := 25) (oi := Oper.mk _ _ _ _ _ _) (v := undef) rfl (by kernel_rfl) (by kernel_rfl) (by kernel_rfl) (fun _ _ _ h => h) (Or.inr ⟨by rfl, rfl⟩) (by assumption) ?_
              try simp only [Act.put, List.setIfInBounds_toArray, List.set_cons_zero, List.set_cons_succ]
              refine wpAnyH_take (i := 26) (oi := Oper.mk _ _ _ _ _ _) (v := undef) rfl (by kernel_rfl) (by kernel_rfl) (by kernel_rfl) (fun _ _ _ h => h) (Or.inr ⟨by rfl, rfl⟩) (by assumption) ?_
              try simp only [Act.put, List.setIfInBounds_toArray, List.set_cons_zero, List.set_cons_succ]
              refine wpAnyH_take (i := 27) (oi := Oper.mk _ _ _ _ _ _) (v := ?v140) rfl (by kernel_rfl) (by kernel_rfl) (by kernel_rfl) (fun _ _ _ h => h) (Or.inl ⟨by rfl, ?hy140⟩) (by assumption) ?rs140
              case hy140 => (intro w hSw; (try dsimp only at hSw); go_simp <;> with_reducible rfl)
              try simp only [Act.put, List.setIfInBounds_toArray, List.set_cons_zero, List.set_cons_succ]
              refine wpAnyH_done (by kernel_rfl) ?_ _
              go_wp2
              go_roundw
              case rel => exact ⟨k + 1, A', c', by omega, by go_num, by rw [HE.out], by rw [HE.out]; exact HR1.out, HC1.out⟩
              case measure => simp [intOf]; omega
            · have hxd : (x1 == g) = false := beq_eq_false_iff_ne.2 h1
              clear HY HN T1 T2 T3 T4 T5
              go_wp2
              refine wp_region_held_drew (S := fun w' => w'.cell? ⟨W.heap.size, 0, none⟩ = some (.slice A m c) ∧ w'.cell? ⟨b, o + k * 5, none⟩ = some (.int .i64 2) ∧ w'.cell? ⟨b, o + k * 5 + 1, none⟩ = some (.int .i64 x1) ∧ w'.cell? ⟨b, o + k * 5 + 2, none⟩ = some (.int .i64 x2) ∧ w'.cell? ⟨b, o + k * 5 + 3, none⟩ = some (.int .i64 x3) ∧ w'.cell? ⟨b, o + k * 5 + 4, none⟩ = some (.int .i64 x4)) (by kernel_rfl) hs0 (fun hHeld => ?_)
              refine wpAnyH_take (i := 0) (oi := Oper.mk _ _ _ _ _ _) (v := ?v141) rfl (by kernel_rfl) (by kernel_rfl) (by kernel_rfl) (fun _ _ _ h => h) (Or.inl ⟨by rfl, ?hy141⟩) (by assumption) ?rs141
              case hy141 => (intro w hSw; (try dsimp only at hSw); go_simp <;> with_reducible rfl)
              try simp only [Act.put, List.setIfInBounds_toArray, List.set_cons_zero, List.set_cons_succ]
              refine wpAnyH_take (i := 1) (oi := Oper.mk _ _ _ _ _ _) (v := ?v142) rfl (by kernel_rfl) (by kernel_rfl) (by kernel_rfl) (fun _ _ _ h => h) (Or.inl ⟨by rfl, ?hy142⟩) (by assumption) ?rs142
              case hy142 => (intro w hSw; (try dsimp only at hSw); go_simp <;> with_reducible rfl)
              try simp only [Act.put, List.setIfInBounds_toArray, List.set_cons_zero, List.set_cons_succ]
              refine wpAnyH_take (i := 2) (oi := Oper.mk _ _ _ _ _ _) (v := ?v143) rfl (by kernel_rfl) (by kernel_rfl) (by kernel_rfl) (fun _ _ _ h => h) (Or.inl ⟨by rfl, ?hy143⟩) (by assumption) ?rs143
              case hy143 => (intro w hSw; (try dsimp only at hSw); go_simp <;> with_reducible rfl)
              try simp only [Act.put, List.setIfInBounds_toArray, List.set_cons_zero, List.set_cons_succ]
              refine wpAnyH_take (i := 3) (oi := Oper.mk _ _ _ _ _ _) (v := ?v144) rfl (by kernel_rfl) (by kernel_rfl) (by kernel_rfl) (fun _ _ _ h => h) (Or.inl ⟨by rfl, ?hy144⟩) (by assumption) ?rs144
              case hy144 => (intro w hSw; (try dsimp only at hSw); go_simp <;> with_reducible rfl)
              try simp only [Act.put, List.setIfInBounds_toArray, List.set_cons_zero, List.set_cons_succ]
              refine wpAnyH_take (i := 4) (oi := Oper.mk _ _ _ _ _ _) (v := ?v145) rfl (by kernel_rfl) (by kernel_rfl) (by kernel_rfl) (fun _ _ _ h => h) (Or.inl ⟨by rfl, ?hy145⟩) (by assumption) ?rs145
              case hy145 => (intro w hSw; (try dsimp only at hSw); go_simp <;> with_reducible rfl)
              try simp only [Act.put, List.setIfInBounds_toArray, List.set_cons_zero, List.set_cons_succ]
              refine wpAnyH_take (i := 5) (oi := Oper.mk _ _ _ _ _ _) (v := ?v146) rfl (by kernel_rfl) (by kernel_rfl) (by kernel_rfl) (fun _ _ _ h => h) (Or.inl ⟨by rfl, ?hy146⟩) (by assumption) ?rs146
              case hy146 => (intro w hSw; (try dsimp only at hSw); go_simp <;> with_reducible rfl)
              try simp only [Act.put, List.setIfInBounds_toArray, List.set_cons_zero, List.set_cons_succ]
              refine wpAnyH_take (i := 6) (oi := Oper.mk _ _ _ _ _ _) (v := ?v147) rfl (by kernel_rfl) (by kernel_rfl) (by kernel_rfl) (fun _ _ _ h => h) (Or.inl ⟨by rfl, ?hy147⟩) (by assumption) ?rs147
              case hy147 => (intro w hSw; (try dsimp only at hSw); go_simp <;> with_reducible rfl)
              try simp only [Act.put, List.setIfInBounds_toArray, List.set_cons_zero, List.set_cons_succ]
              refine wpAnyH_take (i := 7) (oi := Oper.mk _ _ _ _ _ _) (v := ?v148) rfl (by kernel_rfl) (by kernel_rfl) (by kernel_rfl) (fun _ _ _ h => h) (Or.inl ⟨by rfl, ?hy148⟩) (by assumption) ?rs148
              case hy148 => (intro w hSw; (try dsimp only at hSw); go_simp <;> with_reducible rfl)
              try simp only [Act.put, List.setIfInBounds_toArray, List.set_cons_zero, List.set_cons_succ]
              refine wpAnyH_take (i := 8) (oi := Oper.mk _ _ _ _ _ _) (v := ?v149) rfl (by kernel_rfl) (by kernel_rfl) (by kernel_rfl) (fun _ _ _ h => h) (Or.inl ⟨by rfl, ?hy149⟩) (by assumption) ?rs149
              case hy149 => (intro w hSw; (try dsimp only at hSw); go_simp <;> with_reducible rfl)
              try simp only [Act.put, List.setIfInBounds_toArray, List.set_cons_zero, List.set_cons_succ]
              refine wpAnyH_take (i := 9) (oi := Oper.mk _ _ _ _ _ _) (v := ?v150) rfl (by kernel_rfl) (by kernel_rfl) (by kernel_rfl) (fun _ _ _ h => h) (Or.inl ⟨by rfl, ?hy150⟩) (by assumption) ?rs150
              case hy150 => (intro w hSw; (try dsimp only at hSw); go_simp <;> with_reducible rfl)
              try simp only [Act.put, List.setIfInBounds_toArray, List.set_cons_zero, List.set_cons_succ]
              refine wpAnyH_take (i := 10) (oi := Oper.mk _ _ _ _ _ _) (v := ?v151) rfl (by kernel_rfl) (by kernel_rfl) (by kernel_rfl) (fun _ _ _ h => h) (Or.inl ⟨by rfl, ?hy151⟩) (by assumption) ?rs151
              case hy151 => (intro w hSw; (try dsimp only at hSw); go_simp <;> with_reducible rfl)
              try simp only [Act.put, List.setIfInBounds_toArray, List.set_cons_zero, List.set_cons_succ]
              refine wpAnyH_take (i := 11) (oi := Oper.mk _ _ _ _ _ _) (v := ?v152) rfl (by kernel_rfl) (by kernel_rfl) (by kernel_rfl) (fun _ _ _ h => h) (Or.inl ⟨by rfl, ?hy152⟩) (by assumption) ?rs152
              case hy152 => (intro w hSw; (try dsimp only at hSw); go_simp <;> with_reducible rfl)
              try simp only [Act.put, List.setIfInBounds_toArray, List.set_cons_zero, List.set_cons_succ]
              refine wpAnyH_ready (rs := [12]) (by kernel_rfl) (by simp) ?_
              refine AllReadyH.cons (o := Oper.mk _ _ _ _ _ _) rfl (fun K hK => ?_) AllReadyH.nil
              go_simp
              go_at_call 20; refine (HOP.out _ ((Chg.refl _ wr).drew)).mono ?_; rintro e w1 ⟨rfl, hc1⟩; have hc2 := ((Chg.refl (fun _ => False) wr).drew).trans hc1 (fun _ _ h => h); have hs1 : w1.cell? ⟨W.heap.size, 0, none⟩ = some (.slice A m c) ∧ w1.cell? ⟨b, o + k * 5, none⟩ = some (.int .i64 2) ∧ w1.cell? ⟨b, o + k * 5 + 1, none⟩ = some (.int .i64 x1) ∧ w1.cell? ⟨b, o + k * 5 + 2, none⟩ = some (.int .i64 x2) ∧ w1.cell? ⟨b, o + k * 5 + 3, none⟩ = some (.int .i64 x3) ∧ w1.cell? ⟨b, o + k * 5 + 4, none⟩ = some (.int .i64 x4) := ⟨(hc2.cell (p := ⟨W.heap.size, 0, none⟩) b1 (fun h => h)).trans b0, (hc2.cell (p := ⟨b, _, none⟩) hb (fun h => h)).trans c0, (hc2.cell (p := ⟨b, _, none⟩) hb (fun h => h)).trans c1, (hc2.cell (p := ⟨b, _, none⟩) hb (fun h => h)).trans c2, (hc2.cell (p := ⟨b, _, none⟩) hb (fun h => h)).trans c3, (hc2.cell (p := ⟨b, _, none⟩) hb (fun h => h)).trans c4⟩; have q4 := hs1.2.2.2.2.2; have hbw := hc2.size; have HR1 := Lib.hid (HR.out.kept hc2 (fun _ _ h => h)); have HC1 := Lib.hid (HC.out.trans hc2 (fun _ _ h => h)); clear hc1 hc2
              refine hK.out _ _ hs1 (fun hHeld => ?_)
              clear hK K
              try simp only [Act.put, List.setIfInBounds_toArray, List.set_cons_zero, List.set_cons_succ]
              refine wpAnyH_take (i := 13) (oi := Oper.mk _ _ _ _ _ _) (v := ?v154) rfl (by kernel_rfl) (by kernel_rfl) (by kernel_rfl) (fun _ _ _ h => h) (Or.inl ⟨by rfl, ?hy154⟩) (by assumption) ?rs154
              case hy154 => (intro w hSw; (try dsimp only at hSw); go_simp <;> with_reducible rfl)
              try simp only [Act.put, List.setIfInBounds_toArray, List.set_cons_zero, List.set_cons_succ]
              refine wpAnyH_take (i := 14) (oi := Oper.mk _ _ _ _ _ _) (v := ?v155) rfl (by kernel_rfl) (by kernel_rfl) (by kernel_rfl) (fun _ _ _ h => h) (Or.inl ⟨by rfl, ?hy155⟩) (by assumption) ?rs155
              case hy155 => (intro w hSw; (try dsimp only at hSw); go_simp <;> with_reducible rfl)
              try simp only [Act.put, List.setIfInBounds_toArray, List.set_cons_zero, List.set_cons_succ]
              refine wpAnyH_take (i := 15) (oi := Oper.mk _ _ _ _ _ _) (v := ?v156) rfl (by kernel_rfl) (by kernel_rfl) (by kernel_rfl) (fun _ _ _ h => h) (Or.inl ⟨by rfl, ?hy156⟩) (by assumption) ?rs156
              case hy156 => (intro w hSw; (try dsimp only at hSw); go_simp <;> with_reducible rfl)
              try simp only [Act.put, List.setIfInBounds_toArray, List.set_cons_zero, List.set_cons_succ]
              refine wpAnyH_take (i := 16) (oi := Oper.mk _ _ _ _ _ _) (v := undef) rfl (by kernel_rfl) (by kernel_rfl) (by kernel_rfl) (fun _ _ _ h => h) (Or.inr ⟨by rfl, rfl⟩) (by assumption) ?_
              try simp only [Act.put, List.setIfInBounds_toArray, List.set_cons_zero, List.set_cons_succ]
              refine wpAnyH_take (i := 17) (oi := Oper.mk _ _ _ _ _ _) (v := undef) rfl (by kernel_rfl) (by kernel_rfl) (by kernel_rfl) (fun _ _ _ h => h) (Or.inr ⟨by rfl, rfl⟩) (by assumption) ?_
              try simp only [Act.put, List.setIfInBounds_toArray, List.set_cons_zero, List.set_cons_succ]
              refine wpAnyH_take (i := 18) (oi := Oper.mk _ _ _ _ _ _) (v := undef) rfl (by kernel_rfl) (by kernel_rfl) (by kernel_rfl) (fun _ _ _ h => h) (Or.inr ⟨by rfl, rfl⟩) (by assumption) ?_
              try simp only [Act.put, List.setIfInBounds_toArray, List.set_cons_zero, List.set_cons_succ]
              refine wpAnyH_take (i := 19) (oi := Oper.mk _ _ _ _ _ _) (v := undef) rfl (by kernel_rfl) (by kernel_rfl) (by kernel_rfl) (fun _ _ _ h => h) (Or.inr ⟨by rfl, rfl⟩) (by assumption) ?_
              try simp only [Act.put, List.setIfInBounds_toArray, List.set_cons_zero, List.set_cons_succ]
              refine wpAnyH_take (i := 20) (oi := Oper.mk _ _ _ _ _ _) (v := undef) rfl (by kernel_rfl) (by kernel_rfl) (by kernel_rfl) (fun _ _ _ h => h) (Or.inr ⟨by rfl, rfl⟩) (by assumption) ?_
              try simp only [Act.put, List.setIfInBounds_toArray, List.set_cons_zero, List.set_cons_succ]
              refine wpAnyH_take (i := 21) (oi := Oper.mk _ _ _ _ _ _) (v := undef) rfl (by kernel_rfl) (by kernel_rfl) (by kernel_rfl) (fun _ _ _ h => h) (Or.inr ⟨by rfl, rfl⟩) (by assumption) ?_
              try simp only [Act.put, List.setIfInBounds_toArray, List.set_cons_zero, List.set_cons_succ]
              refine wpAnyH_take (i := 22) (oi := Oper.mk _ _ _ _ _ _) (v := undef) rfl (by kernel_rfl) (by kernel_rfl) (by kernel_rfl) (fun _ _ _ h => h) (Or.inr ⟨by rfl, rfl⟩) (by assumption) ?_
              try simp only [Act.put, List.setIfInBounds_toArray, List.set_cons_zero, List.set_cons_succ]
              refine wpAnyH_take (i := 23) (oi := Oper.mk _ _ _ _ _ _) (v := undef) rfl (by kernel_rfl) (by kernel_rfl) (by kernel_rfl) (fun _ _ _ h => h) (Or.inr ⟨by rfl, rfl⟩) (by assumption) ?_
              try simp only [Act.put, List.setIfInBounds_toArray, List.set_cons_zero, List.set_cons_succ]
              refine wpAnyH_take (i := 24) (oi := Oper.mk _ _ _ _ _ _) (v := undef) rfl (by kernel_rfl) (by kernel_rfl) (by kernel_rfl) (fun _ _ _ h => h) (Or.inr ⟨by rfl, rfl⟩) (by assumption) ?_
              try simp only [Act.put, List.setIfInBounds_toArray, List.set_cons_zero, List.set_cons_succ]
              refine wpAnyH_take (i := 25) (oi := Oper.mk _ _ _ _ _ _) (v := undef) rfl (by kernel_rfl) (by kernel_rfl) (by kernel_rfl) (fun _ _ _ h => h) (Or.inr ⟨by rfl, rfl⟩) (by assumption) ?_
              try simp only [Act.put, List.setIfInBounds_toArray, List.set_cons_zero, List.set_cons_succ]
              refine wpAnyH_take (i := 26) (oi := Oper.mk _ _ _ _ _ _) (v := undef) rfl (by kernel_rfl) (by kernel_rfl) (by kernel_rfl) (fun _ _ _ h => h) (Or.inr ⟨by rfl, rfl⟩) (by assumption) ?_
              try simp only [Act.put, List.setIfInBounds_toArray, List.set_cons_zero, List.set_cons_succ]
              refine wpAnyH_take (i := 27) (oi := Oper.mk _ _ _ _ _ _) (v := ?v168) rfl (by kernel_rfl) (by kernel_rfl) (by kernel_rfl) (fun _ _ _ h => h) (Or.inl ⟨by rfl, ?hy168⟩) (by assumption) ?rs168
              case hy168 => (intro w hSw; (try dsimp only at hSw); go_simp <;> with_reducible rfl)
              try simp only [Act.put, List.setIfInBounds_toArray, List.set_cons_zero, List.set_cons_succ]
              refine wpAnyH_done (by kernel_rfl) ?_ _
              go_wp2
              go_roundw
              case rel => exact ⟨k + 1, A', c', by omega, by go_num, by rw [HE.out], by rw [HE.out]; exact HR1.out, HC1.out⟩
              case measure => simp [intOf]; omega
      · have h0d : (x0 == 2) = false := beq_eq_false_iff_ne.2 h0
        have HE := Lib.hid (HN.out (T1.out h0))
        clear HY HN T1 T2 T3 T4 T5
        go_wp2
        go_quiet (fail)
        go_wp2
        go_roundw
        case rel => exact ⟨k + 1, A', c', by omega, by go_num, by rw [HE.out], by rw [HE.out]; exact HR.out.drewN _, HC.out.drewN _⟩
        case measure => simp [intOf]; omega
    · obtain rfl : k = n := by omega
      have HR2 := Lib.hid HR.out
      go_wp2
      go_ret
      exact ⟨A', c', rfl, HR.out, HC0.out.trans HC.out (fun _ _ h => h)⟩
end
end Go.Proofs.YtnepgbhbbbcecaaDoor
