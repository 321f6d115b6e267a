/- The entries that pick one machine: those that pick another one are deleted; lists that are the same. -/
import Derived.Test.YtcngdngkkglepaaDoorScpB
namespace Go.Proofs.YtcngdngkkglepaaDoor
open Go.ChangeShapes Go.WideShapes Go.ChangeAt Go.RowKit Go.Deep
set_option linter.unusedVariables false
set_option linter.unusedSimpArgs false

def keep (live pick : Int) (es : List (List Int)) : List (List Int) := es.filter fun e => !other live pick e
section
variable {live pick : Int} {es : List (List Int)}
theorem keep_uni (h : Uni 3 es) : Uni 3 (keep live pick es) := fun e he => h e (List.mem_filter.1 he).1
theorem keep_len (live pick : Int) (es : List (List Int)) : (keep live pick es).length ≤ es.length := List.length_filter_le _ _
theorem keep_yes {k : Nat} (hk : k < es.length) (h : other live pick es[k] = false) : keep live pick (es.take (k + 1)) = keep live pick (es.take k) ++ [es[k]] := by
  rw [keep, List.take_succ_eq_append_getElem hk, List.filter_append]
  simp only [List.filter_cons, List.filter_nil, h, Bool.not_false, if_true]
  rfl
theorem keep_no {k : Nat} (hk : k < es.length) (h : other live pick es[k] = true) : keep live pick (es.take (k + 1)) = keep live pick (es.take k) := by
  rw [keep, List.take_succ_eq_append_getElem hk, List.filter_append]
  simp only [List.filter_cons, List.filter_nil, h, Bool.not_true, Bool.false_eq_true, if_false, List.append_nil]
  rfl
theorem keep_all (h : ∀ (k : Nat) (hk : k < es.length), other live pick es[k] = false) : keep live pick es = es := by
  rw [keep, List.filter_eq_self]
  intro e he
  obtain ⟨k, hk, rfl⟩ := List.getElem_of_mem he
  rw [h k hk]; rfl
theorem keep_until {m : Nat} (hm : m ≤ es.length) (h : ∀ (k : Nat) (hk : k < es.length), k < m → other live pick es[k] = false) : keep live pick (es.take m) = es.take m := by
  apply keep_all
  intro k hk
  rw [List.length_take] at hk
  rw [List.getElem_take]
  exact h k (by omega) (by omega)
theorem first_one (p : List Int → Bool) : ∀ es : List (List Int), (∀ (k : Nat) (hk : k < es.length), p es[k] = false) ∨ ∃ (m : Nat) (hm : m < es.length), p es[m] = true ∧ ∀ (k : Nat) (hk : k < es.length), k < m → p es[k] = false
  | [] => .inl fun k hk => absurd hk (by simp)
  | e :: r => by
    by_cases he : p e = true
    · exact .inr ⟨0, by simp, he, fun k _ hk => absurd hk (by omega)⟩
    · have hef : p e = false := by simpa using he
      rcases first_one p r with h | ⟨m, hm, ht, h⟩
      · left; intro k hk
        match k, hk with
        | 0, _ => exact hef
        | k + 1, hk => exact h k (by simpa using hk)
      · refine .inr ⟨m + 1, by simpa using hm, ht, fun k hk hlt => ?_⟩
        match k, hk, hlt with
        | 0, _, _ => exact hef
        | k + 1, hk, hlt => exact h k (by simpa using hk) (by omega)
theorem get_of_drop {xs : List (List Int)} {j : Nat} (h : xs.drop j = es.drop j) (hl : xs.length = es.length) (hj : j < es.length) : xs[j]'(by omega) = es[j] := by
  have h1 : (xs.drop j)[0]? = (es.drop j)[0]? := by rw [h]
  rw [List.getElem?_drop, List.getElem?_drop, Nat.add_zero, List.getElem?_eq_getElem (by omega), List.getElem?_eq_getElem hj] at h1
  exact Option.some.inj h1
theorem drop_succ {xs : List (List Int)} {j : Nat} (h : xs.drop j = es.drop j) : xs.drop (j + 1) = es.drop (j + 1) := by
  rw [← List.drop_drop, ← List.drop_drop, h]
end
structure DR (W wr : World) (B g n c i j : Nat) (live pick : Int) (es : List (List Int)) (xs : List (List Int)) : Prop where
  r : Row wr B 31 3 (some ⟨g, 0, none⟩) n c (kv xs)
  u : Uni 3 xs
  l : xs.length = n
  t : xs.take i = keep live pick (es.take j)
  d : xs.drop j = es.drop j
  ch : Chg (fun q => q = g) W wr
section
variable {C1 C2 : Nat} {live pick : Int}
set_option maxRecDepth 100000 in
set_option maxHeartbeats 8000000 in
theorem delete_any (A : Option Addr) (B n c : Nat) (es : List (List Int)) (W : World) (hu : Uni 3 es) (hA : Row W B 31 3 A n c (kv es)) (hn : n ≤ 1000) (hO : OB W C1 C2 live pick) (hl : live ≤ 9223372036854775807) :
    Calls Tryd.prog 33 #[.slice A n c, fnO C1 C2] W fun e W' => ∃ A' m c', e = .returned (.slice A' m c') ∧ Rd W' 3 A' m (kv (keep live pick es)) ∧ Chg (fun q => B ≤ q) W W' := by
  have hlen := hA.rd.lenk hu (by decide)
  rcases first_one (other live pick) es with h | ⟨m, hm, ht, h⟩
  · have HI := Lib.hid (idx_none A n c es W hu hA.rd hn hO hl h)
    rw [keep_all h]
    have HA := Lib.hid hA
    clear hA hO h
    go_enter Tryd.func33, Tryd.ntmps33
    go_wp2_with (go_at_call 44; refine HI.out.mono ?_; rintro e w1 ⟨rfl, hc1⟩)
    go_ret
    exact ⟨A, n, c, rfl, HA.out.rd.kept hc1 (fun _ _ h => h), hc1.mono (fun _ _ h => h.elim)⟩
  · have HI := Lib.hid (idx_some A n c es W hu hA.rd hn hO hl m hm ht h)
    obtain ⟨g, rfl⟩ : ∃ g, A = some ⟨g, 0, none⟩ := by
      rcases hA.2.2.2 with ⟨_, h0, _⟩ | ⟨g, _, h0, _⟩
      · omega
      · exact ⟨g, h0⟩
    have hkm := keep_until (Nat.le_of_lt hm) h
    have hk0 : keep live pick (es.take (m + 1)) = es.take m := by rw [keep_no hm ht, hkm]
    have hBg := (hA.blk_lt g rfl).1
    have hgl := (hA.blk_lt g rfl).2
    have hnc := hA.2.1
    have hn1 : C1 ≠ g := fun e => by have := hA.blk_ne hO.a (by decide); rw [← e] at this; exact this rfl
    have hn2 : C2 ≠ g := fun e => by have := hA.blk_ne hO.b (by decide); rw [← e] at this; exact this rfl
    have HS := Lib.hid (show DR W W B g n c m (m + 1) live pick es es from ⟨hA, hu, hlen, hk0.symm, rfl, Chg.refl _ _⟩)
    have HO := Lib.hid (fun (V : World) (hc : Chg (fun q => q = g) W V) => show OB V C1 C2 live pick from ⟨hO.a.kept hc hn1, hO.b.kept hc hn2⟩)
    have HU := Lib.hid hu
    clear hA hO h hkm hk0 ht
    go_enter Tryd.func33, Tryd.ntmps33
    have m0 : ((m : Int) == -1) = false := beq_eq_false_iff_ne.2 (by omega)
    go_wp2_with (go_at_call 44; refine HI.out.mono ?_; rintro e w1 ⟨rfl, hc1⟩; have HS1 : Hid (DR W w1 B g n c m (m + 1) live pick es es) := Lib.hid ⟨HS.out.r.kept hc1 (fun _ _ h => h), HS.out.u, HS.out.l, HS.out.t, HS.out.d, hc1.mono (fun _ _ h => h.elim)⟩; clear hc1)
    go_loopw [5, 6] (fun iv jv wr => ∃ (i j : Nat) (xs : List (List Int)), i < j ∧ j ≤ n ∧ iv = .int .i64 i ∧ jv = .int .i64 j ∧ Hid (DR W wr B g n c i j live pick es xs)) (fun _ jv _ => n - (intOf jv).toNat)
    case atStart => exact ⟨m, m + 1, es, by omega, by omega, rfl, by go_num, HS1⟩
    case round =>
      obtain ⟨i, j, xs, hij, hjn, rfl, rfl, HD⟩ := hrel
      have i0 : (0 : Int) ≤ i := by omega
      have j0 : (0 : Int) ≤ j := by omega
      by_cases hlt : j < n
      · have j1 : (j : Int) < n := by omega
        have i1 : (i : Int) < n := by omega
        have hje : j < es.length := by omega
        have hxl := HD.out.l
        have hxj : j < xs.length := by omega
        have hxi : i < xs.length := by omega
        have hget := get_of_drop HD.out.d (by omega) hje
        obtain ⟨_, b, o, hbo, hb, hcc⟩ := HD.out.r.rd.getk HD.out.u (by decide) (by omega)
        cases hbo
        have c0 := hcc j hxj 0 (by decide)
        have c1 := hcc j hxj 1 (by decide)
        have c2 := hcc j hxj 2 (by decide)
        have d0 := hcc i hxi 0 (by decide)
        have d1 := hcc i hxi 1 (by decide)
        have d2 := hcc i hxi 2 (by decide)
        simp only [Nat.add_zero, Nat.zero_add] at c0 c1 c2 d0 d1 d2
        rw [hget] at c0 c1 c2
        have HK := Lib.hid (fun (V : World) (hc : Chg (fun _ => False) wr V) => only1_e ((HO.out wr HD.out.ch).chg hc) hl (HU.out _ (List.getElem_mem hje)))
        have h3 := three (HU.out _ (List.getElem_mem hje))
        have HY := Lib.hid (@keep_yes live pick es j hje)
        have HN := Lib.hid (@keep_no live pick es j hje)
        generalize other live pick es[j] = ot at *
        generalize (es[j]).getD 0 0 = x0 at *
        generalize (es[j]).getD 1 0 = x1 at *
        generalize (es[j]).getD 2 0 = x2 at *
        generalize es[j] = ej at *
        generalize (xs[i]).getD 0 0 = y0 at *
        generalize (xs[i]).getD 1 0 = y1 at *
        generalize (xs[i]).getD 2 0 = y2 at *
        subst h3
        clear hcc
        have HX : Hid (Blk (wr.alloc (.cells #[.int .i64 x0, .int .i64 x1, .int .i64 x2] 31)) wr.heap.size 31 #[.int .i64 x0, .int .i64 x1, .int .i64 x2]) := Lib.hid (Blk.new wr 31 _)
        cases ot with
        | true =>
          have HE := Lib.hid (HN.out rfl)
          clear HY HN
          go_wp2_with (go_at_call 32; refine (HK.out _ ((Chg.refl _ wr).alloc (.cells #[.int .i64 x0, .int .i64 x1, .int .i64 x2] 31))).mono ?_; rintro e w2 ⟨rfl, hc2⟩; have HC2 := Lib.hid (((Chg.refl (fun _ => False) wr).alloc (.cells #[.int .i64 x0, .int .i64 x1, .int .i64 x2] 31)).trans hc2 (fun _ _ h => h)); clear hc2)
          go_roundw
          case rel => exact ⟨i, j + 1, xs, by omega, by omega, rfl, by go_num, Lib.hid ⟨HD.out.r.kept HC2.out (fun _ _ h => h), HD.out.u, HD.out.l, by rw [HE.out]; exact HD.out.t, drop_succ HD.out.d, HD.out.ch.trans HC2.out (fun _ _ h => h.elim)⟩⟩
          case measure => simp [intOf]; omega
        | false =>
          have HE := Lib.hid (HY.out rfl)
          clear HY HN
          go_wp2_with (go_at_call 32; refine (HK.out _ ((Chg.refl _ wr).alloc (.cells #[.int .i64 x0, .int .i64 x1, .int .i64 x2] 31))).mono ?_; rintro e w2 ⟨rfl, hc2⟩; have HC2 := Lib.hid (((Chg.refl (fun _ => False) wr).alloc (.cells #[.int .i64 x0, .int .i64 x1, .int .i64 x2] 31)).trans hc2 (fun _ _ h => h)); have hX2 := HX.out.kept hc2 (fun h => h); have z0 := hX2.cell 0; have z1 := hX2.cell 1; have z2 := hX2.cell 2; have zl := hX2.lt; simp at z0 z1 z2; have v0 := (HC2.out.cell (p := ⟨g, _, none⟩) hb (fun h => h)).trans d0; have v1 := (HC2.out.cell (p := ⟨g, _, none⟩) hb (fun h => h)).trans d1; have v2 := (HC2.out.cell (p := ⟨g, _, none⟩) hb (fun h => h)).trans d2; have HR2 := Lib.hid (HD.out.r.kept HC2.out (fun _ _ h => h)); obtain ⟨_, rest, hbk, _⟩ := HR2.out.split; have q0 := hbk.frozen (i * 3); have q1 := hbk.frozen (i * 3 + 1); have q2 := hbk.frozen (i * 3 + 2); clear hc2 hX2 hbk)
          go_roundw
          case rel =>
            refine ⟨i + 1, j + 1, xs.set i [x0, x1, x2], by omega, by omega, by go_num, by go_num, Lib.hid ⟨HR2.out.set3 HD.out.u hxi x0 x1 x2, HD.out.u.set rfl, by rw [List.length_set]; exact HD.out.l, ?_, ?_, ?_⟩⟩
            · rw [HE.out, List.take_succ_eq_append_getElem (by rw [List.length_set]; exact hxi), List.take_set_of_le (Nat.le_refl _), HD.out.t, List.getElem_set_self]
            · rw [List.drop_set_of_lt (by omega)]; exact drop_succ HD.out.d
            · exact (((HD.out.ch.trans HC2.out (fun _ _ h => h.elim)).setCell (S := fun q => q = g) (p := ⟨g, i * 3, none⟩) (.inl rfl) _).setCell (p := ⟨g, i * 3 + 1, none⟩) (.inl rfl) _).setCell (p := ⟨g, i * 3 + 2, none⟩) (.inl rfl) _
          case measure => simp [intOf]; omega
      · obtain rfl : j = n := by omega
        have ht : xs.take i = keep live pick es := by have := HD.out.t; rwa [show es.take j = es from List.take_of_length_le (by omega)] at this
        have i1 : (i : Int) < j := by omega
        have i2 : (i : Int) ≤ j := by omega
        have i3 : (i : Int) ≤ c := by omega
        have i4 : ¬ c = i := by omega
        obtain ⟨_, rest, hbk, hbc⟩ := HD.out.r.split
        have hln := HD.out.r.1
        have hcl : ∀ ty, (Builtin.clear_ #[22] ty #[.slice (some ⟨g, i * 3, none⟩) (j - i) (c - i)]).run Tryd.prog wr = .ok (.tuple #[]) (wr.setCells g (i * 3) (List.replicate ((j - i) * 3) (.int .i64 0))) := fun ty => run_clear_e wr ty g (i * 3) (j - i) (c - i) (by omega) (fun q hq => by
          rw [hbk.cell]
          have hql : i * 3 + q < (kv xs ++ rest).length := by rw [List.length_append]; omega
          simp only [List.getElem?_toArray]
          rw [List.getElem?_eq_getElem hql]; rfl) (fun q _ => hbk.frozen _)
        have HZ := Lib.hid (HD.out.r.cut3 HD.out.u (show i ≤ j by omega) ((j - i) * 3) (by omega) (.int .i64 0))
        have HCH := Lib.hid (setCells_chg (G := g) (List.replicate ((j - i) * 3) (.int .i64 0)) (i * 3) wr)
        rw [ht] at HZ
        generalize wr.setCells g (i * 3) (List.replicate ((j - i) * 3) (.int .i64 0)) = w9 at *
        clear hbk ht
        go_wp2_with (simp only [hcl])
        go_ret
        exact ⟨some ⟨g, 0, none⟩, i, c, rfl, HZ.out.rd, (HD.out.ch.trans HCH.out (fun _ _ h => h)).mono (fun q _ h => by have h' : q = g := h; subst h'; exact hBg)⟩
set_option maxRecDepth 100000 in
set_option maxHeartbeats 4000000 in
theorem only_any (A : Option Addr) (n c : Nat) (es : List (List Int)) (W : World) (hu : Uni 3 es) (hA : Rd W 3 A n (kv es)) (hn : n ≤ 1000) (hl : live ≤ 9223372036854775807) :
    Calls Tryd.prog 16 #[.slice A n c, .int .i64 live, .int .i64 pick] W fun e W' => ∃ A' m c', e = .returned (.slice A' m c') ∧ Rd W' 3 A' m (kv (keep live pick es)) ∧ Chg (fun _ => False) W W' := by
  have hc0 : Chg (fun _ => False) W ((W.alloc (.cells #[.int .i64 live] 3)).alloc (.cells #[.int .i64 pick] 3)) := ((Chg.refl _ _).alloc _).alloc _
  have HC0 := Lib.hid hc0
  have HA := Lib.hid (hA.kept hc0 (fun _ _ h => h))
  have HO : Hid (OB ((W.alloc (.cells #[.int .i64 live] 3)).alloc (.cells #[.int .i64 pick] 3)) W.heap.size (W.heap.size + 1) live pick) := Lib.hid ⟨(Blk.new W 3 _).alloc _, by
    have h := Blk.new (W.alloc (.cells #[.int .i64 live] 3)) 3 #[.int .i64 pick]
    rwa [show (W.alloc (.cells #[.int .i64 live] 3)).heap.size = W.heap.size + 1 from by simp] at h⟩
  have HS : Hid (((W.alloc (.cells #[.int .i64 live] 3)).alloc (.cells #[.int .i64 pick] 3)).heap.size = W.heap.size + 2) := Lib.hid (by simp)
  clear hA hc0
  go_enter Tryd.func16, Tryd.ntmps16
  go_wp2_with (first
    | (go_at_call 33; refine (delete_any A2 _ n c2 es w2 hu HR2.out (by omega) HO2.out hl).mono ?_; rintro e w3 ⟨A3, m3, c3, rfl, hr3, hc3⟩; have HR3 := Lib.hid hr3; have HC3 := Lib.hid hc3; clear hr3 hc3)
    | (go_at_call 34; refine (clone_e A n c es _ hu HA.out (by omega)).mono ?_; rintro e w2 ⟨A2, c2, rfl, hr2, hc2⟩; have HR2 := Lib.hid hr2; have HO2 := Lib.hid (HO.out.chg hc2); have HC2 := Lib.hid (HC0.out.trans hc2 (fun _ _ h => h)); clear hr2 hc2))
  go_ret
  exact ⟨A3, m3, c3, rfl, HR3.out, HC2.out.trans HC3.out (fun k hk h => by have := HS.out; omega)⟩
end
set_option maxRecDepth 100000 in
set_option maxHeartbeats 4000000 in
theorem rsame_any (A D : Option Addr) (n m c d : Nat) (xs ys : List (List Int)) (W : World) (hu : Uni 3 xs) (hv : Uni 3 ys) (hA : Rd W 3 A n (kv xs)) (hD : Rd W 3 D m (kv ys)) (hn : n ≤ 1000) (hm : m ≤ 1000) :
    Calls Tryd.prog 13 #[.slice A n c, .slice D m d] W fun e W' => e = .returned (.bool (decide (xs = ys))) ∧ ∃ q, W' = W.drewN q := by
  have hn1 := hA.lenk hu (by decide)
  have hn2 := hD.lenk hv (by decide)
  by_cases hnm : n = m
  · subst hnm
    go_enter Tryd.func13, Tryd.ntmps13
    go_wp2
    go_loopw [5] (fun i wr => (∃ k : Nat, k ≤ n ∧ i = .int .i64 k ∧ Hid (xs.take k = ys.take k)) ∧ ∃ q, wr = W.drewN q) (fun i _ => n - (intOf i).toNat)
    case atStart => exact ⟨⟨0, Nat.zero_le _, rfl, Lib.hid rfl⟩, 0, rfl⟩
    case round =>
      obtain ⟨⟨k, hk, rfl, HT⟩, q, rfl⟩ := hrel
      by_cases hlt : k < n
      · have hkx : k < xs.length := by omega
        have hky : k < ys.length := by omega
        obtain ⟨_, b, o, rfl, hb, hc⟩ := hA.getk hu (by decide) (by omega)
        obtain ⟨_, b', o', rfl, hb', hc'⟩ := hD.getk hv (by decide) (by omega)
        have c0 := hc k hkx 0 (by decide)
        have c1 := hc k hkx 1 (by decide)
        have c2 := hc k hkx 2 (by decide)
        have d0 := hc' k hky 0 (by decide)
        have d1 := hc' k hky 1 (by decide)
        have d2 := hc' k hky 2 (by decide)
        simp only [Nat.add_zero] at c0 d0
        rw [← Nat.add_assoc] at c1 c2 d1 d2
        have h3 := three (hu _ (List.getElem_mem hkx))
        have g3 := three (hv _ (List.getElem_mem hky))
        have HX := Lib.hid (fun (h : xs[k] = ys[k]) => show xs.take (k + 1) = ys.take (k + 1) from by rw [List.take_succ_eq_append_getElem hkx, List.take_succ_eq_append_getElem hky, HT.out, h])
        have HN := Lib.hid (fun (h : xs[k] ≠ ys[k]) => show xs ≠ ys from fun e => h (by subst e; rfl))
        generalize (xs[k]).getD 0 0 = x0 at *
        generalize (xs[k]).getD 1 0 = x1 at *
        generalize (xs[k]).getD 2 0 = x2 at *
        generalize (ys[k]).getD 0 0 = y0 at *
        generalize (ys[k]).getD 1 0 = y1 at *
        generalize (ys[k]).getD 2 0 = y2 at *
        generalize xs[k] = ek at *
        generalize ys[k] = fk at *
        subst h3
        subst g3
        have hi0 : (0 : Int) ≤ (k : Int) := by omega
        have hi1 : (k : Int) < (n : Int) := by omega
        clear hA hD hc hc' hu hv
        by_cases h0 : x0 = y0
        · subst h0
          by_cases h1 : x1 = y1
          · subst h1
            by_cases h2 : x2 = y2
            · subst h2
              have HE := Lib.hid (HX.out rfl)
              clear HX HN
              go_wp2
              go_quiet (fail)
              go_wp2
              go_roundw
              case rel => exact ⟨⟨k + 1, by omega, by go_num, HE⟩, _, rfl⟩
              case measure => simp [intOf]; omega
            · have e2 : (x2 == y2) = false := beq_eq_false_iff_ne.2 h2
              have HE := Lib.hid (HN.out (by simp [h2]))
              clear HX HN
              go_wp2
              go_quiet (fail)
              go_wp2
              go_ret
              exact ⟨ret_bool (decide_eq_false HE.out).symm, q + nq, by rw [World.drewN_drewN]⟩
          · have e1 : (x1 == y1) = false := beq_eq_false_iff_ne.2 h1
            have HE := Lib.hid (HN.out (by simp [h1]))
            clear HX HN
            go_wp2
            go_quiet (fail)
            go_wp2
            go_ret
            exact ⟨ret_bool (decide_eq_false HE.out).symm, q + nq, by rw [World.drewN_drewN]⟩
        · have e0 : (x0 == y0) = false := beq_eq_false_iff_ne.2 h0
          have HE := Lib.hid (HN.out (by simp [h0]))
          clear HX HN
          go_wp2
          go_quiet (fail)
          go_wp2
          go_ret
          exact ⟨ret_bool (decide_eq_false HE.out).symm, q + nq, by rw [World.drewN_drewN]⟩
      · have hkn : k = n := by omega
        have HE := Lib.hid (show xs = ys from by have := HT.out; rwa [List.take_of_length_le (by omega), List.take_of_length_le (by omega)] at this)
        go_wp2
        go_ret
        exact ⟨ret_bool (decide_eq_true HE.out).symm, q, rfl⟩
  · have hne : xs ≠ ys := fun e => hnm (by rw [← hn1, ← hn2, e])
    have HE := Lib.hid hne
    have x0 : ((n : Int) == (m : Int)) = false := beq_eq_false_iff_ne.2 (by omega)
    have x1 : (n == m) = false := beq_eq_false_iff_ne.2 hnm
    clear hne hA hD
    go_enter Tryd.func13, Tryd.ntmps13
    go_wp2
    go_ret
    exact ⟨ret_bool (decide_eq_false HE.out).symm, 0, rfl⟩
set_option maxRecDepth 100000 in
set_option maxHeartbeats 4000000 in
theorem equal_any (A D : Option Addr) (n m c d : Nat) (xs ys : List (List Int)) (W : World) (hu : Uni 3 xs) (hv : Uni 3 ys) (hA : Rd W 3 A n (kv xs)) (hD : Rd W 3 D m (kv ys)) (hn : n ≤ 1000) (hm : m ≤ 1000) :
    Calls Tryd.prog 35 #[.slice A n c, .slice D m d] W fun e W' => e = .returned (.bool (decide (xs = ys))) ∧ ∃ q, W' = W.drewN q := by
  have hn1 := hA.lenk hu (by decide)
  have hn2 := hD.lenk hv (by decide)
  by_cases hnm : n = m
  · subst hnm
    go_enter Tryd.func35, Tryd.ntmps35
    go_wp2
    go_loopw [13] (fun i wr => (∃ k : Nat, k ≤ n ∧ i = .int .i64 k ∧ Hid (xs.take k = ys.take k)) ∧ ∃ q, wr = W.drewN q) (fun i _ => n - (intOf i).toNat)
    case atStart => exact ⟨⟨0, Nat.zero_le _, rfl, Lib.hid rfl⟩, 0, rfl⟩
    case round =>
      obtain ⟨⟨k, hk, rfl, HT⟩, q, rfl⟩ := hrel
      by_cases hlt : k < n
      · have hkx : k < xs.length := by omega
        have hky : k < ys.length := by omega
        obtain ⟨_, b, o, rfl, hb, hc⟩ := hA.getk hu (by decide) (by omega)
        obtain ⟨_, b', o', rfl, hb', hc'⟩ := hD.getk hv (by decide) (by omega)
        have c0 := hc k hkx 0 (by decide)
        have c1 := hc k hkx 1 (by decide)
        have c2 := hc k hkx 2 (by decide)
        have d0 := hc' k hky 0 (by decide)
        have d1 := hc' k hky 1 (by decide)
        have d2 := hc' k hky 2 (by decide)
        simp only [Nat.add_zero] at c0 d0
        rw [← Nat.add_assoc] at c1 c2 d1 d2
        have h3 := three (hu _ (List.getElem_mem hkx))
        have g3 := three (hv _ (List.getElem_mem hky))
        have HX := Lib.hid (fun (h : xs[k] = ys[k]) => show xs.take (k + 1) = ys.take (k + 1) from by rw [List.take_succ_eq_append_getElem hkx, List.take_succ_eq_append_getElem hky, HT.out, h])
        have HN := Lib.hid (fun (h : xs[k] ≠ ys[k]) => show xs ≠ ys from fun e => h (by subst e; rfl))
        generalize (xs[k]).getD 0 0 = x0 at *
        generalize (xs[k]).getD 1 0 = x1 at *
        generalize (xs[k]).getD 2 0 = x2 at *
        generalize (ys[k]).getD 0 0 = y0 at *
        generalize (ys[k]).getD 1 0 = y1 at *
        generalize (ys[k]).getD 2 0 = y2 at *
        generalize xs[k] = ek at *
        generalize ys[k] = fk at *
        subst h3
        subst g3
        have hi0 : (0 : Int) ≤ (k : Int) := by omega
        have hi1 : (k : Int) < (n : Int) := by omega
        clear hA hD hc hc' hu hv
        by_cases h0 : x0 = y0
        · subst h0
          by_cases h1 : x1 = y1
          · subst h1
            by_cases h2 : x2 = y2
            · subst h2
              have HE := Lib.hid (HX.out rfl)
              clear HX HN
              go_wp2
              go_quiet (fail)
              go_wp2
              go_roundw
              case rel => exact ⟨⟨k + 1, by omega, by go_num, HE⟩, _, rfl⟩
              case measure => simp [intOf]; omega
            · have e2 : (x2 == y2) = false := beq_eq_false_iff_ne.2 h2
              have HE := Lib.hid (HN.out (by simp [h2]))
              clear HX HN
              go_wp2
              go_quiet (fail)
              go_wp2
              go_ret
              exact ⟨ret_bool (decide_eq_false HE.out).symm, q + nq, by rw [World.drewN_drewN]⟩
          · have e1 : (x1 == y1) = false := beq_eq_false_iff_ne.2 h1
            have HE := Lib.hid (HN.out (by simp [h1]))
            clear HX HN
            go_wp2
            go_quiet (fail)
            go_wp2
            go_ret
            exact ⟨ret_bool (decide_eq_false HE.out).symm, q + nq, by rw [World.drewN_drewN]⟩
        · have e0 : (x0 == y0) = false := beq_eq_false_iff_ne.2 h0
          have HE := Lib.hid (HN.out (by simp [h0]))
          clear HX HN
          go_wp2
          go_quiet (fail)
          go_wp2
          go_ret
          exact ⟨ret_bool (decide_eq_false HE.out).symm, q + nq, by rw [World.drewN_drewN]⟩
      · have hkn : k = n := by omega
        have HE := Lib.hid (show xs = ys from by have := HT.out; rwa [List.take_of_length_le (by omega), List.take_of_length_le (by omega)] at this)
        go_wp2
        go_ret
        exact ⟨ret_bool (decide_eq_true HE.out).symm, q, rfl⟩
  · have hne : xs ≠ ys := fun e => hnm (by rw [← hn1, ← hn2, e])
    have HE := Lib.hid hne
    have x0 : ((n : Int) == (m : Int)) = false := beq_eq_false_iff_ne.2 (by omega)
    have x1 : (n == m) = false := beq_eq_false_iff_ne.2 hnm
    clear hne hA hD
    go_enter Tryd.func35, Tryd.ntmps35
    go_wp2
    go_ret
    exact ⟨ret_bool (decide_eq_false HE.out).symm, 0, rfl⟩
theorem ssame_any (A D : Option Addr) (n m c d : Nat) (xs ys : List (List Int)) (W : World) (hu : Uni 3 xs) (hv : Uni 3 ys) (hA : Rd W 3 A n (kv xs)) (hD : Rd W 3 D m (kv ys)) (hn : n ≤ 1000) (hm : m ≤ 1000) :
    Calls Tryd.prog 17 #[.slice A n c, .slice D m d] W fun e W' => e = .returned (.bool (decide (xs = ys))) ∧ ∃ q, W' = W.drewN q := by
  have HQ := Lib.hid (equal_any A D n m c d xs ys W hu hv hA hD hn hm)
  clear hA hD hu hv
  go_enter Tryd.func17, Tryd.ntmps17
  go_wp2_with (go_at_call 35; refine HQ.out.mono ?_; rintro e w1 ⟨rfl, q, rfl⟩)
  go_ret
  exact ⟨rfl, q, rfl⟩
end Go.Proofs.YtcngdngkkglepaaDoor
