/- Who is asked in which order: Others. -/
import Derived.Test.YtobcaohginiegaaDG
import Derived.Deep.RegionHeld3
namespace Go.Proofs.Ytobcaohginiegaa
open Go.ChangeShapes Go.WideShapes Go.ChangeAt Go.RowKit Go.Deep Go.Shelf
set_option linter.unusedVariables false
attribute [local go_sem] Oper.semAt_some

/-- The draw, cut down; where it begins; how it steps. -/
def drawOf (N : Nat) (draw : Int) : Int := modOf draw (waysOf N)
def stepOf (N : Nat) (draw : Int) : Int := (copr N N).getD (drawOf N draw / N).toNat 1
def orderOf (N : Nat) (draw : Int) : List Int := wlist N (drawOf N draw % N) (stepOf N draw) N
def keep (self : Int) (l : List Int) : List Int := l.filter fun x => decide (x ≠ self)
theorem keep_snoc (self : Int) (l : List Int) (x : Int) : keep self (l ++ [x]) = keep self l ++ (if x = self then [] else [x]) := by
  by_cases h : x = self <;> simp [keep, h]
theorem draw_in (N : Nat) (draw : Int) (h1 : 1 ≤ N) (h2 : N ≤ 256) : 0 ≤ drawOf N draw ∧ drawOf N draw < 65536 ∧ 0 ≤ drawOf N draw / N ∧ drawOf N draw / N < (copr N N).length ∧ 0 ≤ drawOf N draw % N ∧ drawOf N draw % N < N := by
  obtain ⟨h3, h4⟩ := ways_in N h1 h2
  have e : drawOf N draw = draw % waysOf N := by rw [drawOf, modOf, if_neg (by omega)]
  have h5 : 0 ≤ drawOf N draw := by rw [e]; exact Int.emod_nonneg _ (by omega)
  have h6 : drawOf N draw < waysOf N := by rw [e]; exact Int.emod_lt_of_pos _ (by omega)
  refine ⟨h5, by omega, Int.ediv_nonneg h5 (by omega), ?_, Int.emod_nonneg _ (by omega), Int.emod_lt_of_pos _ (by omega)⟩
  exact Int.ediv_lt_of_lt_mul (by omega) h6
theorem step_is (N : Nat) (draw : Int) (h1 : 1 ≤ N) (h2 : N ≤ 256) : ∃ s : Nat, stepOf N draw = s ∧ 1 ≤ s ∧ s ≤ 256 ∧ Nat.gcd s N = 1 ∧ (ints (copr N N))[(drawOf N draw / N).toNat]? = some (.int .i64 (s : Int)) := by
  obtain ⟨_, _, h3, h4, _, _⟩ := draw_in N draw h1 h2
  have ht : (drawOf N draw / N).toNat < (copr N N).length := by omega
  obtain ⟨s, hs, a, b, c⟩ := copr_mem (List.getElem_mem ht)
  have e : stepOf N draw = s := by rw [stepOf, List.getD_eq_getElem?_getD, List.getElem?_eq_getElem ht]; exact hs
  exact ⟨s, e, a, by omega, c, by rw [ints_get _ _ ht, hs]⟩

set_option maxRecDepth 100000 in
set_option maxHeartbeats 8000000 in
theorem others_yes (N : Nat) (self draw : Int) (w : World) (h1 : 1 ≤ N) (h2 : N ≤ 256) :
    Calls Try.prog 12 #[.int .i64 (N : Int), .int .i64 self, .int .i64 draw] w fun e w' => ∃ A c, e = .returned (.slice A (keep self (orderOf N draw)).length c) ∧ Row w' w.heap.size 3 1 A (keep self (orderOf N draw)).length c (ints (keep self (orderOf N draw))) ∧ Below w.heap.size w w' := by
  obtain ⟨d1, d2, d3, d4, d5, d6⟩ := draw_in N draw h1 h2
  obtain ⟨s, hs, hs1, hs2, _, hget⟩ := step_is N draw h1 h2
  have hst := Lib.hid (fun W => steps_yes N W h1 h2)
  have hwy := Lib.hid (fun W => ways_yes N W h1 h2)
  have hmd := Lib.hid (fun W => (show Calls Try.prog 19 #[.int .i64 draw, .int .i64 (waysOf N)] W fun e W' => e = .returned (.int .i64 (drawOf N draw)) ∧ W = W' from mod_any draw (waysOf N) W (by have := (ways_in N h1 h2).2; omega)))
  have hor : orderOf N draw = wlist N (drawOf N draw % N) s N := by rw [orderOf, hs]
  rw [hor]
  generalize hD : drawOf N draw = D at *
  clear hD hs hor
  have hp : 0 < (copr N N).length := by omega
  generalize copr N N = L at *
  have hN1 : (1 : Int) ≤ (N : Int) := by omega
  have hN2 : (N : Int) ≤ 256 := by omega
  obtain ⟨t, ht⟩ : ∃ t : Nat, D / N = t := ⟨(D / N).toNat, by omega⟩
  rw [ht] at hget d3 d4
  simp only [Int.toNat_natCast] at hget
  have hlz : ((L.length : Int) == 0) = false := beq_eq_false_iff_ne.2 (by omega)
  have hlz2 : decide ((L.length : Int) = 0) = false := decide_eq_false (by omega)
  refine callsIn_wide (n := 4) |>.1 ?_
  refine callsIn_of_wp_marks Try.func12 rfl trivial ?_ rfl
  simp only [Try.ntmps12, List.size_toArray, List.length_cons, List.length_nil, Nat.reduceAdd, Nat.reduceSub, Array.replicate_succ, Array.replicate_zero, List.push_toArray, List.append_toArray, List.nil_append, List.cons_append]
  refine wpIn_wide.2 ?_
  go_wp2
  go_step3
  go_wp2_with (first
    | (go_at_call 15; refine (hst.out _).mono ?_; rintro e w1 ⟨A1, c1, rfl, hr1, hb1⟩; obtain ⟨b4, o4, rfl, hbl4, hc4⟩ := hr1.rd.2 hp; have e4 := hc4 t _ hget; clear hc4)
    | (go_at_call 7; refine (hwy.out _).mono ?_; rintro e w2 ⟨rfl, hb2⟩; have e5 := (hb2.cell (p := ⟨b4, o4 + t, none⟩) hbl4).trans e4; have hz2 := hb2.size; have hz1 := hb1.size)
    | (go_at_call 19; refine (hmd.out _).mono ?_; rintro e w3 ⟨rfl, rfl⟩))
  go_step3
  go_wp2
  have hbw2 : b4 ≠ w2.heap.size := by omega
  have hs1' : (1 : Int) ≤ (s : Int) := by omega
  have hs2' : (s : Int) ≤ 1024 := by omega
  have hN3 : (N : Int) ≤ 1024 := by omega
  have q1 : Int.tdiv D (N : Int) = (t : Int) := by rw [Int.tdiv_eq_ediv_of_nonneg d1]; exact ht
  have q2 : Int.tmod D (N : Int) = D % (N : Int) := Int.tmod_eq_emod_of_nonneg d1
  have q0 : (t : Int) ≤ 65536 := by have := Int.ediv_le_self (N : Int) d1; omega
  have q3 : IntKind.i64.wrap (t : Int) = (t : Int) := IntWalk.i64_in _ (by omega)
  have q4 : IntKind.i64.wrap (D % (N : Int)) = D % (N : Int) := IntWalk.i64_in _ (by omega)
  have hbl5 : b4 < w2.heap.size := by omega
  have e6 : (w2.alloc (.cells #[.slice none 0 0] 25)).cell? ⟨b4, o4 + t, none⟩ = some (.int .i64 (s : Int)) := by simp [go_sem, hbl5, e5]
  have e7 : (w2.alloc (.cells #[.slice none 0 0] 25)).drew.cell? ⟨b4, o4 + t, none⟩ = some (.int .i64 (s : Int)) := e6
  refine wp_region_noPanic ?_
  go_region_with (go_at_call 20; refine (walk_yes 3 (N : Int) (D % N) (s : Int) _ hN1 hN3 hs1' hs2').mono ?_; rintro e w4 ⟨rfl, rfl⟩)
  all_goals (first | (refine NoPanic.normal ?_; go_simp; go_wp2) | skip)
  all_goals (
    obtain ⟨W0, hW0⟩ : ∃ W0, ((((w2.alloc (.cells #[.slice none 0 0] 25)).alloc (.cells #[.int .i64 (N : Int)] 3)).alloc (.cells #[.int .i64 (D % (N : Int))] 3)).alloc (.cells #[.int .i64 (s : Int)] 3)).drew = W0 := ⟨_, rfl⟩
    have hz0 : W0.heap.size = w2.heap.size + 4 := by rw [← hW0]; simp
    have cn : W0.cell? ⟨w2.heap.size + 1, 0, none⟩ = some (.int .i64 (N : Int)) := by rw [← hW0]; simp [go_sem]
    have cs : W0.cell? ⟨w2.heap.size + 1 + 1, 0, none⟩ = some (.int .i64 (D % (N : Int))) := by rw [← hW0]; simp [go_sem]
    have ct : W0.cell? ⟨w2.heap.size + 1 + 1 + 1, 0, none⟩ = some (.int .i64 (s : Int)) := by rw [← hW0]; simp [go_sem]
    have hb0 : Below w2.heap.size w2 W0 := by rw [← hW0]; exact (((((Below.refl _ _).alloc (Nat.le_refl _) _).alloc (by simp) _).alloc (by simp; omega) _).alloc (by simp; omega) _).drew
    have hB0 : Blk W0 w2.heap.size 25 #[.slice none 0 0] := by rw [← hW0]; exact (((Blk.new _ _ _).alloc _).alloc _).alloc _
    have hI0 : Got w2 (w2.heap.size + 4) (keep self []) W0 := ⟨none, 0, hB0, Row.nil _ _ _ _, hb0, by omega⟩
    have hsz : w.heap.size + 1 ≤ w2.heap.size := by simp at hz1; omega
    have hcs : w2.cell? ⟨w.heap.size, 0, none⟩ = some (.int .i64 self) := by
      rw [hb2.cell (by simp at hz1 ⊢; omega), hb1.cell (by simp)]; simp [go_sem]
    have hbw : Below w.heap.size w w2 := (((Below.refl _ _).alloc (Nat.le_refl _) _).trans (hb1.mono (by simp))).trans (hb2.mono (by simp at hz1; omega))
    rw [hW0]
    clear hW0 hB0 hst hwy hmd
    refine wpIn_wide (n := 4) |>.1 ?_
    refine wpIn_rangeFunc_ownG (F := Fence.wide) (n := 4) rfl (by omega) (gf := 24) (lb := #[.pointer (some ⟨w2.heap.size + 1 + 1, 0, none⟩), .pointer (some ⟨w2.heap.size + 1, 0, none⟩), .pointer (some ⟨w2.heap.size + 1 + 1 + 1, 0, none⟩)]) rfl trivial (enters_of Try.func24 (by kernel_rfl) rfl)
      (iter_stops 3 _ _ _ (w2.heap.size + 1) (w2.heap.size + 4) (N : Int) (D % (N : Int)) (s : Int) W0 (by omega) hN1 hN3 hs1' hs2' (by omega) (by omega) (by omega) (by omega) cs cn ct)
      (fun h k => Mid.trans h k) ?hKb (Below.refl _ _) (fun _ => rfl)
      (fun pre => Got w2 (w2.heap.size + 4) (keep self pre)) (fun _ _ _ => False) (by rw [hz0]; exact fun pre => Got.own w2 _ (by omega) (keep self pre)) (fun _ _ _ _ _ hs _ _ => hs) hI0
      (fun x => { tmps := #[.int .i64 (N : Int), .int .i64 self, .int .i64 draw, undef, .pointer (some ⟨w.heap.size, 0, none⟩), undef, .slice none 0 0, .slice (some ⟨b4, o4, none⟩) L.length c1, .int .i64 D, .pointer (some ⟨w2.heap.size, 0, none⟩), .int .i64 x, .int .i64 (N : Int), .slice (some ⟨b4, o4, none⟩) L.length c1, .slice (some ⟨b4, o4, none⟩) L.length c1, .int .i64 (L.length : Int), .bool false, .int .i64 draw, .int .i64 (N : Int), .int .i64 (waysOf N), .int .i64 D, .int .i64 (N : Int), .int .i64 D, .int .i64 (N : Int), .int .i64 (D % (N : Int)), .slice (some ⟨b4, o4, none⟩) L.length c1, .int .i64 D, .int .i64 (N : Int), .int .i64 (t : Int), .pointer (some ⟨b4, o4 + t, none⟩), .int .i64 (s : Int), (.func (.func 24) #[] #[.pointer (some ⟨w2.heap.size + 1 + 1, 0, none⟩), .pointer (some ⟨w2.heap.size + 1, 0, none⟩), .pointer (some ⟨w2.heap.size + 1 + 1 + 1, 0, none⟩)]), .int .i64 x, undef, undef, undef, undef, undef, undef, undef, undef], defers := [] }) ?assign ?body ?done ?stop
    case hKb =>
      intro W l o o' hl ho _ _
      exact ⟨by simp, fun k h1 h2 => World.putObj_heap_other (by omega)⟩
    case assign =>
      intro l x W K hK
      gi_wp2
      exact hK
    case body =>
      rintro l pre x W ⟨A, c, hB, hR, hb, hs⟩ hlt
      have c0 := hB.cell 0
      have f0 := hB.frozen 0
      have k0 := hB.lt
      have c1 := (hb.cell (p := ⟨w.heap.size, 0, none⟩) (by simp; omega)).trans hcs
      simp at c0
      have hne : some w2.heap.size ≠ blk A := fun e => hR.blk_ne hB (by decide) e.symm
      have hkl : (keep self pre).length ≤ 1024 := by have := List.length_filter_le (fun x => decide (x ≠ self)) pre; rw [keep]; omega
      by_cases hx : x = self
      · have hxb : (x == self) = true := by simp [hx]
        have hk : keep self (pre ++ [x]) = keep self pre := by rw [keep_snoc, if_pos hx, List.append_nil]
        gi_wp2
        exact ⟨KeepsFrom.refl _ _, Mid.refl _ _ _, by show Got w2 _ (keep self (pre ++ [x])) _; rw [hk]; exact ⟨A, c, hB, hR, hb, hs⟩⟩
      · have hxb : (x == self) = false := by simp [hx]
        have hk : keep self (pre ++ [x]) = keep self pre ++ [x] := by rw [keep_snoc, if_neg hx]
        generalize keep self pre = kp at *
        gi_wp2_with (gi_at_builtin; refine wpListIn_app rfl (.tmp 35) (.tmp 37) rfl (w2.heap.size + 4) A _ _ kp rfl (hR.alloc _) _ 1 1 [x] rfl (Rd.lit _ _ _) ?c1 ?c2 ?_; (case c1 => omega); (case c2 => (simp; omega)); intro A2 c2 w3 r1 r2 r3; have hB2 := (hB.alloc (.cells #[.int .i64 x] 3)).grown r2 hne; have q0 := hB2.cell 0; have q1 := hB2.frozen 0; simp at q0)
        have hc : Chg (fun k => k = w2.heap.size ∨ blk A = some k) W (w3.setCell ⟨w2.heap.size, 0, none⟩ (.slice A2 (kp.length + 1) c2)) :=
          Chg.setCell (Chg.grown ((Chg.refl _ _).alloc _) r2 (fun k hk => .inl (.inr hk))) (.inl (.inl rfl)) _
        refine ⟨keeps_of_chg hc ?_, ⟨hc.size, fun k h1 h2 => hc.block k (by omega) ?_⟩, ?_⟩
        · rintro k o (rfl | h) ho
          · rw [show W.heap[w2.heap.size]? = _ from hB] at ho; cases ho; rfl
          · exact hR.cellsAt k o h ho
        · rintro (h | h)
          · omega
          · have := (hR.blk_lt k h).1; omega
        · show Got w2 _ (keep self (pre ++ [x])) _
          rw [hk]
          refine ⟨A2, c2, ?_, ?_, ?_, by have := hc.size; omega⟩
          · simpa using hB2.set_ 0 (.slice A2 (kp.length + 1) c2)
          · have := r1.setCell (p := ⟨w2.heap.size, 0, none⟩) (r1.blk_ne hB2 (by decide)) (.slice A2 (kp.length + 1) c2)
            simpa using this
          · refine hb.trans (hc.below hb.size ?_)
            rintro k hk (rfl | h)
            · exact Nat.le_refl _
            · have := (hR.blk_lt k h).1; omega
    case done =>
      rintro D' ys W hD rfl ⟨A, c, hB, hR, hb, hs⟩ hK
      have c0 := hB.cell 0
      have k0 := hB.lt
      simp at c0
      have hD' : w2.heap.size + 4 ≤ D' := by omega
      have hbf := hbw.trans (((hb.trans (belowK_b (w := w2) (Nat.le_refl _) W D' _ (.deferred none) (by omega) hK rfl rfl))).mono (by omega : w.heap.size ≤ w2.heap.size))
      have hRf : Row (W.putObj D' (.deferred none)) w.heap.size 3 1 A _ c _ := (hR.lower (by omega)).heap (fun g hg e => World.putObj_heap_other (fun e' => by
        subst e'
        have := hR.cellsAt _ _ e hK
        cases this))
      gi_wp2
      go_wp2
      simp only [Int.toNat_natCast] at hRf
      refine ⟨by simp, .inl ⟨_, _, rfl, run_takeDeferred hK, ?_⟩⟩
      exact ⟨_, results_tmp rfl _ _ _, A, c, rfl, hRf, hbf⟩
    case stop =>
      rintro D c pre W _ _ h _
      exact h.elim)
end Go.Proofs.Ytobcaohginiegaa
