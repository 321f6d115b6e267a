/- Who collects a walk of numbers. -/
import Derived.Test.YtedenmbdefnhiaaNumA
namespace Go.Proofs.Ytedenmbdefnhiaa
open Go.ChangeShapes Go.WideShapes Go.ChangeAt Go.RowKit Go.Deep Go.Shelf
set_option linter.unusedVariables false
attribute [local go_sem] Oper.semAt_some

theorem wpListIn_app {F : Fence} {nF : Nat} {ops : Array Oper} {rest : List Oper} {o : Oper} {a : Act} {V : World} {Q : Exit → Act → World → Prop} (hgd : o.guard = none) (s x : Operand)
    (ho : o.op = .call { callee := .builtin .append, args := #[s, x], argTypes := #[29, 29] })
    (base : Nat) (A : Option Addr) (n c : Nat) (xs : List Int) (hs : a.eval s = .slice A n c) (hown : Row V base 3 1 A n c (ints xs))
    (D : Option Addr) (m d : Nat) (ys : List Int) (hx : a.eval x = .slice D m d) (hr : Rd V 1 D m (ints ys))
    (h63 : n + m ≤ 1048576) (hbase : base ≤ V.heap.size)
    (h : ∀ A' c' w', Row w' base 3 1 A' (n + m) c' (ints (xs ++ ys)) → V.grownBy w' (blk A) → (blk A' = blk A ∨ blk A' = some V.heap.size) → wpListIn F nF Try.prog ops Q rest (a.put o.dst (.slice A' (n + m) c')) w') : wpListIn F nF Try.prog ops Q (o :: rest) a V := by
  obtain ⟨i0, hi, hz0, hz1, hz2⟩ := info_parts int_info
  refine wpListIn_plain hgd fun K hK => ?_
  obtain ⟨A', c', w', hrun, h2, h3, h4⟩ := append_rows (P := Try.prog) V base 29 o.type 3 i0 (.int .i64 0) 1 8 Try.underlying29 hi hz0 hz1 hz2 rfl (by decide) A n c (ints xs) hown D m d (ints ys) hr (ints_one ys) h63 (by decide) hbase
  unfold Oper.wpIn
  refine ⟨by simp [Oper.about, ho, resolve, Target.leads, Sem.run_pure], ?_⟩
  rw [Oper.semAt_plain F _ _ (by rw [ho]; intro c hc'; cases hc')]
  simp [execOp, ho, resolve, invoke, builtin, hs, hx, hrun, Result.andThen]
  exact hK _ _ (h A' c' w' (by rw [ints_append]; exact h2) h3 h4)

theorem keeps_of_chg {S : Nat → Prop} {B : Nat} {W W' : World} (hc : Chg S W W') (hS : ∀ k o, S k → W.heap[k]? = some o → o.isCells = true) : KeepsFrom B W W' :=
  ⟨hc.size, fun i o _ hi ho => (hc.block i (Array.getElem?_eq_some_iff.1 hi).1 (fun h => by rw [hS i o h hi] at ho; cases ho)).trans hi⟩

/-- What has been collected. -/
def Got (w : World) (hi : Nat) (pre : List Int) (W : World) : Prop := ∃ A c, Blk W w.heap.size 29 #[.slice A pre.length c] ∧ Row W hi 3 1 A pre.length c (ints pre) ∧ Below w.heap.size w W ∧ hi ≤ W.heap.size
theorem Row.cellsAt {W : World} {base n c : Nat} {E : TypeId} {A : Option Addr} {xs : List Value} (h : Row W base E 1 A n c xs) : ∀ k o, blk A = some k → W.heap[k]? = some o → o.isCells = true := by
  intro k o hk ho
  rcases h.2.2.2 with ⟨rfl, _⟩ | ⟨g, cur, rfl, _, hg, _⟩
  · cases hk
  · simp at hk
    subst hk
    rw [show W.heap[g]? = _ from hg] at ho
    cases ho
    rfl
theorem Got.own (w : World) (hi : Nat) (hhi : w.heap.size ≤ hi) : OwnFrom hi (Got w hi) := by
  rintro pre W W' row ⟨A, c, hB, hR, hb, hs⟩ hg hr
  have hne : ∀ k, (∀ o, W.heap[k]? = some o → o.isCells = true) → some k ≠ row := fun k hk e => by
    obtain ⟨_, o, ho, hc⟩ := hr k e.symm
    rw [hk o ho] at hc; cases hc
  refine ⟨A, c, hB.grown hg (hne _ (fun o ho => by rw [show W.heap[w.heap.size]? = _ from hB] at ho; cases ho; rfl)), hR.heap (fun g hgl e => hg.block g hgl (hne g (fun o ho => hR.cellsAt g o e ho))), hb.grown hg hb.size (fun k e => by have := (hr k e).1; omega), Nat.le_trans hs hg.size⟩

set_option maxRecDepth 100000 in
set_option maxHeartbeats 4000000 in
theorem walked_yes (nn start step : Int) (w : World) (h1 : 1 ≤ nn) (h2 : nn ≤ 1024) (h3 : 1 ≤ step) (h4 : step ≤ 1024) :
    Calls Try.prog 18 #[.int .i64 nn, .int .i64 start, .int .i64 step] w fun e w' => ∃ A c, e = .returned (.slice A nn.toNat c) ∧ Row w' w.heap.size 3 1 A nn.toNat c (ints (wlist nn start step nn.toNat)) ∧ Below w.heap.size w w' := by
  have heq : ∀ a b c W, (binOp .eql 35 (.func (.func 22) #[] #[.pointer (some a), .pointer (some b), .pointer (some c)]) .nilFunc).run Try.prog W = .ok (.bool false) W := fun _ _ _ _ => by kernel_rfl
  have hlen := wlist_len nn start step nn.toNat
  have hn1024 : nn.toNat ≤ 1024 := by omega
  refine callsIn_wide (n := 4) |>.1 ?_
  refine callsIn_of_wp_marks Try.func18 rfl trivial ?_ rfl
  simp only [Try.ntmps18, List.size_toArray, List.length_cons, List.length_nil, Nat.reduceAdd, Nat.reduceSub, Array.replicate_succ, Array.replicate_zero, List.push_toArray, List.append_toArray, List.nil_append, List.cons_append]
  gi_wp2_with (refine ⟨trivial, ?_⟩; gi_at_call 20; refine (callsIn_wide.2 (walk_yes 3 nn start step _ h1 h2 h3 h4)).mono ?_; rintro e w9 ⟨rfl, rfl⟩)
  obtain ⟨W0, hW0⟩ : ∃ W0, ((((w.alloc (.cells #[.slice none 0 0] 29)).alloc (.cells #[.int .i64 nn] 3)).alloc (.cells #[.int .i64 start] 3)).alloc (.cells #[.int .i64 step] 3)) = W0 := ⟨_, rfl⟩
  have hz0 : W0.heap.size = w.heap.size + 4 := by rw [← hW0]; simp
  have cn : W0.cell? ⟨w.heap.size + 1, 0, none⟩ = some (.int .i64 nn) := by rw [← hW0]; simp [go_sem]
  have cs : W0.cell? ⟨w.heap.size + 1 + 1, 0, none⟩ = some (.int .i64 start) := by rw [← hW0]; simp [go_sem]
  have ct : W0.cell? ⟨w.heap.size + 1 + 1 + 1, 0, none⟩ = some (.int .i64 step) := by rw [← hW0]; simp [go_sem]
  have hb0 : Below w.heap.size w W0 := by rw [← hW0]; exact ((((Below.refl _ _).alloc (Nat.le_refl _) _).alloc (by simp) _).alloc (by simp; omega) _).alloc (by simp; omega) _
  have hB0 : Blk W0 w.heap.size 29 #[.slice none 0 0] := by rw [← hW0]; exact (((Blk.new _ _ _).alloc _).alloc _).alloc _
  have hI0 : Got w (w.heap.size + 4) [] W0 := ⟨none, 0, hB0, Row.nil _ _ _ _, hb0, by omega⟩
  rw [hW0]
  clear hW0 hB0
  refine wpIn_rangeFunc_ownG (F := Fence.wide) (n := 4) rfl (by omega) (gf := 22) (lb := #[.pointer (some ⟨w.heap.size + 1 + 1, 0, none⟩), .pointer (some ⟨w.heap.size + 1, 0, none⟩), .pointer (some ⟨w.heap.size + 1 + 1 + 1, 0, none⟩)]) rfl trivial (enters_of Try.func22 (by kernel_rfl) rfl)
    (iter_stops 3 _ _ _ (w.heap.size + 1) (w.heap.size + 4) nn start step W0 (by omega) h1 h2 h3 h4 (by omega) (by omega) (by omega) (by omega) cs cn ct)
    (fun h k => Mid.trans h k) ?hKb (Below.refl _ _) (fun _ => rfl)
    (Got w (w.heap.size + 4)) (fun _ _ _ => False) (by rw [hz0]; exact Got.own w _ (by omega)) (fun _ _ _ _ _ hs _ _ => hs) hI0
    (fun x => { tmps := #[.int .i64 nn, .int .i64 start, .int .i64 step, undef, undef, undef, .slice none 0 0, .pointer (some ⟨w.heap.size, 0, none⟩), (.func (.func 22) #[] #[.pointer (some ⟨w.heap.size + 1 + 1, 0, none⟩), .pointer (some ⟨w.heap.size + 1, 0, none⟩), .pointer (some ⟨w.heap.size + 1 + 1 + 1, 0, none⟩)]), .int .i64 x, .int .i64 nn, .int .i64 start, .int .i64 step, (.func (.func 22) #[] #[.pointer (some ⟨w.heap.size + 1 + 1, 0, none⟩), .pointer (some ⟨w.heap.size + 1, 0, none⟩), .pointer (some ⟨w.heap.size + 1 + 1 + 1, 0, none⟩)]), (.func (.func 22) #[] #[.pointer (some ⟨w.heap.size + 1 + 1, 0, none⟩), .pointer (some ⟨w.heap.size + 1, 0, none⟩), .pointer (some ⟨w.heap.size + 1 + 1 + 1, 0, none⟩)]), .bool false, undef, (.func (.func 22) #[] #[.pointer (some ⟨w.heap.size + 1 + 1, 0, none⟩), .pointer (some ⟨w.heap.size + 1, 0, none⟩), .pointer (some ⟨w.heap.size + 1 + 1 + 1, 0, none⟩)]), .int .i64 x, undef, undef, undef, undef, undef], defers := [] }) ?assign ?body ?done ?stop
  case hKb =>
    intro W l o o' hl ho _ _
    exact ⟨by simp, fun k h1 h2 => World.putObj_heap_other (by omega)⟩
  case assign =>
    intro l x W K hK
    gi_wp2
    exact hK
  case body =>
    rintro l pre x W ⟨A, c, hB, hR, hb, hs⟩ hlt
    have c0 := hB.cell 0
    have f0 := hB.frozen 0
    have k0 := hB.lt
    simp at c0
    have hne : some w.heap.size ≠ blk A := fun e => hR.blk_ne hB (by decide) e.symm
    gi_wp2_with (gi_at_builtin; refine wpListIn_app rfl (.tmp 19) (.tmp 21) rfl (w.heap.size + 4) A _ _ pre rfl (hR.alloc _) _ 1 1 [x] rfl (Rd.lit _ _ _) ?c1 ?c2 ?_; (case c1 => omega); (case c2 => (simp; omega)); intro A2 c2 w2 r1 r2 r3; have hB2 := (hB.alloc (.cells #[.int .i64 x] 3)).grown r2 hne; have q0 := hB2.cell 0; have q1 := hB2.frozen 0; simp at q0)
    have hc : Chg (fun k => k = w.heap.size ∨ blk A = some k) W (w2.setCell ⟨w.heap.size, 0, none⟩ (.slice A2 (pre.length + 1) c2)) :=
      Chg.setCell (Chg.grown ((Chg.refl _ _).alloc _) r2 (fun k hk => .inl (.inr hk))) (.inl (.inl rfl)) _
    refine ⟨keeps_of_chg hc ?_, ⟨hc.size, fun k h1 h2 => hc.block k (by omega) ?_⟩, A2, c2, ?_, ?_, ?_, by have := hc.size; omega⟩
    · rintro k o (rfl | h) ho
      · rw [show W.heap[w.heap.size]? = _ from hB] at ho; cases ho; rfl
      · exact hR.cellsAt k o h ho
    · rintro (h | h)
      · omega
      · have := (hR.blk_lt k h).1; omega
    · simpa using hB2.set_ 0 (.slice A2 (pre.length + 1) c2)
    · have := r1.setCell (p := ⟨w.heap.size, 0, none⟩) (r1.blk_ne hB2 (by decide)) (.slice A2 (pre.length + 1) c2)
      simpa using this
    · refine hb.trans (hc.below hb.size ?_)
      rintro k hk (rfl | h)
      · exact Nat.le_refl _
      · have := (hR.blk_lt k h).1; omega
  case done =>
    rintro D ys W hD rfl ⟨A, c, hB, hR, hb, hs⟩ hK
    have c0 := hB.cell 0
    have k0 := hB.lt
    simp at c0
    gi_wp2
    refine ⟨by simp, .inl ⟨_, _, rfl, run_takeDeferred hK, ?_⟩⟩
    have hD' : w.heap.size + 4 ≤ D := by omega
    refine ⟨_, results_tmp rfl _ _ _, A, c, ?_, ?_, hb.trans (belowK_b (w := w) (Nat.le_refl _) W D _ _ (by omega) hK rfl rfl)⟩
    · rw [← hlen]; rfl
    · rw [hlen] at hR
      refine (hR.lower (by omega)).heap (fun g hg e => World.putObj_heap_other (fun e' => ?_))
      subst e'
      have := hR.cellsAt _ _ e hK
      cases this
  case stop =>
    rintro D c pre W _ _ h _
    exact h.elim

set_option maxHeartbeats 1000000 in
theorem iter_none (n lo hi : Nat) (w : World) : SeqStopsK Fence.wide n Try.prog 21 #[] (fun x : Int => #[Value.int .i64 x]) (Mid lo hi) (fun ys => ys = []) (fun pre => False) 0 w := fun l J Jx W hW _ _ hY h0 => by
  refine callsIn_of_wp Try.func21 rfl trivial ?_ rfl
  simp only [Try.ntmps21, List.size_toArray, List.length_cons, List.length_nil, Nat.reduceAdd, Nat.reduceSub, Array.replicate_succ, Array.replicate_zero, List.push_toArray, List.append_toArray, List.nil_append, List.cons_append]
  gi_wp2
  go_end0
  exact ⟨⟨_, rfl⟩, h0⟩
set_option maxRecDepth 100000 in
set_option maxHeartbeats 4000000 in
theorem walked_no (nn start step : Int) (w : World) (h : nn < 1 ∨ 1024 < nn ∨ step < 1 ∨ 1024 < step) :
    Calls Try.prog 18 #[.int .i64 nn, .int .i64 start, .int .i64 step] w fun e w' => ∃ A c, e = .returned (.slice A 0 c) ∧ Below w.heap.size w w' := by
  have heq : ∀ W, (binOp .eql 35 (.func (.func 21) #[] #[]) .nilFunc).run Try.prog W = .ok (.bool false) W := fun _ => by kernel_rfl
  refine callsIn_wide (n := 4) |>.1 ?_
  refine callsIn_of_wp_marks Try.func18 rfl trivial ?_ rfl
  simp only [Try.ntmps18, List.size_toArray, List.length_cons, List.length_nil, Nat.reduceAdd, Nat.reduceSub, Array.replicate_succ, Array.replicate_zero, List.push_toArray, List.append_toArray, List.nil_append, List.cons_append]
  gi_wp2_with (refine ⟨trivial, ?_⟩; gi_at_call 20; refine (callsIn_wide.2 (walk_no nn start step _ h)).mono ?_; rintro e w9 ⟨rfl, rfl⟩)
  obtain ⟨W0, hW0⟩ : ∃ W0, ((((w.alloc (.cells #[.slice none 0 0] 29)).alloc (.cells #[.int .i64 nn] 3)).alloc (.cells #[.int .i64 start] 3)).alloc (.cells #[.int .i64 step] 3)) = W0 := ⟨_, rfl⟩
  have hz0 : W0.heap.size = w.heap.size + 4 := by rw [← hW0]; simp
  have hb0 : Below w.heap.size w W0 := by rw [← hW0]; exact ((((Below.refl _ _).alloc (Nat.le_refl _) _).alloc (by simp) _).alloc (by simp; omega) _).alloc (by simp; omega) _
  have hB0 : Blk W0 w.heap.size 29 #[.slice none 0 0] := by rw [← hW0]; exact (((Blk.new _ _ _).alloc _).alloc _).alloc _
  have hI0 : Got w (w.heap.size + 4) [] W0 := ⟨none, 0, hB0, Row.nil _ _ _ _, hb0, by omega⟩
  rw [hW0]
  clear hW0 hB0
  refine wpIn_rangeFunc_ownG (F := Fence.wide) (n := 4) rfl (by omega) (gf := 21) (lb := #[]) rfl trivial (enters_of Try.func21 (by kernel_rfl) rfl)
    (iter_none 3 (w.heap.size + 1) (w.heap.size + 4) W0)
    (fun h k => Mid.trans h k) ?hKb (Below.refl _ _) (fun _ => rfl)
    (Got w (w.heap.size + 4)) (fun _ _ _ => False) (by rw [hz0]; exact Got.own w _ (by omega)) (fun _ _ _ _ _ hs _ _ => hs) hI0
    (fun x => { tmps := #[.int .i64 nn, .int .i64 start, .int .i64 step, undef, undef, undef, .slice none 0 0, .pointer (some ⟨w.heap.size, 0, none⟩), (.func (.func 21) #[] #[]), .int .i64 x, .int .i64 nn, .int .i64 start, .int .i64 step, (.func (.func 21) #[] #[]), (.func (.func 21) #[] #[]), .bool false, undef, (.func (.func 21) #[] #[]), .int .i64 x, undef, undef, undef, undef, undef], defers := [] }) ?assign ?body ?done ?stop
  case hKb =>
    intro W l o o' hl ho _ _
    exact ⟨by simp, fun k h1 h2 => World.putObj_heap_other (by omega)⟩
  case assign =>
    intro l x W K hK
    gi_wp2
    exact hK
  case body =>
    rintro l pre x W _ hlt
    exact absurd hlt (by omega)
  case done =>
    rintro D ys W hD rfl ⟨A, c, hB, hR, hb, hs⟩ hK
    have c0 := hB.cell 0
    have k0 := hB.lt
    simp at c0
    gi_wp2
    refine ⟨by simp, .inl ⟨_, _, rfl, run_takeDeferred hK, ?_⟩⟩
    have hD' : w.heap.size + 4 ≤ D := by omega
    exact ⟨_, results_tmp rfl _ _ _, A, c, rfl, hb.trans (belowK_b (w := w) (Nat.le_refl _) W D _ _ (by omega) hK rfl rfl)⟩
  case stop =>
    rintro D c pre W _ _ h _
    exact h.elim
end Go.Proofs.Ytedenmbdefnhiaa
