/- Contract: Front. -/
import Derived.Test.YtifflhombjljbaaGlobH
namespace Go.Proofs.Ytifflhombjljbaa
open Go.ChangeShapes Go.WideShapes Go.ChangeAt Go.RowKit Go.Deep Go.Shelf
set_option linter.unusedVariables false
attribute [local go_sem] Oper.semAt_some

theorem keeps_of_chg {S : Nat → Prop} {B : Nat} {W W' : World} (hc : Chg S W W') (hS : ∀ k o, S k → W.heap[k]? = some o → o.isCells = true) : KeepsFrom B W W' :=
  ⟨hc.size, fun i o _ hi ho => (hc.block i (Array.getElem?_eq_some_iff.1 hi).1 (fun h => by rw [hS i o h hi] at ho; cases ho)).trans hi⟩
theorem Row.cellsAt {W : World} {base n c : Nat} {E : TypeId} {A : Option Addr} {xs : List Value} (h : Row W base E 1 A n c xs) : ∀ k o, blk A = some k → W.heap[k]? = some o → o.isCells = true := by
  intro k o hk ho
  rcases h.2.2.2 with ⟨rfl, _⟩ | ⟨g, cur, rfl, _, hg, _⟩
  · cases hk
  · simp at hk
    subst hk
    rw [show W.heap[g]? = _ from hg] at ho
    cases ho
    rfl
theorem Q2.cellsAt {T : TypeId} {W : World} {B K c1 c2 : Nat} {A1 A2 : Option Addr} {f b : List Int} (h : Q2 T W B K A1 A2 c1 c2 f b) : ∀ k o, Fp K A1 A2 k → W.heap[k]? = some o → o.isCells = true := by
  obtain ⟨_, hK, h1, h2, _⟩ := h
  rintro k o (rfl | h | h) ho
  · rw [show W.heap[k]? = _ from hK] at ho; cases ho; rfl
  · exact h1.cellsAt k o h ho
  · exact h2.cellsAt k o h ho
def FrI (w : World) (B K : Nat) (A1 A2 : Option Addr) (f b : List Int) (Bq : Nat) (pre : List (Int × Int)) (W : World) : Prop :=
  ∃ E1 E2 c1 c2, Q2 44 W B K E1 E2 c1 c2 (f ++ right (pre.map (·.2))) b ∧ Chg (Fp K A1 A2) w W ∧ (∀ g, Fp K E1 E2 g → Fp K A1 A2 g ∨ (w.heap.size ≤ g ∧ g ≠ Bq ∧ g ≠ Bq + 1)) ∧ Blk W Bq 25 #[.pointer (some ⟨K, 0, none⟩)] ∧ Bq + 2 ≤ W.heap.size
theorem FrI.own (w : World) (B K : Nat) (A1 A2 : Option Addr) (f b : List Int) (Bq hi : Nat) (hhi : w.heap.size ≤ hi) : OwnFrom hi (FrI w B K A1 A2 f b Bq) := by
  rintro pre W W' row ⟨E1, E2, c1, c2, hq, hc, hf, hB, hs⟩ hg hr
  have hne : ∀ k, (∀ o, W.heap[k]? = some o → o.isCells = true) → some k ≠ row := fun k hk e => by
    obtain ⟨_, o, ho, hc⟩ := hr k e.symm
    rw [hk o ho] at hc; cases hc
  have hc2 : Chg (fun k => row = some k) W W' := Chg.grown (Chg.refl _ _) hg (fun k hk => .inl hk)
  exact ⟨E1, E2, c1, c2, hq.kept hc2 (fun k hk e => hne k (fun o ho => hq.cellsAt k o hk ho) e.symm), hc.grown hg (fun k e => .inr (by have := (hr k e).1; omega)), hf,
    hB.grown hg (hne _ (fun o ho => by rw [show W.heap[Bq]? = _ from hB] at ho; cases ho; rfl)), Nat.le_trans hs hg.size⟩
theorem right_snoc (l : List Int) (z : Int) : right (l ++ [z]) = right l ++ (if 0 < z then [z] else []) := by
  by_cases h : 0 < z <;> simp [right, h]
theorem right_rev (l : List Int) : right l.reverse = (right l).reverse := by simp [right, List.filter_reverse]

theorem set_listed {F : Fence} {nF : Nat} {P : Program} {md : Region.Mode} {ops : Array Oper} {Q : Exit → Act → World → Prop} {fuel : Nat} {listed listed' : Array Bool} {a : Act} {w : World} (h : listed = listed') (h' : wpAnyIn F nF P md ops Q fuel listed' a w) : wpAnyIn F nF P md ops Q fuel listed a w := h ▸ h'
theorem stepIn_app {Fe : Fence} {nF : Nat} {ops : Array Oper} {o : Oper} {a : Act} {V : World} {K : Act → World → Prop} {Q : Exit → Act → World → Prop} {G : Prop} (hgd : o.guard = none) (s x : Operand)
    (ho : o.op = .call { callee := .builtin .append, args := #[s, x], argTypes := #[27, 27] })
    (base : Nat) (A : Option Addr) (n c : Nat) (xs : List Int) (hs : a.eval s = .slice A n c) (hown : Row V base 3 1 A n c (ints xs))
    (D : Option Addr) (m d : Nat) (ys : List Int) (hx : a.eval x = .slice D m d) (hr : Rd V 1 D m (ints ys))
    (h63 : n + m ≤ 1048576) (hbase : base ≤ V.heap.size)
    (h : ∀ A' c' w', Row w' base 3 1 A' (n + m) c' (ints (xs ++ ys)) → V.grownBy w' (blk A) → (blk A' = blk A ∨ blk A' = some V.heap.size) → K (a.put o.dst (.slice A' (n + m) c')) w') :
    if Region.wanted o (yielded ops a.tmps) = true then Oper.wpIn Fe nF Try.prog o a V K Q else G := by
  have hw : Region.wanted o (yielded ops a.tmps) = true := by simp [Region.wanted, hgd]
  rw [if_pos hw]
  obtain ⟨i0, hi, hz0, hz1, hz2⟩ := info_parts int_info
  obtain ⟨A', c', w', hrun, h2, h3, h4⟩ := append_rows (P := Try.prog) V base 27 o.type 3 i0 (.int .i64 0) 1 8 Try.underlying27 hi hz0 hz1 hz2 rfl (by decide) A n c (ints xs) hown D m d (ints ys) hr (ints_one ys) h63 (by decide) hbase
  unfold Oper.wpIn
  refine ⟨by simp [Oper.about, ho, resolve, Target.leads, Sem.run_pure], ?_⟩
  rw [Oper.semAt_plain Fe _ _ (by rw [ho]; intro c hc'; cases hc')]
  simp [execOp, ho, resolve, invoke, builtin, hs, hx, hrun, Result.andThen]
  exact h _ _ _ (by rw [ints_append]; exact h2) h3 h4
theorem FrI.yes {w V V' : World} {B K Bq c1 c2 d hi : Nat} {A A1 A2 E1 E2 D : Option Addr} {f b xs : List Int} {pre : List (Int × Int)} {i x : Int} {a : Act} {Ix : Code → List (Int × Int) → World → Prop} (hR : right (pre.map (·.2) ++ [x]) = right (pre.map (·.2)) ++ [x])
    (hq : Q2 44 V B K E1 E2 c1 c2 (f ++ right (pre.map (·.2))) b) (hc : Chg (Fp K A1 A2) w V) (hf : ∀ g, Fp K E1 E2 g → Fp K A1 A2 g ∨ (w.heap.size ≤ g ∧ g ≠ Bq ∧ g ≠ Bq + 1)) (hB : Blk V Bq 25 #[.pointer (some ⟨K, 0, none⟩)]) (hs : Bq + 2 ≤ V.heap.size)
    (hkp : ∀ g, (g = Bq + 1 ∨ g = Bq ∨ (0 < xs.length ∧ blk A = some g)) → ¬ Fp K E1 E2 g) (hAl : 0 < xs.length → ∀ g, blk A = some g → g < w.heap.size) (hz : hi = Bq + 2)
    (h1 : Q2 44 V' B K D E2 d c2 ((f ++ right (pre.map (·.2))) ++ [x]) b) (h2 : Chg (Fp K E1 E2) V V') (h3 : ∀ g, Fp K D E2 g → Fp K E1 E2 g ∨ V.heap.size ≤ g) :
    ownPostG hi (KpS fun k => k = Bq + 1 ∨ (0 < xs.length ∧ blk A = some k)) (FrI w B K A1 A2 f b Bq) Ix (pre ++ [(i, x)]) V .normal a V' := by
  have hsz := hc.size
  refine ⟨keeps_of_chg h2 hq.cellsAt, ⟨h2.size, fun k hk => ?_⟩, D, E2, d, c2, ?_, hc.trans h2 (fun k hk h => (hf k h).resolve_right (by omega)), fun g hg => ?_, ?_, Nat.le_trans hs h2.size⟩
  · rcases Nat.lt_or_ge k V.heap.size with hlt | hge
    · exact h2.block k hlt (hkp k (by rcases hk with h | h; exact .inl h; exact .inr (.inr h)))
    · rcases hk with h | h
      · omega
      · have := hAl h.1 k h.2; omega
  · rw [List.map_append, List.map_cons, List.map_nil, hR, ← List.append_assoc]; exact h1
  · rcases h3 g hg with h | h
    · exact hf g h
    · right; omega
  · exact hB.kept h2 (hkp Bq (.inr (.inl rfl)))
theorem FrI.no {w V : World} {B K Bq c1 c2 hi : Nat} {A A1 A2 E1 E2 : Option Addr} {f b xs : List Int} {pre : List (Int × Int)} {i x : Int} {a : Act} {Ix : Code → List (Int × Int) → World → Prop} (hR : right (pre.map (·.2) ++ [x]) = right (pre.map (·.2)))
    (hq : Q2 44 V B K E1 E2 c1 c2 (f ++ right (pre.map (·.2))) b) (hc : Chg (Fp K A1 A2) w V) (hf : ∀ g, Fp K E1 E2 g → Fp K A1 A2 g ∨ (w.heap.size ≤ g ∧ g ≠ Bq ∧ g ≠ Bq + 1)) (hB : Blk V Bq 25 #[.pointer (some ⟨K, 0, none⟩)]) (hs : Bq + 2 ≤ V.heap.size) :
    ownPostG hi (KpS fun k => k = Bq + 1 ∨ (0 < xs.length ∧ blk A = some k)) (FrI w B K A1 A2 f b Bq) Ix (pre ++ [(i, x)]) V .normal a V :=
  ⟨KeepsFrom.refl _ _, KpS.refl _ _, E1, E2, c1, c2, by rw [List.map_append, List.map_cons, List.map_nil, hR]; exact hq, hc, hf, hB, hs⟩
theorem FrI.fin {w V : World} {B K Bq : Nat} {A1 A2 : Option Addr} {f b L : List Int} {ys : List (Int × Int)} (hL : (f ++ right (ys.map (·.2))).reverse ++ b = L) (hl : L.length ≤ 100000) (h : FrI w B K A1 A2 f b Bq ys V) : GAft w V B K A1 A2 L := by
  obtain ⟨E1, E2, c1, c2, hq, hc, hf, _, _⟩ := h
  refine ⟨E1, E2, ⟨c1, c2, _, b, hq, hL.symm, hl⟩, hc, fun g hg => ?_⟩
  rcases hf g hg with h | h
  · exact .inl h
  · exact .inr h.1
set_option maxHeartbeats 2000000 in
theorem backward_new (A : Option Addr) (n c : Nat) (w : World) :
    Calls Try.prog 27 #[.slice A n c] w fun e w' => e = .returned (.func (.func 30) #[] #[.pointer (some ⟨w.heap.size, 0, none⟩)]) ∧ w' = w.alloc (.cells #[.slice A n c] 27) := by
  have hmf : ∀ (fn : Fn) (first cap : Array Value) (W : World), (Instr.makeFunc fn first cap).run Try.prog W = .ok (.func fn first cap) W := fun _ _ _ _ => rfl
  go_enter Try.func27, Try.ntmps27
  go_wp2
  go_ret
  exact ⟨rfl, rfl⟩
set_option maxRecDepth 100000 in
set_option maxHeartbeats 8000000 in
theorem front_any (B K : Nat) (A1 A2 A : Option Addr) (n c : Nat) (L xs : List Int) (W : World) (hS : GQ W B K A1 A2 L) (hA : Rd W 1 A n (ints xs)) (hAl : 0 < n → ∀ g, blk A = some g → g < W.heap.size) (hd : 0 < n → ∀ g, blk A = some g → ¬ Fp K A1 A2 g) (hB : B ≤ W.heap.size) (hl : L.length + n ≤ 50000) :
    Calls Try.prog 19 #[.pointer (some ⟨K, 0, none⟩), .slice A n c] W fun e W' => e = .returned (.int .i64 ((right xs ++ L).length : Int)) ∧ GAft W W' B K A1 A2 (right xs ++ L) := by
  obtain ⟨c1, c2, f, b, hq, rfl, hlL⟩ := hS
  have hn1 := hA.len
  subst hn1
  simp at hl
  have heq : ∀ a W, (binOp .eql 50 (.func (.func 30) #[] #[.pointer (some a)]) .nilFunc).run Try.prog W = .ok (.bool false) W := fun _ _ => by kernel_rfl
  have hmf : ∀ (fn : Fn) (first cap : Array Value) (W : World), (Instr.makeFunc fn first cap).run Try.prog W = .ok (.func fn first cap) W := fun _ _ _ _ => rfl
  refine callsIn_wide (n := 4) |>.1 ?_
  refine callsIn_of_wp_marks Try.func19 rfl trivial ?_ rfl
  simp only [Try.ntmps19, List.size_toArray, List.length_cons, List.length_nil, Nat.reduceAdd, Nat.reduceSub, Array.replicate_succ, Array.replicate_zero, List.push_toArray, List.append_toArray, List.nil_append, List.cons_append]
  gi_wp2_with (refine ⟨trivial, ?_⟩; gi_at_call 27; refine (callsIn_wide.2 (backward_new A xs.length c _)).mono ?_; rintro e w9 ⟨rfl, rfl⟩)
  obtain ⟨W0, hW0⟩ : ∃ W0, (W.alloc (.cells #[.pointer (some ⟨K, 0, none⟩)] 25)).alloc (.cells #[.slice A xs.length c] 27) = W0 := ⟨_, rfl⟩
  have hz0 : W0.heap.size = W.heap.size + 2 := by rw [← hW0]; simp
  have cs : W0.cell? ⟨W.heap.size + 1, 0, none⟩ = some (.slice A xs.length c) := by rw [← hW0]; simp [go_sem]
  have hc0 : Chg (fun _ => False) W W0 := by rw [← hW0]; exact ((Chg.refl _ _).alloc _).alloc _
  have hB0 : Blk W0 W.heap.size 25 #[.pointer (some ⟨K, 0, none⟩)] := by rw [← hW0]; exact (Blk.new _ _ _).alloc _
  have hR0 : Rd W0 1 A xs.length (ints xs) := by rw [← hW0]; exact (hA.alloc _).alloc _
  have hKW := (hq.fp_lt K (.inl rfl)).2
  have hI0 : FrI W B K A1 A2 f b W.heap.size [] W0 := ⟨A1, A2, c1, c2, by simpa [right] using hq.same hc0, hc0.mono (fun _ _ h => h.elim), fp_same, hB0, by omega⟩
  have hfl := hq.fp_lt
  rw [hW0]
  clear hW0 hB0
  refine wpIn_rangeFunc_ownG (F := Fence.wide) (n := 4) rfl (by omega) (gf := 30) (lb := #[.pointer (some ⟨W.heap.size + 1, 0, none⟩)]) rfl trivial (enters_of Try.func30 (by kernel_rfl) rfl)
    (back_stops 3 (W.heap.size + 1) A c xs W0 (by omega) (by omega) (by omega) cs hR0)
    (fun h k => KpS.trans h k) ?hKb (Below.refl _ _) (fun _ => rfl)
    (FrI W B K A1 A2 f b W.heap.size) (fun _ _ _ => False) (by rw [hz0]; exact FrI.own W B K A1 A2 f b _ _ (by omega)) (fun _ _ _ _ _ hs _ _ => hs) hI0
    (fun x => { tmps := #[.pointer (some ⟨K, 0, none⟩), .slice A xs.length c, .pointer (some ⟨W.heap.size, 0, none⟩), undef, .int .i64 0, undef, .int .i64 x.2, .pointer (some ⟨K, 0, none⟩), .bool false, .slice A xs.length c, (.func (.func 30) #[] #[.pointer (some ⟨W.heap.size + 1, 0, none⟩)]), .int .i64 x.1, .int .i64 x.2, undef, undef, undef, undef, undef, undef, undef, undef, undef, undef, undef, undef, undef, undef], defers := [] }) ?assign ?body ?done ?stop
  case hKb =>
    intro V l o o' hl ho _ _
    refine ⟨by simp, fun k h => World.putObj_heap_other ?_⟩
    rcases h with rfl | h
    · omega
    · have := hAl h.1 k h.2; omega
  case assign =>
    intro l x V K' hK'
    gi_wp2
    exact hK'
  case body =>
    rintro l pre ⟨i, x⟩ V ⟨E1, E2, d1, d2, hqV, hcV, hfV, hBV, hsV⟩ hlt
    have c0 := hBV.cell 0
    have k0 := hBV.lt
    simp at c0
    have hR := right_snoc (pre.map (·.2)) x
    have hkp : ∀ g, (g = W.heap.size + 1 ∨ g = W.heap.size ∨ (0 < xs.length ∧ blk A = some g)) → ¬ Fp K E1 E2 g := fun g hg h => by
      rcases hfV g h with h | ⟨h3, h4, h5⟩
      · rcases hg with rfl | rfl | hg
        · have := (hfl _ h).2; omega
        · have := (hfl _ h).2; omega
        · exact hd hg.1 g hg.2 h
      · rcases hg with rfl | rfl | hg
        · exact h5 rfl
        · exact h4 rfl
        · have := hAl hg.1 g hg.2; omega
    by_cases hx : 0 < x
    · rw [if_pos hx] at hR
      have HN := Lib.hid (fun (D : Option Addr) (d : Nat) (V' : World) (a : Act) h1 h2 h3 => FrI.yes (xs := xs) (A := A) (i := i) (V' := V') (D := D) (d := d) (a := a) (Ix := fun _ _ _ => False) hR hqV hcV hfV hBV hsV hkp hAl hz0 h1 h2 h3)
      have hfl1 : (f ++ right (pre.map (·.2))).length + 1 ≤ 1048576 := by
        have h1 := right_le (pre.map (·.2))
        simp at h1 hlt ⊢
        omega
      have HB2 := Lib.hid (fun (w2 : World) (hg : (V.drew.alloc (.cells #[.int .i64 x] 3)).grownBy w2 (blk E1)) => show w2.cell? ⟨W.heap.size, 0, none⟩ = some (.pointer (some ⟨K, 0, none⟩)) ∧ W.heap.size < w2.heap.size from by
        have hb2 := (hBV.drew.alloc (.cells #[.int .i64 x] 3)).grown hg (fun h => hkp W.heap.size (.inr (.inl rfl)) (.inr (.inl h.symm)))
        exact ⟨hb2.cell 0, hb2.lt⟩)
      have hbV : B ≤ (V.alloc (.cells #[.int .i64 x] 3)).drew.heap.size := by
        show B ≤ (V.alloc (.cells #[.int .i64 x] 3)).heap.size
        simp; omega
      have hqd := hqV.same ((Chg.refl _ _).drew)
      generalize f ++ right (pre.map (·.2)) = fs at *
      clear hR hkp hBV cs hR0 hI0
      obtain ⟨hBK, hK, h1, h2, hne⟩ := id hqV
      have hk := hK.lt
      have p0 := hK.cell 0
      have p3 := hK.frozen 0
      simp at p0
      clear hqV
      gi_wp2
      refine wpIn_region_any (by kernel_rfl) ?_
      refine wpAnyIn_ready (rs := [0, 1, 5]) (by kernel_rfl) (by simp) ?q1
      refine AllReadyIn.cons rfl (fun K' hK' => ?a2) ?b3
      go_simp
      refine hK' _ _ (set_listed (listed' := #[true, false, false, false, false, false, false, false, false, false, false]) (by kernel_rfl) ?c4); clear hK' K'
      refine ?n0
      refine wpAnyIn_ready (rs := [1, 5]) (by kernel_rfl) (by simp) ?q5
      refine AllReadyIn.cons rfl (fun K' hK' => ?a6) ?b7
      go_simp
      refine hK' _ _ (set_listed (listed' := #[true, true, false, false, false, false, false, false, false, false, false]) (by kernel_rfl) ?c8); clear hK' K'
      refine ?n01
      refine wpAnyIn_ready (rs := [2, 5]) (by kernel_rfl) (by simp) ?q9
      refine AllReadyIn.cons rfl (fun K' hK' => ?a10) ?b11
      go_simp
      refine hK' _ _ (set_listed (listed' := #[true, true, true, false, false, false, false, false, false, false, false]) (by kernel_rfl) ?c12); clear hK' K'
      refine ?n012
      refine wpAnyIn_ready (rs := [3, 5]) (by kernel_rfl) (by simp) ?q13
      refine AllReadyIn.cons rfl (fun K' hK' => ?a14) ?b15
      go_simp
      refine hK' _ _ (set_listed (listed' := #[true, true, true, true, false, false, false, false, false, false, false]) (by kernel_rfl) ?c16); clear hK' K'
      refine ?n0123
      refine wpAnyIn_ready (rs := [4, 5]) (by kernel_rfl) (by simp) ?q17
      refine AllReadyIn.cons rfl (fun K' hK' => ?a18) ?b19
      go_simp
      refine hK' _ _ (set_listed (listed' := #[true, true, true, true, true, false, false, false, false, false, false]) (by kernel_rfl) ?c20); clear hK' K'
      refine ?n01234
      refine wpAnyIn_ready (rs := [5]) (by kernel_rfl) (by simp) ?q21
      refine AllReadyIn.cons rfl (fun K' hK' => ?a22) ?b23
      go_simp
      refine hK' _ _ (set_listed (listed' := #[true, true, true, true, true, true, false, false, false, false, false]) (by kernel_rfl) ?c24); clear hK' K'
      refine ?n012345
      refine wpAnyIn_ready (rs := [6]) (by kernel_rfl) (by simp) ?q25
      refine AllReadyIn.cons rfl (fun K' hK' => ?a26) ?b27
      go_simp
      refine hK' _ _ (set_listed (listed' := #[true, true, true, true, true, true, true, false, false, false, false]) (by kernel_rfl) ?c28); clear hK' K'
      refine ?n0123456
      refine wpAnyIn_ready (rs := [7]) (by kernel_rfl) (by simp) ?q29
      refine AllReadyIn.cons rfl (fun K' hK' => ?a30) ?b31
      refine stepIn_app rfl (.tmp 19) (.tmp 21) rfl B E1 _ _ fs rfl (h1.alloc _).drew _ 1 1 [x] rfl (Rd.lit _ _ _).drew hfl1 hbV ?_; intro D d w2 r1 r2 r3; obtain ⟨s0, s1, s2, s3⟩ := hqd.app1 (ob := .cells #[.int .i64 x] 3) (by decide) r1 r2 r3; have t0 := s0.cell 0; have t2 := s0.frozen 0; have t4 := s0.lt; simp at t0; obtain ⟨u0, u1⟩ := HB2.out _ r2; have FIN := Lib.hid (fun a => HN.out _ _ _ a s1 (Chg.undrew s2) s3); clear s0 s1 s2 s3 r1 r2 r3
      refine hK' _ _ (set_listed (listed' := #[true, true, true, true, true, true, true, true, false, false, false]) (by kernel_rfl) ?c32); clear hK' K'
      refine wpAnyIn_ready (rs := [8]) (by kernel_rfl) (by simp) ?q33
      refine AllReadyIn.cons rfl (fun K' hK' => ?a34) ?b35
      go_simp
      refine hK' _ _ (set_listed (listed' := #[true, true, true, true, true, true, true, true, true, false, false]) (by kernel_rfl) ?c36); clear hK' K'
      refine wpAnyIn_ready (rs := [9]) (by kernel_rfl) (by simp) ?q37
      refine AllReadyIn.cons rfl (fun K' hK' => ?a38) ?b39
      go_simp
      refine hK' _ _ (set_listed (listed' := #[true, true, true, true, true, true, true, true, true, true, false]) (by kernel_rfl) ?c40); clear hK' K'
      refine wpAnyIn_ready (rs := [10]) (by kernel_rfl) (by simp) ?q41
      refine AllReadyIn.cons rfl (fun K' hK' => ?a42) ?b43
      go_simp
      refine hK' _ _ (set_listed (listed' := #[true, true, true, true, true, true, true, true, true, true, true]) (by kernel_rfl) ?c44); clear hK' K'
      refine wpAnyIn_done (by kernel_rfl) ?_ _
      gi_wp2
      exact FIN.out _
      exact AllReadyIn.nil
      exact AllReadyIn.nil
      exact AllReadyIn.nil
      exact AllReadyIn.nil
      exact AllReadyIn.nil
      exact AllReadyIn.nil
      refine AllReadyIn.cons rfl (fun K' hK' => ?a45) ?b46
      go_simp
      refine hK' _ _ (set_listed (listed' := #[true, true, true, true, false, true, false, false, false, false, false]) (by kernel_rfl) ?c47); clear hK' K'
      refine ?n01235
      refine wpAnyIn_ready (rs := [4, 6]) (by kernel_rfl) (by simp) ?q48
      refine AllReadyIn.cons rfl (fun K' hK' => ?a49) ?b50
      go_simp
      refine hK' _ _ (set_listed (listed' := #[true, true, true, true, true, true, false, false, false, false, false]) (by kernel_rfl) ?c51); clear hK' K'
      refine ?n012345
      refine AllReadyIn.cons rfl (fun K' hK' => ?a52) ?b53
      go_simp
      refine hK' _ _ (set_listed (listed' := #[true, true, true, true, false, true, true, false, false, false, false]) (by kernel_rfl) ?c54); clear hK' K'
      refine ?n012356
      refine wpAnyIn_ready (rs := [4]) (by kernel_rfl) (by simp) ?q55
      refine AllReadyIn.cons rfl (fun K' hK' => ?a56) ?b57
      go_simp
      refine hK' _ _ (set_listed (listed' := #[true, true, true, true, true, true, true, false, false, false, false]) (by kernel_rfl) ?c58); clear hK' K'
      refine ?n0123456
      exact AllReadyIn.nil
      exact AllReadyIn.nil
      exact AllReadyIn.nil
      refine AllReadyIn.cons rfl (fun K' hK' => ?a59) ?b60
      go_simp
      refine hK' _ _ (set_listed (listed' := #[true, true, true, false, false, true, false, false, false, false, false]) (by kernel_rfl) ?c61); clear hK' K'
      refine ?n0125
      refine wpAnyIn_ready (rs := [3, 6]) (by kernel_rfl) (by simp) ?q62
      refine AllReadyIn.cons rfl (fun K' hK' => ?a63) ?b64
      go_simp
      refine hK' _ _ (set_listed (listed' := #[true, true, true, true, false, true, false, false, false, false, false]) (by kernel_rfl) ?c65); clear hK' K'
      refine ?n01235
      refine AllReadyIn.cons rfl (fun K' hK' => ?a66) ?b67
      go_simp
      refine hK' _ _ (set_listed (listed' := #[true, true, true, false, false, true, true, false, false, false, false]) (by kernel_rfl) ?c68); clear hK' K'
      refine ?n01256
      refine wpAnyIn_ready (rs := [3]) (by kernel_rfl) (by simp) ?q69
      refine AllReadyIn.cons rfl (fun K' hK' => ?a70) ?b71
      go_simp
      refine hK' _ _ (set_listed (listed' := #[true, true, true, true, false, true, true, false, false, false, false]) (by kernel_rfl) ?c72); clear hK' K'
      refine ?n012356
      exact AllReadyIn.nil
      exact AllReadyIn.nil
      exact AllReadyIn.nil
      refine AllReadyIn.cons rfl (fun K' hK' => ?a73) ?b74
      go_simp
      refine hK' _ _ (set_listed (listed' := #[true, true, false, false, false, true, false, false, false, false, false]) (by kernel_rfl) ?c75); clear hK' K'
      refine ?n015
      refine wpAnyIn_ready (rs := [2, 6]) (by kernel_rfl) (by simp) ?q76
      refine AllReadyIn.cons rfl (fun K' hK' => ?a77) ?b78
      go_simp
      refine hK' _ _ (set_listed (listed' := #[true, true, true, false, false, true, false, false, false, false, false]) (by kernel_rfl) ?c79); clear hK' K'
      refine ?n0125
      refine AllReadyIn.cons rfl (fun K' hK' => ?a80) ?b81
      go_simp
      refine hK' _ _ (set_listed (listed' := #[true, true, false, false, false, true, true, false, false, false, false]) (by kernel_rfl) ?c82); clear hK' K'
      refine ?n0156
      refine wpAnyIn_ready (rs := [2]) (by kernel_rfl) (by simp) ?q83
      refine AllReadyIn.cons rfl (fun K' hK' => ?a84) ?b85
      go_simp
      refine hK' _ _ (set_listed (listed' := #[true, true, true, false, false, true, true, false, false, false, false]) (by kernel_rfl) ?c86); clear hK' K'
      refine ?n01256
      exact AllReadyIn.nil
      exact AllReadyIn.nil
      exact AllReadyIn.nil
      refine AllReadyIn.cons rfl (fun K' hK' => ?a87) ?b88
      go_simp
      refine hK' _ _ (set_listed (listed' := #[true, false, false, false, false, true, false, false, false, false, false]) (by kernel_rfl) ?c89); clear hK' K'
      refine ?n05
      refine wpAnyIn_ready (rs := [1, 6]) (by kernel_rfl) (by simp) ?q90
      refine AllReadyIn.cons rfl (fun K' hK' => ?a91) ?b92
      go_simp
      refine hK' _ _ (set_listed (listed' := #[true, true, false, false, false, true, false, false, false, false, false]) (by kernel_rfl) ?c93); clear hK' K'
      refine ?n015
      refine AllReadyIn.cons rfl (fun K' hK' => ?a94) ?b95
      go_simp
      refine hK' _ _ (set_listed (listed' := #[true, false, false, false, false, true, true, false, false, false, false]) (by kernel_rfl) ?c96); clear hK' K'
      refine ?n056
      refine wpAnyIn_ready (rs := [1]) (by kernel_rfl) (by simp) ?q97
      refine AllReadyIn.cons rfl (fun K' hK' => ?a98) ?b99
      go_simp
      refine hK' _ _ (set_listed (listed' := #[true, true, false, false, false, true, true, false, false, false, false]) (by kernel_rfl) ?c100); clear hK' K'
      refine ?n0156
      exact AllReadyIn.nil
      exact AllReadyIn.nil
      exact AllReadyIn.nil
      refine AllReadyIn.cons rfl (fun K' hK' => ?a101) ?b102
      go_simp
      refine hK' _ _ (set_listed (listed' := #[false, true, false, false, false, false, false, false, false, false, false]) (by kernel_rfl) ?c103); clear hK' K'
      refine ?n1
      refine wpAnyIn_ready (rs := [0, 2, 5]) (by kernel_rfl) (by simp) ?q104
      refine AllReadyIn.cons rfl (fun K' hK' => ?a105) ?b106
      go_simp
      refine hK' _ _ (set_listed (listed' := #[true, true, false, false, false, false, false, false, false, false, false]) (by kernel_rfl) ?c107); clear hK' K'
      refine ?n01
      refine AllReadyIn.cons rfl (fun K' hK' => ?a108) ?b109
      go_simp
      refine hK' _ _ (set_listed (listed' := #[false, true, true, false, false, false, false, false, false, false, false]) (by kernel_rfl) ?c110); clear hK' K'
      refine ?n12
      refine wpAnyIn_ready (rs := [0, 3, 5]) (by kernel_rfl) (by simp) ?q111
      refine AllReadyIn.cons rfl (fun K' hK' => ?a112) ?b113
      go_simp
      refine hK' _ _ (set_listed (listed' := #[true, true, true, false, false, false, false, false, false, false, false]) (by kernel_rfl) ?c114); clear hK' K'
      refine ?n012
      refine AllReadyIn.cons rfl (fun K' hK' => ?a115) ?b116
      go_simp
      refine hK' _ _ (set_listed (listed' := #[false, true, true, true, false, false, false, false, false, false, false]) (by kernel_rfl) ?c117); clear hK' K'
      refine ?n123
      refine wpAnyIn_ready (rs := [0, 4, 5]) (by kernel_rfl) (by simp) ?q118
      refine AllReadyIn.cons rfl (fun K' hK' => ?a119) ?b120
      go_simp
      refine hK' _ _ (set_listed (listed' := #[true, true, true, true, false, false, false, false, false, false, false]) (by kernel_rfl) ?c121); clear hK' K'
      refine ?n0123
      refine AllReadyIn.cons rfl (fun K' hK' => ?a122) ?b123
      go_simp
      refine hK' _ _ (set_listed (listed' := #[false, true, true, true, true, false, false, false, false, false, false]) (by kernel_rfl) ?c124); clear hK' K'
      refine ?n1234
      refine wpAnyIn_ready (rs := [0, 5]) (by kernel_rfl) (by simp) ?q125
      refine AllReadyIn.cons rfl (fun K' hK' => ?a126) ?b127
      go_simp
      refine hK' _ _ (set_listed (listed' := #[true, true, true, true, true, false, false, false, false, false, false]) (by kernel_rfl) ?c128); clear hK' K'
      refine ?n01234
      refine AllReadyIn.cons rfl (fun K' hK' => ?a129) ?b130
      go_simp
      refine hK' _ _ (set_listed (listed' := #[false, true, true, true, true, true, false, false, false, false, false]) (by kernel_rfl) ?c131); clear hK' K'
      refine ?n12345
      refine wpAnyIn_ready (rs := [0, 6]) (by kernel_rfl) (by simp) ?q132
      refine AllReadyIn.cons rfl (fun K' hK' => ?a133) ?b134
      go_simp
      refine hK' _ _ (set_listed (listed' := #[true, true, true, true, true, true, false, false, false, false, false]) (by kernel_rfl) ?c135); clear hK' K'
      refine ?n012345
      refine AllReadyIn.cons rfl (fun K' hK' => ?a136) ?b137
      go_simp
      refine hK' _ _ (set_listed (listed' := #[false, true, true, true, true, true, true, false, false, false, false]) (by kernel_rfl) ?c138); clear hK' K'
      refine ?n123456
      refine wpAnyIn_ready (rs := [0, 7]) (by kernel_rfl) (by simp) ?q139
      refine AllReadyIn.cons rfl (fun K' hK' => ?a140) ?b141
      go_simp
      refine hK' _ _ (set_listed (listed' := #[true, true, true, true, true, true, true, false, false, false, false]) (by kernel_rfl) ?c142); clear hK' K'
      refine ?n0123456
      refine AllReadyIn.cons rfl (fun K' hK' => ?a143) ?b144
      refine stepIn_app rfl (.tmp 19) (.tmp 21) rfl B E1 _ _ fs rfl (h1.alloc _).drew _ 1 1 [x] rfl (Rd.lit _ _ _).drew hfl1 hbV ?_; intro D d w2 r1 r2 r3; obtain ⟨s0, s1, s2, s3⟩ := hqd.app1 (ob := .cells #[.int .i64 x] 3) (by decide) r1 r2 r3; have t0 := s0.cell 0; have t2 := s0.frozen 0; have t4 := s0.lt; simp at t0; obtain ⟨u0, u1⟩ := HB2.out _ r2; have FIN := Lib.hid (fun a => HN.out _ _ _ a s1 (Chg.undrew s2) s3); clear s0 s1 s2 s3 r1 r2 r3
      refine hK' _ _ (set_listed (listed' := #[false, true, true, true, true, true, true, true, false, false, false]) (by kernel_rfl) ?c145); clear hK' K'
      refine wpAnyIn_ready (rs := [0]) (by kernel_rfl) (by simp) ?q146
      refine AllReadyIn.cons rfl (fun K' hK' => ?a147) ?b148
      go_simp
      refine hK' _ _ (set_listed (listed' := #[true, true, true, true, true, true, true, true, false, false, false]) (by kernel_rfl) ?c149); clear hK' K'
      refine wpAnyIn_ready (rs := [8]) (by kernel_rfl) (by simp) ?q150
      refine AllReadyIn.cons rfl (fun K' hK' => ?a151) ?b152
      go_simp
      refine hK' _ _ (set_listed (listed' := #[true, true, true, true, true, true, true, true, true, false, false]) (by kernel_rfl) ?c153); clear hK' K'
      refine wpAnyIn_ready (rs := [9]) (by kernel_rfl) (by simp) ?q154
      refine AllReadyIn.cons rfl (fun K' hK' => ?a155) ?b156
      go_simp
      refine hK' _ _ (set_listed (listed' := #[true, true, true, true, true, true, true, true, true, true, false]) (by kernel_rfl) ?c157); clear hK' K'
      refine wpAnyIn_ready (rs := [10]) (by kernel_rfl) (by simp) ?q158
      refine AllReadyIn.cons rfl (fun K' hK' => ?a159) ?b160
      go_simp
      refine hK' _ _ (set_listed (listed' := #[true, true, true, true, true, true, true, true, true, true, true]) (by kernel_rfl) ?c161); clear hK' K'
      refine wpAnyIn_done (by kernel_rfl) ?_ _
      gi_wp2
      exact FIN.out _
      exact AllReadyIn.nil
      exact AllReadyIn.nil
      exact AllReadyIn.nil
      exact AllReadyIn.nil
      exact AllReadyIn.nil
      exact AllReadyIn.nil
      exact AllReadyIn.nil
      refine AllReadyIn.cons rfl (fun K' hK' => ?a162) ?b163
      go_simp
      refine hK' _ _ (set_listed (listed' := #[false, true, true, true, false, true, false, false, false, false, false]) (by kernel_rfl) ?c164); clear hK' K'
      refine ?n1235
      refine wpAnyIn_ready (rs := [0, 4, 6]) (by kernel_rfl) (by simp) ?q165
      refine AllReadyIn.cons rfl (fun K' hK' => ?a166) ?b167
      go_simp
      refine hK' _ _ (set_listed (listed' := #[true, true, true, true, false, true, false, false, false, false, false]) (by kernel_rfl) ?c168); clear hK' K'
      refine ?n01235
      refine AllReadyIn.cons rfl (fun K' hK' => ?a169) ?b170
      go_simp
      refine hK' _ _ (set_listed (listed' := #[false, true, true, true, true, true, false, false, false, false, false]) (by kernel_rfl) ?c171); clear hK' K'
      refine ?n12345
      refine AllReadyIn.cons rfl (fun K' hK' => ?a172) ?b173
      go_simp
      refine hK' _ _ (set_listed (listed' := #[false, true, true, true, false, true, true, false, false, false, false]) (by kernel_rfl) ?c174); clear hK' K'
      refine ?n12356
      refine wpAnyIn_ready (rs := [0, 4]) (by kernel_rfl) (by simp) ?q175
      refine AllReadyIn.cons rfl (fun K' hK' => ?a176) ?b177
      go_simp
      refine hK' _ _ (set_listed (listed' := #[true, true, true, true, false, true, true, false, false, false, false]) (by kernel_rfl) ?c178); clear hK' K'
      refine ?n012356
      refine AllReadyIn.cons rfl (fun K' hK' => ?a179) ?b180
      go_simp
      refine hK' _ _ (set_listed (listed' := #[false, true, true, true, true, true, true, false, false, false, false]) (by kernel_rfl) ?c181); clear hK' K'
      refine ?n123456
      exact AllReadyIn.nil
      exact AllReadyIn.nil
      exact AllReadyIn.nil
      refine AllReadyIn.cons rfl (fun K' hK' => ?a182) ?b183
      go_simp
      refine hK' _ _ (set_listed (listed' := #[false, true, true, false, false, true, false, false, false, false, false]) (by kernel_rfl) ?c184); clear hK' K'
      refine ?n125
      refine wpAnyIn_ready (rs := [0, 3, 6]) (by kernel_rfl) (by simp) ?q185
      refine AllReadyIn.cons rfl (fun K' hK' => ?a186) ?b187
      go_simp
      refine hK' _ _ (set_listed (listed' := #[true, true, true, false, false, true, false, false, false, false, false]) (by kernel_rfl) ?c188); clear hK' K'
      refine ?n0125
      refine AllReadyIn.cons rfl (fun K' hK' => ?a189) ?b190
      go_simp
      refine hK' _ _ (set_listed (listed' := #[false, true, true, true, false, true, false, false, false, false, false]) (by kernel_rfl) ?c191); clear hK' K'
      refine ?n1235
      refine AllReadyIn.cons rfl (fun K' hK' => ?a192) ?b193
      go_simp
      refine hK' _ _ (set_listed (listed' := #[false, true, true, false, false, true, true, false, false, false, false]) (by kernel_rfl) ?c194); clear hK' K'
      refine ?n1256
      refine wpAnyIn_ready (rs := [0, 3]) (by kernel_rfl) (by simp) ?q195
      refine AllReadyIn.cons rfl (fun K' hK' => ?a196) ?b197
      go_simp
      refine hK' _ _ (set_listed (listed' := #[true, true, true, false, false, true, true, false, false, false, false]) (by kernel_rfl) ?c198); clear hK' K'
      refine ?n01256
      refine AllReadyIn.cons rfl (fun K' hK' => ?a199) ?b200
      go_simp
      refine hK' _ _ (set_listed (listed' := #[false, true, true, true, false, true, true, false, false, false, false]) (by kernel_rfl) ?c201); clear hK' K'
      refine ?n12356
      exact AllReadyIn.nil
      exact AllReadyIn.nil
      exact AllReadyIn.nil
      refine AllReadyIn.cons rfl (fun K' hK' => ?a202) ?b203
      go_simp
      refine hK' _ _ (set_listed (listed' := #[false, true, false, false, false, true, false, false, false, false, false]) (by kernel_rfl) ?c204); clear hK' K'
      refine ?n15
      refine wpAnyIn_ready (rs := [0, 2, 6]) (by kernel_rfl) (by simp) ?q205
      refine AllReadyIn.cons rfl (fun K' hK' => ?a206) ?b207
      go_simp
      refine hK' _ _ (set_listed (listed' := #[true, true, false, false, false, true, false, false, false, false, false]) (by kernel_rfl) ?c208); clear hK' K'
      refine ?n015
      refine AllReadyIn.cons rfl (fun K' hK' => ?a209) ?b210
      go_simp
      refine hK' _ _ (set_listed (listed' := #[false, true, true, false, false, true, false, false, false, false, false]) (by kernel_rfl) ?c211); clear hK' K'
      refine ?n125
      refine AllReadyIn.cons rfl (fun K' hK' => ?a212) ?b213
      go_simp
      refine hK' _ _ (set_listed (listed' := #[false, true, false, false, false, true, true, false, false, false, false]) (by kernel_rfl) ?c214); clear hK' K'
      refine ?n156
      refine wpAnyIn_ready (rs := [0, 2]) (by kernel_rfl) (by simp) ?q215
      refine AllReadyIn.cons rfl (fun K' hK' => ?a216) ?b217
      go_simp
      refine hK' _ _ (set_listed (listed' := #[true, true, false, false, false, true, true, false, false, false, false]) (by kernel_rfl) ?c218); clear hK' K'
      refine ?n0156
      refine AllReadyIn.cons rfl (fun K' hK' => ?a219) ?b220
      go_simp
      refine hK' _ _ (set_listed (listed' := #[false, true, true, false, false, true, true, false, false, false, false]) (by kernel_rfl) ?c221); clear hK' K'
      refine ?n1256
      exact AllReadyIn.nil
      exact AllReadyIn.nil
      exact AllReadyIn.nil
      refine AllReadyIn.cons rfl (fun K' hK' => ?a222) ?b223
      go_simp
      refine hK' _ _ (set_listed (listed' := #[false, false, false, false, false, true, false, false, false, false, false]) (by kernel_rfl) ?c224); clear hK' K'
      refine ?n5
      refine wpAnyIn_ready (rs := [0, 1, 6]) (by kernel_rfl) (by simp) ?q225
      refine AllReadyIn.cons rfl (fun K' hK' => ?a226) ?b227
      go_simp
      refine hK' _ _ (set_listed (listed' := #[true, false, false, false, false, true, false, false, false, false, false]) (by kernel_rfl) ?c228); clear hK' K'
      refine ?n05
      refine AllReadyIn.cons rfl (fun K' hK' => ?a229) ?b230
      go_simp
      refine hK' _ _ (set_listed (listed' := #[false, true, false, false, false, true, false, false, false, false, false]) (by kernel_rfl) ?c231); clear hK' K'
      refine ?n15
      refine AllReadyIn.cons rfl (fun K' hK' => ?a232) ?b233
      go_simp
      refine hK' _ _ (set_listed (listed' := #[false, false, false, false, false, true, true, false, false, false, false]) (by kernel_rfl) ?c234); clear hK' K'
      refine ?n56
      refine wpAnyIn_ready (rs := [0, 1]) (by kernel_rfl) (by simp) ?q235
      refine AllReadyIn.cons rfl (fun K' hK' => ?a236) ?b237
      go_simp
      refine hK' _ _ (set_listed (listed' := #[true, false, false, false, false, true, true, false, false, false, false]) (by kernel_rfl) ?c238); clear hK' K'
      refine ?n056
      refine AllReadyIn.cons rfl (fun K' hK' => ?a239) ?b240
      go_simp
      refine hK' _ _ (set_listed (listed' := #[false, true, false, false, false, true, true, false, false, false, false]) (by kernel_rfl) ?c241); clear hK' K'
      refine ?n156
      exact AllReadyIn.nil
      exact AllReadyIn.nil
      exact AllReadyIn.nil
    · rw [if_neg hx, List.append_nil] at hR
      have HN := Lib.hid (fun (a : Act) => FrI.no (xs := xs) (A := A) (i := i) (a := a) (Ix := fun _ _ _ => False) (hi := W.heap.size + 2) hR hqV hcV hfV hBV hsV)
      have hd0 : decide (0 < x) = false := by simpa using hx
      clear hR hkp hqV hBV cs hR0 hI0
      gi_wp2
      exact HN.out _
  case done =>
    rintro D ys V hD hcame hFr hK
    obtain ⟨E1, E2, d1, d2, hqV, hcV, hfV, hBV, hsV⟩ := id hFr
    have c0 := hBV.cell 0
    have k0 := hBV.lt
    simp at c0
    have hx := hcame
    unfold Came at hx
    rw [List.drop_zero] at hx
    have hL : (f ++ right (ys.map (·.2))).reverse ++ b = right xs ++ (f.reverse ++ b) := by rw [hx, right_rev]; simp
    have hlen : (right xs ++ (f.reverse ++ b)).length ≤ 100000 := by have := right_le xs; simp; omega
    have hGQ : GQ V B K E1 E2 (right xs ++ (f.reverse ++ b)) := ⟨d1, d2, _, b, hqV, hL.symm, hlen⟩
    have HF := Lib.hid hFr
    have HX := Lib.hid hL
    have HLn := Lib.hid hlen
    have HE := Lib.hid (fun V'' (h : FrI W B K A1 A2 f b W.heap.size ys V'') => FrI.fin HX.out HLn.out h)
    have HO := Lib.hid (fun q => OwnFrom.putObj (l := D) (FrI.own W B K A1 A2 f b W.heap.size W0.heap.size (by omega)) (Obj.deferred none) (FrI.own W B K A1 A2 f b W.heap.size W0.heap.size (by omega) ys V (V.drewN q) none HF.out ⟨rfl, rfl, rfl, Nat.le_refl _, fun _ _ _ => rfl⟩ (fun r e => by cases e)) hD hK rfl)
    clear hx hcame hL hlen hqV hcV hfV hBV hsV hFr
    gi_wp2_with (refine ⟨trivial, ?_⟩; gi_at_call 11; refine (callsIn_wide.2 (len_any B K E1 E2 _ _ hGQ)).mono ?_; rintro e w9 ⟨rfl, q, rfl⟩)
    refine ⟨by simp, .inl ⟨_, _, rfl, run_takeDeferred (show (V.drewN q).heap[D]? = _ from hK), ?_⟩⟩
    have e : ((right xs).length + (f.length + b.length) : Int) = ((right xs ++ (f.reverse ++ b)).length : Nat) := by simp
    refine ⟨_, results_tmp rfl _ _ _, ?_, HE.out _ (HO.out q)⟩
    exact congrArg (fun z => Ending.returned (.int .i64 z)) e
  case stop =>
    rintro D c pre W _ _ h _
    exact h.elim
end Go.Proofs.Ytifflhombjljbaa
