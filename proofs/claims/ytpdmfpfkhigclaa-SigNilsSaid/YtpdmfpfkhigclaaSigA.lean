/- Signals: what is put into the heap's row. -/
import Derived.Test.YtpdmfpfkhigclaaRk
import Derived.Deep.RegionWith
import Derived.Deep.RegionLaw
import Derived.BigRegion
namespace Go.Proofs.Ytpdmfpfkhigclaa
open Go.ChangeShapes Go.WideShapes Go.ChangeAt Go.RowKit Go.Deep
set_option linter.unusedVariables false

theorem sig_info : (Try.prog.info? 52).map (fun i => (i.zero, i.size, i.bytes)) = some (some (.agg #[.int .i64 0, .int .i64 0]), 2, 16) := by kernel_rfl
theorem step_sig {ops : Array Oper} {o : Oper} {a : Act} {V : World} {K : Act → World → Prop} {Q : Exit → Act → World → Prop} {F : Prop} (hgd : o.guard = none) (s x : Operand)
    (ho : o.op = .call { callee := .builtin .append, args := #[s, x], argTypes := #[40, 40] })
    (base : Nat) (A : Option Addr) (n c : Nat) (xs : List (List Int)) (hs : a.eval s = .slice A n c) (hown : Row V base 52 2 A n c (kv xs))
    (D : Option Addr) (m d : Nat) (ys : List (List Int)) (hx : a.eval x = .slice D m d) (hr : Rd V 2 D m (kv ys))
    (h63 : n + m ≤ 1048576) (hbase : base ≤ V.heap.size)
    (h : ∀ A' c' w', Row w' base 52 2 A' (n + m) c' (kv (xs ++ ys)) → V.grownBy w' (blk A) → (blk A' = blk A ∨ blk A' = some V.heap.size) → K (a.put o.dst (.slice A' (n + m) c')) w') :
    if Region.wanted o (yielded ops a.tmps) = true then Oper.wp Try.prog o a V K Q else F := by
  obtain ⟨i0, hi, hz0, hz1, hz2⟩ := info_parts sig_info
  refine step_append_rows V hgd s x 40 ho base 52 i0 (.agg #[.int .i64 0, .int .i64 0]) 2 16 Try.underlying40 hi hz0 hz1 hz2 rfl (by decide) A n c (kv xs) hs hown D m d (kv ys) hx hr (kv_one ys) h63 (by decide) hbase ?_
  intro A' c' w' h1 h2 h3
  exact h A' c' w' (by rw [kv_append]; exact h1) h2 h3
set_option maxRecDepth 100000 in
set_option maxHeartbeats 4000000 in
theorem push_any (W : World) (base b : Nat) (A : Option Addr) (n c : Nat) (cs : Array Value) (es : List (List Int)) (m : Nat) (due : Int) (hB : Blk W b 46 cs) (hs : cs.size = 65) (h0 : cs[0]? = some (.slice A n c)) (hR : Row W base 52 2 A n c (kv es)) (hm : m < 64) (hn : n ≤ 1000) (hbase : base ≤ W.heap.size) :
    Calls Try.prog 79 #[.pointer (some ⟨b, 0, none⟩), .iface 52 (.agg #[.int .i64 (m : Int), .int .i64 due])] W fun e W' => e = .returned (.tuple #[]) ∧ ∃ A' c', Blk W' b 46 ((cs.setIfInBounds 0 (.slice A' (n + 1) c')).setIfInBounds (1 + m) (.int .i64 ((n : Int) + 1))) ∧ Row W' base 52 2 A' (n + 1) c' (kv (es ++ [[(m : Int), due]])) ∧ Chg (fun k => k = b ∨ blk A = some k) W W' := by
  have kb := hB.lt
  have e0 : W.cell? ⟨b, 0, none⟩ = some (.slice A n c) := (hB.cell 0).trans h0
  have f0 := hB.frozen 0
  have hta : ∀ (x y : Int) (V : World), (Instr.typeAssert (.iface 52 (.agg #[.int .i64 x, .int .i64 y])) 20 52 false).run Try.prog V = .ok (.agg #[.int .i64 x, .int .i64 y]) V := fun _ _ _ => by kernel_rfl
  have hn1 : n + 1 ≤ 1048576 := by omega
  have hlit : Rd ((W.alloc (.cells #[.int .i64 (m : Int), .int .i64 due] 52)).alloc (.cells #[.int .i64 (m : Int), .int .i64 due] 52)).drew 2 (some ⟨W.heap.size + 1, 0, none⟩) 1 (kv [[(m : Int), due]]) := (Rd.litk _ [(m : Int), due] _ _ rfl 2 rfl _ (by simp)).drew
  have hbb : base ≤ ((W.alloc (.cells #[.int .i64 (m : Int), .int .i64 due] 52)).alloc (.cells #[.int .i64 (m : Int), .int .i64 due] 52)).drew.heap.size := by
    show base ≤ ((W.alloc (.cells #[.int .i64 (m : Int), .int .i64 due] 52)).alloc (.cells #[.int .i64 (m : Int), .int .i64 due] 52)).heap.size
    simp; omega
  have hbA : some b ≠ blk A := fun e => hR.blk_ne hB (by decide) e.symm
  have hWA : some W.heap.size ≠ blk A := fun e => by have := (hR.blk_lt _ e.symm).2; omega
  have hWb : W.heap.size ≠ b := by omega
  have hbW : b ≠ W.heap.size := by omega
  have key : ∀ (D : Option Addr) (d : Nat) (w2 : World), ((W.alloc (.cells #[.int .i64 (m : Int), .int .i64 due] 52)).alloc (.cells #[.int .i64 (m : Int), .int .i64 due] 52)).drew.grownBy w2 (blk A) → Row w2 base 52 2 D (n + 1) d (kv (es ++ [[(m : Int), due]])) →
      Blk w2 b 46 cs ∧ w2.cell? ⟨b, 0, none⟩ = some (.slice A n c) ∧ w2.frozen? ⟨b, 0, none⟩ = false ∧ w2.cell? ⟨W.heap.size, 0, none⟩ = some (.int .i64 (m : Int)) ∧ (∃ v, w2.cell? ⟨b, 1 + m, none⟩ = some v) ∧ w2.frozen? ⟨b, 1 + m, none⟩ = false ∧ b < w2.heap.size ∧ W.heap.size < w2.heap.size ∧
      ∀ q, Blk (((w2.setCell ⟨b, 0, none⟩ (.slice D (n + 1) d)).drewN q).setCell ⟨b, 1 + m, none⟩ (.int .i64 ((n : Int) + 1))) b 46 ((cs.setIfInBounds 0 (.slice D (n + 1) d)).setIfInBounds (1 + m) (.int .i64 ((n : Int) + 1))) ∧
        Row (((w2.setCell ⟨b, 0, none⟩ (.slice D (n + 1) d)).drewN q).setCell ⟨b, 1 + m, none⟩ (.int .i64 ((n : Int) + 1))) base 52 2 D (n + 1) d (kv (es ++ [[(m : Int), due]])) ∧ Chg (fun k => k = b ∨ blk A = some k) W (((w2.setCell ⟨b, 0, none⟩ (.slice D (n + 1) d)).drewN q).setCell ⟨b, 1 + m, none⟩ (.int .i64 ((n : Int) + 1))) := fun D d w2 hg hr => by
    have hB2 := (((hB.alloc (.cells #[.int .i64 (m : Int), .int .i64 due] 52)).alloc (.cells #[.int .i64 (m : Int), .int .i64 due] 52)).drew).grown hg hbA
    have hT := (((Blk.new W 52 #[.int .i64 (m : Int), .int .i64 due]).alloc (.cells #[.int .i64 (m : Int), .int .i64 due] 52)).drew).grown hg hWA
    have hDb : blk D ≠ some b := hr.blk_ne hB2 (by decide)
    refine ⟨hB2, (hB2.cell 0).trans h0, hB2.frozen 0, hT.cell 0, ⟨cs[1 + m]'(by omega), by rw [hB2.cell]; exact Array.getElem?_eq_getElem (by omega)⟩, hB2.frozen _, hB2.lt, hT.lt, fun q => ⟨?_, ?_, ?_⟩⟩
    · exact ((hB2.set_ 0 (.slice D (n + 1) d)).drewN q).set_ (1 + m) _
    · exact ((hr.setCell (p := ⟨b, 0, none⟩) hDb (.slice D (n + 1) d)).drewN q).setCell (p := ⟨b, 1 + m, none⟩) hDb _
    · refine Chg.setCell (p := ⟨b, 1 + m, none⟩) ((Chg.setCell (p := ⟨b, 0, none⟩) ?_ (.inl (.inl rfl)) _).drewN q) (.inl (.inl rfl)) _
      exact ((((Chg.refl _ _).alloc _).alloc _).drew).grown hg (fun k hk => .inl (.inr hk))
  have KEY := Lib.hid key
  have m0 : (0 : Int) ≤ (m : Int) := by omega
  have m1 : (m : Int) < 64 := by omega
  have n0 : (n : Int) ≤ 1000 := by omega
  clear key
  go_enter Try.func79, Try.ntmps79
  go_wp2
  go_region_law (refine step_sig rfl (.tmp 11) (.tmp 13) rfl base A n c es rfl ((hR.alloc _).alloc _).drew _ 1 1 [[(m : Int), due]] rfl hlit hn1 hbb ?_; intro D d w2 r1 r2 r3; obtain ⟨y0, y1, y2, y3, ⟨y4v, y4⟩, y5, y6, y7, y8⟩ := KEY.out D d w2 r2 r1; have Y8 := Lib.hid y8; have R1 := Lib.hid r1; clear y8 r2 r3 y0 r1)
  all_goals
    go_simp
    go_wp2
    have y9 : ¬ 1 + m = 0 := by omega
    go_region
  all_goals
    go_wp2
    go_end0
    obtain ⟨z1, z2, z3⟩ := Y8.out 1
    exact ⟨rfl, D, d, z1, z2, z3⟩
end Go.Proofs.Ytpdmfpfkhigclaa
