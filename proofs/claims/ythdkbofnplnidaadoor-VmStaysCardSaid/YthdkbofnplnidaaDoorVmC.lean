/- Threads: at the beginning, cloned. -/
import Derived.Test.YthdkbofnplnidaaDoorRk0
import Derived.Deep.QuietTactic
import Derived.BigQuiet
import Derived.Deep.RegionHeld3
import Derived.WalkMore
namespace Go.Proofs.YthdkbofnplnidaaDoor
open Go.ChangeShapes Go.WideShapes Go.ChangeAt Go.RowKit Go.Deep
set_option linter.unusedVariables false
set_option linter.unusedSimpArgs false

theorem frame_info : (Tryd.prog.info? 54).map (fun i => (i.zero, i.size, i.bytes)) = some (some (.agg #[.int .i64 0, .int .i64 0]), 2, 16) := by kernel_rfl
theorem frame_cells : (Value.agg #[.int .i64 0, .int .i64 0]).cells.size = 2 := by kernel_rfl
theorem wpList_apR {ops : Array Oper} {rest : List Oper} {o : Oper} {a : Act} {V : World} {Q : Exit → Act → World → Prop} (hgd : o.guard = none) (s x : Operand)
    (ho : o.op = .call { callee := .builtin .append, args := #[s, x], argTypes := #[26, 26] }) (hE : o.type = 26)
    (base : Nat) (A : Option Addr) (n c : Nat) (xs : List (List Int)) (hs : a.eval s = .slice A n c) (hown : Row V base 54 2 A n c (kv xs))
    (D : Option Addr) (m d : Nat) (ys : List (List Int)) (hx : a.eval x = .slice D m d) (hr : Rd V 2 D m (kv ys))
    (h63 : n + m ≤ 1048576) (hbase : base ≤ V.heap.size)
    (h : ∀ A' c' w', Row w' base 54 2 A' (n + m) c' (kv (xs ++ ys)) → V.grownBy w' (blk A) → (blk A' = blk A ∨ blk A' = some V.heap.size) → wpList Tryd.prog ops Q rest (a.put o.dst (.slice A' (n + m) c')) w') : wpList Tryd.prog ops Q (o :: rest) a V :=
  wpList_appk (P := Tryd.prog) 26 54 2 16 (.agg #[.int .i64 0, .int .i64 0]) Tryd.underlying26 frame_info frame_cells (by decide) (by decide) hgd s x ho hE base A n c xs hs hown D m d ys hx hr h63 hbase h
set_option maxHeartbeats 1000000 in
theorem clone_f (A : Option Addr) (n c : Nat) (es : List (List Int)) (W : World) (hu : Uni 2 es) (hA : Rd W 2 A n (kv es)) (hm : n ≤ 100000) :
    Calls Tryd.prog 30 #[.slice A n c] W fun e W' => ∃ A' c', e = .returned (.slice A' n c') ∧ Row W' W.heap.size 54 2 A' n c' (kv es) ∧ Chg (fun _ => False) W W' := by
  have hn1 := hA.lenk hu (by decide)
  rcases A with _ | ad
  · obtain rfl : n = 0 := by
      rcases Nat.eq_zero_or_pos n with h | h
      · exact h
      · obtain ⟨_, _, e, _⟩ := hA.2 h
        cases e
    obtain rfl : es = [] := List.eq_nil_of_length_eq_zero (by omega)
    have heq := fun (W : World) => Lib.run_eql_slice_nil (P := Tryd.prog) W 26 54 none 0 c 0 0 Tryd.underlying26
    go_enter Tryd.func30, Tryd.ntmps30
    go_wp2
    go_ret
    exact ⟨none, 0, rfl, Row.nil _ _ _ _, Chg.refl _ _⟩
  · have heq := fun (W : World) => Lib.run_eql_slice_nil (P := Tryd.prog) W 26 54 (some ad) n c 0 0 Tryd.underlying26
    go_enter Tryd.func30, Tryd.ntmps30
    have hrow0 : Row (W.alloc (.cells #[] 54)) W.heap.size 54 2 (some ⟨W.heap.size, 0, none⟩) 0 0 (kv []) := ⟨rfl, Nat.le_refl _, Nat.zero_le _, .inr ⟨W.heap.size, #[], rfl, Nat.le_refl _, heap_alloc_new W _, by simp, rfl⟩⟩
    go_wp2_with (at_builtin; refine wpList_apR rfl (.tmp 5) (.tmp 6) rfl rfl W.heap.size _ 0 0 [] rfl hrow0 (some ad) n c es rfl (hA.alloc _) ?c1 ?c2 ?_; (case c1 => omega); (case c2 => simp); intro A2 c2 w2 h1 h2 h3)
    go_ret
    refine ⟨A2, c2, rfl, by simpa using h1, Chg.grown ((Chg.refl _ _).alloc _) h2 (fun g hg => .inr ?_)⟩
    simp [blk] at hg; omega
theorem Blk.set12 {w : World} {g : Nat} {t : TypeId} {z0 z1 z2 z3 z4 z5 z6 z7 z8 z9 z10 z11 : Value} (x0 x1 x2 x3 x4 x5 x6 x7 x8 x9 x10 x11 : Value) (h : Blk w g t #[z0, z1, z2, z3, z4, z5, z6, z7, z8, z9, z10, z11]) :
    Blk ((((((((((((w.setCell ⟨g, 0, none⟩ x0).setCell ⟨g, 1, none⟩ x1).setCell ⟨g, 2, none⟩ x2).setCell ⟨g, 3, none⟩ x3).setCell ⟨g, 4, none⟩ x4).setCell ⟨g, 5, none⟩ x5).setCell ⟨g, 6, none⟩ x6).setCell ⟨g, 7, none⟩ x7).setCell ⟨g, 8, none⟩ x8).setCell ⟨g, 9, none⟩ x9).setCell ⟨g, 10, none⟩ x10).setCell ⟨g, 11, none⟩ x11) g t #[x0, x1, x2, x3, x4, x5, x6, x7, x8, x9, x10, x11] := by
  have := (((((((((((h.set_ 0 x0).set_ 1 x1).set_ 2 x2).set_ 3 x3).set_ 4 x4).set_ 5 x5).set_ 6 x6).set_ 7 x7).set_ 8 x8).set_ 9 x9).set_ 10 x10).set_ 11 x11
  simpa using this
theorem chg12 {w0 w : World} {g : Nat} (x0 x1 x2 x3 x4 x5 x6 x7 x8 x9 x10 x11 : Value) (h : Chg (fun _ => False) w0 w) (hg : w0.heap.size ≤ g) :
    Chg (fun _ => False) w0 ((((((((((((w.setCell ⟨g, 0, none⟩ x0).setCell ⟨g, 1, none⟩ x1).setCell ⟨g, 2, none⟩ x2).setCell ⟨g, 3, none⟩ x3).setCell ⟨g, 4, none⟩ x4).setCell ⟨g, 5, none⟩ x5).setCell ⟨g, 6, none⟩ x6).setCell ⟨g, 7, none⟩ x7).setCell ⟨g, 8, none⟩ x8).setCell ⟨g, 9, none⟩ x9).setCell ⟨g, 10, none⟩ x10).setCell ⟨g, 11, none⟩ x11) :=
  (((((((((((h.setCell (.inr hg) _).setCell (.inr hg) _).setCell (.inr hg) _).setCell (.inr hg) _).setCell (.inr hg) _).setCell (.inr hg) _).setCell (.inr hg) _).setCell (.inr hg) _).setCell (.inr hg) _).setCell (.inr hg) _).setCell (.inr hg) _).setCell (.inr hg) _
theorem row12 {w : World} {B n c size : Nat} {E : TypeId} {A : Option Addr} {xs : List Value} {g : Nat} (x0 x1 x2 x3 x4 x5 x6 x7 x8 x9 x10 x11 : Value) (h : Row w B E size A n c xs) (hg : blk A ≠ some g) :
    Row ((((((((((((w.setCell ⟨g, 0, none⟩ x0).setCell ⟨g, 1, none⟩ x1).setCell ⟨g, 2, none⟩ x2).setCell ⟨g, 3, none⟩ x3).setCell ⟨g, 4, none⟩ x4).setCell ⟨g, 5, none⟩ x5).setCell ⟨g, 6, none⟩ x6).setCell ⟨g, 7, none⟩ x7).setCell ⟨g, 8, none⟩ x8).setCell ⟨g, 9, none⟩ x9).setCell ⟨g, 10, none⟩ x10).setCell ⟨g, 11, none⟩ x11) B E size A n c xs :=
  (((((((((((h.setCell hg _).setCell hg _).setCell hg _).setCell hg _).setCell hg _).setCell hg _).setCell hg _).setCell hg _).setCell hg _).setCell hg _).setCell hg _).setCell hg _
theorem chg12s {w : World} {g : Nat} (x0 x1 x2 x3 x4 x5 x6 x7 x8 x9 x10 x11 : Value) :
    Chg (fun k => k = g) w ((((((((((((w.setCell ⟨g, 0, none⟩ x0).setCell ⟨g, 1, none⟩ x1).setCell ⟨g, 2, none⟩ x2).setCell ⟨g, 3, none⟩ x3).setCell ⟨g, 4, none⟩ x4).setCell ⟨g, 5, none⟩ x5).setCell ⟨g, 6, none⟩ x6).setCell ⟨g, 7, none⟩ x7).setCell ⟨g, 8, none⟩ x8).setCell ⟨g, 9, none⟩ x9).setCell ⟨g, 10, none⟩ x10).setCell ⟨g, 11, none⟩ x11) :=
  ((((((((((((Chg.refl (fun k => k = g) w).setCell (p := ⟨g, 0, none⟩) (.inl rfl) _).setCell (p := ⟨g, 1, none⟩) (.inl rfl) _).setCell (p := ⟨g, 2, none⟩) (.inl rfl) _).setCell (p := ⟨g, 3, none⟩) (.inl rfl) _).setCell (p := ⟨g, 4, none⟩) (.inl rfl) _).setCell (p := ⟨g, 5, none⟩) (.inl rfl) _).setCell (p := ⟨g, 6, none⟩) (.inl rfl) _).setCell (p := ⟨g, 7, none⟩) (.inl rfl) _).setCell (p := ⟨g, 8, none⟩) (.inl rfl) _).setCell (p := ⟨g, 9, none⟩) (.inl rfl) _).setCell (p := ⟨g, 10, none⟩) (.inl rfl) _).setCell (p := ⟨g, 11, none⟩) (.inl rfl) _
set_option maxRecDepth 100000 in
set_option maxHeartbeats 4000000 in
theorem new_any (f a : Int) (W : World) : Calls Tryd.prog 15 #[.int .i64 f, .int .i64 a] W fun e W' => e = .returned (.agg #[.int .i64 f, .int .i64 0, .int .i64 a, .int .i64 0, .int .i64 0, .int .i64 0, .int .i64 0, .int .i64 0, .int .i64 0, .int .i64 0, .slice none 0 0, .bool false]) ∧ Chg (fun _ => False) W W' := by
  go_enter Tryd.func15, Tryd.ntmps15
  go_wp2
  refine bodyPost_ret (results_cell_row rfl _ _ W.heap.size 28 #[.int .i64 f, .int .i64 0, .int .i64 a, .int .i64 0, .int .i64 0, .int .i64 0, .int .i64 0, .int .i64 0, .int .i64 0, .int .i64 0, .slice none 0 0, .bool false] (0, 0) _ rfl (Blk.new W 28 _) Tryd.underlying28 rfl (by kernel_rfl)) rfl ?_
  exact ⟨rfl, (Chg.refl _ _).alloc _⟩
set_option maxRecDepth 100000 in
set_option maxHeartbeats 4000000 in
theorem rnew_any (f a : Int) (W : World) : Calls Tryd.prog 16 #[.int .i64 f, .int .i64 a] W fun e W' => e = .returned (.agg #[.int .i64 f, .int .i64 0, .int .i64 a, .int .i64 0, .int .i64 0, .int .i64 0, .int .i64 0, .int .i64 0, .int .i64 0, .int .i64 0, .slice none 0 0, .bool false]) ∧ Chg (fun _ => False) W W' := by
  go_enter Tryd.func16, Tryd.ntmps16
  go_wp2
  refine bodyPost_ret (results_cell_row rfl _ _ W.heap.size 28 #[.int .i64 f, .int .i64 0, .int .i64 a, .int .i64 0, .int .i64 0, .int .i64 0, .int .i64 0, .int .i64 0, .int .i64 0, .int .i64 0, .slice none 0 0, .bool false] (0, 0) _ rfl ((Blk.new W 28 _).alloc _) Tryd.underlying28 rfl (by kernel_rfl)) rfl ?_
  exact ⟨rfl, ((Chg.refl _ _).alloc _).alloc _⟩
set_option maxRecDepth 100000 in
set_option maxHeartbeats 8000000 in
theorem tclone_any (f pc r0 r1 r2 r3 r4 r5 r6 r7 : Int) (D : Option Addr) (n cap : Nat) (d : Bool) (es : List (List Int)) (W : World) (hu : Uni 2 es) (hD : Rd W 2 D n (kv es)) (hn : n ≤ 1000) :
    Calls Tryd.prog 18 #[.agg #[.int .i64 f, .int .i64 pc, .int .i64 r0, .int .i64 r1, .int .i64 r2, .int .i64 r3, .int .i64 r4, .int .i64 r5, .int .i64 r6, .int .i64 r7, .slice D n cap, .bool d]] W fun e W' => ∃ D' c', e = .returned (.agg #[.int .i64 f, .int .i64 pc, .int .i64 r0, .int .i64 r1, .int .i64 r2, .int .i64 r3, .int .i64 r4, .int .i64 r5, .int .i64 r6, .int .i64 r7, .slice D' n c', .bool d]) ∧ Row W' W.heap.size 54 2 D' n c' (kv es) ∧ Chg (fun _ => False) W W' := by
  have hc0 : Chg (fun _ => False) W ((W.alloc (.cells #[.int .i64 f, .int .i64 pc, .int .i64 r0, .int .i64 r1, .int .i64 r2, .int .i64 r3, .int .i64 r4, .int .i64 r5, .int .i64 r6, .int .i64 r7, .slice D n cap, .bool d] 28)).alloc (.cells #[.int .i64 0, .int .i64 0, .int .i64 0, .int .i64 0, .int .i64 0, .int .i64 0, .int .i64 0, .int .i64 0, .int .i64 0, .int .i64 0, .slice none 0 0, .bool false] 28)) := ((Chg.refl _ _).alloc _).alloc _
  have HC0 := Lib.hid hc0
  have HT0 : Hid (Blk ((W.alloc (.cells #[.int .i64 f, .int .i64 pc, .int .i64 r0, .int .i64 r1, .int .i64 r2, .int .i64 r3, .int .i64 r4, .int .i64 r5, .int .i64 r6, .int .i64 r7, .slice D n cap, .bool d] 28)).alloc (.cells #[.int .i64 0, .int .i64 0, .int .i64 0, .int .i64 0, .int .i64 0, .int .i64 0, .int .i64 0, .int .i64 0, .int .i64 0, .int .i64 0, .slice none 0 0, .bool false] 28)) W.heap.size 28 #[.int .i64 f, .int .i64 pc, .int .i64 r0, .int .i64 r1, .int .i64 r2, .int .i64 r3, .int .i64 r4, .int .i64 r5, .int .i64 r6, .int .i64 r7, .slice D n cap, .bool d]) := Lib.hid ((Blk.new W 28 _).alloc _)
  have HZ0 : Hid (Blk ((W.alloc (.cells #[.int .i64 f, .int .i64 pc, .int .i64 r0, .int .i64 r1, .int .i64 r2, .int .i64 r3, .int .i64 r4, .int .i64 r5, .int .i64 r6, .int .i64 r7, .slice D n cap, .bool d] 28)).alloc (.cells #[.int .i64 0, .int .i64 0, .int .i64 0, .int .i64 0, .int .i64 0, .int .i64 0, .int .i64 0, .int .i64 0, .int .i64 0, .int .i64 0, .slice none 0 0, .bool false] 28)) (W.heap.size + 1) 28 #[.int .i64 0, .int .i64 0, .int .i64 0, .int .i64 0, .int .i64 0, .int .i64 0, .int .i64 0, .int .i64 0, .int .i64 0, .int .i64 0, .slice none 0 0, .bool false]) := Lib.hid (by
    have h := Blk.new (W.alloc (.cells #[.int .i64 f, .int .i64 pc, .int .i64 r0, .int .i64 r1, .int .i64 r2, .int .i64 r3, .int .i64 r4, .int .i64 r5, .int .i64 r6, .int .i64 r7, .slice D n cap, .bool d] 28)) 28 #[.int .i64 0, .int .i64 0, .int .i64 0, .int .i64 0, .int .i64 0, .int .i64 0, .int .i64 0, .int .i64 0, .int .i64 0, .int .i64 0, .slice none 0 0, .bool false]
    rwa [show (W.alloc (.cells #[.int .i64 f, .int .i64 pc, .int .i64 r0, .int .i64 r1, .int .i64 r2, .int .i64 r3, .int .i64 r4, .int .i64 r5, .int .i64 r6, .int .i64 r7, .slice D n cap, .bool d] 28)).heap.size = W.heap.size + 1 from by simp] at h)
  have HS0 : Hid (((W.alloc (.cells #[.int .i64 f, .int .i64 pc, .int .i64 r0, .int .i64 r1, .int .i64 r2, .int .i64 r3, .int .i64 r4, .int .i64 r5, .int .i64 r6, .int .i64 r7, .slice D n cap, .bool d] 28)).alloc (.cells #[.int .i64 0, .int .i64 0, .int .i64 0, .int .i64 0, .int .i64 0, .int .i64 0, .int .i64 0, .int .i64 0, .int .i64 0, .int .i64 0, .slice none 0 0, .bool false] 28)).heap.size = W.heap.size + 2) := Lib.hid (by simp)
  have HCL := Lib.hid (clone_f D n cap es _ hu (hD.kept hc0 (fun _ _ h => h)) (by omega))
  clear hc0 hD
  go_enter Tryd.func18, Tryd.ntmps18
  go_wp2_with fail
  refine HCL.out.mono ?_
  rintro e w2 ⟨D2, c2, rfl, hr2, hc2⟩
  have hT2 := HT0.out.kept hc2 (fun h => h)
  have hZ2 := HZ0.out.kept hc2 (fun h => h)
  have t0 := hT2.cell 0
  have z0 := hZ2.cell 0
  have y0 := hZ2.frozen 0
  have t1 := hT2.cell 1
  have z1 := hZ2.cell 1
  have y1 := hZ2.frozen 1
  have t2 := hT2.cell 2
  have z2 := hZ2.cell 2
  have y2 := hZ2.frozen 2
  have t3 := hT2.cell 3
  have z3 := hZ2.cell 3
  have y3 := hZ2.frozen 3
  have t4 := hT2.cell 4
  have z4 := hZ2.cell 4
  have y4 := hZ2.frozen 4
  have t5 := hT2.cell 5
  have z5 := hZ2.cell 5
  have y5 := hZ2.frozen 5
  have t6 := hT2.cell 6
  have z6 := hZ2.cell 6
  have y6 := hZ2.frozen 6
  have t7 := hT2.cell 7
  have z7 := hZ2.cell 7
  have y7 := hZ2.frozen 7
  have t8 := hT2.cell 8
  have z8 := hZ2.cell 8
  have y8 := hZ2.frozen 8
  have t9 := hT2.cell 9
  have z9 := hZ2.cell 9
  have y9 := hZ2.frozen 9
  have t10 := hT2.cell 10
  have z10 := hZ2.cell 10
  have y10 := hZ2.frozen 10
  have t11 := hT2.cell 11
  have z11 := hZ2.cell 11
  have y11 := hZ2.frozen 11
  have y10' := hT2.frozen 10
  have tl := hT2.lt
  have zl := hZ2.lt
  simp at t0 z0 t1 z1 t2 z2 t3 z3 t4 z4 t5 z5 t6 z6 t7 z7 t8 z8 t9 z9 t10 z10 t11 z11
  have HZ2 := Lib.hid (hZ2.far (p := ⟨W.heap.size, 10, none⟩) (show W.heap.size + 1 ≠ W.heap.size by omega) (.slice D2 n c2))
  have HR2 := Lib.hid ((hr2.lower (show W.heap.size ≤ ((W.alloc (.cells #[.int .i64 f, .int .i64 pc, .int .i64 r0, .int .i64 r1, .int .i64 r2, .int .i64 r3, .int .i64 r4, .int .i64 r5, .int .i64 r6, .int .i64 r7, .slice D n cap, .bool d] 28)).alloc (.cells #[.int .i64 0, .int .i64 0, .int .i64 0, .int .i64 0, .int .i64 0, .int .i64 0, .int .i64 0, .int .i64 0, .int .i64 0, .int .i64 0, .slice none 0 0, .bool false] 28)).heap.size by rw [HS0.out]; omega)))
  have HRB := Lib.hid (fun g (hg : blk D2 = some g) => show W.heap.size + 2 ≤ g from by have := (hr2.blk_lt g hg).1; rw [HS0.out] at this; exact this)
  have HC2 := Lib.hid (HC0.out.trans hc2 (fun _ _ h => h))
  clear hT2 hZ2 hr2 hc2
  go_wp2
  refine bodyPost_ret (results_cell_row rfl _ _ (W.heap.size + 1) 28 #[.int .i64 f, .int .i64 pc, .int .i64 r0, .int .i64 r1, .int .i64 r2, .int .i64 r3, .int .i64 r4, .int .i64 r5, .int .i64 r6, .int .i64 r7, .slice D2 n c2, .bool d] (0, 0) _ rfl (Blk.set12 _ _ _ _ _ _ _ _ _ _ _ _ HZ2.out) Tryd.underlying28 rfl (by kernel_rfl)) rfl ?_
  refine ⟨D2, c2, rfl, ?_, chg12 _ _ _ _ _ _ _ _ _ _ _ _ (HC2.out.setCell (p := ⟨W.heap.size, 10, none⟩) (.inr (by show W.heap.size ≤ W.heap.size; omega)) _) (by omega)⟩
  exact row12 _ _ _ _ _ _ _ _ _ _ _ _ (HR2.out.setCell (p := ⟨W.heap.size, 10, none⟩) (fun h => by have := HRB.out _ h; simp at this; omega) _) (fun h => by have := HRB.out _ h; omega)
end Go.Proofs.YthdkbofnplnidaaDoor
