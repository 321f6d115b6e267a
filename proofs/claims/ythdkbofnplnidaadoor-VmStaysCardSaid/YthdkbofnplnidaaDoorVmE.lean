/- A thread does its instruction. -/
import Derived.Test.YthdkbofnplnidaaDoorVmC
import Derived.Test.YthdkbofnplnidaaDoorIsaBc
namespace Go.Proofs.YthdkbofnplnidaaDoor
open Go.ChangeShapes Go.WideShapes Go.ChangeAt Go.RowKit Go.Deep
set_option linter.unusedVariables false
set_option linter.unusedSimpArgs false

def thC (f pc : Int) (rs : List Int) (s : Value) (d : Bool) : Array Value := #[.int .i64 f, .int .i64 pc, .int .i64 (rs.getD 0 0), .int .i64 (rs.getD 1 0), .int .i64 (rs.getD 2 0), .int .i64 (rs.getD 3 0), .int .i64 (rs.getD 4 0), .int .i64 (rs.getD 5 0), .int .i64 (rs.getD 6 0), .int .i64 (rs.getD 7 0), s, .bool d]
theorem eight {rs : List Int} (h : rs.length = 8) : ∃ a b c d e f g i, rs = [a, b, c, d, e, f, g, i] := by
  match rs, h with
  | [a, b, c, d, e, f, g, i], _ => exact ⟨a, b, c, d, e, f, g, i, rfl⟩
theorem thC_set {rs : List Int} (h : rs.length = 8) {a : Nat} (ha : a < 8) (f pc v : Int) (s : Value) (d : Bool) : (thC f pc rs s d).setIfInBounds (2 + a) (.int .i64 v) = thC f pc (rs.set a v) s d := by
  obtain ⟨x0, x1, x2, x3, x4, x5, x6, x7, rfl⟩ := eight h
  match a, ha with
  | 0, _ => rfl
  | 1, _ => rfl
  | 2, _ => rfl
  | 3, _ => rfl
  | 4, _ => rfl
  | 5, _ => rfl
  | 6, _ => rfl
  | 7, _ => rfl
theorem thC_get {rs : List Int} (h : rs.length = 8) {a : Nat} (ha : a < 8) (f pc : Int) (s : Value) (d : Bool) : (thC f pc rs s d)[2 + a]? = some (.int .i64 (rs.getD a 0)) := by
  match a, ha with
  | 0, _ => rfl
  | 1, _ => rfl
  | 2, _ => rfl
  | 3, _ => rfl
  | 4, _ => rfl
  | 5, _ => rfl
  | 6, _ => rfl
  | 7, _ => rfl
/-- The boxes of 'do', in whatever world. -/
structure DoW (W w1 : World) (B : Nat) (f pc : Int) (rs : List Int) (D : Option Addr) (n c : Nat) (op a b e N : Int) : Prop where
  t : Blk w1 B 28 (thC f pc rs (.slice D n c) false)
  i : Blk w1 (B + 1) 32 #[.int .i64 op, .int .i64 a, .int .i64 b, .int .i64 e, .int .i64 N]
  z : Blk w1 (B + 2) 28 #[.int .i64 0, .int .i64 0, .int .i64 0, .int .i64 0, .int .i64 0, .int .i64 0, .int .i64 0, .int .i64 0, .int .i64 0, .int .i64 0, .slice none 0 0, .bool false]
  ch : Chg (fun _ => False) W w1
  lt : W.heap.size ≤ B
theorem doW0 (W : World) (f pc : Int) (rs : List Int) (D : Option Addr) (n c : Nat) (op a b e N : Int) : DoW W (((W.alloc (.cells #[.int .i64 f, .int .i64 pc, .int .i64 (rs.getD 0 0), .int .i64 (rs.getD 1 0), .int .i64 (rs.getD 2 0), .int .i64 (rs.getD 3 0), .int .i64 (rs.getD 4 0), .int .i64 (rs.getD 5 0), .int .i64 (rs.getD 6 0), .int .i64 (rs.getD 7 0), .slice D n c, .bool false] 28)).alloc (.cells #[.int .i64 op, .int .i64 a, .int .i64 b, .int .i64 e, .int .i64 N] 32)).alloc (.cells #[.int .i64 0, .int .i64 0, .int .i64 0, .int .i64 0, .int .i64 0, .int .i64 0, .int .i64 0, .int .i64 0, .int .i64 0, .int .i64 0, .slice none 0 0, .bool false] 28)) W.heap.size f pc rs D n c op a b e N := by
  refine ⟨((Blk.new W 28 _).alloc _).alloc _, ?_, ?_, (((Chg.refl _ _).alloc _).alloc _).alloc _, Nat.le_refl _⟩
  · have h := Blk.new (W.alloc (.cells #[.int .i64 f, .int .i64 pc, .int .i64 (rs.getD 0 0), .int .i64 (rs.getD 1 0), .int .i64 (rs.getD 2 0), .int .i64 (rs.getD 3 0), .int .i64 (rs.getD 4 0), .int .i64 (rs.getD 5 0), .int .i64 (rs.getD 6 0), .int .i64 (rs.getD 7 0), .slice D n c, .bool false] 28)) 32 #[.int .i64 op, .int .i64 a, .int .i64 b, .int .i64 e, .int .i64 N]
    rw [show (W.alloc (.cells #[.int .i64 f, .int .i64 pc, .int .i64 (rs.getD 0 0), .int .i64 (rs.getD 1 0), .int .i64 (rs.getD 2 0), .int .i64 (rs.getD 3 0), .int .i64 (rs.getD 4 0), .int .i64 (rs.getD 5 0), .int .i64 (rs.getD 6 0), .int .i64 (rs.getD 7 0), .slice D n c, .bool false] 28)).heap.size = W.heap.size + 1 from by simp] at h
    exact h.alloc _
  · have h := Blk.new ((W.alloc (.cells #[.int .i64 f, .int .i64 pc, .int .i64 (rs.getD 0 0), .int .i64 (rs.getD 1 0), .int .i64 (rs.getD 2 0), .int .i64 (rs.getD 3 0), .int .i64 (rs.getD 4 0), .int .i64 (rs.getD 5 0), .int .i64 (rs.getD 6 0), .int .i64 (rs.getD 7 0), .slice D n c, .bool false] 28)).alloc (.cells #[.int .i64 op, .int .i64 a, .int .i64 b, .int .i64 e, .int .i64 N] 32)) 28 #[.int .i64 0, .int .i64 0, .int .i64 0, .int .i64 0, .int .i64 0, .int .i64 0, .int .i64 0, .int .i64 0, .int .i64 0, .int .i64 0, .slice none 0 0, .bool false]
    rwa [show ((W.alloc (.cells #[.int .i64 f, .int .i64 pc, .int .i64 (rs.getD 0 0), .int .i64 (rs.getD 1 0), .int .i64 (rs.getD 2 0), .int .i64 (rs.getD 3 0), .int .i64 (rs.getD 4 0), .int .i64 (rs.getD 5 0), .int .i64 (rs.getD 6 0), .int .i64 (rs.getD 7 0), .slice D n c, .bool false] 28)).alloc (.cells #[.int .i64 op, .int .i64 a, .int .i64 b, .int .i64 e, .int .i64 N] 32)).heap.size = W.heap.size + 2 from by simp] at h
theorem get8 {r0 r1 r2 r3 r4 r5 r6 r7 : Int} {a : Nat} (ha : a < 8) : ∃ x, [r0, r1, r2, r3, r4, r5, r6, r7].getD a 0 = x ∧ ∀ (f pc : Int) (s : Value) (d : Value), (#[.int .i64 f, .int .i64 pc, .int .i64 r0, .int .i64 r1, .int .i64 r2, .int .i64 r3, .int .i64 r4, .int .i64 r5, .int .i64 r6, .int .i64 r7, s, d] : Array Value)[2 + a]? = some (.int .i64 x) := by
  refine ⟨_, rfl, fun f pc s d => ?_⟩
  match a, ha with
  | 0, _ => rfl
  | 1, _ => rfl
  | 2, _ => rfl
  | 3, _ => rfl
  | 4, _ => rfl
  | 5, _ => rfl
  | 6, _ => rfl
  | 7, _ => rfl
theorem set8 {r0 r1 r2 r3 r4 r5 r6 r7 : Int} {a : Nat} (ha : a < 8) (v : Int) : ∃ s0 s1 s2 s3 s4 s5 s6 s7, [r0, r1, r2, r3, r4, r5, r6, r7].set a v = [s0, s1, s2, s3, s4, s5, s6, s7] ∧ ∀ (f pc : Int) (s : Value) (d : Value), (#[.int .i64 f, .int .i64 pc, .int .i64 r0, .int .i64 r1, .int .i64 r2, .int .i64 r3, .int .i64 r4, .int .i64 r5, .int .i64 r6, .int .i64 r7, s, d] : Array Value).setIfInBounds (2 + a) (.int .i64 v) = #[.int .i64 f, .int .i64 pc, .int .i64 s0, .int .i64 s1, .int .i64 s2, .int .i64 s3, .int .i64 s4, .int .i64 s5, .int .i64 s6, .int .i64 s7, s, d] := by
  match a, ha with
  | 0, _ => exact ⟨v, r1, r2, r3, r4, r5, r6, r7, rfl, fun _ _ _ _ => rfl⟩
  | 1, _ => exact ⟨r0, v, r2, r3, r4, r5, r6, r7, rfl, fun _ _ _ _ => rfl⟩
  | 2, _ => exact ⟨r0, r1, v, r3, r4, r5, r6, r7, rfl, fun _ _ _ _ => rfl⟩
  | 3, _ => exact ⟨r0, r1, r2, v, r4, r5, r6, r7, rfl, fun _ _ _ _ => rfl⟩
  | 4, _ => exact ⟨r0, r1, r2, r3, v, r5, r6, r7, rfl, fun _ _ _ _ => rfl⟩
  | 5, _ => exact ⟨r0, r1, r2, r3, r4, v, r6, r7, rfl, fun _ _ _ _ => rfl⟩
  | 6, _ => exact ⟨r0, r1, r2, r3, r4, r5, v, r7, rfl, fun _ _ _ _ => rfl⟩
  | 7, _ => exact ⟨r0, r1, r2, r3, r4, r5, r6, v, rfl, fun _ _ _ _ => rfl⟩
theorem blk3 (W : World) (a b : Obj) (t : TypeId) (cs : Array Value) : Blk (((W.alloc a).alloc b).alloc (.cells cs t)) (W.heap.size + 1 + 1) t cs := by
  have h := Blk.new ((W.alloc a).alloc b) t cs
  rwa [show ((W.alloc a).alloc b).heap.size = W.heap.size + 1 + 1 from by simp] at h
theorem blk2 (W : World) (a b : Obj) (t : TypeId) (cs : Array Value) : Blk (((W.alloc a).alloc (.cells cs t)).alloc b) (W.heap.size + 1) t cs := by
  have h := Blk.new (W.alloc a) t cs
  rw [show (W.alloc a).heap.size = W.heap.size + 1 from by simp] at h
  exact h.alloc _
theorem blk1 (W : World) (a b : Obj) (t : TypeId) (cs : Array Value) : Blk (((W.alloc (.cells cs t)).alloc a).alloc b) W.heap.size t cs := ((Blk.new W t cs).alloc _).alloc _
def akI (op : Int) : Bool := decide (op = 10 ∨ op = 13 ∨ 20 ≤ op ∧ op ≤ 23)
theorem asks_any (op : Int) (W : World) (hT : Tab W) : Calls Tryd.prog 22 #[.int .i64 op] W fun e W' => e = .returned (.bool (akI op)) ∧ Chg (fun _ => False) W W' := by
  by_cases h : op < 0 ∨ 24 ≤ op
  · rw [show akI op = false from by unfold akI; rw [decide_eq_false]; omega]
    exact (asks_out op h W).mono fun e W' h => ⟨h.1, (Chg.ofBelow h.2).mono (fun k hk h => absurd (show W.heap.size ≤ k from h) (by omega))⟩
  · obtain ⟨k, rfl⟩ : ∃ k : Nat, op = k := ⟨op.toNat, by omega⟩
    rw [show akI (k : Int) = ak k from ak_in k (by omega)]
    exact (asks_in k (by omega) W hT).mono fun e W' h => ⟨h.1, (Chg.ofBelow h.2).mono (fun k hk h => absurd (show W.heap.size ≤ k from h) (by omega))⟩
theorem Tab.alloc3 {W : World} (h : Tab W) (a b c : Obj) : Tab (((W.alloc a).alloc b).alloc c) := ((h.alloc a).alloc b).alloc c
section
variable {f pc op b e N ans : Int} {rs : List Int} {D : Option Addr} {n c : Nat}
set_option maxRecDepth 100000 in
set_option maxHeartbeats 8000000 in
theorem do_const (W : World) (a : Nat) (ha : a < 8) (hl : rs.length = 8) (hp0 : 0 ≤ pc) (hp : pc ≤ 1000)  :
    Calls Tryd.prog 23 #[.agg #[.int .i64 f, .int .i64 pc, .int .i64 (rs.getD 0 0), .int .i64 (rs.getD 1 0), .int .i64 (rs.getD 2 0), .int .i64 (rs.getD 3 0), .int .i64 (rs.getD 4 0), .int .i64 (rs.getD 5 0), .int .i64 (rs.getD 6 0), .int .i64 (rs.getD 7 0), .slice D n c, .bool false], .agg #[.int .i64 1, .int .i64 (a : Int), .int .i64 b, .int .i64 e, .int .i64 N], .int .i64 ans] W fun r W' => r = .returned (.agg #[.int .i64 f, .int .i64 (pc + 1), .int .i64 ((rs.set a N).getD 0 0), .int .i64 ((rs.set a N).getD 1 0), .int .i64 ((rs.set a N).getD 2 0), .int .i64 ((rs.set a N).getD 3 0), .int .i64 ((rs.set a N).getD 4 0), .int .i64 ((rs.set a N).getD 5 0), .int .i64 ((rs.set a N).getD 6 0), .int .i64 ((rs.set a N).getD 7 0), .slice D n c, .bool false]) ∧ Chg (fun _ => False) W W' := by
  obtain ⟨r0, r1, r2, r3, r4, r5, r6, r7, rfl⟩ := eight hl
  obtain ⟨ra, hra, raE⟩ := get8 (r0 := r0) (r1 := r1) (r2 := r2) (r3 := r3) (r4 := r4) (r5 := r5) (r6 := r6) (r7 := r7) ha
  obtain ⟨s0, s1, s2, s3, s4, s5, s6, s7, hs, hsE⟩ := set8 (r0 := r0) (r1 := r1) (r2 := r2) (r3 := r3) (r4 := r4) (r5 := r5) (r6 := r6) (r7 := r7) ha N
  rw [hs]
  have ga1 : (#[.int .i64 f, .int .i64 (pc + 1), .int .i64 r0, .int .i64 r1, .int .i64 r2, .int .i64 r3, .int .i64 r4, .int .i64 r5, .int .i64 r6, .int .i64 r7, .slice D n c, .bool false] : Array Value)[2 + a]? = some (.int .i64 ra) := raE _ _ _ _
  have ga2 : (((W.alloc (.cells #[.int .i64 f, .int .i64 (pc + 1), .int .i64 r0, .int .i64 r1, .int .i64 r2, .int .i64 r3, .int .i64 r4, .int .i64 r5, .int .i64 r6, .int .i64 r7, .slice D n c, .bool false] 28)).alloc (.cells #[.int .i64 1, .int .i64 (a : Int), .int .i64 b, .int .i64 e, .int .i64 N] 32)).alloc (.cells #[.int .i64 0, .int .i64 0, .int .i64 0, .int .i64 0, .int .i64 0, .int .i64 0, .int .i64 0, .int .i64 0, .int .i64 0, .int .i64 0, .slice none 0 0, .bool false] 28)).cell? ⟨W.heap.size, 2 + a, none⟩ = some (.int .i64 ra) := (((Blk.new W 28 #[.int .i64 f, .int .i64 (pc + 1), .int .i64 r0, .int .i64 r1, .int .i64 r2, .int .i64 r3, .int .i64 r4, .int .i64 r5, .int .i64 r6, .int .i64 r7, .slice D n c, .bool false]).alloc _).alloc _).cell _ |>.trans ga1
  have ga3 : (((W.alloc (.cells #[.int .i64 f, .int .i64 (pc + 1), .int .i64 r0, .int .i64 r1, .int .i64 r2, .int .i64 r3, .int .i64 r4, .int .i64 r5, .int .i64 r6, .int .i64 r7, .slice D n c, .bool false] 28)).alloc (.cells #[.int .i64 1, .int .i64 (a : Int), .int .i64 b, .int .i64 e, .int .i64 N] 32)).alloc (.cells #[.int .i64 0, .int .i64 0, .int .i64 0, .int .i64 0, .int .i64 0, .int .i64 0, .int .i64 0, .int .i64 0, .int .i64 0, .int .i64 0, .slice none 0 0, .bool false] 28)).frozen? ⟨W.heap.size, 2 + a, none⟩ = false := (((Blk.new W 28 #[.int .i64 f, .int .i64 (pc + 1), .int .i64 r0, .int .i64 r1, .int .i64 r2, .int .i64 r3, .int .i64 r4, .int .i64 r5, .int .i64 r6, .int .i64 r7, .slice D n c, .bool false]).alloc _).alloc _).frozen _
  have gs : (#[.int .i64 f, .int .i64 (pc + 1), .int .i64 r0, .int .i64 r1, .int .i64 r2, .int .i64 r3, .int .i64 r4, .int .i64 r5, .int .i64 r6, .int .i64 r7, .slice D n c, .bool false] : Array Value).setIfInBounds (2 + a) (.int .i64 N) = #[.int .i64 f, .int .i64 (pc + 1), .int .i64 s0, .int .i64 s1, .int .i64 s2, .int .i64 s3, .int .i64 s4, .int .i64 s5, .int .i64 s6, .int .i64 s7, .slice D n c, .bool false] := hsE _ _ _ _
  have a0 : (0 : Int) ≤ a := by omega
  have a8 : (a : Int) < 8 := by omega
  simp only [List.getD_cons_zero, List.getD_cons_succ]
  clear hs hsE raE hra
  go_enter Tryd.func23, Tryd.ntmps23
  go_wp2
  refine bodyPost_ret (results_cell_row rfl _ _ (W.heap.size + 1 + 1) 28 #[.int .i64 f, .int .i64 (pc + 1), .int .i64 s0, .int .i64 s1, .int .i64 s2, .int .i64 s3, .int .i64 s4, .int .i64 s5, .int .i64 s6, .int .i64 s7, .slice D n c, .bool false] (0, 0) _ rfl (blk3 _ _ _ _ _) Tryd.underlying28 rfl (by kernel_rfl)) rfl ?_
  exact ⟨rfl, (((Chg.refl _ _).alloc _).alloc _).alloc _⟩
set_option maxRecDepth 100000 in
set_option maxHeartbeats 8000000 in
theorem do_exit (W : World) (a : Int) (hl : rs.length = 8) (hp0 : 0 ≤ pc) (hp : pc ≤ 1000)  :
    Calls Tryd.prog 23 #[.agg #[.int .i64 f, .int .i64 pc, .int .i64 (rs.getD 0 0), .int .i64 (rs.getD 1 0), .int .i64 (rs.getD 2 0), .int .i64 (rs.getD 3 0), .int .i64 (rs.getD 4 0), .int .i64 (rs.getD 5 0), .int .i64 (rs.getD 6 0), .int .i64 (rs.getD 7 0), .slice D n c, .bool false], .agg #[.int .i64 14, .int .i64 a, .int .i64 b, .int .i64 e, .int .i64 N], .int .i64 ans] W fun r W' => r = .returned (.agg #[.int .i64 0, .int .i64 0, .int .i64 0, .int .i64 0, .int .i64 0, .int .i64 0, .int .i64 0, .int .i64 0, .int .i64 0, .int .i64 0, .slice none 0 0, .bool true]) ∧ Chg (fun _ => False) W W' := by
  generalize rs.getD 0 0 = r0, rs.getD 1 0 = r1, rs.getD 2 0 = r2, rs.getD 3 0 = r3, rs.getD 4 0 = r4, rs.getD 5 0 = r5, rs.getD 6 0 = r6, rs.getD 7 0 = r7
  go_enter Tryd.func23, Tryd.ntmps23
  go_wp2
  refine bodyPost_ret (results_cell_row rfl _ _ (W.heap.size + 1 + 1) 28 #[.int .i64 0, .int .i64 0, .int .i64 0, .int .i64 0, .int .i64 0, .int .i64 0, .int .i64 0, .int .i64 0, .int .i64 0, .int .i64 0, .slice none 0 0, .bool true] (0, 0) _ rfl (blk3 _ _ _ _ _) Tryd.underlying28 rfl (by kernel_rfl)) rfl ?_
  exact ⟨rfl, (((Chg.refl _ _).alloc _).alloc _).alloc _⟩
set_option maxRecDepth 100000 in
set_option maxHeartbeats 8000000 in
theorem do_plain (W : World) (a op : Int) (hl : rs.length = 8) (hp0 : 0 ≤ pc) (hp : pc ≤ 1000) (hT : Tab W) (hne : op ≠ 1 ∧ op ≠ 2 ∧ op ≠ 3 ∧ op ≠ 4 ∧ op ≠ 5 ∧ op ≠ 7 ∧ op ≠ 6 ∧ op ≠ 8 ∧ op ≠ 9 ∧ op ≠ 14) (hk : akI op = false) :
    Calls Tryd.prog 23 #[.agg #[.int .i64 f, .int .i64 pc, .int .i64 (rs.getD 0 0), .int .i64 (rs.getD 1 0), .int .i64 (rs.getD 2 0), .int .i64 (rs.getD 3 0), .int .i64 (rs.getD 4 0), .int .i64 (rs.getD 5 0), .int .i64 (rs.getD 6 0), .int .i64 (rs.getD 7 0), .slice D n c, .bool false], .agg #[.int .i64 op, .int .i64 a, .int .i64 b, .int .i64 e, .int .i64 N], .int .i64 ans] W fun r W' => r = .returned (.agg #[.int .i64 f, .int .i64 (pc + 1), .int .i64 (rs.getD 0 0), .int .i64 (rs.getD 1 0), .int .i64 (rs.getD 2 0), .int .i64 (rs.getD 3 0), .int .i64 (rs.getD 4 0), .int .i64 (rs.getD 5 0), .int .i64 (rs.getD 6 0), .int .i64 (rs.getD 7 0), .slice D n c, .bool false]) ∧ Chg (fun _ => False) W W' := by
  generalize rs.getD 0 0 = r0, rs.getD 1 0 = r1, rs.getD 2 0 = r2, rs.getD 3 0 = r3, rs.getD 4 0 = r4, rs.getD 5 0 = r5, rs.getD 6 0 = r6, rs.getD 7 0 = r7
  obtain ⟨n1, n2, n3, n4, n5, n7, n6, n8, n9, n14⟩ := hne
  have m1 : (op == 1) = false := beq_eq_false_iff_ne.2 n1
  have m2 : (op == 2) = false := beq_eq_false_iff_ne.2 n2
  have m3 : (op == 3) = false := beq_eq_false_iff_ne.2 n3
  have m4 : (op == 4) = false := beq_eq_false_iff_ne.2 n4
  have m5 : (op == 5) = false := beq_eq_false_iff_ne.2 n5
  have m7 : (op == 7) = false := beq_eq_false_iff_ne.2 n7
  have m6 : (op == 6) = false := beq_eq_false_iff_ne.2 n6
  have m8 : (op == 8) = false := beq_eq_false_iff_ne.2 n8
  have m9 : (op == 9) = false := beq_eq_false_iff_ne.2 n9
  have m14 : (op == 14) = false := beq_eq_false_iff_ne.2 n14
  have HA := Lib.hid (asks_any op (((W.alloc (.cells #[.int .i64 f, .int .i64 (pc + 1), .int .i64 r0, .int .i64 r1, .int .i64 r2, .int .i64 r3, .int .i64 r4, .int .i64 r5, .int .i64 r6, .int .i64 r7, .slice D n c, .bool false] 28)).alloc (.cells #[.int .i64 op, .int .i64 a, .int .i64 b, .int .i64 e, .int .i64 N] 32)).alloc (.cells #[.int .i64 0, .int .i64 0, .int .i64 0, .int .i64 0, .int .i64 0, .int .i64 0, .int .i64 0, .int .i64 0, .int .i64 0, .int .i64 0, .slice none 0 0, .bool false] 28)) (hT.alloc3 _ _ _))
  rw [hk] at HA
  clear hT n1 n2 n3 n4 n5 n7 n6 n8 n9 n14
  go_enter Tryd.func23, Tryd.ntmps23
  go_wp2_with fail
  refine HA.out.mono ?_
  rintro e2 w2 ⟨rfl, hc2⟩
  have hT2 := (blk1 W _ _ 28 #[.int .i64 f, .int .i64 (pc + 1), .int .i64 r0, .int .i64 r1, .int .i64 r2, .int .i64 r3, .int .i64 r4, .int .i64 r5, .int .i64 r6, .int .i64 r7, .slice D n c, .bool false]).kept hc2 (fun h => h)
  have hI2 := (blk2 W _ _ 32 #[.int .i64 op, .int .i64 a, .int .i64 b, .int .i64 e, .int .i64 N]).kept hc2 (fun h => h)
  have hZ2 := (blk3 W _ _ 28 #[.int .i64 0, .int .i64 0, .int .i64 0, .int .i64 0, .int .i64 0, .int .i64 0, .int .i64 0, .int .i64 0, .int .i64 0, .int .i64 0, .slice none 0 0, .bool false]).kept hc2 (fun h => h)
  have t0 := hT2.cell 0
  have z0 := hZ2.cell 0
  have y0 := hZ2.frozen 0
  have t1 := hT2.cell 1
  have z1 := hZ2.cell 1
  have y1 := hZ2.frozen 1
  have t2 := hT2.cell 2
  have z2 := hZ2.cell 2
  have y2 := hZ2.frozen 2
  have t3 := hT2.cell 3
  have z3 := hZ2.cell 3
  have y3 := hZ2.frozen 3
  have t4 := hT2.cell 4
  have z4 := hZ2.cell 4
  have y4 := hZ2.frozen 4
  have t5 := hT2.cell 5
  have z5 := hZ2.cell 5
  have y5 := hZ2.frozen 5
  have t6 := hT2.cell 6
  have z6 := hZ2.cell 6
  have y6 := hZ2.frozen 6
  have t7 := hT2.cell 7
  have z7 := hZ2.cell 7
  have y7 := hZ2.frozen 7
  have t8 := hT2.cell 8
  have z8 := hZ2.cell 8
  have y8 := hZ2.frozen 8
  have t9 := hT2.cell 9
  have z9 := hZ2.cell 9
  have y9 := hZ2.frozen 9
  have t10 := hT2.cell 10
  have z10 := hZ2.cell 10
  have y10 := hZ2.frozen 10
  have t11 := hT2.cell 11
  have z11 := hZ2.cell 11
  have y11 := hZ2.frozen 11
  have i1 := hI2.cell 1
  have tl := hT2.lt
  have zl := hZ2.lt
  simp at t0 z0 t1 z1 t2 z2 t3 z3 t4 z4 t5 z5 t6 z6 t7 z7 t8 z8 t9 z9 t10 z10 t11 z11 i1
  have HZ2 := Lib.hid hZ2
  have HT2 := Lib.hid hT2
  have HC2 : Hid (Chg (fun _ => False) W w2) := Lib.hid (((((Chg.refl _ _).alloc _).alloc _).alloc _).trans hc2 (fun _ _ h => h))
  clear hT2 hI2 hZ2 hc2
  go_wp2
  refine bodyPost_ret (results_cell_row rfl _ _ (W.heap.size + 1 + 1) 28 #[.int .i64 f, .int .i64 (pc + 1), .int .i64 r0, .int .i64 r1, .int .i64 r2, .int .i64 r3, .int .i64 r4, .int .i64 r5, .int .i64 r6, .int .i64 r7, .slice D n c, .bool false] (0, 0) _ rfl (Blk.set12 _ _ _ _ _ _ _ _ _ _ _ _ HZ2.out) Tryd.underlying28 rfl (by kernel_rfl)) rfl ?_
  exact ⟨rfl, chg12 _ _ _ _ _ _ _ _ _ _ _ _ HC2.out (by omega)⟩
end
end Go.Proofs.YthdkbofnplnidaaDoor
