/- A thread does its instruction: the other ones. -/
import Derived.Test.YthdkbofnplnidaaDoorVmE
import Derived.BigRegion
namespace Go.Proofs.YthdkbofnplnidaaDoor
open Go.ChangeShapes Go.WideShapes Go.ChangeAt Go.RowKit Go.Deep
set_option linter.unusedVariables false
set_option linter.unusedSimpArgs false

theorem kv_takek {k : Nat} {es : List (List Int)} (hu : Uni k es) (i : Nat) : (kv es).take (i * k) = kv (es.take i) := by
  by_cases hi : i ≤ es.length
  · have h1 : Uni k (es.take i) := fun e he => hu e (List.mem_of_mem_take he)
    have h2 : kv es = kv (es.take i) ++ kv (es.drop i) := by rw [← kv_append, List.take_append_drop]
    have h3 : (kv (es.take i)).length = i * k := by rw [kv_length h1, List.length_take]; congr 1; omega
    rw [h2, ← h3, List.take_left]
  · rw [List.take_of_length_le (by rw [kv_length hu]; exact Nat.mul_le_mul_right _ (by omega)), List.take_of_length_le (by omega)]
section
variable {f pc op b e N ans : Int} {rs : List Int} {D : Option Addr} {n c : Nat}
set_option maxRecDepth 100000 in
set_option maxHeartbeats 8000000 in
theorem do_if0 (W : World) (a : Nat) (ha : a < 8) (hl : rs.length = 8) (hp0 : 0 ≤ pc) (hp : pc ≤ 1000) (hz : rs.getD a 0 = 0) :
    Calls Tryd.prog 23 #[.agg #[.int .i64 f, .int .i64 pc, .int .i64 (rs.getD 0 0), .int .i64 (rs.getD 1 0), .int .i64 (rs.getD 2 0), .int .i64 (rs.getD 3 0), .int .i64 (rs.getD 4 0), .int .i64 (rs.getD 5 0), .int .i64 (rs.getD 6 0), .int .i64 (rs.getD 7 0), .slice D n c, .bool false], .agg #[.int .i64 7, .int .i64 (a : Int), .int .i64 b, .int .i64 e, .int .i64 N], .int .i64 ans] W fun r W' => r = .returned (.agg #[.int .i64 f, .int .i64 (pc + 1), .int .i64 (rs.getD 0 0), .int .i64 (rs.getD 1 0), .int .i64 (rs.getD 2 0), .int .i64 (rs.getD 3 0), .int .i64 (rs.getD 4 0), .int .i64 (rs.getD 5 0), .int .i64 (rs.getD 6 0), .int .i64 (rs.getD 7 0), .slice D n c, .bool false]) ∧ Chg (fun _ => False) W W' := by
  obtain ⟨r0, r1, r2, r3, r4, r5, r6, r7, rfl⟩ := eight hl
  obtain ⟨ra, hra, raE⟩ := get8 (r0 := r0) (r1 := r1) (r2 := r2) (r3 := r3) (r4 := r4) (r5 := r5) (r6 := r6) (r7 := r7) ha
  rw [hra] at hz
  subst hz
  have ga1 : (#[.int .i64 f, .int .i64 (pc + 1), .int .i64 r0, .int .i64 r1, .int .i64 r2, .int .i64 r3, .int .i64 r4, .int .i64 r5, .int .i64 r6, .int .i64 r7, .slice D n c, .bool false] : Array Value)[2 + a]? = some (.int .i64 0) := raE _ _ _ _
  have ga2 : (((W.alloc (.cells #[.int .i64 f, .int .i64 (pc + 1), .int .i64 r0, .int .i64 r1, .int .i64 r2, .int .i64 r3, .int .i64 r4, .int .i64 r5, .int .i64 r6, .int .i64 r7, .slice D n c, .bool false] 28)).alloc (.cells #[.int .i64 7, .int .i64 (a : Int), .int .i64 b, .int .i64 e, .int .i64 N] 32)).alloc (.cells #[.int .i64 0, .int .i64 0, .int .i64 0, .int .i64 0, .int .i64 0, .int .i64 0, .int .i64 0, .int .i64 0, .int .i64 0, .int .i64 0, .slice none 0 0, .bool false] 28)).cell? ⟨W.heap.size, 2 + a, none⟩ = some (.int .i64 0) := (((Blk.new W 28 #[.int .i64 f, .int .i64 (pc + 1), .int .i64 r0, .int .i64 r1, .int .i64 r2, .int .i64 r3, .int .i64 r4, .int .i64 r5, .int .i64 r6, .int .i64 r7, .slice D n c, .bool false]).alloc _).alloc _).cell _ |>.trans ga1
  have ga3 : (((W.alloc (.cells #[.int .i64 f, .int .i64 (pc + 1), .int .i64 r0, .int .i64 r1, .int .i64 r2, .int .i64 r3, .int .i64 r4, .int .i64 r5, .int .i64 r6, .int .i64 r7, .slice D n c, .bool false] 28)).alloc (.cells #[.int .i64 7, .int .i64 (a : Int), .int .i64 b, .int .i64 e, .int .i64 N] 32)).alloc (.cells #[.int .i64 0, .int .i64 0, .int .i64 0, .int .i64 0, .int .i64 0, .int .i64 0, .int .i64 0, .int .i64 0, .int .i64 0, .int .i64 0, .slice none 0 0, .bool false] 28)).frozen? ⟨W.heap.size, 2 + a, none⟩ = false := (((Blk.new W 28 #[.int .i64 f, .int .i64 (pc + 1), .int .i64 r0, .int .i64 r1, .int .i64 r2, .int .i64 r3, .int .i64 r4, .int .i64 r5, .int .i64 r6, .int .i64 r7, .slice D n c, .bool false]).alloc _).alloc _).frozen _
  simp only [List.getD_cons_zero, List.getD_cons_succ]
  have a0 : (0 : Int) ≤ a := by omega
  have a8 : (a : Int) < 8 := by omega
  clear raE hra
  go_enter Tryd.func23, Tryd.ntmps23
  go_wp2
  refine bodyPost_ret (results_cell_row rfl _ _ (W.heap.size + 1 + 1) 28 #[.int .i64 f, .int .i64 (pc + 1), .int .i64 r0, .int .i64 r1, .int .i64 r2, .int .i64 r3, .int .i64 r4, .int .i64 r5, .int .i64 r6, .int .i64 r7, .slice D n c, .bool false] (0, 0) _ rfl (blk3 _ _ _ _ _) Tryd.underlying28 rfl (by kernel_rfl)) rfl ?_
  exact ⟨rfl, (((Chg.refl _ _).alloc _).alloc _).alloc _⟩
set_option maxRecDepth 100000 in
set_option maxHeartbeats 8000000 in
theorem do_if1 (W : World) (a : Nat) (ha : a < 8) (hl : rs.length = 8) (hp0 : 0 ≤ pc) (hp : pc ≤ 1000) (hz : rs.getD a 0 ≠ 0) :
    Calls Tryd.prog 23 #[.agg #[.int .i64 f, .int .i64 pc, .int .i64 (rs.getD 0 0), .int .i64 (rs.getD 1 0), .int .i64 (rs.getD 2 0), .int .i64 (rs.getD 3 0), .int .i64 (rs.getD 4 0), .int .i64 (rs.getD 5 0), .int .i64 (rs.getD 6 0), .int .i64 (rs.getD 7 0), .slice D n c, .bool false], .agg #[.int .i64 7, .int .i64 (a : Int), .int .i64 b, .int .i64 e, .int .i64 N], .int .i64 ans] W fun r W' => r = .returned (.agg #[.int .i64 f, .int .i64 N, .int .i64 (rs.getD 0 0), .int .i64 (rs.getD 1 0), .int .i64 (rs.getD 2 0), .int .i64 (rs.getD 3 0), .int .i64 (rs.getD 4 0), .int .i64 (rs.getD 5 0), .int .i64 (rs.getD 6 0), .int .i64 (rs.getD 7 0), .slice D n c, .bool false]) ∧ Chg (fun _ => False) W W' := by
  obtain ⟨r0, r1, r2, r3, r4, r5, r6, r7, rfl⟩ := eight hl
  obtain ⟨ra, hra, raE⟩ := get8 (r0 := r0) (r1 := r1) (r2 := r2) (r3 := r3) (r4 := r4) (r5 := r5) (r6 := r6) (r7 := r7) ha
  rw [hra] at hz
  have hzd : (ra == 0) = false := beq_eq_false_iff_ne.2 hz
  have ga1 : (#[.int .i64 f, .int .i64 (pc + 1), .int .i64 r0, .int .i64 r1, .int .i64 r2, .int .i64 r3, .int .i64 r4, .int .i64 r5, .int .i64 r6, .int .i64 r7, .slice D n c, .bool false] : Array Value)[2 + a]? = some (.int .i64 ra) := raE _ _ _ _
  have ga2 : (((W.alloc (.cells #[.int .i64 f, .int .i64 (pc + 1), .int .i64 r0, .int .i64 r1, .int .i64 r2, .int .i64 r3, .int .i64 r4, .int .i64 r5, .int .i64 r6, .int .i64 r7, .slice D n c, .bool false] 28)).alloc (.cells #[.int .i64 7, .int .i64 (a : Int), .int .i64 b, .int .i64 e, .int .i64 N] 32)).alloc (.cells #[.int .i64 0, .int .i64 0, .int .i64 0, .int .i64 0, .int .i64 0, .int .i64 0, .int .i64 0, .int .i64 0, .int .i64 0, .int .i64 0, .slice none 0 0, .bool false] 28)).cell? ⟨W.heap.size, 2 + a, none⟩ = some (.int .i64 ra) := (((Blk.new W 28 #[.int .i64 f, .int .i64 (pc + 1), .int .i64 r0, .int .i64 r1, .int .i64 r2, .int .i64 r3, .int .i64 r4, .int .i64 r5, .int .i64 r6, .int .i64 r7, .slice D n c, .bool false]).alloc _).alloc _).cell _ |>.trans ga1
  have ga3 : (((W.alloc (.cells #[.int .i64 f, .int .i64 (pc + 1), .int .i64 r0, .int .i64 r1, .int .i64 r2, .int .i64 r3, .int .i64 r4, .int .i64 r5, .int .i64 r6, .int .i64 r7, .slice D n c, .bool false] 28)).alloc (.cells #[.int .i64 7, .int .i64 (a : Int), .int .i64 b, .int .i64 e, .int .i64 N] 32)).alloc (.cells #[.int .i64 0, .int .i64 0, .int .i64 0, .int .i64 0, .int .i64 0, .int .i64 0, .int .i64 0, .int .i64 0, .int .i64 0, .int .i64 0, .slice none 0 0, .bool false] 28)).frozen? ⟨W.heap.size, 2 + a, none⟩ = false := (((Blk.new W 28 #[.int .i64 f, .int .i64 (pc + 1), .int .i64 r0, .int .i64 r1, .int .i64 r2, .int .i64 r3, .int .i64 r4, .int .i64 r5, .int .i64 r6, .int .i64 r7, .slice D n c, .bool false]).alloc _).alloc _).frozen _
  simp only [List.getD_cons_zero, List.getD_cons_succ]
  have a0 : (0 : Int) ≤ a := by omega
  have a8 : (a : Int) < 8 := by omega
  clear raE hra hz
  go_enter Tryd.func23, Tryd.ntmps23
  go_wp2
  refine bodyPost_ret (results_cell_row rfl _ _ (W.heap.size + 1 + 1) 28 #[.int .i64 f, .int .i64 N, .int .i64 r0, .int .i64 r1, .int .i64 r2, .int .i64 r3, .int .i64 r4, .int .i64 r5, .int .i64 r6, .int .i64 r7, .slice D n c, .bool false] (0, 0) _ rfl (blk3 _ _ _ _ _) Tryd.underlying28 rfl (by kernel_rfl)) rfl ?_
  exact ⟨rfl, (((Chg.refl _ _).alloc _).alloc _).alloc _⟩
set_option maxRecDepth 100000 in
set_option maxHeartbeats 8000000 in
theorem do_jump (W : World) (a : Int) (hl : rs.length = 8) (hp0 : 0 ≤ pc) (hp : pc ≤ 1000)  :
    Calls Tryd.prog 23 #[.agg #[.int .i64 f, .int .i64 pc, .int .i64 (rs.getD 0 0), .int .i64 (rs.getD 1 0), .int .i64 (rs.getD 2 0), .int .i64 (rs.getD 3 0), .int .i64 (rs.getD 4 0), .int .i64 (rs.getD 5 0), .int .i64 (rs.getD 6 0), .int .i64 (rs.getD 7 0), .slice D n c, .bool false], .agg #[.int .i64 6, .int .i64 a, .int .i64 b, .int .i64 e, .int .i64 N], .int .i64 ans] W fun r W' => r = .returned (.agg #[.int .i64 f, .int .i64 N, .int .i64 (rs.getD 0 0), .int .i64 (rs.getD 1 0), .int .i64 (rs.getD 2 0), .int .i64 (rs.getD 3 0), .int .i64 (rs.getD 4 0), .int .i64 (rs.getD 5 0), .int .i64 (rs.getD 6 0), .int .i64 (rs.getD 7 0), .slice D n c, .bool false]) ∧ Chg (fun _ => False) W W' := by
  obtain ⟨r0, r1, r2, r3, r4, r5, r6, r7, rfl⟩ := eight hl
  simp only [List.getD_cons_zero, List.getD_cons_succ]
  go_enter Tryd.func23, Tryd.ntmps23
  go_wp2
  refine bodyPost_ret (results_cell_row rfl _ _ (W.heap.size + 1 + 1) 28 #[.int .i64 f, .int .i64 N, .int .i64 r0, .int .i64 r1, .int .i64 r2, .int .i64 r3, .int .i64 r4, .int .i64 r5, .int .i64 r6, .int .i64 r7, .slice D n c, .bool false] (0, 0) _ rfl (blk3 _ _ _ _ _) Tryd.underlying28 rfl (by kernel_rfl)) rfl ?_
  exact ⟨rfl, (((Chg.refl _ _).alloc _).alloc _).alloc _⟩
set_option maxRecDepth 100000 in
set_option maxHeartbeats 8000000 in
theorem do_full (W : World) (a : Int) (hl : rs.length = 8) (hp0 : 0 ≤ pc) (hp : pc ≤ 1000) (hn : n = 16) :
    Calls Tryd.prog 23 #[.agg #[.int .i64 f, .int .i64 pc, .int .i64 (rs.getD 0 0), .int .i64 (rs.getD 1 0), .int .i64 (rs.getD 2 0), .int .i64 (rs.getD 3 0), .int .i64 (rs.getD 4 0), .int .i64 (rs.getD 5 0), .int .i64 (rs.getD 6 0), .int .i64 (rs.getD 7 0), .slice D n c, .bool false], .agg #[.int .i64 8, .int .i64 a, .int .i64 b, .int .i64 e, .int .i64 N], .int .i64 ans] W fun r W' => r = .returned (.agg #[.int .i64 0, .int .i64 0, .int .i64 0, .int .i64 0, .int .i64 0, .int .i64 0, .int .i64 0, .int .i64 0, .int .i64 0, .int .i64 0, .slice none 0 0, .bool true]) ∧ Chg (fun _ => False) W W' := by
  obtain ⟨r0, r1, r2, r3, r4, r5, r6, r7, rfl⟩ := eight hl
  subst hn
  simp only [List.getD_cons_zero, List.getD_cons_succ]
  go_enter Tryd.func23, Tryd.ntmps23
  go_wp2
  refine bodyPost_ret (results_cell_row rfl _ _ (W.heap.size + 1 + 1) 28 #[.int .i64 0, .int .i64 0, .int .i64 0, .int .i64 0, .int .i64 0, .int .i64 0, .int .i64 0, .int .i64 0, .int .i64 0, .int .i64 0, .slice none 0 0, .bool true] (0, 0) _ rfl (blk3 _ _ _ _ _) Tryd.underlying28 rfl (by kernel_rfl)) rfl ?_
  exact ⟨rfl, (((Chg.refl _ _).alloc _).alloc _).alloc _⟩
set_option maxRecDepth 100000 in
set_option maxHeartbeats 8000000 in
theorem do_ret0 (W : World) (a : Int) (hl : rs.length = 8) (hp0 : 0 ≤ pc) (hp : pc ≤ 1000) (hn : n = 0) :
    Calls Tryd.prog 23 #[.agg #[.int .i64 f, .int .i64 pc, .int .i64 (rs.getD 0 0), .int .i64 (rs.getD 1 0), .int .i64 (rs.getD 2 0), .int .i64 (rs.getD 3 0), .int .i64 (rs.getD 4 0), .int .i64 (rs.getD 5 0), .int .i64 (rs.getD 6 0), .int .i64 (rs.getD 7 0), .slice D n c, .bool false], .agg #[.int .i64 9, .int .i64 a, .int .i64 b, .int .i64 e, .int .i64 N], .int .i64 ans] W fun r W' => r = .returned (.agg #[.int .i64 0, .int .i64 0, .int .i64 0, .int .i64 0, .int .i64 0, .int .i64 0, .int .i64 0, .int .i64 0, .int .i64 0, .int .i64 0, .slice none 0 0, .bool true]) ∧ Chg (fun _ => False) W W' := by
  obtain ⟨r0, r1, r2, r3, r4, r5, r6, r7, rfl⟩ := eight hl
  subst hn
  simp only [List.getD_cons_zero, List.getD_cons_succ]
  go_enter Tryd.func23, Tryd.ntmps23
  go_wp2
  refine bodyPost_ret (results_cell_row rfl _ _ (W.heap.size + 1 + 1) 28 #[.int .i64 0, .int .i64 0, .int .i64 0, .int .i64 0, .int .i64 0, .int .i64 0, .int .i64 0, .int .i64 0, .int .i64 0, .int .i64 0, .slice none 0 0, .bool true] (0, 0) _ rfl (blk3 _ _ _ _ _) Tryd.underlying28 rfl (by kernel_rfl)) rfl ?_
  exact ⟨rfl, (((Chg.refl _ _).alloc _).alloc _).alloc _⟩
end
set_option maxRecDepth 100000 in
set_option maxHeartbeats 16000000 in
theorem do_ret {f pc b e N ans : Int} {rs : List Int} {D : Option Addr} {n c base : Nat} {es : List (List Int)} (W : World) (a : Int) (q : Nat) (hl : rs.length = 8) (hp0 : 0 ≤ pc) (hp : pc ≤ 1000) (hn : n = q + 1) (hn6 : n ≤ 1000) (hu : Uni 2 es) (hR : Row W base 54 2 D n c (kv es)) (hb : base ≤ W.heap.size) :
    Calls Tryd.prog 23 #[.agg #[.int .i64 f, .int .i64 pc, .int .i64 (rs.getD 0 0), .int .i64 (rs.getD 1 0), .int .i64 (rs.getD 2 0), .int .i64 (rs.getD 3 0), .int .i64 (rs.getD 4 0), .int .i64 (rs.getD 5 0), .int .i64 (rs.getD 6 0), .int .i64 (rs.getD 7 0), .slice D n c, .bool false], .agg #[.int .i64 9, .int .i64 a, .int .i64 b, .int .i64 e, .int .i64 N], .int .i64 ans] W fun r W' => ∃ D2 n2 c2, r = .returned (.agg #[.int .i64 ((es.getD q []).getD 0 0), .int .i64 ((es.getD q []).getD 1 0), .int .i64 (rs.getD 0 0), .int .i64 (rs.getD 1 0), .int .i64 (rs.getD 2 0), .int .i64 (rs.getD 3 0), .int .i64 (rs.getD 4 0), .int .i64 (rs.getD 5 0), .int .i64 (rs.getD 6 0), .int .i64 (rs.getD 7 0), .slice D2 n2 c2, .bool false]) ∧ Row W' base 54 2 D2 n2 c2 (kv (es.take q)) ∧ Chg (fun g => base ≤ g) W W' := by
  obtain ⟨r0, r1, r2, r3, r4, r5, r6, r7, rfl⟩ := eight hl
  subst hn
  have hln := hR.rd.lenk hu (by decide)
  have hqe : q < es.length := by omega
  have hge : es.getD q [] = es[q] := by rw [List.getD_eq_getElem?_getD, List.getElem?_eq_getElem hqe]; rfl
  rw [hge]
  have hqc := hR.2.1
  obtain ⟨_, bD, oD, rfl, hbD, hcc⟩ := hR.rd.getk hu (by decide) (by omega)
  have d0 := hcc q hqe 0 (by decide)
  have d1 := hcc q hqe 1 (by decide)
  simp only [Nat.add_zero] at d0
  rw [← Nat.add_assoc] at d1
  generalize (es[q]).getD 0 0 = x0 at *
  generalize (es[q]).getD 1 0 = x1 at *
  have HR := Lib.hid hR
  have q0 : (0 : Int) ≤ q := by omega
  have q1 : (q : Int) < (q : Int) + 1 := by omega
  have q2 : ¬ ((q : Int) < 0) := by omega
  have q3 : (q : Int) ≤ c := by omega
  have hb1 : bD < W.heap.size + 1 := by omega
  have hb2 : bD < W.heap.size + 1 + 1 := by omega
  have hb3 : bD < W.heap.size + 2 := by omega
  clear hcc hR hge
  simp only [List.getD_cons_zero, List.getD_cons_succ]
  go_enter Tryd.func23, Tryd.ntmps23
  go_wp2_with fail
  go_region
  go_wp2
  refine bodyPost_ret (results_cell_row rfl _ _ (W.heap.size + 1 + 1) 28 #[.int .i64 x0, .int .i64 x1, .int .i64 r0, .int .i64 r1, .int .i64 r2, .int .i64 r3, .int .i64 r4, .int .i64 r5, .int .i64 r6, .int .i64 r7, .slice (some ⟨bD, oD, none⟩) q c, .bool false] (0, 0) _ rfl (blk3 _ _ _ _ _).drew Tryd.underlying28 rfl (by kernel_rfl)) rfl ?_
  refine ⟨some ⟨bD, oD, none⟩, q, c, rfl, ?_, ((((Chg.refl _ _).alloc _).alloc _).alloc _).drew⟩
  rcases HR.out.cut (show q ≤ q + 1 by omega) (show q ≤ c by omega) (Nat.le_refl c) with hcut | ⟨hno, _⟩
  · rw [kv_takek hu] at hcut
    exact (((hcut.alloc _).alloc _).alloc _).drew
  · exact absurd hno (by simp)
theorem chg12S {w0 w : World} {S : Nat → Prop} {g : Nat} (x0 x1 x2 x3 x4 x5 x6 x7 x8 x9 x10 x11 : Value) (h : Chg S w0 w) (hg : w0.heap.size ≤ g) :
    Chg S w0 ((((((((((((w.setCell ⟨g, 0, none⟩ x0).setCell ⟨g, 1, none⟩ x1).setCell ⟨g, 2, none⟩ x2).setCell ⟨g, 3, none⟩ x3).setCell ⟨g, 4, none⟩ x4).setCell ⟨g, 5, none⟩ x5).setCell ⟨g, 6, none⟩ x6).setCell ⟨g, 7, none⟩ x7).setCell ⟨g, 8, none⟩ x8).setCell ⟨g, 9, none⟩ x9).setCell ⟨g, 10, none⟩ x10).setCell ⟨g, 11, none⟩ x11) :=
  (((((((((((h.setCell (.inr hg) _).setCell (.inr hg) _).setCell (.inr hg) _).setCell (.inr hg) _).setCell (.inr hg) _).setCell (.inr hg) _).setCell (.inr hg) _).setCell (.inr hg) _).setCell (.inr hg) _).setCell (.inr hg) _).setCell (.inr hg) _).setCell (.inr hg) _
set_option maxRecDepth 100000 in
set_option maxHeartbeats 16000000 in
theorem do_call {f pc b e N ans : Int} {rs : List Int} {D : Option Addr} {n c base : Nat} {es : List (List Int)} (W : World) (a : Int) (hl : rs.length = 8) (hp0 : 0 ≤ pc) (hp : pc ≤ 1000) (hn : n < 16) (hu : Uni 2 es) (hR : Row W base 54 2 D n c (kv es)) (hb : base ≤ W.heap.size) :
    Calls Tryd.prog 23 #[.agg #[.int .i64 f, .int .i64 pc, .int .i64 (rs.getD 0 0), .int .i64 (rs.getD 1 0), .int .i64 (rs.getD 2 0), .int .i64 (rs.getD 3 0), .int .i64 (rs.getD 4 0), .int .i64 (rs.getD 5 0), .int .i64 (rs.getD 6 0), .int .i64 (rs.getD 7 0), .slice D n c, .bool false], .agg #[.int .i64 8, .int .i64 a, .int .i64 b, .int .i64 e, .int .i64 N], .int .i64 ans] W fun r W' => ∃ D2 n2 c2, r = .returned (.agg #[.int .i64 N, .int .i64 0, .int .i64 (rs.getD 0 0), .int .i64 (rs.getD 1 0), .int .i64 (rs.getD 2 0), .int .i64 (rs.getD 3 0), .int .i64 (rs.getD 4 0), .int .i64 (rs.getD 5 0), .int .i64 (rs.getD 6 0), .int .i64 (rs.getD 7 0), .slice D2 n2 c2, .bool false]) ∧ Row W' base 54 2 D2 n2 c2 (kv (es ++ [[f, pc + 1]])) ∧ Chg (fun g => base ≤ g) W W' := by
  obtain ⟨r0, r1, r2, r3, r4, r5, r6, r7, rfl⟩ := eight hl
  have hn16 : ((n : Int) == 16) = false := beq_eq_false_iff_ne.2 (by omega)
  have hn16n : (n == 16) = false := beq_eq_false_iff_ne.2 (by omega)
  have HRX : Hid (Row ((((W.alloc (.cells #[.int .i64 f, .int .i64 (pc + 1), .int .i64 r0, .int .i64 r1, .int .i64 r2, .int .i64 r3, .int .i64 r4, .int .i64 r5, .int .i64 r6, .int .i64 r7, .slice D n c, .bool false] 28)).alloc (.cells #[.int .i64 8, .int .i64 a, .int .i64 b, .int .i64 e, .int .i64 N] 32)).alloc (.cells #[.int .i64 0, .int .i64 0, .int .i64 0, .int .i64 0, .int .i64 0, .int .i64 0, .int .i64 0, .int .i64 0, .int .i64 0, .int .i64 0, .slice none 0 0, .bool false] 28)).alloc (.cells #[.int .i64 f, .int .i64 (pc + 1)] 54)) base 54 2 D n c (kv es)) := Lib.hid ((((hR.alloc _).alloc _).alloc _).alloc _)
  have HBL := Lib.hid hR.blk_lt
  have HCX : Hid (Chg (fun g => base ≤ g) W ((((W.alloc (.cells #[.int .i64 f, .int .i64 (pc + 1), .int .i64 r0, .int .i64 r1, .int .i64 r2, .int .i64 r3, .int .i64 r4, .int .i64 r5, .int .i64 r6, .int .i64 r7, .slice D n c, .bool false] 28)).alloc (.cells #[.int .i64 8, .int .i64 a, .int .i64 b, .int .i64 e, .int .i64 N] 32)).alloc (.cells #[.int .i64 0, .int .i64 0, .int .i64 0, .int .i64 0, .int .i64 0, .int .i64 0, .int .i64 0, .int .i64 0, .int .i64 0, .int .i64 0, .slice none 0 0, .bool false] 28)).alloc (.cells #[.int .i64 f, .int .i64 (pc + 1)] 54))) := Lib.hid ((((((Chg.refl _ _).alloc _).alloc _).alloc _).alloc _))
  have HSZ : Hid (((((W.alloc (.cells #[.int .i64 f, .int .i64 (pc + 1), .int .i64 r0, .int .i64 r1, .int .i64 r2, .int .i64 r3, .int .i64 r4, .int .i64 r5, .int .i64 r6, .int .i64 r7, .slice D n c, .bool false] 28)).alloc (.cells #[.int .i64 8, .int .i64 a, .int .i64 b, .int .i64 e, .int .i64 N] 32)).alloc (.cells #[.int .i64 0, .int .i64 0, .int .i64 0, .int .i64 0, .int .i64 0, .int .i64 0, .int .i64 0, .int .i64 0, .int .i64 0, .int .i64 0, .slice none 0 0, .bool false] 28)).alloc (.cells #[.int .i64 f, .int .i64 (pc + 1)] 54)).heap.size = W.heap.size + 4) := Lib.hid (by simp)
  clear hR
  simp only [List.getD_cons_zero, List.getD_cons_succ]
  go_enter Tryd.func23, Tryd.ntmps23
  go_wp2_with (at_builtin; refine wpList_apR rfl (.tmp 71) (.tmp 77) rfl rfl base D n c es rfl HRX.out _ 1 1 [[f, pc + 1]] rfl (Rd.litk _ [f, pc + 1] _ _ rfl 2 rfl _ (by simp)) ?_ ?_ ?_; (next => omega); (next => (rw [HSZ.out]; omega)); intro A3 c3 w3 g1 g2 g3; have hno : ∀ k, W.heap.size ≤ k → some k ≠ blk D := (fun k hk e => by have := (HBL.out k e.symm).2; omega); have hT3 := ((blk1 W _ _ 28 #[.int .i64 f, .int .i64 (pc + 1), .int .i64 r0, .int .i64 r1, .int .i64 r2, .int .i64 r3, .int .i64 r4, .int .i64 r5, .int .i64 r6, .int .i64 r7, .slice D n c, .bool false]).alloc (.cells #[.int .i64 f, .int .i64 (pc + 1)] 54)).grown g2 (hno _ (Nat.le_refl _)); have hI3 := ((blk2 W _ _ 32 #[.int .i64 8, .int .i64 a, .int .i64 b, .int .i64 e, .int .i64 N]).alloc (.cells #[.int .i64 f, .int .i64 (pc + 1)] 54)).grown g2 (hno _ (by omega)); have hZ3 := ((blk3 W _ _ 28 #[.int .i64 0, .int .i64 0, .int .i64 0, .int .i64 0, .int .i64 0, .int .i64 0, .int .i64 0, .int .i64 0, .int .i64 0, .int .i64 0, .slice none 0 0, .bool false]).alloc (.cells #[.int .i64 f, .int .i64 (pc + 1)] 54)).grown g2 (hno _ (by omega)); have t0 := hT3.cell 0; have t1 := hT3.cell 1; have t2 := hT3.cell 2; have t3 := hT3.cell 3; have t4 := hT3.cell 4; have t5 := hT3.cell 5; have t6 := hT3.cell 6; have t7 := hT3.cell 7; have t8 := hT3.cell 8; have t9 := hT3.cell 9; have t10 := hT3.cell 10; have t11 := hT3.cell 11; have y0 := hT3.frozen 0; have y1 := hT3.frozen 1; have y10 := hT3.frozen 10; have z0 := hZ3.cell 0; have w0 := hZ3.frozen 0; have z1 := hZ3.cell 1; have w1 := hZ3.frozen 1; have z2 := hZ3.cell 2; have w2 := hZ3.frozen 2; have z3 := hZ3.cell 3; have w3 := hZ3.frozen 3; have z4 := hZ3.cell 4; have w4 := hZ3.frozen 4; have z5 := hZ3.cell 5; have w5 := hZ3.frozen 5; have z6 := hZ3.cell 6; have w6 := hZ3.frozen 6; have z7 := hZ3.cell 7; have w7 := hZ3.frozen 7; have z8 := hZ3.cell 8; have w8 := hZ3.frozen 8; have z9 := hZ3.cell 9; have w9 := hZ3.frozen 9; have z10 := hZ3.cell 10; have w10 := hZ3.frozen 10; have z11 := hZ3.cell 11; have w11 := hZ3.frozen 11; have i4 := hI3.cell 4; have tl := hT3.lt; have zl := hZ3.lt; simp at t0 z0 t1 z1 t2 z2 t3 z3 t4 z4 t5 z5 t6 z6 t7 z7 t8 z8 t9 z9 t10 z10 t11 z11 i4; have HX := Lib.hid g1; have HZ3 := Lib.hid hZ3; have HC3 := Lib.hid (HCX.out.grown g2 (fun k hk => .inl (HBL.out k hk).1)); have HNA : Hid (∀ k, W.heap.size ≤ k → k ≤ W.heap.size + 3 → blk A3 ≠ some k) := Lib.hid (fun k hk hk2 e => by rcases g3 with g3 | g3; exact absurd (e.symm.trans g3) (hno k hk); have h5 := e.symm.trans g3; rw [HSZ.out] at h5; injection h5 with h5; omega); clear g1 g2 g3 hno hT3 hI3 hZ3)
  have HZ4 := Lib.hid (((HZ3.out.far (p := ⟨W.heap.size, 10, none⟩) (show W.heap.size + 1 + 1 ≠ W.heap.size by omega) (.slice A3 (n + 1) c3)).far (p := ⟨W.heap.size, 0, none⟩) (show W.heap.size + 1 + 1 ≠ W.heap.size by omega) (.int .i64 N)).far (p := ⟨W.heap.size, 1, none⟩) (show W.heap.size + 1 + 1 ≠ W.heap.size by omega) (.int .i64 0))
  refine bodyPost_ret (results_cell_row rfl _ _ (W.heap.size + 1 + 1) 28 #[.int .i64 N, .int .i64 0, .int .i64 r0, .int .i64 r1, .int .i64 r2, .int .i64 r3, .int .i64 r4, .int .i64 r5, .int .i64 r6, .int .i64 r7, .slice A3 (n + 1) c3, .bool false] (0, 0) _ rfl (Blk.set12 _ _ _ _ _ _ _ _ _ _ _ _ HZ4.out) Tryd.underlying28 rfl (by kernel_rfl)) rfl ?_
  refine ⟨A3, n + 1, c3, rfl, row12 _ _ _ _ _ _ _ _ _ _ _ _ (((HX.out.setCell (p := ⟨W.heap.size, 10, none⟩) (HNA.out _ (Nat.le_refl _) (by simp)) _).setCell (p := ⟨W.heap.size, 0, none⟩) (HNA.out _ (Nat.le_refl _) (by simp)) _).setCell (p := ⟨W.heap.size, 1, none⟩) (HNA.out _ (Nat.le_refl _) (by simp)) _) (HNA.out _ (by omega) (by omega)), ?_⟩
  exact chg12S _ _ _ _ _ _ _ _ _ _ _ _ (((HC3.out.setCell (p := ⟨W.heap.size, 10, none⟩) (.inr (by show W.heap.size ≤ W.heap.size; omega)) _).setCell (p := ⟨W.heap.size, 0, none⟩) (.inr (by show W.heap.size ≤ W.heap.size; omega)) _).setCell (p := ⟨W.heap.size, 1, none⟩) (.inr (by show W.heap.size ≤ W.heap.size; omega)) _) (by omega)
section
variable {f pc op b e N ans : Int} {rs : List Int} {D : Option Addr} {n c : Nat}
set_option maxRecDepth 100000 in
set_option maxHeartbeats 8000000 in
theorem do_asks (W : World) (a : Nat) (op : Int) (ha : a < 8) (hl : rs.length = 8) (hp0 : 0 ≤ pc) (hp : pc ≤ 1000) (hT : Tab W) (hne : op ≠ 1 ∧ op ≠ 2 ∧ op ≠ 3 ∧ op ≠ 4 ∧ op ≠ 5 ∧ op ≠ 7 ∧ op ≠ 6 ∧ op ≠ 8 ∧ op ≠ 9 ∧ op ≠ 14) (hk : akI op = true) :
    Calls Tryd.prog 23 #[.agg #[.int .i64 f, .int .i64 pc, .int .i64 (rs.getD 0 0), .int .i64 (rs.getD 1 0), .int .i64 (rs.getD 2 0), .int .i64 (rs.getD 3 0), .int .i64 (rs.getD 4 0), .int .i64 (rs.getD 5 0), .int .i64 (rs.getD 6 0), .int .i64 (rs.getD 7 0), .slice D n c, .bool false], .agg #[.int .i64 op, .int .i64 (a : Int), .int .i64 b, .int .i64 e, .int .i64 N], .int .i64 ans] W fun r W' => r = .returned (.agg #[.int .i64 f, .int .i64 (pc + 1), .int .i64 ((rs.set a ans).getD 0 0), .int .i64 ((rs.set a ans).getD 1 0), .int .i64 ((rs.set a ans).getD 2 0), .int .i64 ((rs.set a ans).getD 3 0), .int .i64 ((rs.set a ans).getD 4 0), .int .i64 ((rs.set a ans).getD 5 0), .int .i64 ((rs.set a ans).getD 6 0), .int .i64 ((rs.set a ans).getD 7 0), .slice D n c, .bool false]) ∧ Chg (fun _ => False) W W' := by
  obtain ⟨r0, r1, r2, r3, r4, r5, r6, r7, rfl⟩ := eight hl
  obtain ⟨ra, hra, raE⟩ := get8 (r0 := r0) (r1 := r1) (r2 := r2) (r3 := r3) (r4 := r4) (r5 := r5) (r6 := r6) (r7 := r7) ha
  obtain ⟨s0, s1, s2, s3, s4, s5, s6, s7, hs, hsE⟩ := set8 (r0 := r0) (r1 := r1) (r2 := r2) (r3 := r3) (r4 := r4) (r5 := r5) (r6 := r6) (r7 := r7) ha ans
  rw [hs]
  obtain ⟨n1, n2, n3, n4, n5, n7, n6, n8, n9, n14⟩ := hne
  have m1 : (op == 1) = false := beq_eq_false_iff_ne.2 n1
  have m2 : (op == 2) = false := beq_eq_false_iff_ne.2 n2
  have m3 : (op == 3) = false := beq_eq_false_iff_ne.2 n3
  have m4 : (op == 4) = false := beq_eq_false_iff_ne.2 n4
  have m5 : (op == 5) = false := beq_eq_false_iff_ne.2 n5
  have m7 : (op == 7) = false := beq_eq_false_iff_ne.2 n7
  have m6 : (op == 6) = false := beq_eq_false_iff_ne.2 n6
  have m8 : (op == 8) = false := beq_eq_false_iff_ne.2 n8
  have m9 : (op == 9) = false := beq_eq_false_iff_ne.2 n9
  have m14 : (op == 14) = false := beq_eq_false_iff_ne.2 n14
  have HA := Lib.hid (asks_any op (((W.alloc (.cells #[.int .i64 f, .int .i64 (pc + 1), .int .i64 r0, .int .i64 r1, .int .i64 r2, .int .i64 r3, .int .i64 r4, .int .i64 r5, .int .i64 r6, .int .i64 r7, .slice D n c, .bool false] 28)).alloc (.cells #[.int .i64 op, .int .i64 (a : Int), .int .i64 b, .int .i64 e, .int .i64 N] 32)).alloc (.cells #[.int .i64 0, .int .i64 0, .int .i64 0, .int .i64 0, .int .i64 0, .int .i64 0, .int .i64 0, .int .i64 0, .int .i64 0, .int .i64 0, .slice none 0 0, .bool false] 28)) (hT.alloc3 _ _ _))
  rw [hk] at HA
  have a0 : (0 : Int) ≤ a := by omega
  have a8 : (a : Int) < 8 := by omega
  have HRE := Lib.hid raE
  have HSE := Lib.hid hsE
  clear hT n1 n2 n3 n4 n5 n7 n6 n8 n9 n14 hs hsE raE hra
  simp only [List.getD_cons_zero, List.getD_cons_succ]
  go_enter Tryd.func23, Tryd.ntmps23
  go_wp2_with fail
  refine HA.out.mono ?_
  rintro e2 w2 ⟨rfl, hc2⟩
  have hT2 := (blk1 W _ _ 28 #[.int .i64 f, .int .i64 (pc + 1), .int .i64 r0, .int .i64 r1, .int .i64 r2, .int .i64 r3, .int .i64 r4, .int .i64 r5, .int .i64 r6, .int .i64 r7, .slice D n c, .bool false]).kept hc2 (fun h => h)
  have hI2 := (blk2 W _ _ 32 #[.int .i64 op, .int .i64 (a : Int), .int .i64 b, .int .i64 e, .int .i64 N]).kept hc2 (fun h => h)
  have hZ2 := (blk3 W _ _ 28 #[.int .i64 0, .int .i64 0, .int .i64 0, .int .i64 0, .int .i64 0, .int .i64 0, .int .i64 0, .int .i64 0, .int .i64 0, .int .i64 0, .slice none 0 0, .bool false]).kept hc2 (fun h => h)
  have hS2 := hT2.set_ (2 + a) (.int .i64 ans)
  rw [HSE.out] at hS2
  have k2 : w2.cell? ⟨W.heap.size, 2 + a, none⟩ = some (.int .i64 ra) := (hT2.cell _).trans (HRE.out _ _ _ _)
  have k3 := hT2.frozen (2 + a)
  have i1 := hI2.cell 1
  have tl := hT2.lt
  have zl := hZ2.lt
  have t0 := hS2.cell 0
  have z0 := hZ2.cell 0
  have y0 := hZ2.frozen 0
  have t1 := hS2.cell 1
  have z1 := hZ2.cell 1
  have y1 := hZ2.frozen 1
  have t2 := hS2.cell 2
  have z2 := hZ2.cell 2
  have y2 := hZ2.frozen 2
  have t3 := hS2.cell 3
  have z3 := hZ2.cell 3
  have y3 := hZ2.frozen 3
  have t4 := hS2.cell 4
  have z4 := hZ2.cell 4
  have y4 := hZ2.frozen 4
  have t5 := hS2.cell 5
  have z5 := hZ2.cell 5
  have y5 := hZ2.frozen 5
  have t6 := hS2.cell 6
  have z6 := hZ2.cell 6
  have y6 := hZ2.frozen 6
  have t7 := hS2.cell 7
  have z7 := hZ2.cell 7
  have y7 := hZ2.frozen 7
  have t8 := hS2.cell 8
  have z8 := hZ2.cell 8
  have y8 := hZ2.frozen 8
  have t9 := hS2.cell 9
  have z9 := hZ2.cell 9
  have y9 := hZ2.frozen 9
  have t10 := hS2.cell 10
  have z10 := hZ2.cell 10
  have y10 := hZ2.frozen 10
  have t11 := hS2.cell 11
  have z11 := hZ2.cell 11
  have y11 := hZ2.frozen 11
  simp only [List.getElem?_toArray, List.getElem?_cons_zero, List.getElem?_cons_succ] at t0 z0 t1 z1 t2 z2 t3 z3 t4 z4 t5 z5 t6 z6 t7 z7 t8 z8 t9 z9 t10 z10 t11 z11 i1
  have HZ2 := Lib.hid (hZ2.far (p := ⟨W.heap.size, 2 + a, none⟩) (show W.heap.size + 1 + 1 ≠ W.heap.size by omega) (.int .i64 ans))
  have HC2 : Hid (Chg (fun _ => False) W w2) := Lib.hid (((((Chg.refl _ _).alloc _).alloc _).alloc _).trans hc2 (fun _ _ h => h))
  clear hT2 hI2 hZ2 hS2 hc2
  go_wp2
  refine bodyPost_ret (results_cell_row rfl _ _ (W.heap.size + 1 + 1) 28 #[.int .i64 f, .int .i64 (pc + 1), .int .i64 s0, .int .i64 s1, .int .i64 s2, .int .i64 s3, .int .i64 s4, .int .i64 s5, .int .i64 s6, .int .i64 s7, .slice D n c, .bool false] (0, 0) _ rfl (Blk.set12 _ _ _ _ _ _ _ _ _ _ _ _ HZ2.out) Tryd.underlying28 rfl (by kernel_rfl)) rfl ?_
  exact ⟨rfl, chg12 _ _ _ _ _ _ _ _ _ _ _ _ (HC2.out.setCell (p := ⟨W.heap.size, 2 + a, none⟩) (.inr (by show W.heap.size ≤ W.heap.size; omega)) _) (by omega)⟩
end
end Go.Proofs.YthdkbofnplnidaaDoor
