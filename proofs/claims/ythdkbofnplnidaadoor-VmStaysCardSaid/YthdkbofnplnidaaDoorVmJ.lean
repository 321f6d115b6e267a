/- A thread does its instruction: two numbers. -/
import Derived.Test.YthdkbofnplnidaaDoorVmI0
namespace Go.Proofs.YthdkbofnplnidaaDoor
open Go.ChangeShapes Go.WideShapes Go.ChangeAt Go.RowKit Go.Deep
set_option linter.unusedVariables false
set_option linter.unusedSimpArgs false

section
variable {f pc N ans : Int} {rs : List Int} {D : Option Addr} {n c : Nat}
set_option maxRecDepth 100000 in
set_option maxHeartbeats 16000000 in
theorem do_4 (W : World) (a b e : Nat) (ha : a < 8) (hb : b < 8) (he : e < 8) (hl : rs.length = 8) (hp0 : 0 ≤ pc) (hp : pc ≤ 1000) :
    Calls Tryd.prog 23 #[.agg #[.int .i64 f, .int .i64 pc, .int .i64 (rs.getD 0 0), .int .i64 (rs.getD 1 0), .int .i64 (rs.getD 2 0), .int .i64 (rs.getD 3 0), .int .i64 (rs.getD 4 0), .int .i64 (rs.getD 5 0), .int .i64 (rs.getD 6 0), .int .i64 (rs.getD 7 0), .slice D n c, .bool false], .agg #[.int .i64 4, .int .i64 (a : Int), .int .i64 (b : Int), .int .i64 (e : Int), .int .i64 N], .int .i64 ans] W fun r W' => r = .returned (.agg #[.int .i64 f, .int .i64 (pc + 1), .int .i64 ((rs.set a (ofF 4 (rs.getD b 0) (rs.getD e 0))).getD 0 0), .int .i64 ((rs.set a (ofF 4 (rs.getD b 0) (rs.getD e 0))).getD 1 0), .int .i64 ((rs.set a (ofF 4 (rs.getD b 0) (rs.getD e 0))).getD 2 0), .int .i64 ((rs.set a (ofF 4 (rs.getD b 0) (rs.getD e 0))).getD 3 0), .int .i64 ((rs.set a (ofF 4 (rs.getD b 0) (rs.getD e 0))).getD 4 0), .int .i64 ((rs.set a (ofF 4 (rs.getD b 0) (rs.getD e 0))).getD 5 0), .int .i64 ((rs.set a (ofF 4 (rs.getD b 0) (rs.getD e 0))).getD 6 0), .int .i64 ((rs.set a (ofF 4 (rs.getD b 0) (rs.getD e 0))).getD 7 0), .slice D n c, .bool false]) ∧ Chg (fun _ => False) W W' := by
  obtain ⟨r0, r1, r2, r3, r4, r5, r6, r7, rfl⟩ := eight hl
  obtain ⟨ra, hra, raE⟩ := get8 (r0 := r0) (r1 := r1) (r2 := r2) (r3 := r3) (r4 := r4) (r5 := r5) (r6 := r6) (r7 := r7) ha
  obtain ⟨rb, hrb, rbE⟩ := get8 (r0 := r0) (r1 := r1) (r2 := r2) (r3 := r3) (r4 := r4) (r5 := r5) (r6 := r6) (r7 := r7) hb
  obtain ⟨re, hre, reE⟩ := get8 (r0 := r0) (r1 := r1) (r2 := r2) (r3 := r3) (r4 := r4) (r5 := r5) (r6 := r6) (r7 := r7) he
  rw [hrb, hre]
  have HM := Lib.hid (fun V => pair_4 rb re V)
  generalize ofF 4 rb re = vv at *
  obtain ⟨s0, s1, s2, s3, s4, s5, s6, s7, hs, hsE⟩ := set8 (r0 := r0) (r1 := r1) (r2 := r2) (r3 := r3) (r4 := r4) (r5 := r5) (r6 := r6) (r7 := r7) ha vv
  rw [hs]
  have gb1 : (#[.int .i64 f, .int .i64 (pc + 1), .int .i64 r0, .int .i64 r1, .int .i64 r2, .int .i64 r3, .int .i64 r4, .int .i64 r5, .int .i64 r6, .int .i64 r7, .slice D n c, .bool false] : Array Value)[2 + b]? = some (.int .i64 rb) := rbE _ _ _ _
  have gb2 : (((W.alloc (.cells #[.int .i64 f, .int .i64 (pc + 1), .int .i64 r0, .int .i64 r1, .int .i64 r2, .int .i64 r3, .int .i64 r4, .int .i64 r5, .int .i64 r6, .int .i64 r7, .slice D n c, .bool false] 28)).alloc (.cells #[.int .i64 4, .int .i64 (a : Int), .int .i64 (b : Int), .int .i64 (e : Int), .int .i64 N] 32)).alloc (.cells #[.int .i64 0, .int .i64 0, .int .i64 0, .int .i64 0, .int .i64 0, .int .i64 0, .int .i64 0, .int .i64 0, .int .i64 0, .int .i64 0, .slice none 0 0, .bool false] 28)).cell? ⟨W.heap.size, 2 + b, none⟩ = some (.int .i64 rb) := (((Blk.new W 28 #[.int .i64 f, .int .i64 (pc + 1), .int .i64 r0, .int .i64 r1, .int .i64 r2, .int .i64 r3, .int .i64 r4, .int .i64 r5, .int .i64 r6, .int .i64 r7, .slice D n c, .bool false]).alloc _).alloc _).cell _ |>.trans gb1
  have gb3 : (((W.alloc (.cells #[.int .i64 f, .int .i64 (pc + 1), .int .i64 r0, .int .i64 r1, .int .i64 r2, .int .i64 r3, .int .i64 r4, .int .i64 r5, .int .i64 r6, .int .i64 r7, .slice D n c, .bool false] 28)).alloc (.cells #[.int .i64 4, .int .i64 (a : Int), .int .i64 (b : Int), .int .i64 (e : Int), .int .i64 N] 32)).alloc (.cells #[.int .i64 0, .int .i64 0, .int .i64 0, .int .i64 0, .int .i64 0, .int .i64 0, .int .i64 0, .int .i64 0, .int .i64 0, .int .i64 0, .slice none 0 0, .bool false] 28)).frozen? ⟨W.heap.size, 2 + b, none⟩ = false := (((Blk.new W 28 #[.int .i64 f, .int .i64 (pc + 1), .int .i64 r0, .int .i64 r1, .int .i64 r2, .int .i64 r3, .int .i64 r4, .int .i64 r5, .int .i64 r6, .int .i64 r7, .slice D n c, .bool false]).alloc _).alloc _).frozen _
  have ge1 : (#[.int .i64 f, .int .i64 (pc + 1), .int .i64 r0, .int .i64 r1, .int .i64 r2, .int .i64 r3, .int .i64 r4, .int .i64 r5, .int .i64 r6, .int .i64 r7, .slice D n c, .bool false] : Array Value)[2 + e]? = some (.int .i64 re) := reE _ _ _ _
  have ge2 : (((W.alloc (.cells #[.int .i64 f, .int .i64 (pc + 1), .int .i64 r0, .int .i64 r1, .int .i64 r2, .int .i64 r3, .int .i64 r4, .int .i64 r5, .int .i64 r6, .int .i64 r7, .slice D n c, .bool false] 28)).alloc (.cells #[.int .i64 4, .int .i64 (a : Int), .int .i64 (b : Int), .int .i64 (e : Int), .int .i64 N] 32)).alloc (.cells #[.int .i64 0, .int .i64 0, .int .i64 0, .int .i64 0, .int .i64 0, .int .i64 0, .int .i64 0, .int .i64 0, .int .i64 0, .int .i64 0, .slice none 0 0, .bool false] 28)).cell? ⟨W.heap.size, 2 + e, none⟩ = some (.int .i64 re) := (((Blk.new W 28 #[.int .i64 f, .int .i64 (pc + 1), .int .i64 r0, .int .i64 r1, .int .i64 r2, .int .i64 r3, .int .i64 r4, .int .i64 r5, .int .i64 r6, .int .i64 r7, .slice D n c, .bool false]).alloc _).alloc _).cell _ |>.trans ge1
  have ge3 : (((W.alloc (.cells #[.int .i64 f, .int .i64 (pc + 1), .int .i64 r0, .int .i64 r1, .int .i64 r2, .int .i64 r3, .int .i64 r4, .int .i64 r5, .int .i64 r6, .int .i64 r7, .slice D n c, .bool false] 28)).alloc (.cells #[.int .i64 4, .int .i64 (a : Int), .int .i64 (b : Int), .int .i64 (e : Int), .int .i64 N] 32)).alloc (.cells #[.int .i64 0, .int .i64 0, .int .i64 0, .int .i64 0, .int .i64 0, .int .i64 0, .int .i64 0, .int .i64 0, .int .i64 0, .int .i64 0, .slice none 0 0, .bool false] 28)).frozen? ⟨W.heap.size, 2 + e, none⟩ = false := (((Blk.new W 28 #[.int .i64 f, .int .i64 (pc + 1), .int .i64 r0, .int .i64 r1, .int .i64 r2, .int .i64 r3, .int .i64 r4, .int .i64 r5, .int .i64 r6, .int .i64 r7, .slice D n c, .bool false]).alloc _).alloc _).frozen _
  have a0 : (0 : Int) ≤ a := by omega
  have a8 : (a : Int) < 8 := by omega
  have b0 : (0 : Int) ≤ b := by omega
  have b8 : (b : Int) < 8 := by omega
  have e0 : (0 : Int) ≤ e := by omega
  have e8 : (e : Int) < 8 := by omega
  have HRE := Lib.hid raE
  have HSE := Lib.hid (hsE f (pc + 1) (.slice D n c) (.bool false))
  have HTW : Hid (Blk (((W.alloc (.cells #[.int .i64 f, .int .i64 (pc + 1), .int .i64 r0, .int .i64 r1, .int .i64 r2, .int .i64 r3, .int .i64 r4, .int .i64 r5, .int .i64 r6, .int .i64 r7, .slice D n c, .bool false] 28)).alloc (.cells #[.int .i64 4, .int .i64 (a : Int), .int .i64 (b : Int), .int .i64 (e : Int), .int .i64 N] 32)).alloc (.cells #[.int .i64 0, .int .i64 0, .int .i64 0, .int .i64 0, .int .i64 0, .int .i64 0, .int .i64 0, .int .i64 0, .int .i64 0, .int .i64 0, .slice none 0 0, .bool false] 28)) W.heap.size 28 #[.int .i64 f, .int .i64 (pc + 1), .int .i64 r0, .int .i64 r1, .int .i64 r2, .int .i64 r3, .int .i64 r4, .int .i64 r5, .int .i64 r6, .int .i64 r7, .slice D n c, .bool false]) := Lib.hid (blk1 W _ _ _ _)
  have hI : Blk (((W.alloc (.cells #[.int .i64 f, .int .i64 (pc + 1), .int .i64 r0, .int .i64 r1, .int .i64 r2, .int .i64 r3, .int .i64 r4, .int .i64 r5, .int .i64 r6, .int .i64 r7, .slice D n c, .bool false] 28)).alloc (.cells #[.int .i64 4, .int .i64 (a : Int), .int .i64 (b : Int), .int .i64 (e : Int), .int .i64 N] 32)).alloc (.cells #[.int .i64 0, .int .i64 0, .int .i64 0, .int .i64 0, .int .i64 0, .int .i64 0, .int .i64 0, .int .i64 0, .int .i64 0, .int .i64 0, .slice none 0 0, .bool false] 28)) (W.heap.size + 1) 32 #[.int .i64 4, .int .i64 (a : Int), .int .i64 (b : Int), .int .i64 (e : Int), .int .i64 N] := blk2 W _ _ _ _
  have HZW : Hid (Blk (((W.alloc (.cells #[.int .i64 f, .int .i64 (pc + 1), .int .i64 r0, .int .i64 r1, .int .i64 r2, .int .i64 r3, .int .i64 r4, .int .i64 r5, .int .i64 r6, .int .i64 r7, .slice D n c, .bool false] 28)).alloc (.cells #[.int .i64 4, .int .i64 (a : Int), .int .i64 (b : Int), .int .i64 (e : Int), .int .i64 N] 32)).alloc (.cells #[.int .i64 0, .int .i64 0, .int .i64 0, .int .i64 0, .int .i64 0, .int .i64 0, .int .i64 0, .int .i64 0, .int .i64 0, .int .i64 0, .slice none 0 0, .bool false] 28)) (W.heap.size + 1 + 1) 28 #[.int .i64 0, .int .i64 0, .int .i64 0, .int .i64 0, .int .i64 0, .int .i64 0, .int .i64 0, .int .i64 0, .int .i64 0, .int .i64 0, .slice none 0 0, .bool false]) := Lib.hid (blk3 W _ _ _ _)
  have HCW : Hid (Chg (fun _ => False) (((W.alloc (.cells #[.int .i64 f, .int .i64 (pc + 1), .int .i64 r0, .int .i64 r1, .int .i64 r2, .int .i64 r3, .int .i64 r4, .int .i64 r5, .int .i64 r6, .int .i64 r7, .slice D n c, .bool false] 28)).alloc (.cells #[.int .i64 4, .int .i64 (a : Int), .int .i64 (b : Int), .int .i64 (e : Int), .int .i64 N] 32)).alloc (.cells #[.int .i64 0, .int .i64 0, .int .i64 0, .int .i64 0, .int .i64 0, .int .i64 0, .int .i64 0, .int .i64 0, .int .i64 0, .int .i64 0, .slice none 0 0, .bool false] 28)) (((W.alloc (.cells #[.int .i64 f, .int .i64 (pc + 1), .int .i64 r0, .int .i64 r1, .int .i64 r2, .int .i64 r3, .int .i64 r4, .int .i64 r5, .int .i64 r6, .int .i64 r7, .slice D n c, .bool false] 28)).alloc (.cells #[.int .i64 4, .int .i64 (a : Int), .int .i64 (b : Int), .int .i64 (e : Int), .int .i64 N] 32)).alloc (.cells #[.int .i64 0, .int .i64 0, .int .i64 0, .int .i64 0, .int .i64 0, .int .i64 0, .int .i64 0, .int .i64 0, .int .i64 0, .int .i64 0, .slice none 0 0, .bool false] 28)).drew) := Lib.hid (Chg.refl _ _).drew
  have i0 := hI.cell 0
  have i1 := hI.cell 1
  have i2 := hI.cell 2
  have i3 := hI.cell 3
  have il := hI.lt
  simp only [List.getElem?_toArray, List.getElem?_cons_zero, List.getElem?_cons_succ] at i0 i1 i2 i3
  have hs0 : ((((W.alloc (.cells #[.int .i64 f, .int .i64 (pc + 1), .int .i64 r0, .int .i64 r1, .int .i64 r2, .int .i64 r3, .int .i64 r4, .int .i64 r5, .int .i64 r6, .int .i64 r7, .slice D n c, .bool false] 28)).alloc (.cells #[.int .i64 4, .int .i64 (a : Int), .int .i64 (b : Int), .int .i64 (e : Int), .int .i64 N] 32)).alloc (.cells #[.int .i64 0, .int .i64 0, .int .i64 0, .int .i64 0, .int .i64 0, .int .i64 0, .int .i64 0, .int .i64 0, .int .i64 0, .int .i64 0, .slice none 0 0, .bool false] 28))).drew.cell? ⟨W.heap.size + 1, 0, none⟩ = some (.int .i64 4) ∧ ((((W.alloc (.cells #[.int .i64 f, .int .i64 (pc + 1), .int .i64 r0, .int .i64 r1, .int .i64 r2, .int .i64 r3, .int .i64 r4, .int .i64 r5, .int .i64 r6, .int .i64 r7, .slice D n c, .bool false] 28)).alloc (.cells #[.int .i64 4, .int .i64 (a : Int), .int .i64 (b : Int), .int .i64 (e : Int), .int .i64 N] 32)).alloc (.cells #[.int .i64 0, .int .i64 0, .int .i64 0, .int .i64 0, .int .i64 0, .int .i64 0, .int .i64 0, .int .i64 0, .int .i64 0, .int .i64 0, .slice none 0 0, .bool false] 28))).drew.cell? ⟨W.heap.size + 1, 1, none⟩ = some (.int .i64 (a : Int)) ∧ ((((W.alloc (.cells #[.int .i64 f, .int .i64 (pc + 1), .int .i64 r0, .int .i64 r1, .int .i64 r2, .int .i64 r3, .int .i64 r4, .int .i64 r5, .int .i64 r6, .int .i64 r7, .slice D n c, .bool false] 28)).alloc (.cells #[.int .i64 4, .int .i64 (a : Int), .int .i64 (b : Int), .int .i64 (e : Int), .int .i64 N] 32)).alloc (.cells #[.int .i64 0, .int .i64 0, .int .i64 0, .int .i64 0, .int .i64 0, .int .i64 0, .int .i64 0, .int .i64 0, .int .i64 0, .int .i64 0, .slice none 0 0, .bool false] 28))).drew.cell? ⟨W.heap.size + 1, 2, none⟩ = some (.int .i64 (b : Int)) ∧ ((((W.alloc (.cells #[.int .i64 f, .int .i64 (pc + 1), .int .i64 r0, .int .i64 r1, .int .i64 r2, .int .i64 r3, .int .i64 r4, .int .i64 r5, .int .i64 r6, .int .i64 r7, .slice D n c, .bool false] 28)).alloc (.cells #[.int .i64 4, .int .i64 (a : Int), .int .i64 (b : Int), .int .i64 (e : Int), .int .i64 N] 32)).alloc (.cells #[.int .i64 0, .int .i64 0, .int .i64 0, .int .i64 0, .int .i64 0, .int .i64 0, .int .i64 0, .int .i64 0, .int .i64 0, .int .i64 0, .slice none 0 0, .bool false] 28))).drew.cell? ⟨W.heap.size + 1, 3, none⟩ = some (.int .i64 (e : Int)) := ⟨i0, i1, i2, i3⟩
  clear hs hsE raE hra rbE hrb reE hre hI
  simp only [List.getD_cons_zero, List.getD_cons_succ]
  go_enter Tryd.func23, Tryd.ntmps23
  go_wp2
  refine wp_region_held_drew (S := fun w' => w'.cell? ⟨W.heap.size + 1, 0, none⟩ = some (.int .i64 4) ∧ w'.cell? ⟨W.heap.size + 1, 1, none⟩ = some (.int .i64 (a : Int)) ∧ w'.cell? ⟨W.heap.size + 1, 2, none⟩ = some (.int .i64 (b : Int)) ∧ w'.cell? ⟨W.heap.size + 1, 3, none⟩ = some (.int .i64 (e : Int))) (by kernel_rfl) hs0 (fun hHeld => ?_)
  refine wpAnyH_take (i := 0) (oi := Oper.mk _ _ _ _ _ _) (v := ?v87) rfl (by kernel_rfl) (by kernel_rfl) (by kernel_rfl) (fun _ _ _ h => h) (Or.inl ⟨by rfl, ?hy87⟩) (by assumption) ?rs87
  case hy87 => (intro w hSw; (try dsimp only at hSw); first | (go_simp <;> with_reducible rfl) | rfl)
  try simp only [Act.put, List.setIfInBounds_toArray, List.set_cons_zero, List.set_cons_succ]
  refine wpAnyH_take (i := 1) (oi := Oper.mk _ _ _ _ _ _) (v := ?v88) rfl (by kernel_rfl) (by kernel_rfl) (by kernel_rfl) (fun _ _ _ h => h) (Or.inl ⟨by rfl, ?hy88⟩) (by assumption) ?rs88
  case hy88 => (intro w hSw; (try dsimp only at hSw); first | (go_simp <;> with_reducible rfl) | rfl)
  try simp only [Act.put, List.setIfInBounds_toArray, List.set_cons_zero, List.set_cons_succ]
  refine wpAnyH_take (i := 2) (oi := Oper.mk _ _ _ _ _ _) (v := ?v89) rfl (by kernel_rfl) (by kernel_rfl) (by kernel_rfl) (fun _ _ _ h => h) (Or.inl ⟨by rfl, ?hy89⟩) (by assumption) ?rs89
  case hy89 => (intro w hSw; (try dsimp only at hSw); first | (go_simp <;> with_reducible rfl) | rfl)
  try simp only [Act.put, List.setIfInBounds_toArray, List.set_cons_zero, List.set_cons_succ]
  refine wpAnyH_take (i := 3) (oi := Oper.mk _ _ _ _ _ _) (v := ?v90) rfl (by kernel_rfl) (by kernel_rfl) (by kernel_rfl) (fun _ _ _ h => h) (Or.inl ⟨by rfl, ?hy90⟩) (by assumption) ?rs90
  case hy90 => (intro w hSw; (try dsimp only at hSw); first | (go_simp <;> with_reducible rfl) | rfl)
  try simp only [Act.put, List.setIfInBounds_toArray, List.set_cons_zero, List.set_cons_succ]
  refine wpAnyH_take (i := 5) (oi := Oper.mk _ _ _ _ _ _) (v := ?v91) rfl (by kernel_rfl) (by kernel_rfl) (by kernel_rfl) (fun _ _ _ h => h) (Or.inl ⟨by rfl, ?hy91⟩) (by assumption) ?rs91
  case hy91 => (intro w hSw; (try dsimp only at hSw); first | (go_simp <;> with_reducible rfl) | rfl)
  try simp only [Act.put, List.setIfInBounds_toArray, List.set_cons_zero, List.set_cons_succ]
  refine wpAnyH_take (i := 6) (oi := Oper.mk _ _ _ _ _ _) (v := ?v92) rfl (by kernel_rfl) (by kernel_rfl) (by kernel_rfl) (fun _ _ _ h => h) (Or.inl ⟨by rfl, ?hy92⟩) (by assumption) ?rs92
  case hy92 => (intro w hSw; (try dsimp only at hSw); first | (go_simp <;> with_reducible rfl) | rfl)
  try simp only [Act.put, List.setIfInBounds_toArray, List.set_cons_zero, List.set_cons_succ]
  refine wpAnyH_take (i := 7) (oi := Oper.mk _ _ _ _ _ _) (v := ?v93) rfl (by kernel_rfl) (by kernel_rfl) (by kernel_rfl) (fun _ _ _ h => h) (Or.inl ⟨by rfl, ?hy93⟩) (by assumption) ?rs93
  case hy93 => (intro w hSw; (try dsimp only at hSw); first | (go_simp <;> with_reducible rfl) | rfl)
  try simp only [Act.put, List.setIfInBounds_toArray, List.set_cons_zero, List.set_cons_succ]
  refine wpAnyH_take (i := 8) (oi := Oper.mk _ _ _ _ _ _) (v := ?v94) rfl (by kernel_rfl) (by kernel_rfl) (by kernel_rfl) (fun _ _ _ h => h) (Or.inl ⟨by rfl, ?hy94⟩) (by assumption) ?rs94
  case hy94 => (intro w hSw; (try dsimp only at hSw); first | (go_simp <;> with_reducible rfl) | rfl)
  try simp only [Act.put, List.setIfInBounds_toArray, List.set_cons_zero, List.set_cons_succ]
  refine wpAnyH_take (i := 10) (oi := Oper.mk _ _ _ _ _ _) (v := ?v95) rfl (by kernel_rfl) (by kernel_rfl) (by kernel_rfl) (fun _ _ _ h => h) (Or.inl ⟨by rfl, ?hy95⟩) (by assumption) ?rs95
  case hy95 => (intro w hSw; (try dsimp only at hSw); first | (go_simp <;> with_reducible rfl) | rfl)
  try simp only [Act.put, List.setIfInBounds_toArray, List.set_cons_zero, List.set_cons_succ]
  refine wpAnyH_take (i := 11) (oi := Oper.mk _ _ _ _ _ _) (v := ?v96) rfl (by kernel_rfl) (by kernel_rfl) (by kernel_rfl) (fun _ _ _ h => h) (Or.inl ⟨by rfl, ?hy96⟩) (by assumption) ?rs96
  case hy96 => (intro w hSw; (try dsimp only at hSw); first | (go_simp <;> with_reducible rfl) | rfl)
  try simp only [Act.put, List.setIfInBounds_toArray, List.set_cons_zero, List.set_cons_succ]
  refine wpAnyH_take (i := 12) (oi := Oper.mk _ _ _ _ _ _) (v := ?v97) rfl (by kernel_rfl) (by kernel_rfl) (by kernel_rfl) (fun _ _ _ h => h) (Or.inl ⟨by rfl, ?hy97⟩) (by assumption) ?rs97
  case hy97 => (intro w hSw; (try dsimp only at hSw); first | (go_simp <;> with_reducible rfl) | rfl)
  try simp only [Act.put, List.setIfInBounds_toArray, List.set_cons_zero, List.set_cons_succ]
  refine wpAnyH_take (i := 13) (oi := Oper.mk _ _ _ _ _ _) (v := ?v98) rfl (by kernel_rfl) (by kernel_rfl) (by kernel_rfl) (fun _ _ _ h => h) (Or.inl ⟨by rfl, ?hy98⟩) (by assumption) ?rs98
  case hy98 => (intro w hSw; (try dsimp only at hSw); first | (go_simp <;> with_reducible rfl) | rfl)
  try simp only [Act.put, List.setIfInBounds_toArray, List.set_cons_zero, List.set_cons_succ]
  refine wpAnyH_take (i := 17) (oi := Oper.mk _ _ _ _ _ _) (v := ?v99) rfl (by kernel_rfl) (by kernel_rfl) (by kernel_rfl) (fun _ _ _ h => h) (Or.inl ⟨by rfl, ?hy99⟩) (by assumption) ?rs99
  case hy99 => (intro w hSw; (try dsimp only at hSw); first | (go_simp <;> with_reducible rfl) | rfl)
  try simp only [Act.put, List.setIfInBounds_toArray, List.set_cons_zero, List.set_cons_succ]
  refine wpAnyH_ready (rs := [4, 9, 14]) (by kernel_rfl) (by simp) ?_
  refine AllReadyH.cons (o := Oper.mk _ _ _ _ _ _) rfl (fun K hK => ?_) ?_
  · go_simp
    go_at_call 33; refine (of_4 _).mono ?_; rintro e1 v1 ⟨rfl, rfl⟩
    refine hK.out _ _ hHeld (fun hHeld => ?_)
    clear hK K
    try simp only [Act.put, List.setIfInBounds_toArray, List.set_cons_zero, List.set_cons_succ]
    refine wpAnyH_ready (rs := [9, 14]) (by kernel_rfl) (by simp) ?_
    refine AllReadyH.cons (o := Oper.mk _ _ _ _ _ _) rfl (fun K hK => ?_) ?_
    · go_simp
      skip
      refine hK.out _ _ hHeld (fun hHeld => ?_)
      clear hK K
      try simp only [Act.put, List.setIfInBounds_toArray, List.set_cons_zero, List.set_cons_succ]
      refine wpAnyH_ready (rs := [14]) (by kernel_rfl) (by simp) ?_
      refine AllReadyH.cons (o := Oper.mk _ _ _ _ _ _) rfl (fun K hK => ?_) AllReadyH.nil
      go_simp
      skip
      refine hK.out _ _ hHeld (fun hHeld => ?_)
      clear hK K
      try simp only [Act.put, List.setIfInBounds_toArray, List.set_cons_zero, List.set_cons_succ]
      refine wpAnyH_take (i := 15) (oi := Oper.mk _ _ _ _ _ _) (v := ?v101) rfl (by kernel_rfl) (by kernel_rfl) (by kernel_rfl) (fun _ _ _ h => h) (Or.inl ⟨by rfl, ?hy101⟩) (by assumption) ?rs101
      case hy101 => (intro w hSw; (try dsimp only at hSw); first | (go_simp <;> with_reducible rfl) | rfl)
      try simp only [Act.put, List.setIfInBounds_toArray, List.set_cons_zero, List.set_cons_succ]
      refine wpAnyH_ready (rs := [16]) (by kernel_rfl) (by simp) ?_
      refine AllReadyH.cons (o := Oper.mk _ _ _ _ _ _) rfl (fun K hK => ?_) AllReadyH.nil
      go_simp
      go_at_call 42; refine (HM.out _).mono ?_; rintro e2 w5 ⟨rfl, hc5⟩; have HC5 := Lib.hid (HCW.out.trans hc5 (fun _ _ h => h)); have hs5 : w5.cell? ⟨W.heap.size + 1, 0, none⟩ = some (.int .i64 4) ∧ w5.cell? ⟨W.heap.size + 1, 1, none⟩ = some (.int .i64 (a : Int)) ∧ w5.cell? ⟨W.heap.size + 1, 2, none⟩ = some (.int .i64 (b : Int)) ∧ w5.cell? ⟨W.heap.size + 1, 3, none⟩ = some (.int .i64 (e : Int)) := ⟨(HC5.out.cell (p := ⟨W.heap.size + 1, 0, none⟩) il (fun h => h)).trans i0, (HC5.out.cell (p := ⟨W.heap.size + 1, 1, none⟩) il (fun h => h)).trans i1, (HC5.out.cell (p := ⟨W.heap.size + 1, 2, none⟩) il (fun h => h)).trans i2, (HC5.out.cell (p := ⟨W.heap.size + 1, 3, none⟩) il (fun h => h)).trans i3⟩; have hT5 := HTW.out.kept HC5.out (fun h => h); have HT5 := Lib.hid hT5; have HZ5 := Lib.hid (HZW.out.kept HC5.out (fun h => h)); have k2 : w5.cell? ⟨W.heap.size, 2 + a, none⟩ = some (.int .i64 ra) := (hT5.cell _).trans (HRE.out _ _ _ _); have k3 := hT5.frozen (2 + a); have kl := hT5.lt; clear hT5 hc5
      refine hK.out _ _ hs5 (fun hHeld => ?_)
      clear hK K
      try simp only [Act.put, List.setIfInBounds_toArray, List.set_cons_zero, List.set_cons_succ]
      refine wpAnyH_take (i := 18) (oi := Oper.mk _ _ _ _ _ _) (v := ?v103) rfl (by kernel_rfl) (by kernel_rfl) (by kernel_rfl) (fun _ _ _ h => h) (Or.inl ⟨by rfl, ?hy103⟩) (by assumption) ?rs103
      case hy103 => (intro w hSw; (try dsimp only at hSw); first | (go_simp <;> with_reducible rfl) | rfl)
      try simp only [Act.put, List.setIfInBounds_toArray, List.set_cons_zero, List.set_cons_succ]
      refine wpAnyH_ready (rs := [19]) (by kernel_rfl) (by simp) ?_
      refine AllReadyH.cons (o := Oper.mk _ _ _ _ _ _) rfl (fun K hK => ?_) AllReadyH.nil
      go_simp
      skip
      refine hK.out _ _ (by have hq := ((Chg.refl (fun k => k = W.heap.size) w5).setCell (p := ⟨W.heap.size, 2 + a, none⟩) (.inl rfl) (.int .i64 vv)); exact ⟨(hq.cell (p := ⟨W.heap.size + 1, 0, none⟩) (Nat.lt_of_lt_of_le il HC5.out.size) (by show ¬ W.heap.size + 1 = W.heap.size; omega)).trans hs5.1, (hq.cell (p := ⟨W.heap.size + 1, 1, none⟩) (Nat.lt_of_lt_of_le il HC5.out.size) (by show ¬ W.heap.size + 1 = W.heap.size; omega)).trans hs5.2.1, (hq.cell (p := ⟨W.heap.size + 1, 2, none⟩) (Nat.lt_of_lt_of_le il HC5.out.size) (by show ¬ W.heap.size + 1 = W.heap.size; omega)).trans hs5.2.2.1, (hq.cell (p := ⟨W.heap.size + 1, 3, none⟩) (Nat.lt_of_lt_of_le il HC5.out.size) (by show ¬ W.heap.size + 1 = W.heap.size; omega)).trans hs5.2.2.2⟩) (fun hHeld => ?_)
      clear hK K
      try simp only [Act.put, List.setIfInBounds_toArray, List.set_cons_zero, List.set_cons_succ]
      refine wpAnyH_done (by kernel_rfl) ?_ _
      obtain ⟨w6, hw6⟩ : ∃ w6, w6 = w5.setCell ⟨W.heap.size, 2 + a, none⟩ (.int .i64 vv) := ⟨_, rfl⟩
      rw [← hw6]
      have hT6 : Blk w6 W.heap.size 28 #[.int .i64 f, .int .i64 (pc + 1), .int .i64 s0, .int .i64 s1, .int .i64 s2, .int .i64 s3, .int .i64 s4, .int .i64 s5, .int .i64 s6, .int .i64 s7, .slice D n c, .bool false] := by
        have h := HT5.out.set_ (2 + a) (.int .i64 vv)
        rw [HSE.out] at h
        rw [hw6]
        exact h
      have hZ6 : Blk w6 (W.heap.size + 1 + 1) 28 #[.int .i64 0, .int .i64 0, .int .i64 0, .int .i64 0, .int .i64 0, .int .i64 0, .int .i64 0, .int .i64 0, .int .i64 0, .int .i64 0, .slice none 0 0, .bool false] := by
        rw [hw6]
        exact HZ5.out.far (p := ⟨W.heap.size, 2 + a, none⟩) (show W.heap.size + 1 + 1 ≠ W.heap.size by omega) _
      have HC6 : Hid (Chg (fun _ => False) W w6) := Lib.hid (by
        rw [hw6]
        exact ((((((Chg.refl _ _).alloc _).alloc _).alloc _).trans HC5.out (fun _ _ h => h)).setCell (p := ⟨W.heap.size, 2 + a, none⟩) (.inr (by show W.heap.size ≤ W.heap.size; omega)) _))
      have t0 := hT6.cell 0
      have z0 := hZ6.cell 0
      have y0 := hZ6.frozen 0
      have t1 := hT6.cell 1
      have z1 := hZ6.cell 1
      have y1 := hZ6.frozen 1
      have t2 := hT6.cell 2
      have z2 := hZ6.cell 2
      have y2 := hZ6.frozen 2
      have t3 := hT6.cell 3
      have z3 := hZ6.cell 3
      have y3 := hZ6.frozen 3
      have t4 := hT6.cell 4
      have z4 := hZ6.cell 4
      have y4 := hZ6.frozen 4
      have t5 := hT6.cell 5
      have z5 := hZ6.cell 5
      have y5 := hZ6.frozen 5
      have t6 := hT6.cell 6
      have z6 := hZ6.cell 6
      have y6 := hZ6.frozen 6
      have t7 := hT6.cell 7
      have z7 := hZ6.cell 7
      have y7 := hZ6.frozen 7
      have t8 := hT6.cell 8
      have z8 := hZ6.cell 8
      have y8 := hZ6.frozen 8
      have t9 := hT6.cell 9
      have z9 := hZ6.cell 9
      have y9 := hZ6.frozen 9
      have t10 := hT6.cell 10
      have z10 := hZ6.cell 10
      have y10 := hZ6.frozen 10
      have t11 := hT6.cell 11
      have z11 := hZ6.cell 11
      have y11 := hZ6.frozen 11
      have tl := hT6.lt
      have zl := hZ6.lt
      simp only [List.getElem?_toArray, List.getElem?_cons_zero, List.getElem?_cons_succ] at t0 z0 t1 z1 t2 z2 t3 z3 t4 z4 t5 z5 t6 z6 t7 z7 t8 z8 t9 z9 t10 z10 t11 z11
      have HZ6 := Lib.hid hZ6
      clear hw6 hT6 hZ6 k2 k3
      go_wp2
      refine bodyPost_ret (results_cell_row rfl _ _ (W.heap.size + 1 + 1) 28 #[.int .i64 f, .int .i64 (pc + 1), .int .i64 s0, .int .i64 s1, .int .i64 s2, .int .i64 s3, .int .i64 s4, .int .i64 s5, .int .i64 s6, .int .i64 s7, .slice D n c, .bool false] (0, 0) _ rfl (Blk.set12 _ _ _ _ _ _ _ _ _ _ _ _ HZ6.out) Tryd.underlying28 rfl (by kernel_rfl)) rfl ?_
      exact ⟨rfl, chg12 _ _ _ _ _ _ _ _ _ _ _ _ HC6.out (by omega)⟩
    refine AllReadyH.cons (o := Oper.mk _ _ _ _ _ _) rfl (fun K hK => ?_) AllReadyH.nil
    go_simp
    skip
    refine hK.out _ _ hHeld (fun hHeld => ?_)
    clear hK K
    try simp only [Act.put, List.setIfInBounds_toArray, List.set_cons_zero, List.set_cons_succ]
    refine wpAnyH_ready (rs := [9]) (by kernel_rfl) (by simp) ?_
    refine AllReadyH.cons (o := Oper.mk _ _ _ _ _ _) rfl (fun K hK => ?_) AllReadyH.nil
    go_simp
    skip
    refine hK.out _ _ hHeld (fun hHeld => ?_)
    clear hK K
    try simp only [Act.put, List.setIfInBounds_toArray, List.set_cons_zero, List.set_cons_succ]
    refine wpAnyH_take (i := 15) (oi := Oper.mk _ _ _ _ _ _) (v := ?v106) rfl (by kernel_rfl) (by kernel_rfl) (by kernel_rfl) (fun _ _ _ h => h) (Or.inl ⟨by rfl, ?hy106⟩) (by assumption) ?rs106
    case hy106 => (intro w hSw; (try dsimp only at hSw); first | (go_simp <;> with_reducible rfl) | rfl)
    try simp only [Act.put, List.setIfInBounds_toArray, List.set_cons_zero, List.set_cons_succ]
    refine wpAnyH_ready (rs := [16]) (by kernel_rfl) (by simp) ?_
    refine AllReadyH.cons (o := Oper.mk _ _ _ _ _ _) rfl (fun K hK => ?_) AllReadyH.nil
    go_simp
    go_at_call 42; refine (HM.out _).mono ?_; rintro e2 w5 ⟨rfl, hc5⟩; have HC5 := Lib.hid (HCW.out.trans hc5 (fun _ _ h => h)); have hs5 : w5.cell? ⟨W.heap.size + 1, 0, none⟩ = some (.int .i64 4) ∧ w5.cell? ⟨W.heap.size + 1, 1, none⟩ = some (.int .i64 (a : Int)) ∧ w5.cell? ⟨W.heap.size + 1, 2, none⟩ = some (.int .i64 (b : Int)) ∧ w5.cell? ⟨W.heap.size + 1, 3, none⟩ = some (.int .i64 (e : Int)) := ⟨(HC5.out.cell (p := ⟨W.heap.size + 1, 0, none⟩) il (fun h => h)).trans i0, (HC5.out.cell (p := ⟨W.heap.size + 1, 1, none⟩) il (fun h => h)).trans i1, (HC5.out.cell (p := ⟨W.heap.size + 1, 2, none⟩) il (fun h => h)).trans i2, (HC5.out.cell (p := ⟨W.heap.size + 1, 3, none⟩) il (fun h => h)).trans i3⟩; have hT5 := HTW.out.kept HC5.out (fun h => h); have HT5 := Lib.hid hT5; have HZ5 := Lib.hid (HZW.out.kept HC5.out (fun h => h)); have k2 : w5.cell? ⟨W.heap.size, 2 + a, none⟩ = some (.int .i64 ra) := (hT5.cell _).trans (HRE.out _ _ _ _); have k3 := hT5.frozen (2 + a); have kl := hT5.lt; clear hT5 hc5
    refine hK.out _ _ hs5 (fun hHeld => ?_)
    clear hK K
    try simp only [Act.put, List.setIfInBounds_toArray, List.set_cons_zero, List.set_cons_succ]
    refine wpAnyH_take (i := 18) (oi := Oper.mk _ _ _ _ _ _) (v := ?v108) rfl (by kernel_rfl) (by kernel_rfl) (by kernel_rfl) (fun _ _ _ h => h) (Or.inl ⟨by rfl, ?hy108⟩) (by assumption) ?rs108
    case hy108 => (intro w hSw; (try dsimp only at hSw); first | (go_simp <;> with_reducible rfl) | rfl)
    try simp only [Act.put, List.setIfInBounds_toArray, List.set_cons_zero, List.set_cons_succ]
    refine wpAnyH_ready (rs := [19]) (by kernel_rfl) (by simp) ?_
    refine AllReadyH.cons (o := Oper.mk _ _ _ _ _ _) rfl (fun K hK => ?_) AllReadyH.nil
    go_simp
    skip
    refine hK.out _ _ (by have hq := ((Chg.refl (fun k => k = W.heap.size) w5).setCell (p := ⟨W.heap.size, 2 + a, none⟩) (.inl rfl) (.int .i64 vv)); exact ⟨(hq.cell (p := ⟨W.heap.size + 1, 0, none⟩) (Nat.lt_of_lt_of_le il HC5.out.size) (by show ¬ W.heap.size + 1 = W.heap.size; omega)).trans hs5.1, (hq.cell (p := ⟨W.heap.size + 1, 1, none⟩) (Nat.lt_of_lt_of_le il HC5.out.size) (by show ¬ W.heap.size + 1 = W.heap.size; omega)).trans hs5.2.1, (hq.cell (p := ⟨W.heap.size + 1, 2, none⟩) (Nat.lt_of_lt_of_le il HC5.out.size) (by show ¬ W.heap.size + 1 = W.heap.size; omega)).trans hs5.2.2.1, (hq.cell (p := ⟨W.heap.size + 1, 3, none⟩) (Nat.lt_of_lt_of_le il HC5.out.size) (by show ¬ W.heap.size + 1 = W.heap.size; omega)).trans hs5.2.2.2⟩) (fun hHeld => ?_)
    clear hK K
    try simp only [Act.put, List.setIfInBounds_toArray, List.set_cons_zero, List.set_cons_succ]
    refine wpAnyH_done (by kernel_rfl) ?_ _
    obtain ⟨w6, hw6⟩ : ∃ w6, w6 = w5.setCell ⟨W.heap.size, 2 + a, none⟩ (.int .i64 vv) := ⟨_, rfl⟩
    rw [← hw6]
    have hT6 : Blk w6 W.heap.size 28 #[.int .i64 f, .int .i64 (pc + 1), .int .i64 s0, .int .i64 s1, .int .i64 s2, .int .i64 s3, .int .i64 s4, .int .i64 s5, .int .i64 s6, .int .i64 s7, .slice D n c, .bool false] := by
      have h := HT5.out.set_ (2 + a) (.int .i64 vv)
      rw [HSE.out] at h
      rw [hw6]
      exact h
    have hZ6 : Blk w6 (W.heap.size + 1 + 1) 28 #[.int .i64 0, .int .i64 0, .int .i64 0, .int .i64 0, .int .i64 0, .int .i64 0, .int .i64 0, .int .i64 0, .int .i64 0, .int .i64 0, .slice none 0 0, .bool false] := by
      rw [hw6]
      exact HZ5.out.far (p := ⟨W.heap.size, 2 + a, none⟩) (show W.heap.size + 1 + 1 ≠ W.heap.size by omega) _
    have HC6 : Hid (Chg (fun _ => False) W w6) := Lib.hid (by
      rw [hw6]
      exact ((((((Chg.refl _ _).alloc _).alloc _).alloc _).trans HC5.out (fun _ _ h => h)).setCell (p := ⟨W.heap.size, 2 + a, none⟩) (.inr (by show W.heap.size ≤ W.heap.size; omega)) _))
    have t0 := hT6.cell 0
    have z0 := hZ6.cell 0
    have y0 := hZ6.frozen 0
    have t1 := hT6.cell 1
    have z1 := hZ6.cell 1
    have y1 := hZ6.frozen 1
    have t2 := hT6.cell 2
    have z2 := hZ6.cell 2
    have y2 := hZ6.frozen 2
    have t3 := hT6.cell 3
    have z3 := hZ6.cell 3
    have y3 := hZ6.frozen 3
    have t4 := hT6.cell 4
    have z4 := hZ6.cell 4
    have y4 := hZ6.frozen 4
    have t5 := hT6.cell 5
    have z5 := hZ6.cell 5
    have y5 := hZ6.frozen 5
    have t6 := hT6.cell 6
    have z6 := hZ6.cell 6
    have y6 := hZ6.frozen 6
    have t7 := hT6.cell 7
    have z7 := hZ6.cell 7
    have y7 := hZ6.frozen 7
    have t8 := hT6.cell 8
    have z8 := hZ6.cell 8
    have y8 := hZ6.frozen 8
    have t9 := hT6.cell 9
    have z9 := hZ6.cell 9
    have y9 := hZ6.frozen 9
    have t10 := hT6.cell 10
    have z10 := hZ6.cell 10
    have y10 := hZ6.frozen 10
    have t11 := hT6.cell 11
    have z11 := hZ6.cell 11
    have y11 := hZ6.frozen 11
    have tl := hT6.lt
    have zl := hZ6.lt
    simp only [List.getElem?_toArray, List.getElem?_cons_zero, List.getElem?_cons_succ] at t0 z0 t1 z1 t2 z2 t3 z3 t4 z4 t5 z5 t6 z6 t7 z7 t8 z8 t9 z9 t10 z10 t11 z11
    have HZ6 := Lib.hid hZ6
    clear hw6 hT6 hZ6 k2 k3
    go_wp2
    refine bodyPost_ret (results_cell_row rfl _ _ (W.heap.size + 1 + 1) 28 #[.int .i64 f, .int .i64 (pc + 1), .int .i64 s0, .int .i64 s1, .int .i64 s2, .int .i64 s3, .int .i64 s4, .int .i64 s5, .int .i64 s6, .int .i64 s7, .slice D n c, .bool false] (0, 0) _ rfl (Blk.set12 _ _ _ _ _ _ _ _ _ _ _ _ HZ6.out) Tryd.underlying28 rfl (by kernel_rfl)) rfl ?_
    exact ⟨rfl, chg12 _ _ _ _ _ _ _ _ _ _ _ _ HC6.out (by omega)⟩
  refine AllReadyH.cons (o := Oper.mk _ _ _ _ _ _) rfl (fun K hK => ?_) ?_
  · go_simp
    skip
    refine hK.out _ _ hHeld (fun hHeld => ?_)
    clear hK K
    try simp only [Act.put, List.setIfInBounds_toArray, List.set_cons_zero, List.set_cons_succ]
    refine wpAnyH_ready (rs := [4, 14]) (by kernel_rfl) (by simp) ?_
    refine AllReadyH.cons (o := Oper.mk _ _ _ _ _ _) rfl (fun K hK => ?_) ?_
    · go_simp
      go_at_call 33; refine (of_4 _).mono ?_; rintro e1 v1 ⟨rfl, rfl⟩
      refine hK.out _ _ hHeld (fun hHeld => ?_)
      clear hK K
      try simp only [Act.put, List.setIfInBounds_toArray, List.set_cons_zero, List.set_cons_succ]
      refine wpAnyH_ready (rs := [14]) (by kernel_rfl) (by simp) ?_
      refine AllReadyH.cons (o := Oper.mk _ _ _ _ _ _) rfl (fun K hK => ?_) AllReadyH.nil
      go_simp
      skip
      refine hK.out _ _ hHeld (fun hHeld => ?_)
      clear hK K
      try simp only [Act.put, List.setIfInBounds_toArray, List.set_cons_zero, List.set_cons_succ]
      refine wpAnyH_take (i := 15) (oi := Oper.mk _ _ _ _ _ _) (v := ?v111) rfl (by kernel_rfl) (by kernel_rfl) (by kernel_rfl) (fun _ _ _ h => h) (Or.inl ⟨by rfl, ?hy111⟩) (by assumption) ?rs111
      case hy111 => (intro w hSw; (try dsimp only at hSw); first | (go_simp <;> with_reducible rfl) | rfl)
      try simp only [Act.put, List.setIfInBounds_toArray, List.set_cons_zero, List.set_cons_succ]
      refine wpAnyH_ready (rs := [16]) (by kernel_rfl) (by simp) ?_
      refine AllReadyH.cons (o := Oper.mk _ _ _ _ _ _) rfl (fun K hK => ?_) AllReadyH.nil
      go_simp
      go_at_call 42; refine (HM.out _).mono ?_; rintro e2 w5 ⟨rfl, hc5⟩; have HC5 := Lib.hid (HCW.out.trans hc5 (fun _ _ h => h)); have hs5 : w5.cell? ⟨W.heap.size + 1, 0, none⟩ = some (.int .i64 4) ∧ w5.cell? ⟨W.heap.size + 1, 1, none⟩ = some (.int .i64 (a : Int)) ∧ w5.cell? ⟨W.heap.size + 1, 2, none⟩ = some (.int .i64 (b : Int)) ∧ w5.cell? ⟨W.heap.size + 1, 3, none⟩ = some (.int .i64 (e : Int)) := ⟨(HC5.out.cell (p := ⟨W.heap.size + 1, 0, none⟩) il (fun h => h)).trans i0, (HC5.out.cell (p := ⟨W.heap.size + 1, 1, none⟩) il (fun h => h)).trans i1, (HC5.out.cell (p := ⟨W.heap.size + 1, 2, none⟩) il (fun h => h)).trans i2, (HC5.out.cell (p := ⟨W.heap.size + 1, 3, none⟩) il (fun h => h)).trans i3⟩; have hT5 := HTW.out.kept HC5.out (fun h => h); have HT5 := Lib.hid hT5; have HZ5 := Lib.hid (HZW.out.kept HC5.out (fun h => h)); have k2 : w5.cell? ⟨W.heap.size, 2 + a, none⟩ = some (.int .i64 ra) := (hT5.cell _).trans (HRE.out _ _ _ _); have k3 := hT5.frozen (2 + a); have kl := hT5.lt; clear hT5 hc5
      refine hK.out _ _ hs5 (fun hHeld => ?_)
      clear hK K
      try simp only [Act.put, List.setIfInBounds_toArray, List.set_cons_zero, List.set_cons_succ]
      refine wpAnyH_take (i := 18) (oi := Oper.mk _ _ _ _ _ _) (v := ?v113) rfl (by kernel_rfl) (by kernel_rfl) (by kernel_rfl) (fun _ _ _ h => h) (Or.inl ⟨by rfl, ?hy113⟩) (by assumption) ?rs113
      case hy113 => (intro w hSw; (try dsimp only at hSw); first | (go_simp <;> with_reducible rfl) | rfl)
      try simp only [Act.put, List.setIfInBounds_toArray, List.set_cons_zero, List.set_cons_succ]
      refine wpAnyH_ready (rs := [19]) (by kernel_rfl) (by simp) ?_
      refine AllReadyH.cons (o := Oper.mk _ _ _ _ _ _) rfl (fun K hK => ?_) AllReadyH.nil
      go_simp
      skip
      refine hK.out _ _ (by have hq := ((Chg.refl (fun k => k = W.heap.size) w5).setCell (p := ⟨W.heap.size, 2 + a, none⟩) (.inl rfl) (.int .i64 vv)); exact ⟨(hq.cell (p := ⟨W.heap.size + 1, 0, none⟩) (Nat.lt_of_lt_of_le il HC5.out.size) (by show ¬ W.heap.size + 1 = W.heap.size; omega)).trans hs5.1, (hq.cell (p := ⟨W.heap.size + 1, 1, none⟩) (Nat.lt_of_lt_of_le il HC5.out.size) (by show ¬ W.heap.size + 1 = W.heap.size; omega)).trans hs5.2.1, (hq.cell (p := ⟨W.heap.size + 1, 2, none⟩) (Nat.lt_of_lt_of_le il HC5.out.size) (by show ¬ W.heap.size + 1 = W.heap.size; omega)).trans hs5.2.2.1, (hq.cell (p := ⟨W.heap.size + 1, 3, none⟩) (Nat.lt_of_lt_of_le il HC5.out.size) (by show ¬ W.heap.size + 1 = W.heap.size; omega)).trans hs5.2.2.2⟩) (fun hHeld => ?_)
      clear hK K
      try simp only [Act.put, List.setIfInBounds_toArray, List.set_cons_zero, List.set_cons_succ]
      refine wpAnyH_done (by kernel_rfl) ?_ _
      obtain ⟨w6, hw6⟩ : ∃ w6, w6 = w5.setCell ⟨W.heap.size, 2 + a, none⟩ (.int .i64 vv) := ⟨_, rfl⟩
      rw [← hw6]
      have hT6 : Blk w6 W.heap.size 28 #[.int .i64 f, .int .i64 (pc + 1), .int .i64 s0, .int .i64 s1, .int .i64 s2, .int .i64 s3, .int .i64 s4, .int .i64 s5, .int .i64 s6, .int .i64 s7, .slice D n c, .bool false] := by
        have h := HT5.out.set_ (2 + a) (.int .i64 vv)
        rw [HSE.out] at h
        rw [hw6]
        exact h
      have hZ6 : Blk w6 (W.heap.size + 1 + 1) 28 #[.int .i64 0, .int .i64 0, .int .i64 0, .int .i64 0, .int .i64 0, .int .i64 0, .int .i64 0, .int .i64 0, .int .i64 0, .int .i64 0, .slice none 0 0, .bool false] := by
        rw [hw6]
        exact HZ5.out.far (p := ⟨W.heap.size, 2 + a, none⟩) (show W.heap.size + 1 + 1 ≠ W.heap.size by omega) _
      have HC6 : Hid (Chg (fun _ => False) W w6) := Lib.hid (by
        rw [hw6]
        exact ((((((Chg.refl _ _).alloc _).alloc _).alloc _).trans HC5.out (fun _ _ h => h)).setCell (p := ⟨W.heap.size, 2 + a, none⟩) (.inr (by show W.heap.size ≤ W.heap.size; omega)) _))
      have t0 := hT6.cell 0
      have z0 := hZ6.cell 0
      have y0 := hZ6.frozen 0
      have t1 := hT6.cell 1
      have z1 := hZ6.cell 1
      have y1 := hZ6.frozen 1
      have t2 := hT6.cell 2
      have z2 := hZ6.cell 2
      have y2 := hZ6.frozen 2
      have t3 := hT6.cell 3
      have z3 := hZ6.cell 3
      have y3 := hZ6.frozen 3
      have t4 := hT6.cell 4
      have z4 := hZ6.cell 4
      have y4 := hZ6.frozen 4
      have t5 := hT6.cell 5
      have z5 := hZ6.cell 5
      have y5 := hZ6.frozen 5
      have t6 := hT6.cell 6
      have z6 := hZ6.cell 6
      have y6 := hZ6.frozen 6
      have t7 := hT6.cell 7
      have z7 := hZ6.cell 7
      have y7 := hZ6.frozen 7
      have t8 := hT6.cell 8
      have z8 := hZ6.cell 8
      have y8 := hZ6.frozen 8
      have t9 := hT6.cell 9
      have z9 := hZ6.cell 9
      have y9 := hZ6.frozen 9
      have t10 := hT6.cell 10
      have z10 := hZ6.cell 10
      have y10 := hZ6.frozen 10
      have t11 := hT6.cell 11
      have z11 := hZ6.cell 11
      have y11 := hZ6.frozen 11
      have tl := hT6.lt
      have zl := hZ6.lt
      simp only [List.getElem?_toArray, List.getElem?_cons_zero, List.getElem?_cons_succ] at t0 z0 t1 z1 t2 z2 t3 z3 t4 z4 t5 z5 t6 z6 t7 z7 t8 z8 t9 z9 t10 z10 t11 z11
      have HZ6 := Lib.hid hZ6
      clear hw6 hT6 hZ6 k2 k3
      go_wp2
      refine bodyPost_ret (results_cell_row rfl _ _ (W.heap.size + 1 + 1) 28 #[.int .i64 f, .int .i64 (pc + 1), .int .i64 s0, .int .i64 s1, .int .i64 s2, .int .i64 s3, .int .i64 s4, .int .i64 s5, .int .i64 s6, .int .i64 s7, .slice D n c, .bool false] (0, 0) _ rfl (Blk.set12 _ _ _ _ _ _ _ _ _ _ _ _ HZ6.out) Tryd.underlying28 rfl (by kernel_rfl)) rfl ?_
      exact ⟨rfl, chg12 _ _ _ _ _ _ _ _ _ _ _ _ HC6.out (by omega)⟩
    refine AllReadyH.cons (o := Oper.mk _ _ _ _ _ _) rfl (fun K hK => ?_) AllReadyH.nil
    go_simp
    skip
    refine hK.out _ _ hHeld (fun hHeld => ?_)
    clear hK K
    try simp only [Act.put, List.setIfInBounds_toArray, List.set_cons_zero, List.set_cons_succ]
    refine wpAnyH_take (i := 15) (oi := Oper.mk _ _ _ _ _ _) (v := ?v115) rfl (by kernel_rfl) (by kernel_rfl) (by kernel_rfl) (fun _ _ _ h => h) (Or.inl ⟨by rfl, ?hy115⟩) (by assumption) ?rs115
    case hy115 => (intro w hSw; (try dsimp only at hSw); first | (go_simp <;> with_reducible rfl) | rfl)
    try simp only [Act.put, List.setIfInBounds_toArray, List.set_cons_zero, List.set_cons_succ]
    refine wpAnyH_ready (rs := [4]) (by kernel_rfl) (by simp) ?_
    refine AllReadyH.cons (o := Oper.mk _ _ _ _ _ _) rfl (fun K hK => ?_) AllReadyH.nil
    go_simp
    go_at_call 33; refine (of_4 _).mono ?_; rintro e1 v1 ⟨rfl, rfl⟩
    refine hK.out _ _ hHeld (fun hHeld => ?_)
    clear hK K
    try simp only [Act.put, List.setIfInBounds_toArray, List.set_cons_zero, List.set_cons_succ]
    refine wpAnyH_ready (rs := [16]) (by kernel_rfl) (by simp) ?_
    refine AllReadyH.cons (o := Oper.mk _ _ _ _ _ _) rfl (fun K hK => ?_) AllReadyH.nil
    go_simp
    go_at_call 42; refine (HM.out _).mono ?_; rintro e2 w5 ⟨rfl, hc5⟩; have HC5 := Lib.hid (HCW.out.trans hc5 (fun _ _ h => h)); have hs5 : w5.cell? ⟨W.heap.size + 1, 0, none⟩ = some (.int .i64 4) ∧ w5.cell? ⟨W.heap.size + 1, 1, none⟩ = some (.int .i64 (a : Int)) ∧ w5.cell? ⟨W.heap.size + 1, 2, none⟩ = some (.int .i64 (b : Int)) ∧ w5.cell? ⟨W.heap.size + 1, 3, none⟩ = some (.int .i64 (e : Int)) := ⟨(HC5.out.cell (p := ⟨W.heap.size + 1, 0, none⟩) il (fun h => h)).trans i0, (HC5.out.cell (p := ⟨W.heap.size + 1, 1, none⟩) il (fun h => h)).trans i1, (HC5.out.cell (p := ⟨W.heap.size + 1, 2, none⟩) il (fun h => h)).trans i2, (HC5.out.cell (p := ⟨W.heap.size + 1, 3, none⟩) il (fun h => h)).trans i3⟩; have hT5 := HTW.out.kept HC5.out (fun h => h); have HT5 := Lib.hid hT5; have HZ5 := Lib.hid (HZW.out.kept HC5.out (fun h => h)); have k2 : w5.cell? ⟨W.heap.size, 2 + a, none⟩ = some (.int .i64 ra) := (hT5.cell _).trans (HRE.out _ _ _ _); have k3 := hT5.frozen (2 + a); have kl := hT5.lt; clear hT5 hc5
    refine hK.out _ _ hs5 (fun hHeld => ?_)
    clear hK K
    try simp only [Act.put, List.setIfInBounds_toArray, List.set_cons_zero, List.set_cons_succ]
    refine wpAnyH_take (i := 18) (oi := Oper.mk _ _ _ _ _ _) (v := ?v118) rfl (by kernel_rfl) (by kernel_rfl) (by kernel_rfl) (fun _ _ _ h => h) (Or.inl ⟨by rfl, ?hy118⟩) (by assumption) ?rs118
    case hy118 => (intro w hSw; (try dsimp only at hSw); first | (go_simp <;> with_reducible rfl) | rfl)
    try simp only [Act.put, List.setIfInBounds_toArray, List.set_cons_zero, List.set_cons_succ]
    refine wpAnyH_ready (rs := [19]) (by kernel_rfl) (by simp) ?_
    refine AllReadyH.cons (o := Oper.mk _ _ _ _ _ _) rfl (fun K hK => ?_) AllReadyH.nil
    go_simp
    skip
    refine hK.out _ _ (by have hq := ((Chg.refl (fun k => k = W.heap.size) w5).setCell (p := ⟨W.heap.size, 2 + a, none⟩) (.inl rfl) (.int .i64 vv)); exact ⟨(hq.cell (p := ⟨W.heap.size + 1, 0, none⟩) (Nat.lt_of_lt_of_le il HC5.out.size) (by show ¬ W.heap.size + 1 = W.heap.size; omega)).trans hs5.1, (hq.cell (p := ⟨W.heap.size + 1, 1, none⟩) (Nat.lt_of_lt_of_le il HC5.out.size) (by show ¬ W.heap.size + 1 = W.heap.size; omega)).trans hs5.2.1, (hq.cell (p := ⟨W.heap.size + 1, 2, none⟩) (Nat.lt_of_lt_of_le il HC5.out.size) (by show ¬ W.heap.size + 1 = W.heap.size; omega)).trans hs5.2.2.1, (hq.cell (p := ⟨W.heap.size + 1, 3, none⟩) (Nat.lt_of_lt_of_le il HC5.out.size) (by show ¬ W.heap.size + 1 = W.heap.size; omega)).trans hs5.2.2.2⟩) (fun hHeld => ?_)
    clear hK K
    try simp only [Act.put, List.setIfInBounds_toArray, List.set_cons_zero, List.set_cons_succ]
    refine wpAnyH_done (by kernel_rfl) ?_ _
    obtain ⟨w6, hw6⟩ : ∃ w6, w6 = w5.setCell ⟨W.heap.size, 2 + a, none⟩ (.int .i64 vv) := ⟨_, rfl⟩
    rw [← hw6]
    have hT6 : Blk w6 W.heap.size 28 #[.int .i64 f, .int .i64 (pc + 1), .int .i64 s0, .int .i64 s1, .int .i64 s2, .int .i64 s3, .int .i64 s4, .int .i64 s5, .int .i64 s6, .int .i64 s7, .slice D n c, .bool false] := by
      have h := HT5.out.set_ (2 + a) (.int .i64 vv)
      rw [HSE.out] at h
      rw [hw6]
      exact h
    have hZ6 : Blk w6 (W.heap.size + 1 + 1) 28 #[.int .i64 0, .int .i64 0, .int .i64 0, .int .i64 0, .int .i64 0, .int .i64 0, .int .i64 0, .int .i64 0, .int .i64 0, .int .i64 0, .slice none 0 0, .bool false] := by
      rw [hw6]
      exact HZ5.out.far (p := ⟨W.heap.size, 2 + a, none⟩) (show W.heap.size + 1 + 1 ≠ W.heap.size by omega) _
    have HC6 : Hid (Chg (fun _ => False) W w6) := Lib.hid (by
      rw [hw6]
      exact ((((((Chg.refl _ _).alloc _).alloc _).alloc _).trans HC5.out (fun _ _ h => h)).setCell (p := ⟨W.heap.size, 2 + a, none⟩) (.inr (by show W.heap.size ≤ W.heap.size; omega)) _))
    have t0 := hT6.cell 0
    have z0 := hZ6.cell 0
    have y0 := hZ6.frozen 0
    have t1 := hT6.cell 1
    have z1 := hZ6.cell 1
    have y1 := hZ6.frozen 1
    have t2 := hT6.cell 2
    have z2 := hZ6.cell 2
    have y2 := hZ6.frozen 2
    have t3 := hT6.cell 3
    have z3 := hZ6.cell 3
    have y3 := hZ6.frozen 3
    have t4 := hT6.cell 4
    have z4 := hZ6.cell 4
    have y4 := hZ6.frozen 4
    have t5 := hT6.cell 5
    have z5 := hZ6.cell 5
    have y5 := hZ6.frozen 5
    have t6 := hT6.cell 6
    have z6 := hZ6.cell 6
    have y6 := hZ6.frozen 6
    have t7 := hT6.cell 7
    have z7 := hZ6.cell 7
    have y7 := hZ6.frozen 7
    have t8 := hT6.cell 8
    have z8 := hZ6.cell 8
    have y8 := hZ6.frozen 8
    have t9 := hT6.cell 9
    have z9 := hZ6.cell 9
    have y9 := hZ6.frozen 9
    have t10 := hT6.cell 10
    have z10 := hZ6.cell 10
    have y10 := hZ6.frozen 10
    have t11 := hT6.cell 11
    have z11 := hZ6.cell 11
    have y11 := hZ6.frozen 11
    have tl := hT6.lt
    have zl := hZ6.lt
    simp only [List.getElem?_toArray, List.getElem?_cons_zero, List.getElem?_cons_succ] at t0 z0 t1 z1 t2 z2 t3 z3 t4 z4 t5 z5 t6 z6 t7 z7 t8 z8 t9 z9 t10 z10 t11 z11
    have HZ6 := Lib.hid hZ6
    clear hw6 hT6 hZ6 k2 k3
    go_wp2
    refine bodyPost_ret (results_cell_row rfl _ _ (W.heap.size + 1 + 1) 28 #[.int .i64 f, .int .i64 (pc + 1), .int .i64 s0, .int .i64 s1, .int .i64 s2, .int .i64 s3, .int .i64 s4, .int .i64 s5, .int .i64 s6, .int .i64 s7, .slice D n c, .bool false] (0, 0) _ rfl (Blk.set12 _ _ _ _ _ _ _ _ _ _ _ _ HZ6.out) Tryd.underlying28 rfl (by kernel_rfl)) rfl ?_
    exact ⟨rfl, chg12 _ _ _ _ _ _ _ _ _ _ _ _ HC6.out (by omega)⟩
  refine AllReadyH.cons (o := Oper.mk _ _ _ _ _ _) rfl (fun K hK => ?_) AllReadyH.nil
  go_simp
  skip
  refine hK.out _ _ hHeld (fun hHeld => ?_)
  clear hK K
  try simp only [Act.put, List.setIfInBounds_toArray, List.set_cons_zero, List.set_cons_succ]
  refine wpAnyH_ready (rs := [4, 9]) (by kernel_rfl) (by simp) ?_
  refine AllReadyH.cons (o := Oper.mk _ _ _ _ _ _) rfl (fun K hK => ?_) ?_
  · go_simp
    go_at_call 33; refine (of_4 _).mono ?_; rintro e1 v1 ⟨rfl, rfl⟩
    refine hK.out _ _ hHeld (fun hHeld => ?_)
    clear hK K
    try simp only [Act.put, List.setIfInBounds_toArray, List.set_cons_zero, List.set_cons_succ]
    refine wpAnyH_ready (rs := [9]) (by kernel_rfl) (by simp) ?_
    refine AllReadyH.cons (o := Oper.mk _ _ _ _ _ _) rfl (fun K hK => ?_) AllReadyH.nil
    go_simp
    skip
    refine hK.out _ _ hHeld (fun hHeld => ?_)
    clear hK K
    try simp only [Act.put, List.setIfInBounds_toArray, List.set_cons_zero, List.set_cons_succ]
    refine wpAnyH_take (i := 15) (oi := Oper.mk _ _ _ _ _ _) (v := ?v121) rfl (by kernel_rfl) (by kernel_rfl) (by kernel_rfl) (fun _ _ _ h => h) (Or.inl ⟨by rfl, ?hy121⟩) (by assumption) ?rs121
    case hy121 => (intro w hSw; (try dsimp only at hSw); first | (go_simp <;> with_reducible rfl) | rfl)
    try simp only [Act.put, List.setIfInBounds_toArray, List.set_cons_zero, List.set_cons_succ]
    refine wpAnyH_ready (rs := [16]) (by kernel_rfl) (by simp) ?_
    refine AllReadyH.cons (o := Oper.mk _ _ _ _ _ _) rfl (fun K hK => ?_) AllReadyH.nil
    go_simp
    go_at_call 42; refine (HM.out _).mono ?_; rintro e2 w5 ⟨rfl, hc5⟩; have HC5 := Lib.hid (HCW.out.trans hc5 (fun _ _ h => h)); have hs5 : w5.cell? ⟨W.heap.size + 1, 0, none⟩ = some (.int .i64 4) ∧ w5.cell? ⟨W.heap.size + 1, 1, none⟩ = some (.int .i64 (a : Int)) ∧ w5.cell? ⟨W.heap.size + 1, 2, none⟩ = some (.int .i64 (b : Int)) ∧ w5.cell? ⟨W.heap.size + 1, 3, none⟩ = some (.int .i64 (e : Int)) := ⟨(HC5.out.cell (p := ⟨W.heap.size + 1, 0, none⟩) il (fun h => h)).trans i0, (HC5.out.cell (p := ⟨W.heap.size + 1, 1, none⟩) il (fun h => h)).trans i1, (HC5.out.cell (p := ⟨W.heap.size + 1, 2, none⟩) il (fun h => h)).trans i2, (HC5.out.cell (p := ⟨W.heap.size + 1, 3, none⟩) il (fun h => h)).trans i3⟩; have hT5 := HTW.out.kept HC5.out (fun h => h); have HT5 := Lib.hid hT5; have HZ5 := Lib.hid (HZW.out.kept HC5.out (fun h => h)); have k2 : w5.cell? ⟨W.heap.size, 2 + a, none⟩ = some (.int .i64 ra) := (hT5.cell _).trans (HRE.out _ _ _ _); have k3 := hT5.frozen (2 + a); have kl := hT5.lt; clear hT5 hc5
    refine hK.out _ _ hs5 (fun hHeld => ?_)
    clear hK K
    try simp only [Act.put, List.setIfInBounds_toArray, List.set_cons_zero, List.set_cons_succ]
    refine wpAnyH_take (i := 18) (oi := Oper.mk _ _ _ _ _ _) (v := ?v123) rfl (by kernel_rfl) (by kernel_rfl) (by kernel_rfl) (fun _ _ _ h => h) (Or.inl ⟨by rfl, ?hy123⟩) (by assumption) ?rs123
    case hy123 => (intro w hSw; (try dsimp only at hSw); first | (go_simp <;> with_reducible rfl) | rfl)
    try simp only [Act.put, List.setIfInBounds_toArray, List.set_cons_zero, List.set_cons_succ]
    refine wpAnyH_ready (rs := [19]) (by kernel_rfl) (by simp) ?_
    refine AllReadyH.cons (o := Oper.mk _ _ _ _ _ _) rfl (fun K hK => ?_) AllReadyH.nil
    go_simp
    skip
    refine hK.out _ _ (by have hq := ((Chg.refl (fun k => k = W.heap.size) w5).setCell (p := ⟨W.heap.size, 2 + a, none⟩) (.inl rfl) (.int .i64 vv)); exact ⟨(hq.cell (p := ⟨W.heap.size + 1, 0, none⟩) (Nat.lt_of_lt_of_le il HC5.out.size) (by show ¬ W.heap.size + 1 = W.heap.size; omega)).trans hs5.1, (hq.cell (p := ⟨W.heap.size + 1, 1, none⟩) (Nat.lt_of_lt_of_le il HC5.out.size) (by show ¬ W.heap.size + 1 = W.heap.size; omega)).trans hs5.2.1, (hq.cell (p := ⟨W.heap.size + 1, 2, none⟩) (Nat.lt_of_lt_of_le il HC5.out.size) (by show ¬ W.heap.size + 1 = W.heap.size; omega)).trans hs5.2.2.1, (hq.cell (p := ⟨W.heap.size + 1, 3, none⟩) (Nat.lt_of_lt_of_le il HC5.out.size) (by show ¬ W.heap.size + 1 = W.heap.size; omega)).trans hs5.2.2.2⟩) (fun hHeld => ?_)
    clear hK K
    try simp only [Act.put, List.setIfInBounds_toArray, List.set_cons_zero, List.set_cons_succ]
    refine wpAnyH_done (by kernel_rfl) ?_ _
    obtain ⟨w6, hw6⟩ : ∃ w6, w6 = w5.setCell ⟨W.heap.size, 2 + a, none⟩ (.int .i64 vv) := ⟨_, rfl⟩
    rw [← hw6]
    have hT6 : Blk w6 W.heap.size 28 #[.int .i64 f, .int .i64 (pc + 1), .int .i64 s0, .int .i64 s1, .int .i64 s2, .int .i64 s3, .int .i64 s4, .int .i64 s5, .int .i64 s6, .int .i64 s7, .slice D n c, .bool false] := by
      have h := HT5.out.set_ (2 + a) (.int .i64 vv)
      rw [HSE.out] at h
      rw [hw6]
      exact h
    have hZ6 : Blk w6 (W.heap.size + 1 + 1) 28 #[.int .i64 0, .int .i64 0, .int .i64 0, .int .i64 0, .int .i64 0, .int .i64 0, .int .i64 0, .int .i64 0, .int .i64 0, .int .i64 0, .slice none 0 0, .bool false] := by
      rw [hw6]
      exact HZ5.out.far (p := ⟨W.heap.size, 2 + a, none⟩) (show W.heap.size + 1 + 1 ≠ W.heap.size by omega) _
    have HC6 : Hid (Chg (fun _ => False) W w6) := Lib.hid (by
      rw [hw6]
      exact ((((((Chg.refl _ _).alloc _).alloc _).alloc _).trans HC5.out (fun _ _ h => h)).setCell (p := ⟨W.heap.size, 2 + a, none⟩) (.inr (by show W.heap.size ≤ W.heap.size; omega)) _))
    have t0 := hT6.cell 0
    have z0 := hZ6.cell 0
    have y0 := hZ6.frozen 0
    have t1 := hT6.cell 1
    have z1 := hZ6.cell 1
    have y1 := hZ6.frozen 1
    have t2 := hT6.cell 2
    have z2 := hZ6.cell 2
    have y2 := hZ6.frozen 2
    have t3 := hT6.cell 3
    have z3 := hZ6.cell 3
    have y3 := hZ6.frozen 3
    have t4 := hT6.cell 4
    have z4 := hZ6.cell 4
    have y4 := hZ6.frozen 4
    have t5 := hT6.cell 5
    have z5 := hZ6.cell 5
    have y5 := hZ6.frozen 5
    have t6 := hT6.cell 6
    have z6 := hZ6.cell 6
    have y6 := hZ6.frozen 6
    have t7 := hT6.cell 7
    have z7 := hZ6.cell 7
    have y7 := hZ6.frozen 7
    have t8 := hT6.cell 8
    have z8 := hZ6.cell 8
    have y8 := hZ6.frozen 8
    have t9 := hT6.cell 9
    have z9 := hZ6.cell 9
    have y9 := hZ6.frozen 9
    have t10 := hT6.cell 10
    have z10 := hZ6.cell 10
    have y10 := hZ6.frozen 10
    have t11 := hT6.cell 11
    have z11 := hZ6.cell 11
    have y11 := hZ6.frozen 11
    have tl := hT6.lt
    have zl := hZ6.lt
    simp only [List.getElem?_toArray, List.getElem?_cons_zero, List.getElem?_cons_succ] at t0 z0 t1 z1 t2 z2 t3 z3 t4 z4 t5 z5 t6 z6 t7 z7 t8 z8 t9 z9 t10 z10 t11 z11
    have HZ6 := Lib.hid hZ6
    clear hw6 hT6 hZ6 k2 k3
    go_wp2
    refine bodyPost_ret (results_cell_row rfl _ _ (W.heap.size + 1 + 1) 28 #[.int .i64 f, .int .i64 (pc + 1), .int .i64 s0, .int .i64 s1, .int .i64 s2, .int .i64 s3, .int .i64 s4, .int .i64 s5, .int .i64 s6, .int .i64 s7, .slice D n c, .bool false] (0, 0) _ rfl (Blk.set12 _ _ _ _ _ _ _ _ _ _ _ _ HZ6.out) Tryd.underlying28 rfl (by kernel_rfl)) rfl ?_
    exact ⟨rfl, chg12 _ _ _ _ _ _ _ _ _ _ _ _ HC6.out (by omega)⟩
  refine AllReadyH.cons (o := Oper.mk _ _ _ _ _ _) rfl (fun K hK => ?_) AllReadyH.nil
  go_simp
  skip
  refine hK.out _ _ hHeld (fun hHeld => ?_)
  clear hK K
  try simp only [Act.put, List.setIfInBounds_toArray, List.set_cons_zero, List.set_cons_succ]
  refine wpAnyH_take (i := 15) (oi := Oper.mk _ _ _ _ _ _) (v := ?v125) rfl (by kernel_rfl) (by kernel_rfl) (by kernel_rfl) (fun _ _ _ h => h) (Or.inl ⟨by rfl, ?hy125⟩) (by assumption) ?rs125
  case hy125 => (intro w hSw; (try dsimp only at hSw); first | (go_simp <;> with_reducible rfl) | rfl)
  try simp only [Act.put, List.setIfInBounds_toArray, List.set_cons_zero, List.set_cons_succ]
  refine wpAnyH_ready (rs := [4]) (by kernel_rfl) (by simp) ?_
  refine AllReadyH.cons (o := Oper.mk _ _ _ _ _ _) rfl (fun K hK => ?_) AllReadyH.nil
  go_simp
  go_at_call 33; refine (of_4 _).mono ?_; rintro e1 v1 ⟨rfl, rfl⟩
  refine hK.out _ _ hHeld (fun hHeld => ?_)
  clear hK K
  try simp only [Act.put, List.setIfInBounds_toArray, List.set_cons_zero, List.set_cons_succ]
  refine wpAnyH_ready (rs := [16]) (by kernel_rfl) (by simp) ?_
  refine AllReadyH.cons (o := Oper.mk _ _ _ _ _ _) rfl (fun K hK => ?_) AllReadyH.nil
  go_simp
  go_at_call 42; refine (HM.out _).mono ?_; rintro e2 w5 ⟨rfl, hc5⟩; have HC5 := Lib.hid (HCW.out.trans hc5 (fun _ _ h => h)); have hs5 : w5.cell? ⟨W.heap.size + 1, 0, none⟩ = some (.int .i64 4) ∧ w5.cell? ⟨W.heap.size + 1, 1, none⟩ = some (.int .i64 (a : Int)) ∧ w5.cell? ⟨W.heap.size + 1, 2, none⟩ = some (.int .i64 (b : Int)) ∧ w5.cell? ⟨W.heap.size + 1, 3, none⟩ = some (.int .i64 (e : Int)) := ⟨(HC5.out.cell (p := ⟨W.heap.size + 1, 0, none⟩) il (fun h => h)).trans i0, (HC5.out.cell (p := ⟨W.heap.size + 1, 1, none⟩) il (fun h => h)).trans i1, (HC5.out.cell (p := ⟨W.heap.size + 1, 2, none⟩) il (fun h => h)).trans i2, (HC5.out.cell (p := ⟨W.heap.size + 1, 3, none⟩) il (fun h => h)).trans i3⟩; have hT5 := HTW.out.kept HC5.out (fun h => h); have HT5 := Lib.hid hT5; have HZ5 := Lib.hid (HZW.out.kept HC5.out (fun h => h)); have k2 : w5.cell? ⟨W.heap.size, 2 + a, none⟩ = some (.int .i64 ra) := (hT5.cell _).trans (HRE.out _ _ _ _); have k3 := hT5.frozen (2 + a); have kl := hT5.lt; clear hT5 hc5
  refine hK.out _ _ hs5 (fun hHeld => ?_)
  clear hK K
  try simp only [Act.put, List.setIfInBounds_toArray, List.set_cons_zero, List.set_cons_succ]
  refine wpAnyH_take (i := 18) (oi := Oper.mk _ _ _ _ _ _) (v := ?v128) rfl (by kernel_rfl) (by kernel_rfl) (by kernel_rfl) (fun _ _ _ h => h) (Or.inl ⟨by rfl, ?hy128⟩) (by assumption) ?rs128
  case hy128 => (intro w hSw; (try dsimp only at hSw); first | (go_simp <;> with_reducible rfl) | rfl)
  try simp only [Act.put, List.setIfInBounds_toArray, List.set_cons_zero, List.set_cons_succ]
  refine wpAnyH_ready (rs := [19]) (by kernel_rfl) (by simp) ?_
  refine AllReadyH.cons (o := Oper.mk _ _ _ _ _ _) rfl (fun K hK => ?_) AllReadyH.nil
  go_simp
  skip
  refine hK.out _ _ (by have hq := ((Chg.refl (fun k => k = W.heap.size) w5).setCell (p := ⟨W.heap.size, 2 + a, none⟩) (.inl rfl) (.int .i64 vv)); exact ⟨(hq.cell (p := ⟨W.heap.size + 1, 0, none⟩) (Nat.lt_of_lt_of_le il HC5.out.size) (by show ¬ W.heap.size + 1 = W.heap.size; omega)).trans hs5.1, (hq.cell (p := ⟨W.heap.size + 1, 1, none⟩) (Nat.lt_of_lt_of_le il HC5.out.size) (by show ¬ W.heap.size + 1 = W.heap.size; omega)).trans hs5.2.1, (hq.cell (p := ⟨W.heap.size + 1, 2, none⟩) (Nat.lt_of_lt_of_le il HC5.out.size) (by show ¬ W.heap.size + 1 = W.heap.size; omega)).trans hs5.2.2.1, (hq.cell (p := ⟨W.heap.size + 1, 3, none⟩) (Nat.lt_of_lt_of_le il HC5.out.size) (by show ¬ W.heap.size + 1 = W.heap.size; omega)).trans hs5.2.2.2⟩) (fun hHeld => ?_)
  clear hK K
  try simp only [Act.put, List.setIfInBounds_toArray, List.set_cons_zero, List.set_cons_succ]
  refine wpAnyH_done (by kernel_rfl) ?_ _
  obtain ⟨w6, hw6⟩ : ∃ w6, w6 = w5.setCell ⟨W.heap.size, 2 + a, none⟩ (.int .i64 vv) := ⟨_, rfl⟩
  rw [← hw6]
  have hT6 : Blk w6 W.heap.size 28 #[.int .i64 f, .int .i64 (pc + 1), .int .i64 s0, .int .i64 s1, .int .i64 s2, .int .i64 s3, .int .i64 s4, .int .i64 s5, .int .i64 s6, .int .i64 s7, .slice D n c, .bool false] := by
    have h := HT5.out.set_ (2 + a) (.int .i64 vv)
    rw [HSE.out] at h
    rw [hw6]
    exact h
  have hZ6 : Blk w6 (W.heap.size + 1 + 1) 28 #[.int .i64 0, .int .i64 0, .int .i64 0, .int .i64 0, .int .i64 0, .int .i64 0, .int .i64 0, .int .i64 0, .int .i64 0, .int .i64 0, .slice none 0 0, .bool false] := by
    rw [hw6]
    exact HZ5.out.far (p := ⟨W.heap.size, 2 + a, none⟩) (show W.heap.size + 1 + 1 ≠ W.heap.size by omega) _
  have HC6 : Hid (Chg (fun _ => False) W w6) := Lib.hid (by
    rw [hw6]
    exact ((((((Chg.refl _ _).alloc _).alloc _).alloc _).trans HC5.out (fun _ _ h => h)).setCell (p := ⟨W.heap.size, 2 + a, none⟩) (.inr (by show W.heap.size ≤ W.heap.size; omega)) _))
  have t0 := hT6.cell 0
  have z0 := hZ6.cell 0
  have y0 := hZ6.frozen 0
  have t1 := hT6.cell 1
  have z1 := hZ6.cell 1
  have y1 := hZ6.frozen 1
  have t2 := hT6.cell 2
  have z2 := hZ6.cell 2
  have y2 := hZ6.frozen 2
  have t3 := hT6.cell 3
  have z3 := hZ6.cell 3
  have y3 := hZ6.frozen 3
  have t4 := hT6.cell 4
  have z4 := hZ6.cell 4
  have y4 := hZ6.frozen 4
  have t5 := hT6.cell 5
  have z5 := hZ6.cell 5
  have y5 := hZ6.frozen 5
  have t6 := hT6.cell 6
  have z6 := hZ6.cell 6
  have y6 := hZ6.frozen 6
  have t7 := hT6.cell 7
  have z7 := hZ6.cell 7
  have y7 := hZ6.frozen 7
  have t8 := hT6.cell 8
  have z8 := hZ6.cell 8
  have y8 := hZ6.frozen 8
  have t9 := hT6.cell 9
  have z9 := hZ6.cell 9
  have y9 := hZ6.frozen 9
  have t10 := hT6.cell 10
  have z10 := hZ6.cell 10
  have y10 := hZ6.frozen 10
  have t11 := hT6.cell 11
  have z11 := hZ6.cell 11
  have y11 := hZ6.frozen 11
  have tl := hT6.lt
  have zl := hZ6.lt
  simp only [List.getElem?_toArray, List.getElem?_cons_zero, List.getElem?_cons_succ] at t0 z0 t1 z1 t2 z2 t3 z3 t4 z4 t5 z5 t6 z6 t7 z7 t8 z8 t9 z9 t10 z10 t11 z11
  have HZ6 := Lib.hid hZ6
  clear hw6 hT6 hZ6 k2 k3
  go_wp2
  refine bodyPost_ret (results_cell_row rfl _ _ (W.heap.size + 1 + 1) 28 #[.int .i64 f, .int .i64 (pc + 1), .int .i64 s0, .int .i64 s1, .int .i64 s2, .int .i64 s3, .int .i64 s4, .int .i64 s5, .int .i64 s6, .int .i64 s7, .slice D n c, .bool false] (0, 0) _ rfl (Blk.set12 _ _ _ _ _ _ _ _ _ _ _ _ HZ6.out) Tryd.underlying28 rfl (by kernel_rfl)) rfl ?_
  exact ⟨rfl, chg12 _ _ _ _ _ _ _ _ _ _ _ _ HC6.out (by omega)⟩
set_option maxRecDepth 100000 in
set_option maxHeartbeats 16000000 in
theorem do_5 (W : World) (a b e : Nat) (ha : a < 8) (hb : b < 8) (he : e < 8) (hl : rs.length = 8) (hp0 : 0 ≤ pc) (hp : pc ≤ 1000) :
    Calls Tryd.prog 23 #[.agg #[.int .i64 f, .int .i64 pc, .int .i64 (rs.getD 0 0), .int .i64 (rs.getD 1 0), .int .i64 (rs.getD 2 0), .int .i64 (rs.getD 3 0), .int .i64 (rs.getD 4 0), .int .i64 (rs.getD 5 0), .int .i64 (rs.getD 6 0), .int .i64 (rs.getD 7 0), .slice D n c, .bool false], .agg #[.int .i64 5, .int .i64 (a : Int), .int .i64 (b : Int), .int .i64 (e : Int), .int .i64 N], .int .i64 ans] W fun r W' => r = .returned (.agg #[.int .i64 f, .int .i64 (pc + 1), .int .i64 ((rs.set a (ofF 5 (rs.getD b 0) (rs.getD e 0))).getD 0 0), .int .i64 ((rs.set a (ofF 5 (rs.getD b 0) (rs.getD e 0))).getD 1 0), .int .i64 ((rs.set a (ofF 5 (rs.getD b 0) (rs.getD e 0))).getD 2 0), .int .i64 ((rs.set a (ofF 5 (rs.getD b 0) (rs.getD e 0))).getD 3 0), .int .i64 ((rs.set a (ofF 5 (rs.getD b 0) (rs.getD e 0))).getD 4 0), .int .i64 ((rs.set a (ofF 5 (rs.getD b 0) (rs.getD e 0))).getD 5 0), .int .i64 ((rs.set a (ofF 5 (rs.getD b 0) (rs.getD e 0))).getD 6 0), .int .i64 ((rs.set a (ofF 5 (rs.getD b 0) (rs.getD e 0))).getD 7 0), .slice D n c, .bool false]) ∧ Chg (fun _ => False) W W' := by
  obtain ⟨r0, r1, r2, r3, r4, r5, r6, r7, rfl⟩ := eight hl
  obtain ⟨ra, hra, raE⟩ := get8 (r0 := r0) (r1 := r1) (r2 := r2) (r3 := r3) (r4 := r4) (r5 := r5) (r6 := r6) (r7 := r7) ha
  obtain ⟨rb, hrb, rbE⟩ := get8 (r0 := r0) (r1 := r1) (r2 := r2) (r3 := r3) (r4 := r4) (r5 := r5) (r6 := r6) (r7 := r7) hb
  obtain ⟨re, hre, reE⟩ := get8 (r0 := r0) (r1 := r1) (r2 := r2) (r3 := r3) (r4 := r4) (r5 := r5) (r6 := r6) (r7 := r7) he
  rw [hrb, hre]
  have HM := Lib.hid (fun V => pair_5 rb re V)
  generalize ofF 5 rb re = vv at *
  obtain ⟨s0, s1, s2, s3, s4, s5, s6, s7, hs, hsE⟩ := set8 (r0 := r0) (r1 := r1) (r2 := r2) (r3 := r3) (r4 := r4) (r5 := r5) (r6 := r6) (r7 := r7) ha vv
  rw [hs]
  have gb1 : (#[.int .i64 f, .int .i64 (pc + 1), .int .i64 r0, .int .i64 r1, .int .i64 r2, .int .i64 r3, .int .i64 r4, .int .i64 r5, .int .i64 r6, .int .i64 r7, .slice D n c, .bool false] : Array Value)[2 + b]? = some (.int .i64 rb) := rbE _ _ _ _
  have gb2 : (((W.alloc (.cells #[.int .i64 f, .int .i64 (pc + 1), .int .i64 r0, .int .i64 r1, .int .i64 r2, .int .i64 r3, .int .i64 r4, .int .i64 r5, .int .i64 r6, .int .i64 r7, .slice D n c, .bool false] 28)).alloc (.cells #[.int .i64 5, .int .i64 (a : Int), .int .i64 (b : Int), .int .i64 (e : Int), .int .i64 N] 32)).alloc (.cells #[.int .i64 0, .int .i64 0, .int .i64 0, .int .i64 0, .int .i64 0, .int .i64 0, .int .i64 0, .int .i64 0, .int .i64 0, .int .i64 0, .slice none 0 0, .bool false] 28)).cell? ⟨W.heap.size, 2 + b, none⟩ = some (.int .i64 rb) := (((Blk.new W 28 #[.int .i64 f, .int .i64 (pc + 1), .int .i64 r0, .int .i64 r1, .int .i64 r2, .int .i64 r3, .int .i64 r4, .int .i64 r5, .int .i64 r6, .int .i64 r7, .slice D n c, .bool false]).alloc _).alloc _).cell _ |>.trans gb1
  have gb3 : (((W.alloc (.cells #[.int .i64 f, .int .i64 (pc + 1), .int .i64 r0, .int .i64 r1, .int .i64 r2, .int .i64 r3, .int .i64 r4, .int .i64 r5, .int .i64 r6, .int .i64 r7, .slice D n c, .bool false] 28)).alloc (.cells #[.int .i64 5, .int .i64 (a : Int), .int .i64 (b : Int), .int .i64 (e : Int), .int .i64 N] 32)).alloc (.cells #[.int .i64 0, .int .i64 0, .int .i64 0, .int .i64 0, .int .i64 0, .int .i64 0, .int .i64 0, .int .i64 0, .int .i64 0, .int .i64 0, .slice none 0 0, .bool false] 28)).frozen? ⟨W.heap.size, 2 + b, none⟩ = false := (((Blk.new W 28 #[.int .i64 f, .int .i64 (pc + 1), .int .i64 r0, .int .i64 r1, .int .i64 r2, .int .i64 r3, .int .i64 r4, .int .i64 r5, .int .i64 r6, .int .i64 r7, .slice D n c, .bool false]).alloc _).alloc _).frozen _
  have ge1 : (#[.int .i64 f, .int .i64 (pc + 1), .int .i64 r0, .int .i64 r1, .int .i64 r2, .int .i64 r3, .int .i64 r4, .int .i64 r5, .int .i64 r6, .int .i64 r7, .slice D n c, .bool false] : Array Value)[2 + e]? = some (.int .i64 re) := reE _ _ _ _
  have ge2 : (((W.alloc (.cells #[.int .i64 f, .int .i64 (pc + 1), .int .i64 r0, .int .i64 r1, .int .i64 r2, .int .i64 r3, .int .i64 r4, .int .i64 r5, .int .i64 r6, .int .i64 r7, .slice D n c, .bool false] 28)).alloc (.cells #[.int .i64 5, .int .i64 (a : Int), .int .i64 (b : Int), .int .i64 (e : Int), .int .i64 N] 32)).alloc (.cells #[.int .i64 0, .int .i64 0, .int .i64 0, .int .i64 0, .int .i64 0, .int .i64 0, .int .i64 0, .int .i64 0, .int .i64 0, .int .i64 0, .slice none 0 0, .bool false] 28)).cell? ⟨W.heap.size, 2 + e, none⟩ = some (.int .i64 re) := (((Blk.new W 28 #[.int .i64 f, .int .i64 (pc + 1), .int .i64 r0, .int .i64 r1, .int .i64 r2, .int .i64 r3, .int .i64 r4, .int .i64 r5, .int .i64 r6, .int .i64 r7, .slice D n c, .bool false]).alloc _).alloc _).cell _ |>.trans ge1
  have ge3 : (((W.alloc (.cells #[.int .i64 f, .int .i64 (pc + 1), .int .i64 r0, .int .i64 r1, .int .i64 r2, .int .i64 r3, .int .i64 r4, .int .i64 r5, .int .i64 r6, .int .i64 r7, .slice D n c, .bool false] 28)).alloc (.cells #[.int .i64 5, .int .i64 (a : Int), .int .i64 (b : Int), .int .i64 (e : Int), .int .i64 N] 32)).alloc (.cells #[.int .i64 0, .int .i64 0, .int .i64 0, .int .i64 0, .int .i64 0, .int .i64 0, .int .i64 0, .int .i64 0, .int .i64 0, .int .i64 0, .slice none 0 0, .bool false] 28)).frozen? ⟨W.heap.size, 2 + e, none⟩ = false := (((Blk.new W 28 #[.int .i64 f, .int .i64 (pc + 1), .int .i64 r0, .int .i64 r1, .int .i64 r2, .int .i64 r3, .int .i64 r4, .int .i64 r5, .int .i64 r6, .int .i64 r7, .slice D n c, .bool false]).alloc _).alloc _).frozen _
  have a0 : (0 : Int) ≤ a := by omega
  have a8 : (a : Int) < 8 := by omega
  have b0 : (0 : Int) ≤ b := by omega
  have b8 : (b : Int) < 8 := by omega
  have e0 : (0 : Int) ≤ e := by omega
  have e8 : (e : Int) < 8 := by omega
  have HRE := Lib.hid raE
  have HSE := Lib.hid (hsE f (pc + 1) (.slice D n c) (.bool false))
  have HTW : Hid (Blk (((W.alloc (.cells #[.int .i64 f, .int .i64 (pc + 1), .int .i64 r0, .int .i64 r1, .int .i64 r2, .int .i64 r3, .int .i64 r4, .int .i64 r5, .int .i64 r6, .int .i64 r7, .slice D n c, .bool false] 28)).alloc (.cells #[.int .i64 5, .int .i64 (a : Int), .int .i64 (b : Int), .int .i64 (e : Int), .int .i64 N] 32)).alloc (.cells #[.int .i64 0, .int .i64 0, .int .i64 0, .int .i64 0, .int .i64 0, .int .i64 0, .int .i64 0, .int .i64 0, .int .i64 0, .int .i64 0, .slice none 0 0, .bool false] 28)) W.heap.size 28 #[.int .i64 f, .int .i64 (pc + 1), .int .i64 r0, .int .i64 r1, .int .i64 r2, .int .i64 r3, .int .i64 r4, .int .i64 r5, .int .i64 r6, .int .i64 r7, .slice D n c, .bool false]) := Lib.hid (blk1 W _ _ _ _)
  have hI : Blk (((W.alloc (.cells #[.int .i64 f, .int .i64 (pc + 1), .int .i64 r0, .int .i64 r1, .int .i64 r2, .int .i64 r3, .int .i64 r4, .int .i64 r5, .int .i64 r6, .int .i64 r7, .slice D n c, .bool false] 28)).alloc (.cells #[.int .i64 5, .int .i64 (a : Int), .int .i64 (b : Int), .int .i64 (e : Int), .int .i64 N] 32)).alloc (.cells #[.int .i64 0, .int .i64 0, .int .i64 0, .int .i64 0, .int .i64 0, .int .i64 0, .int .i64 0, .int .i64 0, .int .i64 0, .int .i64 0, .slice none 0 0, .bool false] 28)) (W.heap.size + 1) 32 #[.int .i64 5, .int .i64 (a : Int), .int .i64 (b : Int), .int .i64 (e : Int), .int .i64 N] := blk2 W _ _ _ _
  have HZW : Hid (Blk (((W.alloc (.cells #[.int .i64 f, .int .i64 (pc + 1), .int .i64 r0, .int .i64 r1, .int .i64 r2, .int .i64 r3, .int .i64 r4, .int .i64 r5, .int .i64 r6, .int .i64 r7, .slice D n c, .bool false] 28)).alloc (.cells #[.int .i64 5, .int .i64 (a : Int), .int .i64 (b : Int), .int .i64 (e : Int), .int .i64 N] 32)).alloc (.cells #[.int .i64 0, .int .i64 0, .int .i64 0, .int .i64 0, .int .i64 0, .int .i64 0, .int .i64 0, .int .i64 0, .int .i64 0, .int .i64 0, .slice none 0 0, .bool false] 28)) (W.heap.size + 1 + 1) 28 #[.int .i64 0, .int .i64 0, .int .i64 0, .int .i64 0, .int .i64 0, .int .i64 0, .int .i64 0, .int .i64 0, .int .i64 0, .int .i64 0, .slice none 0 0, .bool false]) := Lib.hid (blk3 W _ _ _ _)
  have HCW : Hid (Chg (fun _ => False) (((W.alloc (.cells #[.int .i64 f, .int .i64 (pc + 1), .int .i64 r0, .int .i64 r1, .int .i64 r2, .int .i64 r3, .int .i64 r4, .int .i64 r5, .int .i64 r6, .int .i64 r7, .slice D n c, .bool false] 28)).alloc (.cells #[.int .i64 5, .int .i64 (a : Int), .int .i64 (b : Int), .int .i64 (e : Int), .int .i64 N] 32)).alloc (.cells #[.int .i64 0, .int .i64 0, .int .i64 0, .int .i64 0, .int .i64 0, .int .i64 0, .int .i64 0, .int .i64 0, .int .i64 0, .int .i64 0, .slice none 0 0, .bool false] 28)) (((W.alloc (.cells #[.int .i64 f, .int .i64 (pc + 1), .int .i64 r0, .int .i64 r1, .int .i64 r2, .int .i64 r3, .int .i64 r4, .int .i64 r5, .int .i64 r6, .int .i64 r7, .slice D n c, .bool false] 28)).alloc (.cells #[.int .i64 5, .int .i64 (a : Int), .int .i64 (b : Int), .int .i64 (e : Int), .int .i64 N] 32)).alloc (.cells #[.int .i64 0, .int .i64 0, .int .i64 0, .int .i64 0, .int .i64 0, .int .i64 0, .int .i64 0, .int .i64 0, .int .i64 0, .int .i64 0, .slice none 0 0, .bool false] 28)).drew) := Lib.hid (Chg.refl _ _).drew
  have i0 := hI.cell 0
  have i1 := hI.cell 1
  have i2 := hI.cell 2
  have i3 := hI.cell 3
  have il := hI.lt
  simp only [List.getElem?_toArray, List.getElem?_cons_zero, List.getElem?_cons_succ] at i0 i1 i2 i3
  have hs0 : ((((W.alloc (.cells #[.int .i64 f, .int .i64 (pc + 1), .int .i64 r0, .int .i64 r1, .int .i64 r2, .int .i64 r3, .int .i64 r4, .int .i64 r5, .int .i64 r6, .int .i64 r7, .slice D n c, .bool false] 28)).alloc (.cells #[.int .i64 5, .int .i64 (a : Int), .int .i64 (b : Int), .int .i64 (e : Int), .int .i64 N] 32)).alloc (.cells #[.int .i64 0, .int .i64 0, .int .i64 0, .int .i64 0, .int .i64 0, .int .i64 0, .int .i64 0, .int .i64 0, .int .i64 0, .int .i64 0, .slice none 0 0, .bool false] 28))).drew.cell? ⟨W.heap.size + 1, 0, none⟩ = some (.int .i64 5) ∧ ((((W.alloc (.cells #[.int .i64 f, .int .i64 (pc + 1), .int .i64 r0, .int .i64 r1, .int .i64 r2, .int .i64 r3, .int .i64 r4, .int .i64 r5, .int .i64 r6, .int .i64 r7, .slice D n c, .bool false] 28)).alloc (.cells #[.int .i64 5, .int .i64 (a : Int), .int .i64 (b : Int), .int .i64 (e : Int), .int .i64 N] 32)).alloc (.cells #[.int .i64 0, .int .i64 0, .int .i64 0, .int .i64 0, .int .i64 0, .int .i64 0, .int .i64 0, .int .i64 0, .int .i64 0, .int .i64 0, .slice none 0 0, .bool false] 28))).drew.cell? ⟨W.heap.size + 1, 1, none⟩ = some (.int .i64 (a : Int)) ∧ ((((W.alloc (.cells #[.int .i64 f, .int .i64 (pc + 1), .int .i64 r0, .int .i64 r1, .int .i64 r2, .int .i64 r3, .int .i64 r4, .int .i64 r5, .int .i64 r6, .int .i64 r7, .slice D n c, .bool false] 28)).alloc (.cells #[.int .i64 5, .int .i64 (a : Int), .int .i64 (b : Int), .int .i64 (e : Int), .int .i64 N] 32)).alloc (.cells #[.int .i64 0, .int .i64 0, .int .i64 0, .int .i64 0, .int .i64 0, .int .i64 0, .int .i64 0, .int .i64 0, .int .i64 0, .int .i64 0, .slice none 0 0, .bool false] 28))).drew.cell? ⟨W.heap.size + 1, 2, none⟩ = some (.int .i64 (b : Int)) ∧ ((((W.alloc (.cells #[.int .i64 f, .int .i64 (pc + 1), .int .i64 r0, .int .i64 r1, .int .i64 r2, .int .i64 r3, .int .i64 r4, .int .i64 r5, .int .i64 r6, .int .i64 r7, .slice D n c, .bool false] 28)).alloc (.cells #[.int .i64 5, .int .i64 (a : Int), .int .i64 (b : Int), .int .i64 (e : Int), .int .i64 N] 32)).alloc (.cells #[.int .i64 0, .int .i64 0, .int .i64 0, .int .i64 0, .int .i64 0, .int .i64 0, .int .i64 0, .int .i64 0, .int .i64 0, .int .i64 0, .slice none 0 0, .bool false] 28))).drew.cell? ⟨W.heap.size + 1, 3, none⟩ = some (.int .i64 (e : Int)) := ⟨i0, i1, i2, i3⟩
  clear hs hsE raE hra rbE hrb reE hre hI
  simp only [List.getD_cons_zero, List.getD_cons_succ]
  go_enter Tryd.func23, Tryd.ntmps23
  go_wp2
  refine wp_region_held_drew (S := fun w' => w'.cell? ⟨W.heap.size + 1, 0, none⟩ = some (.int .i64 5) ∧ w'.cell? ⟨W.heap.size + 1, 1, none⟩ = some (.int .i64 (a : Int)) ∧ w'.cell? ⟨W.heap.size + 1, 2, none⟩ = some (.int .i64 (b : Int)) ∧ w'.cell? ⟨W.heap.size + 1, 3, none⟩ = some (.int .i64 (e : Int))) (by kernel_rfl) hs0 (fun hHeld => ?_)
  refine wpAnyH_take (i := 0) (oi := Oper.mk _ _ _ _ _ _) (v := ?v130) rfl (by kernel_rfl) (by kernel_rfl) (by kernel_rfl) (fun _ _ _ h => h) (Or.inl ⟨by rfl, ?hy130⟩) (by assumption) ?rs130
  case hy130 => (intro w hSw; (try dsimp only at hSw); first | (go_simp <;> with_reducible rfl) | rfl)
  try simp only [Act.put, List.setIfInBounds_toArray, List.set_cons_zero, List.set_cons_succ]
  refine wpAnyH_take (i := 1) (oi := Oper.mk _ _ _ _ _ _) (v := ?v131) rfl (by kernel_rfl) (by kernel_rfl) (by kernel_rfl) (fun _ _ _ h => h) (Or.inl ⟨by rfl, ?hy131⟩) (by assumption) ?rs131
  case hy131 => (intro w hSw; (try dsimp only at hSw); first | (go_simp <;> with_reducible rfl) | rfl)
  try simp only [Act.put, List.setIfInBounds_toArray, List.set_cons_zero, List.set_cons_succ]
  refine wpAnyH_take (i := 2) (oi := Oper.mk _ _ _ _ _ _) (v := ?v132) rfl (by kernel_rfl) (by kernel_rfl) (by kernel_rfl) (fun _ _ _ h => h) (Or.inl ⟨by rfl, ?hy132⟩) (by assumption) ?rs132
  case hy132 => (intro w hSw; (try dsimp only at hSw); first | (go_simp <;> with_reducible rfl) | rfl)
  try simp only [Act.put, List.setIfInBounds_toArray, List.set_cons_zero, List.set_cons_succ]
  refine wpAnyH_take (i := 3) (oi := Oper.mk _ _ _ _ _ _) (v := ?v133) rfl (by kernel_rfl) (by kernel_rfl) (by kernel_rfl) (fun _ _ _ h => h) (Or.inl ⟨by rfl, ?hy133⟩) (by assumption) ?rs133
  case hy133 => (intro w hSw; (try dsimp only at hSw); first | (go_simp <;> with_reducible rfl) | rfl)
  try simp only [Act.put, List.setIfInBounds_toArray, List.set_cons_zero, List.set_cons_succ]
  refine wpAnyH_take (i := 5) (oi := Oper.mk _ _ _ _ _ _) (v := ?v134) rfl (by kernel_rfl) (by kernel_rfl) (by kernel_rfl) (fun _ _ _ h => h) (Or.inl ⟨by rfl, ?hy134⟩) (by assumption) ?rs134
  case hy134 => (intro w hSw; (try dsimp only at hSw); first | (go_simp <;> with_reducible rfl) | rfl)
  try simp only [Act.put, List.setIfInBounds_toArray, List.set_cons_zero, List.set_cons_succ]
  refine wpAnyH_take (i := 6) (oi := Oper.mk _ _ _ _ _ _) (v := ?v135) rfl (by kernel_rfl) (by kernel_rfl) (by kernel_rfl) (fun _ _ _ h => h) (Or.inl ⟨by rfl, ?hy135⟩) (by assumption) ?rs135
  case hy135 => (intro w hSw; (try dsimp only at hSw); first | (go_simp <;> with_reducible rfl) | rfl)
  try simp only [Act.put, List.setIfInBounds_toArray, List.set_cons_zero, List.set_cons_succ]
  refine wpAnyH_take (i := 7) (oi := Oper.mk _ _ _ _ _ _) (v := ?v136) rfl (by kernel_rfl) (by kernel_rfl) (by kernel_rfl) (fun _ _ _ h => h) (Or.inl ⟨by rfl, ?hy136⟩) (by assumption) ?rs136
  case hy136 => (intro w hSw; (try dsimp only at hSw); first | (go_simp <;> with_reducible rfl) | rfl)
  try simp only [Act.put, List.setIfInBounds_toArray, List.set_cons_zero, List.set_cons_succ]
  refine wpAnyH_take (i := 8) (oi := Oper.mk _ _ _ _ _ _) (v := ?v137) rfl (by kernel_rfl) (by kernel_rfl) (by kernel_rfl) (fun _ _ _ h => h) (Or.inl ⟨by rfl, ?hy137⟩) (by assumption) ?rs137
  case hy137 => (intro w hSw; (try dsimp only at hSw); first | (go_simp <;> with_reducible rfl) | rfl)
  try simp only [Act.put, List.setIfInBounds_toArray, List.set_cons_zero, List.set_cons_succ]
  refine wpAnyH_take (i := 10) (oi := Oper.mk _ _ _ _ _ _) (v := ?v138) rfl (by kernel_rfl) (by kernel_rfl) (by kernel_rfl) (fun _ _ _ h => h) (Or.inl ⟨by rfl, ?hy138⟩) (by assumption) ?rs138
  case hy138 => (intro w hSw; (try dsimp only at hSw); first | (go_simp <;> with_reducible rfl) | rfl)
  try simp only [Act.put, List.setIfInBounds_toArray, List.set_cons_zero, List.set_cons_succ]
  refine wpAnyH_take (i := 11) (oi := Oper.mk _ _ _ _ _ _) (v := ?v139) rfl (by kernel_rfl) (by kernel_rfl) (by kernel_rfl) (fun _ _ _ h => h) (Or.inl ⟨by rfl, ?hy139⟩) (by assumption) ?rs139
  case hy139 => (intro w hSw; (try dsimp only at hSw); first | (go_simp <;> with_reducible rfl) | rfl)
  try simp only [Act.put, List.setIfInBounds_toArray, List.set_cons_zero, List.set_cons_succ]
  refine wpAnyH_take (i := 12) (oi := Oper.mk _ _ _ _ _ _) (v := ?v140) rfl (by kernel_rfl) (by kernel_rfl) (by kernel_rfl) (fun _ _ _ h => h) (Or.inl ⟨by rfl, ?hy140⟩) (by assumption) ?rs140
  case hy140 => (intro w hSw; (try dsimp only at hSw); first | (go_simp <;> with_reducible rfl) | rfl)
  try simp only [Act.put, List.setIfInBounds_toArray, List.set_cons_zero, List.set_cons_succ]
  refine wpAnyH_take (i := 13) (oi := Oper.mk _ _ _ _ _ _) (v := ?v141) rfl (by kernel_rfl) (by kernel_rfl) (by kernel_rfl) (fun _ _ _ h => h) (Or.inl ⟨by rfl, ?hy141⟩) (by assumption) ?rs141
  case hy141 => (intro w hSw; (try dsimp only at hSw); first | (go_simp <;> with_reducible rfl) | rfl)
  try simp only [Act.put, List.setIfInBounds_toArray, List.set_cons_zero, List.set_cons_succ]
  refine wpAnyH_take (i := 17) (oi := Oper.mk _ _ _ _ _ _) (v := ?v142) rfl (by kernel_rfl) (by kernel_rfl) (by kernel_rfl) (fun _ _ _ h => h) (Or.inl ⟨by rfl, ?hy142⟩) (by assumption) ?rs142
  case hy142 => (intro w hSw; (try dsimp only at hSw); first | (go_simp <;> with_reducible rfl) | rfl)
  try simp only [Act.put, List.setIfInBounds_toArray, List.set_cons_zero, List.set_cons_succ]
  refine wpAnyH_ready (rs := [4, 9, 14]) (by kernel_rfl) (by simp) ?_
  refine AllReadyH.cons (o := Oper.mk _ _ _ _ _ _) rfl (fun K hK => ?_) ?_
  · go_simp
    go_at_call 33; refine (of_5 _).mono ?_; rintro e1 v1 ⟨rfl, rfl⟩
    refine hK.out _ _ hHeld (fun hHeld => ?_)
    clear hK K
    try simp only [Act.put, List.setIfInBounds_toArray, List.set_cons_zero, List.set_cons_succ]
    refine wpAnyH_ready (rs := [9, 14]) (by kernel_rfl) (by simp) ?_
    refine AllReadyH.cons (o := Oper.mk _ _ _ _ _ _) rfl (fun K hK => ?_) ?_
    · go_simp
      skip
      refine hK.out _ _ hHeld (fun hHeld => ?_)
      clear hK K
      try simp only [Act.put, List.setIfInBounds_toArray, List.set_cons_zero, List.set_cons_succ]
      refine wpAnyH_ready (rs := [14]) (by kernel_rfl) (by simp) ?_
      refine AllReadyH.cons (o := Oper.mk _ _ _ _ _ _) rfl (fun K hK => ?_) AllReadyH.nil
      go_simp
      skip
      refine hK.out _ _ hHeld (fun hHeld => ?_)
      clear hK K
      try simp only [Act.put, List.setIfInBounds_toArray, List.set_cons_zero, List.set_cons_succ]
      refine wpAnyH_take (i := 15) (oi := Oper.mk _ _ _ _ _ _) (v := ?v144) rfl (by kernel_rfl) (by kernel_rfl) (by kernel_rfl) (fun _ _ _ h => h) (Or.inl ⟨by rfl, ?hy144⟩) (by assumption) ?rs144
      case hy144 => (intro w hSw; (try dsimp only at hSw); first | (go_simp <;> with_reducible rfl) | rfl)
      try simp only [Act.put, List.setIfInBounds_toArray, List.set_cons_zero, List.set_cons_succ]
      refine wpAnyH_ready (rs := [16]) (by kernel_rfl) (by simp) ?_
      refine AllReadyH.cons (o := Oper.mk _ _ _ _ _ _) rfl (fun K hK => ?_) AllReadyH.nil
      go_simp
      go_at_call 43; refine (HM.out _).mono ?_; rintro e2 w5 ⟨rfl, hc5⟩; have HC5 := Lib.hid (HCW.out.trans hc5 (fun _ _ h => h)); have hs5 : w5.cell? ⟨W.heap.size + 1, 0, none⟩ = some (.int .i64 5) ∧ w5.cell? ⟨W.heap.size + 1, 1, none⟩ = some (.int .i64 (a : Int)) ∧ w5.cell? ⟨W.heap.size + 1, 2, none⟩ = some (.int .i64 (b : Int)) ∧ w5.cell? ⟨W.heap.size + 1, 3, none⟩ = some (.int .i64 (e : Int)) := ⟨(HC5.out.cell (p := ⟨W.heap.size + 1, 0, none⟩) il (fun h => h)).trans i0, (HC5.out.cell (p := ⟨W.heap.size + 1, 1, none⟩) il (fun h => h)).trans i1, (HC5.out.cell (p := ⟨W.heap.size + 1, 2, none⟩) il (fun h => h)).trans i2, (HC5.out.cell (p := ⟨W.heap.size + 1, 3, none⟩) il (fun h => h)).trans i3⟩; have hT5 := HTW.out.kept HC5.out (fun h => h); have HT5 := Lib.hid hT5; have HZ5 := Lib.hid (HZW.out.kept HC5.out (fun h => h)); have k2 : w5.cell? ⟨W.heap.size, 2 + a, none⟩ = some (.int .i64 ra) := (hT5.cell _).trans (HRE.out _ _ _ _); have k3 := hT5.frozen (2 + a); have kl := hT5.lt; clear hT5 hc5
      refine hK.out _ _ hs5 (fun hHeld => ?_)
      clear hK K
      try simp only [Act.put, List.setIfInBounds_toArray, List.set_cons_zero, List.set_cons_succ]
      refine wpAnyH_take (i := 18) (oi := Oper.mk _ _ _ _ _ _) (v := ?v146) rfl (by kernel_rfl) (by kernel_rfl) (by kernel_rfl) (fun _ _ _ h => h) (Or.inl ⟨by rfl, ?hy146⟩) (by assumption) ?rs146
      case hy146 => (intro w hSw; (try dsimp only at hSw); first | (go_simp <;> with_reducible rfl) | rfl)
      try simp only [Act.put, List.setIfInBounds_toArray, List.set_cons_zero, List.set_cons_succ]
      refine wpAnyH_ready (rs := [19]) (by kernel_rfl) (by simp) ?_
      refine AllReadyH.cons (o := Oper.mk _ _ _ _ _ _) rfl (fun K hK => ?_) AllReadyH.nil
      go_simp
      skip
      refine hK.out _ _ (by have hq := ((Chg.refl (fun k => k = W.heap.size) w5).setCell (p := ⟨W.heap.size, 2 + a, none⟩) (.inl rfl) (.int .i64 vv)); exact ⟨(hq.cell (p := ⟨W.heap.size + 1, 0, none⟩) (Nat.lt_of_lt_of_le il HC5.out.size) (by show ¬ W.heap.size + 1 = W.heap.size; omega)).trans hs5.1, (hq.cell (p := ⟨W.heap.size + 1, 1, none⟩) (Nat.lt_of_lt_of_le il HC5.out.size) (by show ¬ W.heap.size + 1 = W.heap.size; omega)).trans hs5.2.1, (hq.cell (p := ⟨W.heap.size + 1, 2, none⟩) (Nat.lt_of_lt_of_le il HC5.out.size) (by show ¬ W.heap.size + 1 = W.heap.size; omega)).trans hs5.2.2.1, (hq.cell (p := ⟨W.heap.size + 1, 3, none⟩) (Nat.lt_of_lt_of_le il HC5.out.size) (by show ¬ W.heap.size + 1 = W.heap.size; omega)).trans hs5.2.2.2⟩) (fun hHeld => ?_)
      clear hK K
      try simp only [Act.put, List.setIfInBounds_toArray, List.set_cons_zero, List.set_cons_succ]
      refine wpAnyH_done (by kernel_rfl) ?_ _
      obtain ⟨w6, hw6⟩ : ∃ w6, w6 = w5.setCell ⟨W.heap.size, 2 + a, none⟩ (.int .i64 vv) := ⟨_, rfl⟩
      rw [← hw6]
      have hT6 : Blk w6 W.heap.size 28 #[.int .i64 f, .int .i64 (pc + 1), .int .i64 s0, .int .i64 s1, .int .i64 s2, .int .i64 s3, .int .i64 s4, .int .i64 s5, .int .i64 s6, .int .i64 s7, .slice D n c, .bool false] := by
        have h := HT5.out.set_ (2 + a) (.int .i64 vv)
        rw [HSE.out] at h
        rw [hw6]
        exact h
      have hZ6 : Blk w6 (W.heap.size + 1 + 1) 28 #[.int .i64 0, .int .i64 0, .int .i64 0, .int .i64 0, .int .i64 0, .int .i64 0, .int .i64 0, .int .i64 0, .int .i64 0, .int .i64 0, .slice none 0 0, .bool false] := by
        rw [hw6]
        exact HZ5.out.far (p := ⟨W.heap.size, 2 + a, none⟩) (show W.heap.size + 1 + 1 ≠ W.heap.size by omega) _
      have HC6 : Hid (Chg (fun _ => False) W w6) := Lib.hid (by
        rw [hw6]
        exact ((((((Chg.refl _ _).alloc _).alloc _).alloc _).trans HC5.out (fun _ _ h => h)).setCell (p := ⟨W.heap.size, 2 + a, none⟩) (.inr (by show W.heap.size ≤ W.heap.size; omega)) _))
      have t0 := hT6.cell 0
      have z0 := hZ6.cell 0
      have y0 := hZ6.frozen 0
      have t1 := hT6.cell 1
      have z1 := hZ6.cell 1
      have y1 := hZ6.frozen 1
      have t2 := hT6.cell 2
      have z2 := hZ6.cell 2
      have y2 := hZ6.frozen 2
      have t3 := hT6.cell 3
      have z3 := hZ6.cell 3
      have y3 := hZ6.frozen 3
      have t4 := hT6.cell 4
      have z4 := hZ6.cell 4
      have y4 := hZ6.frozen 4
      have t5 := hT6.cell 5
      have z5 := hZ6.cell 5
      have y5 := hZ6.frozen 5
      have t6 := hT6.cell 6
      have z6 := hZ6.cell 6
      have y6 := hZ6.frozen 6
      have t7 := hT6.cell 7
      have z7 := hZ6.cell 7
      have y7 := hZ6.frozen 7
      have t8 := hT6.cell 8
      have z8 := hZ6.cell 8
      have y8 := hZ6.frozen 8
      have t9 := hT6.cell 9
      have z9 := hZ6.cell 9
      have y9 := hZ6.frozen 9
      have t10 := hT6.cell 10
      have z10 := hZ6.cell 10
      have y10 := hZ6.frozen 10
      have t11 := hT6.cell 11
      have z11 := hZ6.cell 11
      have y11 := hZ6.frozen 11
      have tl := hT6.lt
      have zl := hZ6.lt
      simp only [List.getElem?_toArray, List.getElem?_cons_zero, List.getElem?_cons_succ] at t0 z0 t1 z1 t2 z2 t3 z3 t4 z4 t5 z5 t6 z6 t7 z7 t8 z8 t9 z9 t10 z10 t11 z11
      have HZ6 := Lib.hid hZ6
      clear hw6 hT6 hZ6 k2 k3
      go_wp2
      refine bodyPost_ret (results_cell_row rfl _ _ (W.heap.size + 1 + 1) 28 #[.int .i64 f, .int .i64 (pc + 1), .int .i64 s0, .int .i64 s1, .int .i64 s2, .int .i64 s3, .int .i64 s4, .int .i64 s5, .int .i64 s6, .int .i64 s7, .slice D n c, .bool false] (0, 0) _ rfl (Blk.set12 _ _ _ _ _ _ _ _ _ _ _ _ HZ6.out) Tryd.underlying28 rfl (by kernel_rfl)) rfl ?_
      exact ⟨rfl, chg12 _ _ _ _ _ _ _ _ _ _ _ _ HC6.out (by omega)⟩
    refine AllReadyH.cons (o := Oper.mk _ _ _ _ _ _) rfl (fun K hK => ?_) AllReadyH.nil
    go_simp
    skip
    refine hK.out _ _ hHeld (fun hHeld => ?_)
    clear hK K
    try simp only [Act.put, List.setIfInBounds_toArray, List.set_cons_zero, List.set_cons_succ]
    refine wpAnyH_ready (rs := [9]) (by kernel_rfl) (by simp) ?_
    refine AllReadyH.cons (o := Oper.mk _ _ _ _ _ _) rfl (fun K hK => ?_) AllReadyH.nil
    go_simp
    skip
    refine hK.out _ _ hHeld (fun hHeld => ?_)
    clear hK K
    try simp only [Act.put, List.setIfInBounds_toArray, List.set_cons_zero, List.set_cons_succ]
    refine wpAnyH_take (i := 15) (oi := Oper.mk _ _ _ _ _ _) (v := ?v149) rfl (by kernel_rfl) (by kernel_rfl) (by kernel_rfl) (fun _ _ _ h => h) (Or.inl ⟨by rfl, ?hy149⟩) (by assumption) ?rs149
    case hy149 => (intro w hSw; (try dsimp only at hSw); first | (go_simp <;> with_reducible rfl) | rfl)
    try simp only [Act.put, List.setIfInBounds_toArray, List.set_cons_zero, List.set_cons_succ]
    refine wpAnyH_ready (rs := [16]) (by kernel_rfl) (by simp) ?_
    refine AllReadyH.cons (o := Oper.mk _ _ _ _ _ _) rfl (fun K hK => ?_) AllReadyH.nil
    go_simp
    go_at_call 43; refine (HM.out _).mono ?_; rintro e2 w5 ⟨rfl, hc5⟩; have HC5 := Lib.hid (HCW.out.trans hc5 (fun _ _ h => h)); have hs5 : w5.cell? ⟨W.heap.size + 1, 0, none⟩ = some (.int .i64 5) ∧ w5.cell? ⟨W.heap.size + 1, 1, none⟩ = some (.int .i64 (a : Int)) ∧ w5.cell? ⟨W.heap.size + 1, 2, none⟩ = some (.int .i64 (b : Int)) ∧ w5.cell? ⟨W.heap.size + 1, 3, none⟩ = some (.int .i64 (e : Int)) := ⟨(HC5.out.cell (p := ⟨W.heap.size + 1, 0, none⟩) il (fun h => h)).trans i0, (HC5.out.cell (p := ⟨W.heap.size + 1, 1, none⟩) il (fun h => h)).trans i1, (HC5.out.cell (p := ⟨W.heap.size + 1, 2, none⟩) il (fun h => h)).trans i2, (HC5.out.cell (p := ⟨W.heap.size + 1, 3, none⟩) il (fun h => h)).trans i3⟩; have hT5 := HTW.out.kept HC5.out (fun h => h); have HT5 := Lib.hid hT5; have HZ5 := Lib.hid (HZW.out.kept HC5.out (fun h => h)); have k2 : w5.cell? ⟨W.heap.size, 2 + a, none⟩ = some (.int .i64 ra) := (hT5.cell _).trans (HRE.out _ _ _ _); have k3 := hT5.frozen (2 + a); have kl := hT5.lt; clear hT5 hc5
    refine hK.out _ _ hs5 (fun hHeld => ?_)
    clear hK K
    try simp only [Act.put, List.setIfInBounds_toArray, List.set_cons_zero, List.set_cons_succ]
    refine wpAnyH_take (i := 18) (oi := Oper.mk _ _ _ _ _ _) (v := ?v151) rfl (by kernel_rfl) (by kernel_rfl) (by kernel_rfl) (fun _ _ _ h => h) (Or.inl ⟨by rfl, ?hy151⟩) (by assumption) ?rs151
    case hy151 => (intro w hSw; (try dsimp only at hSw); first | (go_simp <;> with_reducible rfl) | rfl)
    try simp only [Act.put, List.setIfInBounds_toArray, List.set_cons_zero, List.set_cons_succ]
    refine wpAnyH_ready (rs := [19]) (by kernel_rfl) (by simp) ?_
    refine AllReadyH.cons (o := Oper.mk _ _ _ _ _ _) rfl (fun K hK => ?_) AllReadyH.nil
    go_simp
    skip
    refine hK.out _ _ (by have hq := ((Chg.refl (fun k => k = W.heap.size) w5).setCell (p := ⟨W.heap.size, 2 + a, none⟩) (.inl rfl) (.int .i64 vv)); exact ⟨(hq.cell (p := ⟨W.heap.size + 1, 0, none⟩) (Nat.lt_of_lt_of_le il HC5.out.size) (by show ¬ W.heap.size + 1 = W.heap.size; omega)).trans hs5.1, (hq.cell (p := ⟨W.heap.size + 1, 1, none⟩) (Nat.lt_of_lt_of_le il HC5.out.size) (by show ¬ W.heap.size + 1 = W.heap.size; omega)).trans hs5.2.1, (hq.cell (p := ⟨W.heap.size + 1, 2, none⟩) (Nat.lt_of_lt_of_le il HC5.out.size) (by show ¬ W.heap.size + 1 = W.heap.size; omega)).trans hs5.2.2.1, (hq.cell (p := ⟨W.heap.size + 1, 3, none⟩) (Nat.lt_of_lt_of_le il HC5.out.size) (by show ¬ W.heap.size + 1 = W.heap.size; omega)).trans hs5.2.2.2⟩) (fun hHeld => ?_)
    clear hK K
    try simp only [Act.put, List.setIfInBounds_toArray, List.set_cons_zero, List.set_cons_succ]
    refine wpAnyH_done (by kernel_rfl) ?_ _
    obtain ⟨w6, hw6⟩ : ∃ w6, w6 = w5.setCell ⟨W.heap.size, 2 + a, none⟩ (.int .i64 vv) := ⟨_, rfl⟩
    rw [← hw6]
    have hT6 : Blk w6 W.heap.size 28 #[.int .i64 f, .int .i64 (pc + 1), .int .i64 s0, .int .i64 s1, .int .i64 s2, .int .i64 s3, .int .i64 s4, .int .i64 s5, .int .i64 s6, .int .i64 s7, .slice D n c, .bool false] := by
      have h := HT5.out.set_ (2 + a) (.int .i64 vv)
      rw [HSE.out] at h
      rw [hw6]
      exact h
    have hZ6 : Blk w6 (W.heap.size + 1 + 1) 28 #[.int .i64 0, .int .i64 0, .int .i64 0, .int .i64 0, .int .i64 0, .int .i64 0, .int .i64 0, .int .i64 0, .int .i64 0, .int .i64 0, .slice none 0 0, .bool false] := by
      rw [hw6]
      exact HZ5.out.far (p := ⟨W.heap.size, 2 + a, none⟩) (show W.heap.size + 1 + 1 ≠ W.heap.size by omega) _
    have HC6 : Hid (Chg (fun _ => False) W w6) := Lib.hid (by
      rw [hw6]
      exact ((((((Chg.refl _ _).alloc _).alloc _).alloc _).trans HC5.out (fun _ _ h => h)).setCell (p := ⟨W.heap.size, 2 + a, none⟩) (.inr (by show W.heap.size ≤ W.heap.size; omega)) _))
    have t0 := hT6.cell 0
    have z0 := hZ6.cell 0
    have y0 := hZ6.frozen 0
    have t1 := hT6.cell 1
    have z1 := hZ6.cell 1
    have y1 := hZ6.frozen 1
    have t2 := hT6.cell 2
    have z2 := hZ6.cell 2
    have y2 := hZ6.frozen 2
    have t3 := hT6.cell 3
    have z3 := hZ6.cell 3
    have y3 := hZ6.frozen 3
    have t4 := hT6.cell 4
    have z4 := hZ6.cell 4
    have y4 := hZ6.frozen 4
    have t5 := hT6.cell 5
    have z5 := hZ6.cell 5
    have y5 := hZ6.frozen 5
    have t6 := hT6.cell 6
    have z6 := hZ6.cell 6
    have y6 := hZ6.frozen 6
    have t7 := hT6.cell 7
    have z7 := hZ6.cell 7
    have y7 := hZ6.frozen 7
    have t8 := hT6.cell 8
    have z8 := hZ6.cell 8
    have y8 := hZ6.frozen 8
    have t9 := hT6.cell 9
    have z9 := hZ6.cell 9
    have y9 := hZ6.frozen 9
    have t10 := hT6.cell 10
    have z10 := hZ6.cell 10
    have y10 := hZ6.frozen 10
    have t11 := hT6.cell 11
    have z11 := hZ6.cell 11
    have y11 := hZ6.frozen 11
    have tl := hT6.lt
    have zl := hZ6.lt
    simp only [List.getElem?_toArray, List.getElem?_cons_zero, List.getElem?_cons_succ] at t0 z0 t1 z1 t2 z2 t3 z3 t4 z4 t5 z5 t6 z6 t7 z7 t8 z8 t9 z9 t10 z10 t11 z11
    have HZ6 := Lib.hid hZ6
    clear hw6 hT6 hZ6 k2 k3
    go_wp2
    refine bodyPost_ret (results_cell_row rfl _ _ (W.heap.size + 1 + 1) 28 #[.int .i64 f, .int .i64 (pc + 1), .int .i64 s0, .int .i64 s1, .int .i64 s2, .int .i64 s3, .int .i64 s4, .int .i64 s5, .int .i64 s6, .int .i64 s7, .slice D n c, .bool false] (0, 0) _ rfl (Blk.set12 _ _ _ _ _ _ _ _ _ _ _ _ HZ6.out) Tryd.underlying28 rfl (by kernel_rfl)) rfl ?_
    exact ⟨rfl, chg12 _ _ _ _ _ _ _ _ _ _ _ _ HC6.out (by omega)⟩
  refine AllReadyH.cons (o := Oper.mk _ _ _ _ _ _) rfl (fun K hK => ?_) ?_
  · go_simp
    skip
    refine hK.out _ _ hHeld (fun hHeld => ?_)
    clear hK K
    try simp only [Act.put, List.setIfInBounds_toArray, List.set_cons_zero, List.set_cons_succ]
    refine wpAnyH_ready (rs := [4, 14]) (by kernel_rfl) (by simp) ?_
    refine AllReadyH.cons (o := Oper.mk _ _ _ _ _ _) rfl (fun K hK => ?_) ?_
    · go_simp
      go_at_call 33; refine (of_5 _).mono ?_; rintro e1 v1 ⟨rfl, rfl⟩
      refine hK.out _ _ hHeld (fun hHeld => ?_)
      clear hK K
      try simp only [Act.put, List.setIfInBounds_toArray, List.set_cons_zero, List.set_cons_succ]
      refine wpAnyH_ready (rs := [14]) (by kernel_rfl) (by simp) ?_
      refine AllReadyH.cons (o := Oper.mk _ _ _ _ _ _) rfl (fun K hK => ?_) AllReadyH.nil
      go_simp
      skip
      refine hK.out _ _ hHeld (fun hHeld => ?_)
      clear hK K
      try simp only [Act.put, List.setIfInBounds_toArray, List.set_cons_zero, List.set_cons_succ]
      refine wpAnyH_take (i := 15) (oi := Oper.mk _ _ _ _ _ _) (v := ?v154) rfl (by kernel_rfl) (by kernel_rfl) (by kernel_rfl) (fun _ _ _ h => h) (Or.inl ⟨by rfl, ?hy154⟩) (by assumption) ?rs154
      case hy154 => (intro w hSw; (try dsimp only at hSw); first | (go_simp <;> with_reducible rfl) | rfl)
      try simp only [Act.put, List.setIfInBounds_toArray, List.set_cons_zero, List.set_cons_succ]
      refine wpAnyH_ready (rs := [16]) (by kernel_rfl) (by simp) ?_
      refine AllReadyH.cons (o := Oper.mk _ _ _ _ _ _) rfl (fun K hK => ?_) AllReadyH.nil
      go_simp
      go_at_call 43; refine (HM.out _).mono ?_; rintro e2 w5 ⟨rfl, hc5⟩; have HC5 := Lib.hid (HCW.out.trans hc5 (fun _ _ h => h)); have hs5 : w5.cell? ⟨W.heap.size + 1, 0, none⟩ = some (.int .i64 5) ∧ w5.cell? ⟨W.heap.size + 1, 1, none⟩ = some (.int .i64 (a : Int)) ∧ w5.cell? ⟨W.heap.size + 1, 2, none⟩ = some (.int .i64 (b : Int)) ∧ w5.cell? ⟨W.heap.size + 1, 3, none⟩ = some (.int .i64 (e : Int)) := ⟨(HC5.out.cell (p := ⟨W.heap.size + 1, 0, none⟩) il (fun h => h)).trans i0, (HC5.out.cell (p := ⟨W.heap.size + 1, 1, none⟩) il (fun h => h)).trans i1, (HC5.out.cell (p := ⟨W.heap.size + 1, 2, none⟩) il (fun h => h)).trans i2, (HC5.out.cell (p := ⟨W.heap.size + 1, 3, none⟩) il (fun h => h)).trans i3⟩; have hT5 := HTW.out.kept HC5.out (fun h => h); have HT5 := Lib.hid hT5; have HZ5 := Lib.hid (HZW.out.kept HC5.out (fun h => h)); have k2 : w5.cell? ⟨W.heap.size, 2 + a, none⟩ = some (.int .i64 ra) := (hT5.cell _).trans (HRE.out _ _ _ _); have k3 := hT5.frozen (2 + a); have kl := hT5.lt; clear hT5 hc5
      refine hK.out _ _ hs5 (fun hHeld => ?_)
      clear hK K
      try simp only [Act.put, List.setIfInBounds_toArray, List.set_cons_zero, List.set_cons_succ]
      refine wpAnyH_take (i := 18) (oi := Oper.mk _ _ _ _ _ _) (v := ?v156) rfl (by kernel_rfl) (by kernel_rfl) (by kernel_rfl) (fun _ _ _ h => h) (Or.inl ⟨by rfl, ?hy156⟩) (by assumption) ?rs156
      case hy156 => (intro w hSw; (try dsimp only at hSw); first | (go_simp <;> with_reducible rfl) | rfl)
      try simp only [Act.put, List.setIfInBounds_toArray, List.set_cons_zero, List.set_cons_succ]
      refine wpAnyH_ready (rs := [19]) (by kernel_rfl) (by simp) ?_
      refine AllReadyH.cons (o := Oper.mk _ _ _ _ _ _) rfl (fun K hK => ?_) AllReadyH.nil
      go_simp
      skip
      refine hK.out _ _ (by have hq := ((Chg.refl (fun k => k = W.heap.size) w5).setCell (p := ⟨W.heap.size, 2 + a, none⟩) (.inl rfl) (.int .i64 vv)); exact ⟨(hq.cell (p := ⟨W.heap.size + 1, 0, none⟩) (Nat.lt_of_lt_of_le il HC5.out.size) (by show ¬ W.heap.size + 1 = W.heap.size; omega)).trans hs5.1, (hq.cell (p := ⟨W.heap.size + 1, 1, none⟩) (Nat.lt_of_lt_of_le il HC5.out.size) (by show ¬ W.heap.size + 1 = W.heap.size; omega)).trans hs5.2.1, (hq.cell (p := ⟨W.heap.size + 1, 2, none⟩) (Nat.lt_of_lt_of_le il HC5.out.size) (by show ¬ W.heap.size + 1 = W.heap.size; omega)).trans hs5.2.2.1, (hq.cell (p := ⟨W.heap.size + 1, 3, none⟩) (Nat.lt_of_lt_of_le il HC5.out.size) (by show ¬ W.heap.size + 1 = W.heap.size; omega)).trans hs5.2.2.2⟩) (fun hHeld => ?_)
      clear hK K
      try simp only [Act.put, List.setIfInBounds_toArray, List.set_cons_zero, List.set_cons_succ]
      refine wpAnyH_done (by kernel_rfl) ?_ _
      obtain ⟨w6, hw6⟩ : ∃ w6, w6 = w5.setCell ⟨W.heap.size, 2 + a, none⟩ (.int .i64 vv) := ⟨_, rfl⟩
      rw [← hw6]
      have hT6 : Blk w6 W.heap.size 28 #[.int .i64 f, .int .i64 (pc + 1), .int .i64 s0, .int .i64 s1, .int .i64 s2, .int .i64 s3, .int .i64 s4, .int .i64 s5, .int .i64 s6, .int .i64 s7, .slice D n c, .bool false] := by
        have h := HT5.out.set_ (2 + a) (.int .i64 vv)
        rw [HSE.out] at h
        rw [hw6]
        exact h
      have hZ6 : Blk w6 (W.heap.size + 1 + 1) 28 #[.int .i64 0, .int .i64 0, .int .i64 0, .int .i64 0, .int .i64 0, .int .i64 0, .int .i64 0, .int .i64 0, .int .i64 0, .int .i64 0, .slice none 0 0, .bool false] := by
        rw [hw6]
        exact HZ5.out.far (p := ⟨W.heap.size, 2 + a, none⟩) (show W.heap.size + 1 + 1 ≠ W.heap.size by omega) _
      have HC6 : Hid (Chg (fun _ => False) W w6) := Lib.hid (by
        rw [hw6]
        exact ((((((Chg.refl _ _).alloc _).alloc _).alloc _).trans HC5.out (fun _ _ h => h)).setCell (p := ⟨W.heap.size, 2 + a, none⟩) (.inr (by show W.heap.size ≤ W.heap.size; omega)) _))
      have t0 := hT6.cell 0
      have z0 := hZ6.cell 0
      have y0 := hZ6.frozen 0
      have t1 := hT6.cell 1
      have z1 := hZ6.cell 1
      have y1 := hZ6.frozen 1
      have t2 := hT6.cell 2
      have z2 := hZ6.cell 2
      have y2 := hZ6.frozen 2
      have t3 := hT6.cell 3
      have z3 := hZ6.cell 3
      have y3 := hZ6.frozen 3
      have t4 := hT6.cell 4
      have z4 := hZ6.cell 4
      have y4 := hZ6.frozen 4
      have t5 := hT6.cell 5
      have z5 := hZ6.cell 5
      have y5 := hZ6.frozen 5
      have t6 := hT6.cell 6
      have z6 := hZ6.cell 6
      have y6 := hZ6.frozen 6
      have t7 := hT6.cell 7
      have z7 := hZ6.cell 7
      have y7 := hZ6.frozen 7
      have t8 := hT6.cell 8
      have z8 := hZ6.cell 8
      have y8 := hZ6.frozen 8
      have t9 := hT6.cell 9
      have z9 := hZ6.cell 9
      have y9 := hZ6.frozen 9
      have t10 := hT6.cell 10
      have z10 := hZ6.cell 10
      have y10 := hZ6.frozen 10
      have t11 := hT6.cell 11
      have z11 := hZ6.cell 11
      have y11 := hZ6.frozen 11
      have tl := hT6.lt
      have zl := hZ6.lt
      simp only [List.getElem?_toArray, List.getElem?_cons_zero, List.getElem?_cons_succ] at t0 z0 t1 z1 t2 z2 t3 z3 t4 z4 t5 z5 t6 z6 t7 z7 t8 z8 t9 z9 t10 z10 t11 z11
      have HZ6 := Lib.hid hZ6
      clear hw6 hT6 hZ6 k2 k3
      go_wp2
      refine bodyPost_ret (results_cell_row rfl _ _ (W.heap.size + 1 + 1) 28 #[.int .i64 f, .int .i64 (pc + 1), .int .i64 s0, .int .i64 s1, .int .i64 s2, .int .i64 s3, .int .i64 s4, .int .i64 s5, .int .i64 s6, .int .i64 s7, .slice D n c, .bool false] (0, 0) _ rfl (Blk.set12 _ _ _ _ _ _ _ _ _ _ _ _ HZ6.out) Tryd.underlying28 rfl (by kernel_rfl)) rfl ?_
      exact ⟨rfl, chg12 _ _ _ _ _ _ _ _ _ _ _ _ HC6.out (by omega)⟩
    refine AllReadyH.cons (o := Oper.mk _ _ _ _ _ _) rfl (fun K hK => ?_) AllReadyH.nil
    go_simp
    skip
    refine hK.out _ _ hHeld (fun hHeld => ?_)
    clear hK K
    try simp only [Act.put, List.setIfInBounds_toArray, List.set_cons_zero, List.set_cons_succ]
    refine wpAnyH_take (i := 15) (oi := Oper.mk _ _ _ _ _ _) (v := ?v158) rfl (by kernel_rfl) (by kernel_rfl) (by kernel_rfl) (fun _ _ _ h => h) (Or.inl ⟨by rfl, ?hy158⟩) (by assumption) ?rs158
    case hy158 => (intro w hSw; (try dsimp only at hSw); first | (go_simp <;> with_reducible rfl) | rfl)
    try simp only [Act.put, List.setIfInBounds_toArray, List.set_cons_zero, List.set_cons_succ]
    refine wpAnyH_ready (rs := [4]) (by kernel_rfl) (by simp) ?_
    refine AllReadyH.cons (o := Oper.mk _ _ _ _ _ _) rfl (fun K hK => ?_) AllReadyH.nil
    go_simp
    go_at_call 33; refine (of_5 _).mono ?_; rintro e1 v1 ⟨rfl, rfl⟩
    refine hK.out _ _ hHeld (fun hHeld => ?_)
    clear hK K
    try simp only [Act.put, List.setIfInBounds_toArray, List.set_cons_zero, List.set_cons_succ]
    refine wpAnyH_ready (rs := [16]) (by kernel_rfl) (by simp) ?_
    refine AllReadyH.cons (o := Oper.mk _ _ _ _ _ _) rfl (fun K hK => ?_) AllReadyH.nil
    go_simp
    go_at_call 43; refine (HM.out _).mono ?_; rintro e2 w5 ⟨rfl, hc5⟩; have HC5 := Lib.hid (HCW.out.trans hc5 (fun _ _ h => h)); have hs5 : w5.cell? ⟨W.heap.size + 1, 0, none⟩ = some (.int .i64 5) ∧ w5.cell? ⟨W.heap.size + 1, 1, none⟩ = some (.int .i64 (a : Int)) ∧ w5.cell? ⟨W.heap.size + 1, 2, none⟩ = some (.int .i64 (b : Int)) ∧ w5.cell? ⟨W.heap.size + 1, 3, none⟩ = some (.int .i64 (e : Int)) := ⟨(HC5.out.cell (p := ⟨W.heap.size + 1, 0, none⟩) il (fun h => h)).trans i0, (HC5.out.cell (p := ⟨W.heap.size + 1, 1, none⟩) il (fun h => h)).trans i1, (HC5.out.cell (p := ⟨W.heap.size + 1, 2, none⟩) il (fun h => h)).trans i2, (HC5.out.cell (p := ⟨W.heap.size + 1, 3, none⟩) il (fun h => h)).trans i3⟩; have hT5 := HTW.out.kept HC5.out (fun h => h); have HT5 := Lib.hid hT5; have HZ5 := Lib.hid (HZW.out.kept HC5.out (fun h => h)); have k2 : w5.cell? ⟨W.heap.size, 2 + a, none⟩ = some (.int .i64 ra) := (hT5.cell _).trans (HRE.out _ _ _ _); have k3 := hT5.frozen (2 + a); have kl := hT5.lt; clear hT5 hc5
    refine hK.out _ _ hs5 (fun hHeld => ?_)
    clear hK K
    try simp only [Act.put, List.setIfInBounds_toArray, List.set_cons_zero, List.set_cons_succ]
    refine wpAnyH_take (i := 18) (oi := Oper.mk _ _ _ _ _ _) (v := ?v161) rfl (by kernel_rfl) (by kernel_rfl) (by kernel_rfl) (fun _ _ _ h => h) (Or.inl ⟨by rfl, ?hy161⟩) (by assumption) ?rs161
    case hy161 => (intro w hSw; (try dsimp only at hSw); first | (go_simp <;> with_reducible rfl) | rfl)
    try simp only [Act.put, List.setIfInBounds_toArray, List.set_cons_zero, List.set_cons_succ]
    refine wpAnyH_ready (rs := [19]) (by kernel_rfl) (by simp) ?_
    refine AllReadyH.cons (o := Oper.mk _ _ _ _ _ _) rfl (fun K hK => ?_) AllReadyH.nil
    go_simp
    skip
    refine hK.out _ _ (by have hq := ((Chg.refl (fun k => k = W.heap.size) w5).setCell (p := ⟨W.heap.size, 2 + a, none⟩) (.inl rfl) (.int .i64 vv)); exact ⟨(hq.cell (p := ⟨W.heap.size + 1, 0, none⟩) (Nat.lt_of_lt_of_le il HC5.out.size) (by show ¬ W.heap.size + 1 = W.heap.size; omega)).trans hs5.1, (hq.cell (p := ⟨W.heap.size + 1, 1, none⟩) (Nat.lt_of_lt_of_le il HC5.out.size) (by show ¬ W.heap.size + 1 = W.heap.size; omega)).trans hs5.2.1, (hq.cell (p := ⟨W.heap.size + 1, 2, none⟩) (Nat.lt_of_lt_of_le il HC5.out.size) (by show ¬ W.heap.size + 1 = W.heap.size; omega)).trans hs5.2.2.1, (hq.cell (p := ⟨W.heap.size + 1, 3, none⟩) (Nat.lt_of_lt_of_le il HC5.out.size) (by show ¬ W.heap.size + 1 = W.heap.size; omega)).trans hs5.2.2.2⟩) (fun hHeld => ?_)
    clear hK K
    try simp only [Act.put, List.setIfInBounds_toArray, List.set_cons_zero, List.set_cons_succ]
    refine wpAnyH_done (by kernel_rfl) ?_ _
    obtain ⟨w6, hw6⟩ : ∃ w6, w6 = w5.setCell ⟨W.heap.size, 2 + a, none⟩ (.int .i64 vv) := ⟨_, rfl⟩
    rw [← hw6]
    have hT6 : Blk w6 W.heap.size 28 #[.int .i64 f, .int .i64 (pc + 1), .int .i64 s0, .int .i64 s1, .int .i64 s2, .int .i64 s3, .int .i64 s4, .int .i64 s5, .int .i64 s6, .int .i64 s7, .slice D n c, .bool false] := by
      have h := HT5.out.set_ (2 + a) (.int .i64 vv)
      rw [HSE.out] at h
      rw [hw6]
      exact h
    have hZ6 : Blk w6 (W.heap.size + 1 + 1) 28 #[.int .i64 0, .int .i64 0, .int .i64 0, .int .i64 0, .int .i64 0, .int .i64 0, .int .i64 0, .int .i64 0, .int .i64 0, .int .i64 0, .slice none 0 0, .bool false] := by
      rw [hw6]
      exact HZ5.out.far (p := ⟨W.heap.size, 2 + a, none⟩) (show W.heap.size + 1 + 1 ≠ W.heap.size by omega) _
    have HC6 : Hid (Chg (fun _ => False) W w6) := Lib.hid (by
      rw [hw6]
      exact ((((((Chg.refl _ _).alloc _).alloc _).alloc _).trans HC5.out (fun _ _ h => h)).setCell (p := ⟨W.heap.size, 2 + a, none⟩) (.inr (by show W.heap.size ≤ W.heap.size; omega)) _))
    have t0 := hT6.cell 0
    have z0 := hZ6.cell 0
    have y0 := hZ6.frozen 0
    have t1 := hT6.cell 1
    have z1 := hZ6.cell 1
    have y1 := hZ6.frozen 1
    have t2 := hT6.cell 2
    have z2 := hZ6.cell 2
    have y2 := hZ6.frozen 2
    have t3 := hT6.cell 3
    have z3 := hZ6.cell 3
    have y3 := hZ6.frozen 3
    have t4 := hT6.cell 4
    have z4 := hZ6.cell 4
    have y4 := hZ6.frozen 4
    have t5 := hT6.cell 5
    have z5 := hZ6.cell 5
    have y5 := hZ6.frozen 5
    have t6 := hT6.cell 6
    have z6 := hZ6.cell 6
    have y6 := hZ6.frozen 6
    have t7 := hT6.cell 7
    have z7 := hZ6.cell 7
    have y7 := hZ6.frozen 7
    have t8 := hT6.cell 8
    have z8 := hZ6.cell 8
    have y8 := hZ6.frozen 8
    have t9 := hT6.cell 9
    have z9 := hZ6.cell 9
    have y9 := hZ6.frozen 9
    have t10 := hT6.cell 10
    have z10 := hZ6.cell 10
    have y10 := hZ6.frozen 10
    have t11 := hT6.cell 11
    have z11 := hZ6.cell 11
    have y11 := hZ6.frozen 11
    have tl := hT6.lt
    have zl := hZ6.lt
    simp only [List.getElem?_toArray, List.getElem?_cons_zero, List.getElem?_cons_succ] at t0 z0 t1 z1 t2 z2 t3 z3 t4 z4 t5 z5 t6 z6 t7 z7 t8 z8 t9 z9 t10 z10 t11 z11
    have HZ6 := Lib.hid hZ6
    clear hw6 hT6 hZ6 k2 k3
    go_wp2
    refine bodyPost_ret (results_cell_row rfl _ _ (W.heap.size + 1 + 1) 28 #[.int .i64 f, .int .i64 (pc + 1), .int .i64 s0, .int .i64 s1, .int .i64 s2, .int .i64 s3, .int .i64 s4, .int .i64 s5, .int .i64 s6, .int .i64 s7, .slice D n c, .bool false] (0, 0) _ rfl (Blk.set12 _ _ _ _ _ _ _ _ _ _ _ _ HZ6.out) Tryd.underlying28 rfl (by kernel_rfl)) rfl ?_
    exact ⟨rfl, chg12 _ _ _ _ _ _ _ _ _ _ _ _ HC6.out (by omega)⟩
  refine AllReadyH.cons (o := Oper.mk _ _ _ _ _ _) rfl (fun K hK => ?_) AllReadyH.nil
  go_simp
  skip
  refine hK.out _ _ hHeld (fun hHeld => ?_)
  clear hK K
  try simp only [Act.put, List.setIfInBounds_toArray, List.set_cons_zero, List.set_cons_succ]
  refine wpAnyH_ready (rs := [4, 9]) (by kernel_rfl) (by simp) ?_
  refine AllReadyH.cons (o := Oper.mk _ _ _ _ _ _) rfl (fun K hK => ?_) ?_
  · go_simp
    go_at_call 33; refine (of_5 _).mono ?_; rintro e1 v1 ⟨rfl, rfl⟩
    refine hK.out _ _ hHeld (fun hHeld => ?_)
    clear hK K
    try simp only [Act.put, List.setIfInBounds_toArray, List.set_cons_zero, List.set_cons_succ]
    refine wpAnyH_ready (rs := [9]) (by kernel_rfl) (by simp) ?_
    refine AllReadyH.cons (o := Oper.mk _ _ _ _ _ _) rfl (fun K hK => ?_) AllReadyH.nil
    go_simp
    skip
    refine hK.out _ _ hHeld (fun hHeld => ?_)
    clear hK K
    try simp only [Act.put, List.setIfInBounds_toArray, List.set_cons_zero, List.set_cons_succ]
    refine wpAnyH_take (i := 15) (oi := Oper.mk _ _ _ _ _ _) (v := ?v164) rfl (by kernel_rfl) (by kernel_rfl) (by kernel_rfl) (fun _ _ _ h => h) (Or.inl ⟨by rfl, ?hy164⟩) (by assumption) ?rs164
    case hy164 => (intro w hSw; (try dsimp only at hSw); first | (go_simp <;> with_reducible rfl) | rfl)
    try simp only [Act.put, List.setIfInBounds_toArray, List.set_cons_zero, List.set_cons_succ]
    refine wpAnyH_ready (rs := [16]) (by kernel_rfl) (by simp) ?_
    refine AllReadyH.cons (o := Oper.mk _ _ _ _ _ _) rfl (fun K hK => ?_) AllReadyH.nil
    go_simp
    go_at_call 43; refine (HM.out _).mono ?_; rintro e2 w5 ⟨rfl, hc5⟩; have HC5 := Lib.hid (HCW.out.trans hc5 (fun _ _ h => h)); have hs5 : w5.cell? ⟨W.heap.size + 1, 0, none⟩ = some (.int .i64 5) ∧ w5.cell? ⟨W.heap.size + 1, 1, none⟩ = some (.int .i64 (a : Int)) ∧ w5.cell? ⟨W.heap.size + 1, 2, none⟩ = some (.int .i64 (b : Int)) ∧ w5.cell? ⟨W.heap.size + 1, 3, none⟩ = some (.int .i64 (e : Int)) := ⟨(HC5.out.cell (p := ⟨W.heap.size + 1, 0, none⟩) il (fun h => h)).trans i0, (HC5.out.cell (p := ⟨W.heap.size + 1, 1, none⟩) il (fun h => h)).trans i1, (HC5.out.cell (p := ⟨W.heap.size + 1, 2, none⟩) il (fun h => h)).trans i2, (HC5.out.cell (p := ⟨W.heap.size + 1, 3, none⟩) il (fun h => h)).trans i3⟩; have hT5 := HTW.out.kept HC5.out (fun h => h); have HT5 := Lib.hid hT5; have HZ5 := Lib.hid (HZW.out.kept HC5.out (fun h => h)); have k2 : w5.cell? ⟨W.heap.size, 2 + a, none⟩ = some (.int .i64 ra) := (hT5.cell _).trans (HRE.out _ _ _ _); have k3 := hT5.frozen (2 + a); have kl := hT5.lt; clear hT5 hc5
    refine hK.out _ _ hs5 (fun hHeld => ?_)
    clear hK K
    try simp only [Act.put, List.setIfInBounds_toArray, List.set_cons_zero, List.set_cons_succ]
    refine wpAnyH_take (i := 18) (oi := Oper.mk _ _ _ _ _ _) (v := ?v166) rfl (by kernel_rfl) (by kernel_rfl) (by kernel_rfl) (fun _ _ _ h => h) (Or.inl ⟨by rfl, ?hy166⟩) (by assumption) ?rs166
    case hy166 => (intro w hSw; (try dsimp only at hSw); first | (go_simp <;> with_reducible rfl) | rfl)
    try simp only [Act.put, List.setIfInBounds_toArray, List.set_cons_zero, List.set_cons_succ]
    refine wpAnyH_ready (rs := [19]) (by kernel_rfl) (by simp) ?_
    refine AllReadyH.cons (o := Oper.mk _ _ _ _ _ _) rfl (fun K hK => ?_) AllReadyH.nil
    go_simp
    skip
    refine hK.out _ _ (by have hq := ((Chg.refl (fun k => k = W.heap.size) w5).setCell (p := ⟨W.heap.size, 2 + a, none⟩) (.inl rfl) (.int .i64 vv)); exact ⟨(hq.cell (p := ⟨W.heap.size + 1, 0, none⟩) (Nat.lt_of_lt_of_le il HC5.out.size) (by show ¬ W.heap.size + 1 = W.heap.size; omega)).trans hs5.1, (hq.cell (p := ⟨W.heap.size + 1, 1, none⟩) (Nat.lt_of_lt_of_le il HC5.out.size) (by show ¬ W.heap.size + 1 = W.heap.size; omega)).trans hs5.2.1, (hq.cell (p := ⟨W.heap.size + 1, 2, none⟩) (Nat.lt_of_lt_of_le il HC5.out.size) (by show ¬ W.heap.size + 1 = W.heap.size; omega)).trans hs5.2.2.1, (hq.cell (p := ⟨W.heap.size + 1, 3, none⟩) (Nat.lt_of_lt_of_le il HC5.out.size) (by show ¬ W.heap.size + 1 = W.heap.size; omega)).trans hs5.2.2.2⟩) (fun hHeld => ?_)
    clear hK K
    try simp only [Act.put, List.setIfInBounds_toArray, List.set_cons_zero, List.set_cons_succ]
    refine wpAnyH_done (by kernel_rfl) ?_ _
    obtain ⟨w6, hw6⟩ : ∃ w6, w6 = w5.setCell ⟨W.heap.size, 2 + a, none⟩ (.int .i64 vv) := ⟨_, rfl⟩
    rw [← hw6]
    have hT6 : Blk w6 W.heap.size 28 #[.int .i64 f, .int .i64 (pc + 1), .int .i64 s0, .int .i64 s1, .int .i64 s2, .int .i64 s3, .int .i64 s4, .int .i64 s5, .int .i64 s6, .int .i64 s7, .slice D n c, .bool false] := by
      have h := HT5.out.set_ (2 + a) (.int .i64 vv)
      rw [HSE.out] at h
      rw [hw6]
      exact h
    have hZ6 : Blk w6 (W.heap.size + 1 + 1) 28 #[.int .i64 0, .int .i64 0, .int .i64 0, .int .i64 0, .int .i64 0, .int .i64 0, .int .i64 0, .int .i64 0, .int .i64 0, .int .i64 0, .slice none 0 0, .bool false] := by
      rw [hw6]
      exact HZ5.out.far (p := ⟨W.heap.size, 2 + a, none⟩) (show W.heap.size + 1 + 1 ≠ W.heap.size by omega) _
    have HC6 : Hid (Chg (fun _ => False) W w6) := Lib.hid (by
      rw [hw6]
      exact ((((((Chg.refl _ _).alloc _).alloc _).alloc _).trans HC5.out (fun _ _ h => h)).setCell (p := ⟨W.heap.size, 2 + a, none⟩) (.inr (by show W.heap.size ≤ W.heap.size; omega)) _))
    have t0 := hT6.cell 0
    have z0 := hZ6.cell 0
    have y0 := hZ6.frozen 0
    have t1 := hT6.cell 1
    have z1 := hZ6.cell 1
    have y1 := hZ6.frozen 1
    have t2 := hT6.cell 2
    have z2 := hZ6.cell 2
    have y2 := hZ6.frozen 2
    have t3 := hT6.cell 3
    have z3 := hZ6.cell 3
    have y3 := hZ6.frozen 3
    have t4 := hT6.cell 4
    have z4 := hZ6.cell 4
    have y4 := hZ6.frozen 4
    have t5 := hT6.cell 5
    have z5 := hZ6.cell 5
    have y5 := hZ6.frozen 5
    have t6 := hT6.cell 6
    have z6 := hZ6.cell 6
    have y6 := hZ6.frozen 6
    have t7 := hT6.cell 7
    have z7 := hZ6.cell 7
    have y7 := hZ6.frozen 7
    have t8 := hT6.cell 8
    have z8 := hZ6.cell 8
    have y8 := hZ6.frozen 8
    have t9 := hT6.cell 9
    have z9 := hZ6.cell 9
    have y9 := hZ6.frozen 9
    have t10 := hT6.cell 10
    have z10 := hZ6.cell 10
    have y10 := hZ6.frozen 10
    have t11 := hT6.cell 11
    have z11 := hZ6.cell 11
    have y11 := hZ6.frozen 11
    have tl := hT6.lt
    have zl := hZ6.lt
    simp only [List.getElem?_toArray, List.getElem?_cons_zero, List.getElem?_cons_succ] at t0 z0 t1 z1 t2 z2 t3 z3 t4 z4 t5 z5 t6 z6 t7 z7 t8 z8 t9 z9 t10 z10 t11 z11
    have HZ6 := Lib.hid hZ6
    clear hw6 hT6 hZ6 k2 k3
    go_wp2
    refine bodyPost_ret (results_cell_row rfl _ _ (W.heap.size + 1 + 1) 28 #[.int .i64 f, .int .i64 (pc + 1), .int .i64 s0, .int .i64 s1, .int .i64 s2, .int .i64 s3, .int .i64 s4, .int .i64 s5, .int .i64 s6, .int .i64 s7, .slice D n c, .bool false] (0, 0) _ rfl (Blk.set12 _ _ _ _ _ _ _ _ _ _ _ _ HZ6.out) Tryd.underlying28 rfl (by kernel_rfl)) rfl ?_
    exact ⟨rfl, chg12 _ _ _ _ _ _ _ _ _ _ _ _ HC6.out (by omega)⟩
  refine AllReadyH.cons (o := Oper.mk _ _ _ _ _ _) rfl (fun K hK => ?_) AllReadyH.nil
  go_simp
  skip
  refine hK.out _ _ hHeld (fun hHeld => ?_)
  clear hK K
  try simp only [Act.put, List.setIfInBounds_toArray, List.set_cons_zero, List.set_cons_succ]
  refine wpAnyH_take (i := 15) (oi := Oper.mk _ _ _ _ _ _) (v := ?v168) rfl (by kernel_rfl) (by kernel_rfl) (by kernel_rfl) (fun _ _ _ h => h) (Or.inl ⟨by rfl, ?hy168⟩) (by assumption) ?rs168
  case hy168 => (intro w hSw; (try dsimp only at hSw); first | (go_simp <;> with_reducible rfl) | rfl)
  try simp only [Act.put, List.setIfInBounds_toArray, List.set_cons_zero, List.set_cons_succ]
  refine wpAnyH_ready (rs := [4]) (by kernel_rfl) (by simp) ?_
  refine AllReadyH.cons (o := Oper.mk _ _ _ _ _ _) rfl (fun K hK => ?_) AllReadyH.nil
  go_simp
  go_at_call 33; refine (of_5 _).mono ?_; rintro e1 v1 ⟨rfl, rfl⟩
  refine hK.out _ _ hHeld (fun hHeld => ?_)
  clear hK K
  try simp only [Act.put, List.setIfInBounds_toArray, List.set_cons_zero, List.set_cons_succ]
  refine wpAnyH_ready (rs := [16]) (by kernel_rfl) (by simp) ?_
  refine AllReadyH.cons (o := Oper.mk _ _ _ _ _ _) rfl (fun K hK => ?_) AllReadyH.nil
  go_simp
  go_at_call 43; refine (HM.out _).mono ?_; rintro e2 w5 ⟨rfl, hc5⟩; have HC5 := Lib.hid (HCW.out.trans hc5 (fun _ _ h => h)); have hs5 : w5.cell? ⟨W.heap.size + 1, 0, none⟩ = some (.int .i64 5) ∧ w5.cell? ⟨W.heap.size + 1, 1, none⟩ = some (.int .i64 (a : Int)) ∧ w5.cell? ⟨W.heap.size + 1, 2, none⟩ = some (.int .i64 (b : Int)) ∧ w5.cell? ⟨W.heap.size + 1, 3, none⟩ = some (.int .i64 (e : Int)) := ⟨(HC5.out.cell (p := ⟨W.heap.size + 1, 0, none⟩) il (fun h => h)).trans i0, (HC5.out.cell (p := ⟨W.heap.size + 1, 1, none⟩) il (fun h => h)).trans i1, (HC5.out.cell (p := ⟨W.heap.size + 1, 2, none⟩) il (fun h => h)).trans i2, (HC5.out.cell (p := ⟨W.heap.size + 1, 3, none⟩) il (fun h => h)).trans i3⟩; have hT5 := HTW.out.kept HC5.out (fun h => h); have HT5 := Lib.hid hT5; have HZ5 := Lib.hid (HZW.out.kept HC5.out (fun h => h)); have k2 : w5.cell? ⟨W.heap.size, 2 + a, none⟩ = some (.int .i64 ra) := (hT5.cell _).trans (HRE.out _ _ _ _); have k3 := hT5.frozen (2 + a); have kl := hT5.lt; clear hT5 hc5
  refine hK.out _ _ hs5 (fun hHeld => ?_)
  clear hK K
  try simp only [Act.put, List.setIfInBounds_toArray, List.set_cons_zero, List.set_cons_succ]
  refine wpAnyH_take (i := 18) (oi := Oper.mk _ _ _ _ _ _) (v := ?v171) rfl (by kernel_rfl) (by kernel_rfl) (by kernel_rfl) (fun _ _ _ h => h) (Or.inl ⟨by rfl, ?hy171⟩) (by assumption) ?rs171
  case hy171 => (intro w hSw; (try dsimp only at hSw); first | (go_simp <;> with_reducible rfl) | rfl)
  try simp only [Act.put, List.setIfInBounds_toArray, List.set_cons_zero, List.set_cons_succ]
  refine wpAnyH_ready (rs := [19]) (by kernel_rfl) (by simp) ?_
  refine AllReadyH.cons (o := Oper.mk _ _ _ _ _ _) rfl (fun K hK => ?_) AllReadyH.nil
  go_simp
  skip
  refine hK.out _ _ (by have hq := ((Chg.refl (fun k => k = W.heap.size) w5).setCell (p := ⟨W.heap.size, 2 + a, none⟩) (.inl rfl) (.int .i64 vv)); exact ⟨(hq.cell (p := ⟨W.heap.size + 1, 0, none⟩) (Nat.lt_of_lt_of_le il HC5.out.size) (by show ¬ W.heap.size + 1 = W.heap.size; omega)).trans hs5.1, (hq.cell (p := ⟨W.heap.size + 1, 1, none⟩) (Nat.lt_of_lt_of_le il HC5.out.size) (by show ¬ W.heap.size + 1 = W.heap.size; omega)).trans hs5.2.1, (hq.cell (p := ⟨W.heap.size + 1, 2, none⟩) (Nat.lt_of_lt_of_le il HC5.out.size) (by show ¬ W.heap.size + 1 = W.heap.size; omega)).trans hs5.2.2.1, (hq.cell (p := ⟨W.heap.size + 1, 3, none⟩) (Nat.lt_of_lt_of_le il HC5.out.size) (by show ¬ W.heap.size + 1 = W.heap.size; omega)).trans hs5.2.2.2⟩) (fun hHeld => ?_)
  clear hK K
  try simp only [Act.put, List.setIfInBounds_toArray, List.set_cons_zero, List.set_cons_succ]
  refine wpAnyH_done (by kernel_rfl) ?_ _
  obtain ⟨w6, hw6⟩ : ∃ w6, w6 = w5.setCell ⟨W.heap.size, 2 + a, none⟩ (.int .i64 vv) := ⟨_, rfl⟩
  rw [← hw6]
  have hT6 : Blk w6 W.heap.size 28 #[.int .i64 f, .int .i64 (pc + 1), .int .i64 s0, .int .i64 s1, .int .i64 s2, .int .i64 s3, .int .i64 s4, .int .i64 s5, .int .i64 s6, .int .i64 s7, .slice D n c, .bool false] := by
    have h := HT5.out.set_ (2 + a) (.int .i64 vv)
    rw [HSE.out] at h
    rw [hw6]
    exact h
  have hZ6 : Blk w6 (W.heap.size + 1 + 1) 28 #[.int .i64 0, .int .i64 0, .int .i64 0, .int .i64 0, .int .i64 0, .int .i64 0, .int .i64 0, .int .i64 0, .int .i64 0, .int .i64 0, .slice none 0 0, .bool false] := by
    rw [hw6]
    exact HZ5.out.far (p := ⟨W.heap.size, 2 + a, none⟩) (show W.heap.size + 1 + 1 ≠ W.heap.size by omega) _
  have HC6 : Hid (Chg (fun _ => False) W w6) := Lib.hid (by
    rw [hw6]
    exact ((((((Chg.refl _ _).alloc _).alloc _).alloc _).trans HC5.out (fun _ _ h => h)).setCell (p := ⟨W.heap.size, 2 + a, none⟩) (.inr (by show W.heap.size ≤ W.heap.size; omega)) _))
  have t0 := hT6.cell 0
  have z0 := hZ6.cell 0
  have y0 := hZ6.frozen 0
  have t1 := hT6.cell 1
  have z1 := hZ6.cell 1
  have y1 := hZ6.frozen 1
  have t2 := hT6.cell 2
  have z2 := hZ6.cell 2
  have y2 := hZ6.frozen 2
  have t3 := hT6.cell 3
  have z3 := hZ6.cell 3
  have y3 := hZ6.frozen 3
  have t4 := hT6.cell 4
  have z4 := hZ6.cell 4
  have y4 := hZ6.frozen 4
  have t5 := hT6.cell 5
  have z5 := hZ6.cell 5
  have y5 := hZ6.frozen 5
  have t6 := hT6.cell 6
  have z6 := hZ6.cell 6
  have y6 := hZ6.frozen 6
  have t7 := hT6.cell 7
  have z7 := hZ6.cell 7
  have y7 := hZ6.frozen 7
  have t8 := hT6.cell 8
  have z8 := hZ6.cell 8
  have y8 := hZ6.frozen 8
  have t9 := hT6.cell 9
  have z9 := hZ6.cell 9
  have y9 := hZ6.frozen 9
  have t10 := hT6.cell 10
  have z10 := hZ6.cell 10
  have y10 := hZ6.frozen 10
  have t11 := hT6.cell 11
  have z11 := hZ6.cell 11
  have y11 := hZ6.frozen 11
  have tl := hT6.lt
  have zl := hZ6.lt
  simp only [List.getElem?_toArray, List.getElem?_cons_zero, List.getElem?_cons_succ] at t0 z0 t1 z1 t2 z2 t3 z3 t4 z4 t5 z5 t6 z6 t7 z7 t8 z8 t9 z9 t10 z10 t11 z11
  have HZ6 := Lib.hid hZ6
  clear hw6 hT6 hZ6 k2 k3
  go_wp2
  refine bodyPost_ret (results_cell_row rfl _ _ (W.heap.size + 1 + 1) 28 #[.int .i64 f, .int .i64 (pc + 1), .int .i64 s0, .int .i64 s1, .int .i64 s2, .int .i64 s3, .int .i64 s4, .int .i64 s5, .int .i64 s6, .int .i64 s7, .slice D n c, .bool false] (0, 0) _ rfl (Blk.set12 _ _ _ _ _ _ _ _ _ _ _ _ HZ6.out) Tryd.underlying28 rfl (by kernel_rfl)) rfl ?_
  exact ⟨rfl, chg12 _ _ _ _ _ _ _ _ _ _ _ _ HC6.out (by omega)⟩
end
end Go.Proofs.YthdkbofnplnidaaDoor
