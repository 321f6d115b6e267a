/- A thread does its instruction: two numbers. -/
import Derived.Test.YthdkbofnplnidaaDoorVmI0
namespace Go.Proofs.YthdkbofnplnidaaDoor
open Go.ChangeShapes Go.WideShapes Go.ChangeAt Go.RowKit Go.Deep
set_option linter.unusedVariables false
set_option linter.unusedSimpArgs false

section
variable {f pc N ans : Int} {rs : List Int} {D : Option Addr} {n c : Nat}
set_option maxRecDepth 100000 in
set_option maxHeartbeats 16000000 in
theorem do_2 (W : World) (a b e : Nat) (ha : a < 8) (hb : b < 8) (he : e < 8) (hl : rs.length = 8) (hp0 : 0 ≤ pc) (hp : pc ≤ 1000) :
    Calls Tryd.prog 23 #[.agg #[.int .i64 f, .int .i64 pc, .int .i64 (rs.getD 0 0), .int .i64 (rs.getD 1 0), .int .i64 (rs.getD 2 0), .int .i64 (rs.getD 3 0), .int .i64 (rs.getD 4 0), .int .i64 (rs.getD 5 0), .int .i64 (rs.getD 6 0), .int .i64 (rs.getD 7 0), .slice D n c, .bool false], .agg #[.int .i64 2, .int .i64 (a : Int), .int .i64 (b : Int), .int .i64 (e : Int), .int .i64 N], .int .i64 ans] W fun r W' => r = .returned (.agg #[.int .i64 f, .int .i64 (pc + 1), .int .i64 ((rs.set a (ofF 2 (rs.getD b 0) (rs.getD e 0))).getD 0 0), .int .i64 ((rs.set a (ofF 2 (rs.getD b 0) (rs.getD e 0))).getD 1 0), .int .i64 ((rs.set a (ofF 2 (rs.getD b 0) (rs.getD e 0))).getD 2 0), .int .i64 ((rs.set a (ofF 2 (rs.getD b 0) (rs.getD e 0))).getD 3 0), .int .i64 ((rs.set a (ofF 2 (rs.getD b 0) (rs.getD e 0))).getD 4 0), .int .i64 ((rs.set a (ofF 2 (rs.getD b 0) (rs.getD e 0))).getD 5 0), .int .i64 ((rs.set a (ofF 2 (rs.getD b 0) (rs.getD e 0))).getD 6 0), .int .i64 ((rs.set a (ofF 2 (rs.getD b 0) (rs.getD e 0))).getD 7 0), .slice D n c, .bool false]) ∧ Chg (fun _ => False) W W' := by
  obtain ⟨r0, r1, r2, r3, r4, r5, r6, r7, rfl⟩ := eight hl
  obtain ⟨ra, hra, raE⟩ := get8 (r0 := r0) (r1 := r1) (r2 := r2) (r3 := r3) (r4 := r4) (r5 := r5) (r6 := r6) (r7 := r7) ha
  obtain ⟨rb, hrb, rbE⟩ := get8 (r0 := r0) (r1 := r1) (r2 := r2) (r3 := r3) (r4 := r4) (r5 := r5) (r6 := r6) (r7 := r7) hb
  obtain ⟨re, hre, reE⟩ := get8 (r0 := r0) (r1 := r1) (r2 := r2) (r3 := r3) (r4 := r4) (r5 := r5) (r6 := r6) (r7 := r7) he
  rw [hrb, hre]
  have HM := Lib.hid (fun V => pair_2 rb re V)
  generalize ofF 2 rb re = vv at *
  obtain ⟨s0, s1, s2, s3, s4, s5, s6, s7, hs, hsE⟩ := set8 (r0 := r0) (r1 := r1) (r2 := r2) (r3 := r3) (r4 := r4) (r5 := r5) (r6 := r6) (r7 := r7) ha vv
  rw [hs]
  have gb1 : (#[.int .i64 f, .int .i64 (pc + 1), .int .i64 r0, .int .i64 r1, .int .i64 r2, .int .i64 r3, .int .i64 r4, .int .i64 r5, .int .i64 r6, .int .i64 r7, .slice D n c, .bool false] : Array Value)[2 + b]? = some (.int .i64 rb) := rbE _ _ _ _
  have gb2 : (((W.alloc (.cells #[.int .i64 f, .int .i64 (pc + 1), .int .i64 r0, .int .i64 r1, .int .i64 r2, .int .i64 r3, .int .i64 r4, .int .i64 r5, .int .i64 r6, .int .i64 r7, .slice D n c, .bool false] 28)).alloc (.cells #[.int .i64 2, .int .i64 (a : Int), .int .i64 (b : Int), .int .i64 (e : Int), .int .i64 N] 32)).alloc (.cells #[.int .i64 0, .int .i64 0, .int .i64 0, .int .i64 0, .int .i64 0, .int .i64 0, .int .i64 0, .int .i64 0, .int .i64 0, .int .i64 0, .slice none 0 0, .bool false] 28)).cell? ⟨W.heap.size, 2 + b, none⟩ = some (.int .i64 rb) := (((Blk.new W 28 #[.int .i64 f, .int .i64 (pc + 1), .int .i64 r0, .int .i64 r1, .int .i64 r2, .int .i64 r3, .int .i64 r4, .int .i64 r5, .int .i64 r6, .int .i64 r7, .slice D n c, .bool false]).alloc _).alloc _).cell _ |>.trans gb1
  have gb3 : (((W.alloc (.cells #[.int .i64 f, .int .i64 (pc + 1), .int .i64 r0, .int .i64 r1, .int .i64 r2, .int .i64 r3, .int .i64 r4, .int .i64 r5, .int .i64 r6, .int .i64 r7, .slice D n c, .bool false] 28)).alloc (.cells #[.int .i64 2, .int .i64 (a : Int), .int .i64 (b : Int), .int .i64 (e : Int), .int .i64 N] 32)).alloc (.cells #[.int .i64 0, .int .i64 0, .int .i64 0, .int .i64 0, .int .i64 0, .int .i64 0, .int .i64 0, .int .i64 0, .int .i64 0, .int .i64 0, .slice none 0 0, .bool false] 28)).frozen? ⟨W.heap.size, 2 + b, none⟩ = false := (((Blk.new W 28 #[.int .i64 f, .int .i64 (pc + 1), .int .i64 r0, .int .i64 r1, .int .i64 r2, .int .i64 r3, .int .i64 r4, .int .i64 r5, .int .i64 r6, .int .i64 r7, .slice D n c, .bool false]).alloc _).alloc _).frozen _
  have ge1 : (#[.int .i64 f, .int .i64 (pc + 1), .int .i64 r0, .int .i64 r1, .int .i64 r2, .int .i64 r3, .int .i64 r4, .int .i64 r5, .int .i64 r6, .int .i64 r7, .slice D n c, .bool false] : Array Value)[2 + e]? = some (.int .i64 re) := reE _ _ _ _
  have ge2 : (((W.alloc (.cells #[.int .i64 f, .int .i64 (pc + 1), .int .i64 r0, .int .i64 r1, .int .i64 r2, .int .i64 r3, .int .i64 r4, .int .i64 r5, .int .i64 r6, .int .i64 r7, .slice D n c, .bool false] 28)).alloc (.cells #[.int .i64 2, .int .i64 (a : Int), .int .i64 (b : Int), .int .i64 (e : Int), .int .i64 N] 32)).alloc (.cells #[.int .i64 0, .int .i64 0, .int .i64 0, .int .i64 0, .int .i64 0, .int .i64 0, .int .i64 0, .int .i64 0, .int .i64 0, .int .i64 0, .slice none 0 0, .bool false] 28)).cell? ⟨W.heap.size, 2 + e, none⟩ = some (.int .i64 re) := (((Blk.new W 28 #[.int .i64 f, .int .i64 (pc + 1), .int .i64 r0, .int .i64 r1, .int .i64 r2, .int .i64 r3, .int .i64 r4, .int .i64 r5, .int .i64 r6, .int .i64 r7, .slice D n c, .bool false]).alloc _).alloc _).cell _ |>.trans ge1
  have ge3 : (((W.alloc (.cells #[.int .i64 f, .int .i64 (pc + 1), .int .i64 r0, .int .i64 r1, .int .i64 r2, .int .i64 r3, .int .i64 r4, .int .i64 r5, .int .i64 r6, .int .i64 r7, .slice D n c, .bool false] 28)).alloc (.cells #[.int .i64 2, .int .i64 (a : Int), .int .i64 (b : Int), .int .i64 (e : Int), .int .i64 N] 32)).alloc (.cells #[.int .i64 0, .int .i64 0, .int .i64 0, .int .i64 0, .int .i64 0, .int .i64 0, .int .i64 0, .int .i64 0, .int .i64 0, .int .i64 0, .slice none 0 0, .bool false] 28)).frozen? ⟨W.heap.size, 2 + e, none⟩ = false := (((Blk.new W 28 #[.int .i64 f, .int .i64 (pc + 1), .int .i64 r0, .int .i64 r1, .int .i64 r2, .int .i64 r3, .int .i64 r4, .int .i64 r5, .int .i64 r6, .int .i64 r7, .slice D n c, .bool false]).alloc _).alloc _).frozen _
  have a0 : (0 : Int) ≤ a := by omega
  have a8 : (a : Int) < 8 := by omega
  have b0 : (0 : Int) ≤ b := by omega
  have b8 : (b : Int) < 8 := by omega
  have e0 : (0 : Int) ≤ e := by omega
  have e8 : (e : Int) < 8 := by omega
  have HRE := Lib.hid raE
  have HSE := Lib.hid (hsE f (pc + 1) (.slice D n c) (.bool false))
  have HTW : Hid (Blk (((W.alloc (.cells #[.int .i64 f, .int .i64 (pc + 1), .int .i64 r0, .int .i64 r1, .int .i64 r2, .int .i64 r3, .int .i64 r4, .int .i64 r5, .int .i64 r6, .int .i64 r7, .slice D n c, .bool false] 28)).alloc (.cells #[.int .i64 2, .int .i64 (a : Int), .int .i64 (b : Int), .int .i64 (e : Int), .int .i64 N] 32)).alloc (.cells #[.int .i64 0, .int .i64 0, .int .i64 0, .int .i64 0, .int .i64 0, .int .i64 0, .int .i64 0, .int .i64 0, .int .i64 0, .int .i64 0, .slice none 0 0, .bool false] 28)) W.heap.size 28 #[.int .i64 f, .int .i64 (pc + 1), .int .i64 r0, .int .i64 r1, .int .i64 r2, .int .i64 r3, .int .i64 r4, .int .i64 r5, .int .i64 r6, .int .i64 r7, .slice D n c, .bool false]) := Lib.hid (blk1 W _ _ _ _)
  have hI : Blk (((W.alloc (.cells #[.int .i64 f, .int .i64 (pc + 1), .int .i64 r0, .int .i64 r1, .int .i64 r2, .int .i64 r3, .int .i64 r4, .int .i64 r5, .int .i64 r6, .int .i64 r7, .slice D n c, .bool false] 28)).alloc (.cells #[.int .i64 2, .int .i64 (a : Int), .int .i64 (b : Int), .int .i64 (e : Int), .int .i64 N] 32)).alloc (.cells #[.int .i64 0, .int .i64 0, .int .i64 0, .int .i64 0, .int .i64 0, .int .i64 0, .int .i64 0, .int .i64 0, .int .i64 0, .int .i64 0, .slice none 0 0, .bool false] 28)) (W.heap.size + 1) 32 #[.int .i64 2, .int .i64 (a : Int), .int .i64 (b : Int), .int .i64 (e : Int), .int .i64 N] := blk2 W _ _ _ _
  have HZW : Hid (Blk (((W.alloc (.cells #[.int .i64 f, .int .i64 (pc + 1), .int .i64 r0, .int .i64 r1, .int .i64 r2, .int .i64 r3, .int .i64 r4, .int .i64 r5, .int .i64 r6, .int .i64 r7, .slice D n c, .bool false] 28)).alloc (.cells #[.int .i64 2, .int .i64 (a : Int), .int .i64 (b : Int), .int .i64 (e : Int), .int .i64 N] 32)).alloc (.cells #[.int .i64 0, .int .i64 0, .int .i64 0, .int .i64 0, .int .i64 0, .int .i64 0, .int .i64 0, .int .i64 0, .int .i64 0, .int .i64 0, .slice none 0 0, .bool false] 28)) (W.heap.size + 1 + 1) 28 #[.int .i64 0, .int .i64 0, .int .i64 0, .int .i64 0, .int .i64 0, .int .i64 0, .int .i64 0, .int .i64 0, .int .i64 0, .int .i64 0, .slice none 0 0, .bool false]) := Lib.hid (blk3 W _ _ _ _)
  have HCW : Hid (Chg (fun _ => False) (((W.alloc (.cells #[.int .i64 f, .int .i64 (pc + 1), .int .i64 r0, .int .i64 r1, .int .i64 r2, .int .i64 r3, .int .i64 r4, .int .i64 r5, .int .i64 r6, .int .i64 r7, .slice D n c, .bool false] 28)).alloc (.cells #[.int .i64 2, .int .i64 (a : Int), .int .i64 (b : Int), .int .i64 (e : Int), .int .i64 N] 32)).alloc (.cells #[.int .i64 0, .int .i64 0, .int .i64 0, .int .i64 0, .int .i64 0, .int .i64 0, .int .i64 0, .int .i64 0, .int .i64 0, .int .i64 0, .slice none 0 0, .bool false] 28)) (((W.alloc (.cells #[.int .i64 f, .int .i64 (pc + 1), .int .i64 r0, .int .i64 r1, .int .i64 r2, .int .i64 r3, .int .i64 r4, .int .i64 r5, .int .i64 r6, .int .i64 r7, .slice D n c, .bool false] 28)).alloc (.cells #[.int .i64 2, .int .i64 (a : Int), .int .i64 (b : Int), .int .i64 (e : Int), .int .i64 N] 32)).alloc (.cells #[.int .i64 0, .int .i64 0, .int .i64 0, .int .i64 0, .int .i64 0, .int .i64 0, .int .i64 0, .int .i64 0, .int .i64 0, .int .i64 0, .slice none 0 0, .bool false] 28)).drew) := Lib.hid (Chg.refl _ _).drew
  have i0 := hI.cell 0
  have i1 := hI.cell 1
  have i2 := hI.cell 2
  have i3 := hI.cell 3
  have il := hI.lt
  simp only [List.getElem?_toArray, List.getElem?_cons_zero, List.getElem?_cons_succ] at i0 i1 i2 i3
  have hs0 : ((((W.alloc (.cells #[.int .i64 f, .int .i64 (pc + 1), .int .i64 r0, .int .i64 r1, .int .i64 r2, .int .i64 r3, .int .i64 r4, .int .i64 r5, .int .i64 r6, .int .i64 r7, .slice D n c, .bool false] 28)).alloc (.cells #[.int .i64 2, .int .i64 (a : Int), .int .i64 (b : Int), .int .i64 (e : Int), .int .i64 N] 32)).alloc (.cells #[.int .i64 0, .int .i64 0, .int .i64 0, .int .i64 0, .int .i64 0, .int .i64 0, .int .i64 0, .int .i64 0, .int .i64 0, .int .i64 0, .slice none 0 0, .bool false] 28))).drew.cell? ⟨W.heap.size + 1, 0, none⟩ = some (.int .i64 2) ∧ ((((W.alloc (.cells #[.int .i64 f, .int .i64 (pc + 1), .int .i64 r0, .int .i64 r1, .int .i64 r2, .int .i64 r3, .int .i64 r4, .int .i64 r5, .int .i64 r6, .int .i64 r7, .slice D n c, .bool false] 28)).alloc (.cells #[.int .i64 2, .int .i64 (a : Int), .int .i64 (b : Int), .int .i64 (e : Int), .int .i64 N] 32)).alloc (.cells #[.int .i64 0, .int .i64 0, .int .i64 0, .int .i64 0, .int .i64 0, .int .i64 0, .int .i64 0, .int .i64 0, .int .i64 0, .int .i64 0, .slice none 0 0, .bool false] 28))).drew.cell? ⟨W.heap.size + 1, 1, none⟩ = some (.int .i64 (a : Int)) ∧ ((((W.alloc (.cells #[.int .i64 f, .int .i64 (pc + 1), .int .i64 r0, .int .i64 r1, .int .i64 r2, .int .i64 r3, .int .i64 r4, .int .i64 r5, .int .i64 r6, .int .i64 r7, .slice D n c, .bool false] 28)).alloc (.cells #[.int .i64 2, .int .i64 (a : Int), .int .i64 (b : Int), .int .i64 (e : Int), .int .i64 N] 32)).alloc (.cells #[.int .i64 0, .int .i64 0, .int .i64 0, .int .i64 0, .int .i64 0, .int .i64 0, .int .i64 0, .int .i64 0, .int .i64 0, .int .i64 0, .slice none 0 0, .bool false] 28))).drew.cell? ⟨W.heap.size + 1, 2, none⟩ = some (.int .i64 (b : Int)) ∧ ((((W.alloc (.cells #[.int .i64 f, .int .i64 (pc + 1), .int .i64 r0, .int .i64 r1, .int .i64 r2, .int .i64 r3, .int .i64 r4, .int .i64 r5, .int .i64 r6, .int .i64 r7, .slice D n c, .bool false] 28)).alloc (.cells #[.int .i64 2, .int .i64 (a : Int), .int .i64 (b : Int), .int .i64 (e : Int), .int .i64 N] 32)).alloc (.cells #[.int .i64 0, .int .i64 0, .int .i64 0, .int .i64 0, .int .i64 0, .int .i64 0, .int .i64 0, .int .i64 0, .int .i64 0, .int .i64 0, .slice none 0 0, .bool false] 28))).drew.cell? ⟨W.heap.size + 1, 3, none⟩ = some (.int .i64 (e : Int)) := ⟨i0, i1, i2, i3⟩
  clear hs hsE raE hra rbE hrb reE hre hI
  simp only [List.getD_cons_zero, List.getD_cons_succ]
  go_enter Tryd.func23, Tryd.ntmps23
  go_wp2
  refine wp_region_held_drew (S := fun w' => w'.cell? ⟨W.heap.size + 1, 0, none⟩ = some (.int .i64 2) ∧ w'.cell? ⟨W.heap.size + 1, 1, none⟩ = some (.int .i64 (a : Int)) ∧ w'.cell? ⟨W.heap.size + 1, 2, none⟩ = some (.int .i64 (b : Int)) ∧ w'.cell? ⟨W.heap.size + 1, 3, none⟩ = some (.int .i64 (e : Int))) (by kernel_rfl) hs0 (fun hHeld => ?_)
  refine wpAnyH_take (i := 0) (oi := Oper.mk _ _ _ _ _ _) (v := ?v1) rfl (by kernel_rfl) (by kernel_rfl) (by kernel_rfl) (fun _ _ _ h => h) (Or.inl ⟨by rfl, ?hy1⟩) (by assumption) ?rs1
  case hy1 => (intro w hSw; (try dsimp only at hSw); first | (go_simp <;> with_reducible rfl) | rfl)
  try simp only [Act.put, List.setIfInBounds_toArray, List.set_cons_zero, List.set_cons_succ]
  refine wpAnyH_take (i := 1) (oi := Oper.mk _ _ _ _ _ _) (v := ?v2) rfl (by kernel_rfl) (by kernel_rfl) (by kernel_rfl) (fun _ _ _ h => h) (Or.inl ⟨by rfl, ?hy2⟩) (by assumption) ?rs2
  case hy2 => (intro w hSw; (try dsimp only at hSw); first | (go_simp <;> with_reducible rfl) | rfl)
  try simp only [Act.put, List.setIfInBounds_toArray, List.set_cons_zero, List.set_cons_succ]
  refine wpAnyH_take (i := 2) (oi := Oper.mk _ _ _ _ _ _) (v := ?v3) rfl (by kernel_rfl) (by kernel_rfl) (by kernel_rfl) (fun _ _ _ h => h) (Or.inl ⟨by rfl, ?hy3⟩) (by assumption) ?rs3
  case hy3 => (intro w hSw; (try dsimp only at hSw); first | (go_simp <;> with_reducible rfl) | rfl)
  try simp only [Act.put, List.setIfInBounds_toArray, List.set_cons_zero, List.set_cons_succ]
  refine wpAnyH_take (i := 3) (oi := Oper.mk _ _ _ _ _ _) (v := ?v4) rfl (by kernel_rfl) (by kernel_rfl) (by kernel_rfl) (fun _ _ _ h => h) (Or.inl ⟨by rfl, ?hy4⟩) (by assumption) ?rs4
  case hy4 => (intro w hSw; (try dsimp only at hSw); first | (go_simp <;> with_reducible rfl) | rfl)
  try simp only [Act.put, List.setIfInBounds_toArray, List.set_cons_zero, List.set_cons_succ]
  refine wpAnyH_take (i := 5) (oi := Oper.mk _ _ _ _ _ _) (v := ?v5) rfl (by kernel_rfl) (by kernel_rfl) (by kernel_rfl) (fun _ _ _ h => h) (Or.inl ⟨by rfl, ?hy5⟩) (by assumption) ?rs5
  case hy5 => (intro w hSw; (try dsimp only at hSw); first | (go_simp <;> with_reducible rfl) | rfl)
  try simp only [Act.put, List.setIfInBounds_toArray, List.set_cons_zero, List.set_cons_succ]
  refine wpAnyH_take (i := 6) (oi := Oper.mk _ _ _ _ _ _) (v := ?v6) rfl (by kernel_rfl) (by kernel_rfl) (by kernel_rfl) (fun _ _ _ h => h) (Or.inl ⟨by rfl, ?hy6⟩) (by assumption) ?rs6
  case hy6 => (intro w hSw; (try dsimp only at hSw); first | (go_simp <;> with_reducible rfl) | rfl)
  try simp only [Act.put, List.setIfInBounds_toArray, List.set_cons_zero, List.set_cons_succ]
  refine wpAnyH_take (i := 7) (oi := Oper.mk _ _ _ _ _ _) (v := ?v7) rfl (by kernel_rfl) (by kernel_rfl) (by kernel_rfl) (fun _ _ _ h => h) (Or.inl ⟨by rfl, ?hy7⟩) (by assumption) ?rs7
  case hy7 => (intro w hSw; (try dsimp only at hSw); first | (go_simp <;> with_reducible rfl) | rfl)
  try simp only [Act.put, List.setIfInBounds_toArray, List.set_cons_zero, List.set_cons_succ]
  refine wpAnyH_take (i := 8) (oi := Oper.mk _ _ _ _ _ _) (v := ?v8) rfl (by kernel_rfl) (by kernel_rfl) (by kernel_rfl) (fun _ _ _ h => h) (Or.inl ⟨by rfl, ?hy8⟩) (by assumption) ?rs8
  case hy8 => (intro w hSw; (try dsimp only at hSw); first | (go_simp <;> with_reducible rfl) | rfl)
  try simp only [Act.put, List.setIfInBounds_toArray, List.set_cons_zero, List.set_cons_succ]
  refine wpAnyH_take (i := 10) (oi := Oper.mk _ _ _ _ _ _) (v := ?v9) rfl (by kernel_rfl) (by kernel_rfl) (by kernel_rfl) (fun _ _ _ h => h) (Or.inl ⟨by rfl, ?hy9⟩) (by assumption) ?rs9
  case hy9 => (intro w hSw; (try dsimp only at hSw); first | (go_simp <;> with_reducible rfl) | rfl)
  try simp only [Act.put, List.setIfInBounds_toArray, List.set_cons_zero, List.set_cons_succ]
  refine wpAnyH_take (i := 11) (oi := Oper.mk _ _ _ _ _ _) (v := ?v10) rfl (by kernel_rfl) (by kernel_rfl) (by kernel_rfl) (fun _ _ _ h => h) (Or.inl ⟨by rfl, ?hy10⟩) (by assumption) ?rs10
  case hy10 => (intro w hSw; (try dsimp only at hSw); first | (go_simp <;> with_reducible rfl) | rfl)
  try simp only [Act.put, List.setIfInBounds_toArray, List.set_cons_zero, List.set_cons_succ]
  refine wpAnyH_take (i := 12) (oi := Oper.mk _ _ _ _ _ _) (v := ?v11) rfl (by kernel_rfl) (by kernel_rfl) (by kernel_rfl) (fun _ _ _ h => h) (Or.inl ⟨by rfl, ?hy11⟩) (by assumption) ?rs11
  case hy11 => (intro w hSw; (try dsimp only at hSw); first | (go_simp <;> with_reducible rfl) | rfl)
  try simp only [Act.put, List.setIfInBounds_toArray, List.set_cons_zero, List.set_cons_succ]
  refine wpAnyH_take (i := 13) (oi := Oper.mk _ _ _ _ _ _) (v := ?v12) rfl (by kernel_rfl) (by kernel_rfl) (by kernel_rfl) (fun _ _ _ h => h) (Or.inl ⟨by rfl, ?hy12⟩) (by assumption) ?rs12
  case hy12 => (intro w hSw; (try dsimp only at hSw); first | (go_simp <;> with_reducible rfl) | rfl)
  try simp only [Act.put, List.setIfInBounds_toArray, List.set_cons_zero, List.set_cons_succ]
  refine wpAnyH_take (i := 17) (oi := Oper.mk _ _ _ _ _ _) (v := ?v13) rfl (by kernel_rfl) (by kernel_rfl) (by kernel_rfl) (fun _ _ _ h => h) (Or.inl ⟨by rfl, ?hy13⟩) (by assumption) ?rs13
  case hy13 => (intro w hSw; (try dsimp only at hSw); first | (go_simp <;> with_reducible rfl) | rfl)
  try simp only [Act.put, List.setIfInBounds_toArray, List.set_cons_zero, List.set_cons_succ]
  refine wpAnyH_ready (rs := [4, 9, 14]) (by kernel_rfl) (by simp) ?_
  refine AllReadyH.cons (o := Oper.mk _ _ _ _ _ _) rfl (fun K hK => ?_) ?_
  · go_simp
    go_at_call 33; refine (of_2 _).mono ?_; rintro e1 v1 ⟨rfl, rfl⟩
    refine hK.out _ _ hHeld (fun hHeld => ?_)
    clear hK K
    try simp only [Act.put, List.setIfInBounds_toArray, List.set_cons_zero, List.set_cons_succ]
    refine wpAnyH_ready (rs := [9, 14]) (by kernel_rfl) (by simp) ?_
    refine AllReadyH.cons (o := Oper.mk _ _ _ _ _ _) rfl (fun K hK => ?_) ?_
    · go_simp
      skip
      refine hK.out _ _ hHeld (fun hHeld => ?_)
      clear hK K
      try simp only [Act.put, List.setIfInBounds_toArray, List.set_cons_zero, List.set_cons_succ]
      refine wpAnyH_ready (rs := [14]) (by kernel_rfl) (by simp) ?_
      refine AllReadyH.cons (o := Oper.mk _ _ _ _ _ _) rfl (fun K hK => ?_) AllReadyH.nil
      go_simp
      skip
      refine hK.out _ _ hHeld (fun hHeld => ?_)
      clear hK K
      try simp only [Act.put, List.setIfInBounds_toArray, List.set_cons_zero, List.set_cons_succ]
      refine wpAnyH_take (i := 15) (oi := Oper.mk _ _ _ _ _ _) (v := ?v15) rfl (by kernel_rfl) (by kernel_rfl) (by kernel_rfl) (fun _ _ _ h => h) (Or.inl ⟨by rfl, ?hy15⟩) (by assumption) ?rs15
      case hy15 => (intro w hSw; (try dsimp only at hSw); first | (go_simp <;> with_reducible rfl) | rfl)
      try simp only [Act.put, List.setIfInBounds_toArray, List.set_cons_zero, List.set_cons_succ]
      refine wpAnyH_ready (rs := [16]) (by kernel_rfl) (by simp) ?_
      refine AllReadyH.cons (o := Oper.mk _ _ _ _ _ _) rfl (fun K hK => ?_) AllReadyH.nil
      go_simp
      go_at_call 40; refine (HM.out _).mono ?_; rintro e2 w5 ⟨rfl, hc5⟩; have HC5 := Lib.hid (HCW.out.trans hc5 (fun _ _ h => h)); have hs5 : w5.cell? ⟨W.heap.size + 1, 0, none⟩ = some (.int .i64 2) ∧ w5.cell? ⟨W.heap.size + 1, 1, none⟩ = some (.int .i64 (a : Int)) ∧ w5.cell? ⟨W.heap.size + 1, 2, none⟩ = some (.int .i64 (b : Int)) ∧ w5.cell? ⟨W.heap.size + 1, 3, none⟩ = some (.int .i64 (e : Int)) := ⟨(HC5.out.cell (p := ⟨W.heap.size + 1, 0, none⟩) il (fun h => h)).trans i0, (HC5.out.cell (p := ⟨W.heap.size + 1, 1, none⟩) il (fun h => h)).trans i1, (HC5.out.cell (p := ⟨W.heap.size + 1, 2, none⟩) il (fun h => h)).trans i2, (HC5.out.cell (p := ⟨W.heap.size + 1, 3, none⟩) il (fun h => h)).trans i3⟩; have hT5 := HTW.out.kept HC5.out (fun h => h); have HT5 := Lib.hid hT5; have HZ5 := Lib.hid (HZW.out.kept HC5.out (fun h => h)); have k2 : w5.cell? ⟨W.heap.size, 2 + a, none⟩ = some (.int .i64 ra) := (hT5.cell _).trans (HRE.out _ _ _ _); have k3 := hT5.frozen (2 + a); have kl := hT5.lt; clear hT5 hc5
      refine hK.out _ _ hs5 (fun hHeld => ?_)
      clear hK K
      try simp only [Act.put, List.setIfInBounds_toArray, List.set_cons_zero, List.set_cons_succ]
      refine wpAnyH_take (i := 18) (oi := Oper.mk _ _ _ _ _ _) (v := ?v17) rfl (by kernel_rfl) (by kernel_rfl) (by kernel_rfl) (fun _ _ _ h => h) (Or.inl ⟨by rfl, ?hy17⟩) (by assumption) ?rs17
      case hy17 => (intro w hSw; (try dsimp only at hSw); first | (go_simp <;> with_reducible rfl) | rfl)
      try simp only [Act.put, List.setIfInBounds_toArray, List.set_cons_zero, List.set_cons_succ]
      refine wpAnyH_ready (rs := [19]) (by kernel_rfl) (by simp) ?_
      refine AllReadyH.cons (o := Oper.mk _ _ _ _ _ _) rfl (fun K hK => ?_) AllReadyH.nil
      go_simp
      skip
      refine hK.out _ _ (by have hq := ((Chg.refl (fun k => k = W.heap.size) w5).setCell (p := ⟨W.heap.size, 2 + a, none⟩) (.inl rfl) (.int .i64 vv)); exact ⟨(hq.cell (p := ⟨W.heap.size + 1, 0, none⟩) (Nat.lt_of_lt_of_le il HC5.out.size) (by show ¬ W.heap.size + 1 = W.heap.size; omega)).trans hs5.1, (hq.cell (p := ⟨W.heap.size + 1, 1, none⟩) (Nat.lt_of_lt_of_le il HC5.out.size) (by show ¬ W.heap.size + 1 = W.heap.size; omega)).trans hs5.2.1, (hq.cell (p := ⟨W.heap.size + 1, 2, none⟩) (Nat.lt_of_lt_of_le il HC5.out.size) (by show ¬ W.heap.size + 1 = W.heap.size; omega)).trans hs5.2.2.1, (hq.cell (p := ⟨W.heap.size + 1, 3, none⟩) (Nat.lt_of_lt_of_le il HC5.out.size) (by show ¬ W.heap.size + 1 = W.heap.size; omega)).trans hs5.2.2.2⟩) (fun hHeld => ?_)
      clear hK K
      try simp only [Act.put, List.setIfInBounds_toArray, List.set_cons_zero, List.set_cons_succ]
      refine wpAnyH_done (by kernel_rfl) ?_ _
      obtain ⟨w6, hw6⟩ : ∃ w6, w6 = w5.setCell ⟨W.heap.size, 2 + a, none⟩ (.int .i64 vv) := ⟨_, rfl⟩
      rw [← hw6]
      have hT6 : Blk w6 W.heap.size 28 #[.int .i64 f, .int .i64 (pc + 1), .int .i64 s0, .int .i64 s1, .int .i64 s2, .int .i64 s3, .int .i64 s4, .int .i64 s5, .int .i64 s6, .int .i64 s7, .slice D n c, .bool false] := by
        have h := HT5.out.set_ (2 + a) (.int .i64 vv)
        rw [HSE.out] at h
        rw [hw6]
        exact h
      have hZ6 : Blk w6 (W.heap.size + 1 + 1) 28 #[.int .i64 0, .int .i64 0, .int .i64 0, .int .i64 0, .int .i64 0, .int .i64 0, .int .i64 0, .int .i64 0, .int .i64 0, .int .i64 0, .slice none 0 0, .bool false] := by
        rw [hw6]
        exact HZ5.out.far (p := ⟨W.heap.size, 2 + a, none⟩) (show W.heap.size + 1 + 1 ≠ W.heap.size by omega) _
      have HC6 : Hid (Chg (fun _ => False) W w6) := Lib.hid (by
        rw [hw6]
        exact ((((((Chg.refl _ _).alloc _).alloc _).alloc _).trans HC5.out (fun _ _ h => h)).setCell (p := ⟨W.heap.size, 2 + a, none⟩) (.inr (by show W.heap.size ≤ W.heap.size; omega)) _))
      have t0 := hT6.cell 0
      have z0 := hZ6.cell 0
      have y0 := hZ6.frozen 0
      have t1 := hT6.cell 1
      have z1 := hZ6.cell 1
      have y1 := hZ6.frozen 1
      have t2 := hT6.cell 2
      have z2 := hZ6.cell 2
      have y2 := hZ6.frozen 2
      have t3 := hT6.cell 3
      have z3 := hZ6.cell 3
      have y3 := hZ6.frozen 3
      have t4 := hT6.cell 4
      have z4 := hZ6.cell 4
      have y4 := hZ6.frozen 4
      have t5 := hT6.cell 5
      have z5 := hZ6.cell 5
      have y5 := hZ6.frozen 5
      have t6 := hT6.cell 6
      have z6 := hZ6.cell 6
      have y6 := hZ6.frozen 6
      have t7 := hT6.cell 7
      have z7 := hZ6.cell 7
      have y7 := hZ6.frozen 7
      have t8 := hT6.cell 8
      have z8 := hZ6.cell 8
      have y8 := hZ6.frozen 8
      have t9 := hT6.cell 9
      have z9 := hZ6.cell 9
      have y9 := hZ6.frozen 9
      have t10 := hT6.cell 10
      have z10 := hZ6.cell 10
      have y10 := hZ6.frozen 10
      have t11 := hT6.cell 11
      have z11 := hZ6.cell 11
      have y11 := hZ6.frozen 11
      have tl := hT6.lt
      have zl := hZ6.lt
      simp only [List.getElem?_toArray, List.getElem?_cons_zero, List.getElem?_cons_succ] at t0 z0 t1 z1 t2 z2 t3 z3 t4 z4 t5 z5 t6 z6 t7 z7 t8 z8 t9 z9 t10 z10 t11 z11
      have HZ6 := Lib.hid hZ6
      clear hw6 hT6 hZ6 k2 k3
      go_wp2
      refine bodyPost_ret (results_cell_row rfl _ _ (W.heap.size + 1 + 1) 28 #[.int .i64 f, .int .i64 (pc + 1), .int .i64 s0, .int .i64 s1, .int .i64 s2, .int .i64 s3, .int .i64 s4, .int .i64 s5, .int .i64 s6, .int .i64 s7, .slice D n c, .bool false] (0, 0) _ rfl (Blk.set12 _ _ _ _ _ _ _ _ _ _ _ _ HZ6.out) Tryd.underlying28 rfl (by kernel_rfl)) rfl ?_
      exact ⟨rfl, chg12 _ _ _ _ _ _ _ _ _ _ _ _ HC6.out (by omega)⟩
    refine AllReadyH.cons (o := Oper.mk _ _ _ _ _ _) rfl (fun K hK => ?_) AllReadyH.nil
    go_simp
    skip
    refine hK.out _ _ hHeld (fun hHeld => ?_)
    clear hK K
    try simp only [Act.put, List.setIfInBounds_toArray, List.set_cons_zero, List.set_cons_succ]
    refine wpAnyH_ready (rs := [9]) (by kernel_rfl) (by simp) ?_
    refine AllReadyH.cons (o := Oper.mk _ _ _ _ _ _) rfl (fun K hK => ?_) AllReadyH.nil
    go_simp
    skip
    refine hK.out _ _ hHeld (fun hHeld => ?_)
    clear hK K
    try simp only [Act.put, List.setIfInBounds_toArray, List.set_cons_zero, List.set_cons_succ]
    refine wpAnyH_take (i := 15) (oi := Oper.mk _ _ _ _ _ _) (v := ?v20) rfl (by kernel_rfl) (by kernel_rfl) (by kernel_rfl) (fun _ _ _ h => h) (Or.inl ⟨by rfl, ?hy20⟩) (by assumption) ?rs20
    case hy20 => (intro w hSw; (try dsimp only at hSw); first | (go_simp <;> with_reducible rfl) | rfl)
    try simp only [Act.put, List.setIfInBounds_toArray, List.set_cons_zero, List.set_cons_succ]
    refine wpAnyH_ready (rs := [16]) (by kernel_rfl) (by simp) ?_
    refine AllReadyH.cons (o := Oper.mk _ _ _ _ _ _) rfl (fun K hK => ?_) AllReadyH.nil
    go_simp
    go_at_call 40; refine (HM.out _).mono ?_; rintro e2 w5 ⟨rfl, hc5⟩; have HC5 := Lib.hid (HCW.out.trans hc5 (fun _ _ h => h)); have hs5 : w5.cell? ⟨W.heap.size + 1, 0, none⟩ = some (.int .i64 2) ∧ w5.cell? ⟨W.heap.size + 1, 1, none⟩ = some (.int .i64 (a : Int)) ∧ w5.cell? ⟨W.heap.size + 1, 2, none⟩ = some (.int .i64 (b : Int)) ∧ w5.cell? ⟨W.heap.size + 1, 3, none⟩ = some (.int .i64 (e : Int)) := ⟨(HC5.out.cell (p := ⟨W.heap.size + 1, 0, none⟩) il (fun h => h)).trans i0, (HC5.out.cell (p := ⟨W.heap.size + 1, 1, none⟩) il (fun h => h)).trans i1, (HC5.out.cell (p := ⟨W.heap.size + 1, 2, none⟩) il (fun h => h)).trans i2, (HC5.out.cell (p := ⟨W.heap.size + 1, 3, none⟩) il (fun h => h)).trans i3⟩; have hT5 := HTW.out.kept HC5.out (fun h => h); have HT5 := Lib.hid hT5; have HZ5 := Lib.hid (HZW.out.kept HC5.out (fun h => h)); have k2 : w5.cell? ⟨W.heap.size, 2 + a, none⟩ = some (.int .i64 ra) := (hT5.cell _).trans (HRE.out _ _ _ _); have k3 := hT5.frozen (2 + a); have kl := hT5.lt; clear hT5 hc5
    refine hK.out _ _ hs5 (fun hHeld => ?_)
    clear hK K
    try simp only [Act.put, List.setIfInBounds_toArray, List.set_cons_zero, List.set_cons_succ]
    refine wpAnyH_take (i := 18) (oi := Oper.mk _ _ _ _ _ _) (v := ?v22) rfl (by kernel_rfl) (by kernel_rfl) (by kernel_rfl) (fun _ _ _ h => h) (Or.inl ⟨by rfl, ?hy22⟩) (by assumption) ?rs22
    case hy22 => (intro w hSw; (try dsimp only at hSw); first | (go_simp <;> with_reducible rfl) | rfl)
    try simp only [Act.put, List.setIfInBounds_toArray, List.set_cons_zero, List.set_cons_succ]
    refine wpAnyH_ready (rs := [19]) (by kernel_rfl) (by simp) ?_
    refine AllReadyH.cons (o := Oper.mk _ _ _ _ _ _) rfl (fun K hK => ?_) AllReadyH.nil
    go_simp
    skip
    refine hK.out _ _ (by have hq := ((Chg.refl (fun k => k = W.heap.size) w5).setCell (p := ⟨W.heap.size, 2 + a, none⟩) (.inl rfl) (.int .i64 vv)); exact ⟨(hq.cell (p := ⟨W.heap.size + 1, 0, none⟩) (Nat.lt_of_lt_of_le il HC5.out.size) (by show ¬ W.heap.size + 1 = W.heap.size; omega)).trans hs5.1, (hq.cell (p := ⟨W.heap.size + 1, 1, none⟩) (Nat.lt_of_lt_of_le il HC5.out.size) (by show ¬ W.heap.size + 1 = W.heap.size; omega)).trans hs5.2.1, (hq.cell (p := ⟨W.heap.size + 1, 2, none⟩) (Nat.lt_of_lt_of_le il HC5.out.size) (by show ¬ W.heap.size + 1 = W.heap.size; omega)).trans hs5.2.2.1, (hq.cell (p := ⟨W.heap.size + 1, 3, none⟩) (Nat.lt_of_lt_of_le il HC5.out.size) (by show ¬ W.heap.size + 1 = W.heap.size; omega)).trans hs5.2.2.2⟩) (fun hHeld => ?_)
    clear hK K
    try simp only [Act.put, List.setIfInBounds_toArray, List.set_cons_zero, List.set_cons_succ]
    refine wpAnyH_done (by kernel_rfl) ?_ _
    obtain ⟨w6, hw6⟩ : ∃ w6, w6 = w5.setCell ⟨W.heap.size, 2 + a, none⟩ (.int .i64 vv) := ⟨_, rfl⟩
    rw [← hw6]
    have hT6 : Blk w6 W.heap.size 28 #[.int .i64 f, .int .i64 (pc + 1), .int .i64 s0, .int .i64 s1, .int .i64 s2, .int .i64 s3, .int .i64 s4, .int .i64 s5, .int .i64 s6, .int .i64 s7, .slice D n c, .bool false] := by
      have h := HT5.out.set_ (2 + a) (.int .i64 vv)
      rw [HSE.out] at h
      rw [hw6]
      exact h
    have hZ6 : Blk w6 (W.heap.size + 1 + 1) 28 #[.int .i64 0, .int .i64 0, .int .i64 0, .int .i64 0, .int .i64 0, .int .i64 0, .int .i64 0, .int .i64 0, .int .i64 0, .int .i64 0, .slice none 0 0, .bool false] := by
      rw [hw6]
      exact HZ5.out.far (p := ⟨W.heap.size, 2 + a, none⟩) (show W.heap.size + 1 + 1 ≠ W.heap.size by omega) _
    have HC6 : Hid (Chg (fun _ => False) W w6) := Lib.hid (by
      rw [hw6]
      exact ((((((Chg.refl _ _).alloc _).alloc _).alloc _).trans HC5.out (fun _ _ h => h)).setCell (p := ⟨W.heap.size, 2 + a, none⟩) (.inr (by show W.heap.size ≤ W.heap.size; omega)) _))
    have t0 := hT6.cell 0
    have z0 := hZ6.cell 0
    have y0 := hZ6.frozen 0
    have t1 := hT6.cell 1
    have z1 := hZ6.cell 1
    have y1 := hZ6.frozen 1
    have t2 := hT6.cell 2
    have z2 := hZ6.cell 2
    have y2 := hZ6.frozen 2
    have t3 := hT6.cell 3
    have z3 := hZ6.cell 3
    have y3 := hZ6.frozen 3
    have t4 := hT6.cell 4
    have z4 := hZ6.cell 4
    have y4 := hZ6.frozen 4
    have t5 := hT6.cell 5
    have z5 := hZ6.cell 5
    have y5 := hZ6.frozen 5
    have t6 := hT6.cell 6
    have z6 := hZ6.cell 6
    have y6 := hZ6.frozen 6
    have t7 := hT6.cell 7
    have z7 := hZ6.cell 7
    have y7 := hZ6.frozen 7
    have t8 := hT6.cell 8
    have z8 := hZ6.cell 8
    have y8 := hZ6.frozen 8
    have t9 := hT6.cell 9
    have z9 := hZ6.cell 9
    have y9 := hZ6.frozen 9
    have t10 := hT6.cell 10
    have z10 := hZ6.cell 10
    have y10 := hZ6.frozen 10
    have t11 := hT6.cell 11
    have z11 := hZ6.cell 11
    have y11 := hZ6.frozen 11
    have tl := hT6.lt
    have zl := hZ6.lt
    simp only [List.getElem?_toArray, List.getElem?_cons_zero, List.getElem?_cons_succ] at t0 z0 t1 z1 t2 z2 t3 z3 t4 z4 t5 z5 t6 z6 t7 z7 t8 z8 t9 z9 t10 z10 t11 z11
    have HZ6 := Lib.hid hZ6
    clear hw6 hT6 hZ6 k2 k3
    go_wp2
    refine bodyPost_ret (results_cell_row rfl _ _ (W.heap.size + 1 + 1) 28 #[.int .i64 f, .int .i64 (pc + 1), .int .i64 s0, .int .i64 s1, .int .i64 s2, .int .i64 s3, .int .i64 s4, .int .i64 s5, .int .i64 s6, .int .i64 s7, .slice D n c, .bool false] (0, 0) _ rfl (Blk.set12 _ _ _ _ _ _ _ _ _ _ _ _ HZ6.out) Tryd.underlying28 rfl (by kernel_rfl)) rfl ?_
    exact ⟨rfl, chg12 _ _ _ _ _ _ _ _ _ _ _ _ HC6.out (by omega)⟩
  refine AllReadyH.cons (o := Oper.mk _ _ _ _ _ _) rfl (fun K hK => ?_) ?_
  · go_simp
    skip
    refine hK.out _ _ hHeld (fun hHeld => ?_)
    clear hK K
    try simp only [Act.put, List.setIfInBounds_toArray, List.set_cons_zero, List.set_cons_succ]
    refine wpAnyH_ready (rs := [4, 14]) (by kernel_rfl) (by simp) ?_
    refine AllReadyH.cons (o := Oper.mk _ _ _ _ _ _) rfl (fun K hK => ?_) ?_
    · go_simp
      go_at_call 33; refine (of_2 _).mono ?_; rintro e1 v1 ⟨rfl, rfl⟩
      refine hK.out _ _ hHeld (fun hHeld => ?_)
      clear hK K
      try simp only [Act.put, List.setIfInBounds_toArray, List.set_cons_zero, List.set_cons_succ]
      refine wpAnyH_ready (rs := [14]) (by kernel_rfl) (by simp) ?_
      refine AllReadyH.cons (o := Oper.mk _ _ _ _ _ _) rfl (fun K hK => ?_) AllReadyH.nil
      go_simp
      skip
      refine hK.out _ _ hHeld (fun hHeld => ?_)
      clear hK K
      try simp only [Act.put, List.setIfInBounds_toArray, List.set_cons_zero, List.set_cons_succ]
      refine wpAnyH_take (i := 15) (oi := Oper.mk _ _ _ _ _ _) (v := ?v25) rfl (by kernel_rfl) (by kernel_rfl) (by kernel_rfl) (fun _ _ _ h => h) (Or.inl ⟨by rfl, ?hy25⟩) (by assumption) ?rs25
      case hy25 => (intro w hSw; (try dsimp only at hSw); first | (go_simp <;> with_reducible rfl) | rfl)
      try simp only [Act.put, List.setIfInBounds_toArray, List.set_cons_zero, List.set_cons_succ]
      refine wpAnyH_ready (rs := [16]) (by kernel_rfl) (by simp) ?_
      refine AllReadyH.cons (o := Oper.mk _ _ _ _ _ _) rfl (fun K hK => ?_) AllReadyH.nil
      go_simp
      go_at_call 40; refine (HM.out _).mono ?_; rintro e2 w5 ⟨rfl, hc5⟩; have HC5 := Lib.hid (HCW.out.trans hc5 (fun _ _ h => h)); have hs5 : w5.cell? ⟨W.heap.size + 1, 0, none⟩ = some (.int .i64 2) ∧ w5.cell? ⟨W.heap.size + 1, 1, none⟩ = some (.int .i64 (a : Int)) ∧ w5.cell? ⟨W.heap.size + 1, 2, none⟩ = some (.int .i64 (b : Int)) ∧ w5.cell? ⟨W.heap.size + 1, 3, none⟩ = some (.int .i64 (e : Int)) := ⟨(HC5.out.cell (p := ⟨W.heap.size + 1, 0, none⟩) il (fun h => h)).trans i0, (HC5.out.cell (p := ⟨W.heap.size + 1, 1, none⟩) il (fun h => h)).trans i1, (HC5.out.cell (p := ⟨W.heap.size + 1, 2, none⟩) il (fun h => h)).trans i2, (HC5.out.cell (p := ⟨W.heap.size + 1, 3, none⟩) il (fun h => h)).trans i3⟩; have hT5 := HTW.out.kept HC5.out (fun h => h); have HT5 := Lib.hid hT5; have HZ5 := Lib.hid (HZW.out.kept HC5.out (fun h => h)); have k2 : w5.cell? ⟨W.heap.size, 2 + a, none⟩ = some (.int .i64 ra) := (hT5.cell _).trans (HRE.out _ _ _ _); have k3 := hT5.frozen (2 + a); have kl := hT5.lt; clear hT5 hc5
      refine hK.out _ _ hs5 (fun hHeld => ?_)
      clear hK K
      try simp only [Act.put, List.setIfInBounds_toArray, List.set_cons_zero, List.set_cons_succ]
      refine wpAnyH_take (i := 18) (oi := Oper.mk _ _ _ _ _ _) (v := ?v27) rfl (by kernel_rfl) (by kernel_rfl) (by kernel_rfl) (fun _ _ _ h => h) (Or.inl ⟨by rfl, ?hy27⟩) (by assumption) ?rs27
      case hy27 => (intro w hSw; (try dsimp only at hSw); first | (go_simp <;> with_reducible rfl) | rfl)
      try simp only [Act.put, List.setIfInBounds_toArray, List.set_cons_zero, List.set_cons_succ]
      refine wpAnyH_ready (rs := [19]) (by kernel_rfl) (by simp) ?_
      refine AllReadyH.cons (o := Oper.mk _ _ _ _ _ _) rfl (fun K hK => ?_) AllReadyH.nil
      go_simp
      skip
      refine hK.out _ _ (by have hq := ((Chg.refl (fun k => k = W.heap.size) w5).setCell (p := ⟨W.heap.size, 2 + a, none⟩) (.inl rfl) (.int .i64 vv)); exact ⟨(hq.cell (p := ⟨W.heap.size + 1, 0, none⟩) (Nat.lt_of_lt_of_le il HC5.out.size) (by show ¬ W.heap.size + 1 = W.heap.size; omega)).trans hs5.1, (hq.cell (p := ⟨W.heap.size + 1, 1, none⟩) (Nat.lt_of_lt_of_le il HC5.out.size) (by show ¬ W.heap.size + 1 = W.heap.size; omega)).trans hs5.2.1, (hq.cell (p := ⟨W.heap.size + 1, 2, none⟩) (Nat.lt_of_lt_of_le il HC5.out.size) (by show ¬ W.heap.size + 1 = W.heap.size; omega)).trans hs5.2.2.1, (hq.cell (p := ⟨W.heap.size + 1, 3, none⟩) (Nat.lt_of_lt_of_le il HC5.out.size) (by show ¬ W.heap.size + 1 = W.heap.size; omega)).trans hs5.2.2.2⟩) (fun hHeld => ?_)
      clear hK K
      try simp only [Act.put, List.setIfInBounds_toArray, List.set_cons_zero, List.set_cons_succ]
      refine wpAnyH_done (by kernel_rfl) ?_ _
      obtain ⟨w6, hw6⟩ : ∃ w6, w6 = w5.setCell ⟨W.heap.size, 2 + a, none⟩ (.int .i64 vv) := ⟨_, rfl⟩
      rw [← hw6]
      have hT6 : Blk w6 W.heap.size 28 #[.int .i64 f, .int .i64 (pc + 1), .int .i64 s0, .int .i64 s1, .int .i64 s2, .int .i64 s3, .int .i64 s4, .int .i64 s5, .int .i64 s6, .int .i64 s7, .slice D n c, .bool false] := by
        have h := HT5.out.set_ (2 + a) (.int .i64 vv)
        rw [HSE.out] at h
        rw [hw6]
        exact h
      have hZ6 : Blk w6 (W.heap.size + 1 + 1) 28 #[.int .i64 0, .int .i64 0, .int .i64 0, .int .i64 0, .int .i64 0, .int .i64 0, .int .i64 0, .int .i64 0, .int .i64 0, .int .i64 0, .slice none 0 0, .bool false] := by
        rw [hw6]
        exact HZ5.out.far (p := ⟨W.heap.size, 2 + a, none⟩) (show W.heap.size + 1 + 1 ≠ W.heap.size by omega) _
      have HC6 : Hid (Chg (fun _ => False) W w6) := Lib.hid (by
        rw [hw6]
        exact ((((((Chg.refl _ _).alloc _).alloc _).alloc _).trans HC5.out (fun _ _ h => h)).setCell (p := ⟨W.heap.size, 2 + a, none⟩) (.inr (by show W.heap.size ≤ W.heap.size; omega)) _))
      have t0 := hT6.cell 0
      have z0 := hZ6.cell 0
      have y0 := hZ6.frozen 0
      have t1 := hT6.cell 1
      have z1 := hZ6.cell 1
      have y1 := hZ6.frozen 1
      have t2 := hT6.cell 2
      have z2 := hZ6.cell 2
      have y2 := hZ6.frozen 2
      have t3 := hT6.cell 3
      have z3 := hZ6.cell 3
      have y3 := hZ6.frozen 3
      have t4 := hT6.cell 4
      have z4 := hZ6.cell 4
      have y4 := hZ6.frozen 4
      have t5 := hT6.cell 5
      have z5 := hZ6.cell 5
      have y5 := hZ6.frozen 5
      have t6 := hT6.cell 6
      have z6 := hZ6.cell 6
      have y6 := hZ6.frozen 6
      have t7 := hT6.cell 7
      have z7 := hZ6.cell 7
      have y7 := hZ6.frozen 7
      have t8 := hT6.cell 8
      have z8 := hZ6.cell 8
      have y8 := hZ6.frozen 8
      have t9 := hT6.cell 9
      have z9 := hZ6.cell 9
      have y9 := hZ6.frozen 9
      have t10 := hT6.cell 10
      have z10 := hZ6.cell 10
      have y10 := hZ6.frozen 10
      have t11 := hT6.cell 11
      have z11 := hZ6.cell 11
      have y11 := hZ6.frozen 11
      have tl := hT6.lt
      have zl := hZ6.lt
      simp only [List.getElem?_toArray, List.getElem?_cons_zero, List.getElem?_cons_succ] at t0 z0 t1 z1 t2 z2 t3 z3 t4 z4 t5 z5 t6 z6 t7 z7 t8 z8 t9 z9 t10 z10 t11 z11
      have HZ6 := Lib.hid hZ6
      clear hw6 hT6 hZ6 k2 k3
      go_wp2
      refine bodyPost_ret (results_cell_row rfl _ _ (W.heap.size + 1 + 1) 28 #[.int .i64 f, .int .i64 (pc + 1), .int .i64 s0, .int .i64 s1, .int .i64 s2, .int .i64 s3, .int .i64 s4, .int .i64 s5, .int .i64 s6, .int .i64 s7, .slice D n c, .bool false] (0, 0) _ rfl (Blk.set12 _ _ _ _ _ _ _ _ _ _ _ _ HZ6.out) Tryd.underlying28 rfl (by kernel_rfl)) rfl ?_
      exact ⟨rfl, chg12 _ _ _ _ _ _ _ _ _ _ _ _ HC6.out (by omega)⟩
    refine AllReadyH.cons (o := Oper.mk _ _ _ _ _ _) rfl (fun K hK => ?_) AllReadyH.nil
    go_simp
    skip
    refine hK.out _ _ hHeld (fun hHeld => ?_)
    clear hK K
    try simp only [Act.put, List.setIfInBounds_toArray, List.set_cons_zero, List.set_cons_succ]
    refine wpAnyH_take (i := 15) (oi := Oper.mk _ _ _ _ _ _) (v := ?v29) rfl (by kernel_rfl) (by kernel_rfl) (by kernel_rfl) (fun _ _ _ h => h) (Or.inl ⟨by rfl, ?hy29⟩) (by assumption) ?rs29
    case hy29 => (intro w hSw; (try dsimp only at hSw); first | (go_simp <;> with_reducible rfl) | rfl)
    try simp only [Act.put, List.setIfInBounds_toArray, List.set_cons_zero, List.set_cons_succ]
    refine wpAnyH_ready (rs := [4]) (by kernel_rfl) (by simp) ?_
    refine AllReadyH.cons (o := Oper.mk _ _ _ _ _ _) rfl (fun K hK => ?_) AllReadyH.nil
    go_simp
    go_at_call 33; refine (of_2 _).mono ?_; rintro e1 v1 ⟨rfl, rfl⟩
    refine hK.out _ _ hHeld (fun hHeld => ?_)
    clear hK K
    try simp only [Act.put, List.setIfInBounds_toArray, List.set_cons_zero, List.set_cons_succ]
    refine wpAnyH_ready (rs := [16]) (by kernel_rfl) (by simp) ?_
    refine AllReadyH.cons (o := Oper.mk _ _ _ _ _ _) rfl (fun K hK => ?_) AllReadyH.nil
    go_simp
    go_at_call 40; refine (HM.out _).mono ?_; rintro e2 w5 ⟨rfl, hc5⟩; have HC5 := Lib.hid (HCW.out.trans hc5 (fun _ _ h => h)); have hs5 : w5.cell? ⟨W.heap.size + 1, 0, none⟩ = some (.int .i64 2) ∧ w5.cell? ⟨W.heap.size + 1, 1, none⟩ = some (.int .i64 (a : Int)) ∧ w5.cell? ⟨W.heap.size + 1, 2, none⟩ = some (.int .i64 (b : Int)) ∧ w5.cell? ⟨W.heap.size + 1, 3, none⟩ = some (.int .i64 (e : Int)) := ⟨(HC5.out.cell (p := ⟨W.heap.size + 1, 0, none⟩) il (fun h => h)).trans i0, (HC5.out.cell (p := ⟨W.heap.size + 1, 1, none⟩) il (fun h => h)).trans i1, (HC5.out.cell (p := ⟨W.heap.size + 1, 2, none⟩) il (fun h => h)).trans i2, (HC5.out.cell (p := ⟨W.heap.size + 1, 3, none⟩) il (fun h => h)).trans i3⟩; have hT5 := HTW.out.kept HC5.out (fun h => h); have HT5 := Lib.hid hT5; have HZ5 := Lib.hid (HZW.out.kept HC5.out (fun h => h)); have k2 : w5.cell? ⟨W.heap.size, 2 + a, none⟩ = some (.int .i64 ra) := (hT5.cell _).trans (HRE.out _ _ _ _); have k3 := hT5.frozen (2 + a); have kl := hT5.lt; clear hT5 hc5
    refine hK.out _ _ hs5 (fun hHeld => ?_)
    clear hK K
    try simp only [Act.put, List.setIfInBounds_toArray, List.set_cons_zero, List.set_cons_succ]
    refine wpAnyH_take (i := 18) (oi := Oper.mk _ _ _ _ _ _) (v := ?v32) rfl (by kernel_rfl) (by kernel_rfl) (by kernel_rfl) (fun _ _ _ h => h) (Or.inl ⟨by rfl, ?hy32⟩) (by assumption) ?rs32
    case hy32 => (intro w hSw; (try dsimp only at hSw); first | (go_simp <;> with_reducible rfl) | rfl)
    try simp only [Act.put, List.setIfInBounds_toArray, List.set_cons_zero, List.set_cons_succ]
    refine wpAnyH_ready (rs := [19]) (by kernel_rfl) (by simp) ?_
    refine AllReadyH.cons (o := Oper.mk _ _ _ _ _ _) rfl (fun K hK => ?_) AllReadyH.nil
    go_simp
    skip
    refine hK.out _ _ (by have hq := ((Chg.refl (fun k => k = W.heap.size) w5).setCell (p := ⟨W.heap.size, 2 + a, none⟩) (.inl rfl) (.int .i64 vv)); exact ⟨(hq.cell (p := ⟨W.heap.size + 1, 0, none⟩) (Nat.lt_of_lt_of_le il HC5.out.size) (by show ¬ W.heap.size + 1 = W.heap.size; omega)).trans hs5.1, (hq.cell (p := ⟨W.heap.size + 1, 1, none⟩) (Nat.lt_of_lt_of_le il HC5.out.size) (by show ¬ W.heap.size + 1 = W.heap.size; omega)).trans hs5.2.1, (hq.cell (p := ⟨W.heap.size + 1, 2, none⟩) (Nat.lt_of_lt_of_le il HC5.out.size) (by show ¬ W.heap.size + 1 = W.heap.size; omega)).trans hs5.2.2.1, (hq.cell (p := ⟨W.heap.size + 1, 3, none⟩) (Nat.lt_of_lt_of_le il HC5.out.size) (by show ¬ W.heap.size + 1 = W.heap.size; omega)).trans hs5.2.2.2⟩) (fun hHeld => ?_)
    clear hK K
    try simp only [Act.put, List.setIfInBounds_toArray, List.set_cons_zero, List.set_cons_succ]
    refine wpAnyH_done (by kernel_rfl) ?_ _
    obtain ⟨w6, hw6⟩ : ∃ w6, w6 = w5.setCell ⟨W.heap.size, 2 + a, none⟩ (.int .i64 vv) := ⟨_, rfl⟩
    rw [← hw6]
    have hT6 : Blk w6 W.heap.size 28 #[.int .i64 f, .int .i64 (pc + 1), .int .i64 s0, .int .i64 s1, .int .i64 s2, .int .i64 s3, .int .i64 s4, .int .i64 s5, .int .i64 s6, .int .i64 s7, .slice D n c, .bool false] := by
      have h := HT5.out.set_ (2 + a) (.int .i64 vv)
      rw [HSE.out] at h
      rw [hw6]
      exact h
    have hZ6 : Blk w6 (W.heap.size + 1 + 1) 28 #[.int .i64 0, .int .i64 0, .int .i64 0, .int .i64 0, .int .i64 0, .int .i64 0, .int .i64 0, .int .i64 0, .int .i64 0, .int .i64 0, .slice none 0 0, .bool false] := by
      rw [hw6]
      exact HZ5.out.far (p := ⟨W.heap.size, 2 + a, none⟩) (show W.heap.size + 1 + 1 ≠ W.heap.size by omega) _
    have HC6 : Hid (Chg (fun _ => False) W w6) := Lib.hid (by
      rw [hw6]
      exact ((((((Chg.refl _ _).alloc _).alloc _).alloc _).trans HC5.out (fun _ _ h => h)).setCell (p := ⟨W.heap.size, 2 + a, none⟩) (.inr (by show W.heap.size ≤ W.heap.size; omega)) _))
    have t0 := hT6.cell 0
    have z0 := hZ6.cell 0
    have y0 := hZ6.frozen 0
    have t1 := hT6.cell 1
    have z1 := hZ6.cell 1
    have y1 := hZ6.frozen 1
    have t2 := hT6.cell 2
    have z2 := hZ6.cell 2
    have y2 := hZ6.frozen 2
    have t3 := hT6.cell 3
    have z3 := hZ6.cell 3
    have y3 := hZ6.frozen 3
    have t4 := hT6.cell 4
    have z4 := hZ6.cell 4
    have y4 := hZ6.frozen 4
    have t5 := hT6.cell 5
    have z5 := hZ6.cell 5
    have y5 := hZ6.frozen 5
    have t6 := hT6.cell 6
    have z6 := hZ6.cell 6
    have y6 := hZ6.frozen 6
    have t7 := hT6.cell 7
    have z7 := hZ6.cell 7
    have y7 := hZ6.frozen 7
    have t8 := hT6.cell 8
    have z8 := hZ6.cell 8
    have y8 := hZ6.frozen 8
    have t9 := hT6.cell 9
    have z9 := hZ6.cell 9
    have y9 := hZ6.frozen 9
    have t10 := hT6.cell 10
    have z10 := hZ6.cell 10
    have y10 := hZ6.frozen 10
    have t11 := hT6.cell 11
    have z11 := hZ6.cell 11
    have y11 := hZ6.frozen 11
    have tl := hT6.lt
    have zl := hZ6.lt
    simp only [List.getElem?_toArray, List.getElem?_cons_zero, List.getElem?_cons_succ] at t0 z0 t1 z1 t2 z2 t3 z3 t4 z4 t5 z5 t6 z6 t7 z7 t8 z8 t9 z9 t10 z10 t11 z11
    have HZ6 := Lib.hid hZ6
    clear hw6 hT6 hZ6 k2 k3
    go_wp2
    refine bodyPost_ret (results_cell_row rfl _ _ (W.heap.size + 1 + 1) 28 #[.int .i64 f, .int .i64 (pc + 1), .int .i64 s0, .int .i64 s1, .int .i64 s2, .int .i64 s3, .int .i64 s4, .int .i64 s5, .int .i64 s6, .int .i64 s7, .slice D n c, .bool false] (0, 0) _ rfl (Blk.set12 _ _ _ _ _ _ _ _ _ _ _ _ HZ6.out) Tryd.underlying28 rfl (by kernel_rfl)) rfl ?_
    exact ⟨rfl, chg12 _ _ _ _ _ _ _ _ _ _ _ _ HC6.out (by omega)⟩
  refine AllReadyH.cons (o := Oper.mk _ _ _ _ _ _) rfl (fun K hK => ?_) AllReadyH.nil
  go_simp
  skip
  refine hK.out _ _ hHeld (fun hHeld => ?_)
  clear hK K
  try simp only [Act.put, List.setIfInBounds_toArray, List.set_cons_zero, List.set_cons_succ]
  refine wpAnyH_ready (rs := [4, 9]) (by kernel_rfl) (by simp) ?_
  refine AllReadyH.cons (o := Oper.mk _ _ _ _ _ _) rfl (fun K hK => ?_) ?_
  · go_simp
    go_at_call 33; refine (of_2 _).mono ?_; rintro e1 v1 ⟨rfl, rfl⟩
    refine hK.out _ _ hHeld (fun hHeld => ?_)
    clear hK K
    try simp only [Act.put, List.setIfInBounds_toArray, List.set_cons_zero, List.set_cons_succ]
    refine wpAnyH_ready (rs := [9]) (by kernel_rfl) (by simp) ?_
    refine AllReadyH.cons (o := Oper.mk _ _ _ _ _ _) rfl (fun K hK => ?_) AllReadyH.nil
    go_simp
    skip
    refine hK.out _ _ hHeld (fun hHeld => ?_)
    clear hK K
    try simp only [Act.put, List.setIfInBounds_toArray, List.set_cons_zero, List.set_cons_succ]
    refine wpAnyH_take (i := 15) (oi := Oper.mk _ _ _ _ _ _) (v := ?v35) rfl (by kernel_rfl) (by kernel_rfl) (by kernel_rfl) (fun _ _ _ h => h) (Or.inl ⟨by rfl, ?hy35⟩) (by assumption) ?rs35
    case hy35 => (intro w hSw; (try dsimp only at hSw); first | (go_simp <;> with_reducible rfl) | rfl)
    try simp only [Act.put, List.setIfInBounds_toArray, List.set_cons_zero, List.set_cons_succ]
    refine wpAnyH_ready (rs := [16]) (by kernel_rfl) (by simp) ?_
    refine AllReadyH.cons (o := Oper.mk _ _ _ _ _ _) rfl (fun K hK => ?_) AllReadyH.nil
    go_simp
    go_at_call 40; refine (HM.out _).mono ?_; rintro e2 w5 ⟨rfl, hc5⟩; have HC5 := Lib.hid (HCW.out.trans hc5 (fun _ _ h => h)); have hs5 : w5.cell? ⟨W.heap.size + 1, 0, none⟩ = some (.int .i64 2) ∧ w5.cell? ⟨W.heap.size + 1, 1, none⟩ = some (.int .i64 (a : Int)) ∧ w5.cell? ⟨W.heap.size + 1, 2, none⟩ = some (.int .i64 (b : Int)) ∧ w5.cell? ⟨W.heap.size + 1, 3, none⟩ = some (.int .i64 (e : Int)) := ⟨(HC5.out.cell (p := ⟨W.heap.size + 1, 0, none⟩) il (fun h => h)).trans i0, (HC5.out.cell (p := ⟨W.heap.size + 1, 1, none⟩) il (fun h => h)).trans i1, (HC5.out.cell (p := ⟨W.heap.size + 1, 2, none⟩) il (fun h => h)).trans i2, (HC5.out.cell (p := ⟨W.heap.size + 1, 3, none⟩) il (fun h => h)).trans i3⟩; have hT5 := HTW.out.kept HC5.out (fun h => h); have HT5 := Lib.hid hT5; have HZ5 := Lib.hid (HZW.out.kept HC5.out (fun h => h)); have k2 : w5.cell? ⟨W.heap.size, 2 + a, none⟩ = some (.int .i64 ra) := (hT5.cell _).trans (HRE.out _ _ _ _); have k3 := hT5.frozen (2 + a); have kl := hT5.lt; clear hT5 hc5
    refine hK.out _ _ hs5 (fun hHeld => ?_)
    clear hK K
    try simp only [Act.put, List.setIfInBounds_toArray, List.set_cons_zero, List.set_cons_succ]
    refine wpAnyH_take (i := 18) (oi := Oper.mk _ _ _ _ _ _) (v := ?v37) rfl (by kernel_rfl) (by kernel_rfl) (by kernel_rfl) (fun _ _ _ h => h) (Or.inl ⟨by rfl, ?hy37⟩) (by assumption) ?rs37
    case hy37 => (intro w hSw; (try dsimp only at hSw); first | (go_simp <;> with_reducible rfl) | rfl)
    try simp only [Act.put, List.setIfInBounds_toArray, List.set_cons_zero, List.set_cons_succ]
    refine wpAnyH_ready (rs := [19]) (by kernel_rfl) (by simp) ?_
    refine AllReadyH.cons (o := Oper.mk _ _ _ _ _ _) rfl (fun K hK => ?_) AllReadyH.nil
    go_simp
    skip
    refine hK.out _ _ (by have hq := ((Chg.refl (fun k => k = W.heap.size) w5).setCell (p := ⟨W.heap.size, 2 + a, none⟩) (.inl rfl) (.int .i64 vv)); exact ⟨(hq.cell (p := ⟨W.heap.size + 1, 0, none⟩) (Nat.lt_of_lt_of_le il HC5.out.size) (by show ¬ W.heap.size + 1 = W.heap.size; omega)).trans hs5.1, (hq.cell (p := ⟨W.heap.size + 1, 1, none⟩) (Nat.lt_of_lt_of_le il HC5.out.size) (by show ¬ W.heap.size + 1 = W.heap.size; omega)).trans hs5.2.1, (hq.cell (p := ⟨W.heap.size + 1, 2, none⟩) (Nat.lt_of_lt_of_le il HC5.out.size) (by show ¬ W.heap.size + 1 = W.heap.size; omega)).trans hs5.2.2.1, (hq.cell (p := ⟨W.heap.size + 1, 3, none⟩) (Nat.lt_of_lt_of_le il HC5.out.size) (by show ¬ W.heap.size + 1 = W.heap.size; omega)).trans hs5.2.2.2⟩) (fun hHeld => ?_)
    clear hK K
    try simp only [Act.put, List.setIfInBounds_toArray, List.set_cons_zero, List.set_cons_succ]
    refine wpAnyH_done (by kernel_rfl) ?_ _
    obtain ⟨w6, hw6⟩ : ∃ w6, w6 = w5.setCell ⟨W.heap.size, 2 + a, none⟩ (.int .i64 vv) := ⟨_, rfl⟩
    rw [← hw6]
    have hT6 : Blk w6 W.heap.size 28 #[.int .i64 f, .int .i64 (pc + 1), .int .i64 s0, .int .i64 s1, .int .i64 s2, .int .i64 s3, .int .i64 s4, .int .i64 s5, .int .i64 s6, .int .i64 s7, .slice D n c, .bool false] := by
      have h := HT5.out.set_ (2 + a) (.int .i64 vv)
      rw [HSE.out] at h
      rw [hw6]
      exact h
    have hZ6 : Blk w6 (W.heap.size + 1 + 1) 28 #[.int .i64 0, .int .i64 0, .int .i64 0, .int .i64 0, .int .i64 0, .int .i64 0, .int .i64 0, .int .i64 0, .int .i64 0, .int .i64 0, .slice none 0 0, .bool false] := by
      rw [hw6]
      exact HZ5.out.far (p := ⟨W.heap.size, 2 + a, none⟩) (show W.heap.size + 1 + 1 ≠ W.heap.size by omega) _
    have HC6 : Hid (Chg (fun _ => False) W w6) := Lib.hid (by
      rw [hw6]
      exact ((((((Chg.refl _ _).alloc _).alloc _).alloc _).trans HC5.out (fun _ _ h => h)).setCell (p := ⟨W.heap.size, 2 + a, none⟩) (.inr (by show W.heap.size ≤ W.heap.size; omega)) _))
    have t0 := hT6.cell 0
    have z0 := hZ6.cell 0
    have y0 := hZ6.frozen 0
    have t1 := hT6.cell 1
    have z1 := hZ6.cell 1
    have y1 := hZ6.frozen 1
    have t2 := hT6.cell 2
    have z2 := hZ6.cell 2
    have y2 := hZ6.frozen 2
    have t3 := hT6.cell 3
    have z3 := hZ6.cell 3
    have y3 := hZ6.frozen 3
    have t4 := hT6.cell 4
    have z4 := hZ6.cell 4
    have y4 := hZ6.frozen 4
    have t5 := hT6.cell 5
    have z5 := hZ6.cell 5
    have y5 := hZ6.frozen 5
    have t6 := hT6.cell 6
    have z6 := hZ6.cell 6
    have y6 := hZ6.frozen 6
    have t7 := hT6.cell 7
    have z7 := hZ6.cell 7
    have y7 := hZ6.frozen 7
    have t8 := hT6.cell 8
    have z8 := hZ6.cell 8
    have y8 := hZ6.frozen 8
    have t9 := hT6.cell 9
    have z9 := hZ6.cell 9
    have y9 := hZ6.frozen 9
    have t10 := hT6.cell 10
    have z10 := hZ6.cell 10
    have y10 := hZ6.frozen 10
    have t11 := hT6.cell 11
    have z11 := hZ6.cell 11
    have y11 := hZ6.frozen 11
    have tl := hT6.lt
    have zl := hZ6.lt
    simp only [List.getElem?_toArray, List.getElem?_cons_zero, List.getElem?_cons_succ] at t0 z0 t1 z1 t2 z2 t3 z3 t4 z4 t5 z5 t6 z6 t7 z7 t8 z8 t9 z9 t10 z10 t11 z11
    have HZ6 := Lib.hid hZ6
    clear hw6 hT6 hZ6 k2 k3
    go_wp2
    refine bodyPost_ret (results_cell_row rfl _ _ (W.heap.size + 1 + 1) 28 #[.int .i64 f, .int .i64 (pc + 1), .int .i64 s0, .int .i64 s1, .int .i64 s2, .int .i64 s3, .int .i64 s4, .int .i64 s5, .int .i64 s6, .int .i64 s7, .slice D n c, .bool false] (0, 0) _ rfl (Blk.set12 _ _ _ _ _ _ _ _ _ _ _ _ HZ6.out) Tryd.underlying28 rfl (by kernel_rfl)) rfl ?_
    exact ⟨rfl, chg12 _ _ _ _ _ _ _ _ _ _ _ _ HC6.out (by omega)⟩
  refine AllReadyH.cons (o := Oper.mk _ _ _ _ _ _) rfl (fun K hK => ?_) AllReadyH.nil
  go_simp
  skip
  refine hK.out _ _ hHeld (fun hHeld => ?_)
  clear hK K
  try simp only [Act.put, List.setIfInBounds_toArray, List.set_cons_zero, List.set_cons_succ]
  refine wpAnyH_take (i := 15) (oi := Oper.mk _ _ _ _ _ _) (v := ?v39) rfl (by kernel_rfl) (by kernel_rfl) (by kernel_rfl) (fun _ _ _ h => h) (Or.inl ⟨by rfl, ?hy39⟩) (by assumption) ?rs39
  case hy39 => (intro w hSw; (try dsimp only at hSw); first | (go_simp <;> with_reducible rfl) | rfl)
  try simp only [Act.put, List.setIfInBounds_toArray, List.set_cons_zero, List.set_cons_succ]
  refine wpAnyH_ready (rs := [4]) (by kernel_rfl) (by simp) ?_
  refine AllReadyH.cons (o := Oper.mk _ _ _ _ _ _) rfl (fun K hK => ?_) AllReadyH.nil
  go_simp
  go_at_call 33; refine (of_2 _).mono ?_; rintro e1 v1 ⟨rfl, rfl⟩
  refine hK.out _ _ hHeld (fun hHeld => ?_)
  clear hK K
  try simp only [Act.put, List.setIfInBounds_toArray, List.set_cons_zero, List.set_cons_succ]
  refine wpAnyH_ready (rs := [16]) (by kernel_rfl) (by simp) ?_
  refine AllReadyH.cons (o := Oper.mk _ _ _ _ _ _) rfl (fun K hK => ?_) AllReadyH.nil
  go_simp
  go_at_call 40; refine (HM.out _).mono ?_; rintro e2 w5 ⟨rfl, hc5⟩; have HC5 := Lib.hid (HCW.out.trans hc5 (fun _ _ h => h)); have hs5 : w5.cell? ⟨W.heap.size + 1, 0, none⟩ = some (.int .i64 2) ∧ w5.cell? ⟨W.heap.size + 1, 1, none⟩ = some (.int .i64 (a : Int)) ∧ w5.cell? ⟨W.heap.size + 1, 2, none⟩ = some (.int .i64 (b : Int)) ∧ w5.cell? ⟨W.heap.size + 1, 3, none⟩ = some (.int .i64 (e : Int)) := ⟨(HC5.out.cell (p := ⟨W.heap.size + 1, 0, none⟩) il (fun h => h)).trans i0, (HC5.out.cell (p := ⟨W.heap.size + 1, 1, none⟩) il (fun h => h)).trans i1, (HC5.out.cell (p := ⟨W.heap.size + 1, 2, none⟩) il (fun h => h)).trans i2, (HC5.out.cell (p := ⟨W.heap.size + 1, 3, none⟩) il (fun h => h)).trans i3⟩; have hT5 := HTW.out.kept HC5.out (fun h => h); have HT5 := Lib.hid hT5; have HZ5 := Lib.hid (HZW.out.kept HC5.out (fun h => h)); have k2 : w5.cell? ⟨W.heap.size, 2 + a, none⟩ = some (.int .i64 ra) := (hT5.cell _).trans (HRE.out _ _ _ _); have k3 := hT5.frozen (2 + a); have kl := hT5.lt; clear hT5 hc5
  refine hK.out _ _ hs5 (fun hHeld => ?_)
  clear hK K
  try simp only [Act.put, List.setIfInBounds_toArray, List.set_cons_zero, List.set_cons_succ]
  refine wpAnyH_take (i := 18) (oi := Oper.mk _ _ _ _ _ _) (v := ?v42) rfl (by kernel_rfl) (by kernel_rfl) (by kernel_rfl) (fun _ _ _ h => h) (Or.inl ⟨by rfl, ?hy42⟩) (by assumption) ?rs42
  case hy42 => (intro w hSw; (try dsimp only at hSw); first | (go_simp <;> with_reducible rfl) | rfl)
  try simp only [Act.put, List.setIfInBounds_toArray, List.set_cons_zero, List.set_cons_succ]
  refine wpAnyH_ready (rs := [19]) (by kernel_rfl) (by simp) ?_
  refine AllReadyH.cons (o := Oper.mk _ _ _ _ _ _) rfl (fun K hK => ?_) AllReadyH.nil
  go_simp
  skip
  refine hK.out _ _ (by have hq := ((Chg.refl (fun k => k = W.heap.size) w5).setCell (p := ⟨W.heap.size, 2 + a, none⟩) (.inl rfl) (.int .i64 vv)); exact ⟨(hq.cell (p := ⟨W.heap.size + 1, 0, none⟩) (Nat.lt_of_lt_of_le il HC5.out.size) (by show ¬ W.heap.size + 1 = W.heap.size; omega)).trans hs5.1, (hq.cell (p := ⟨W.heap.size + 1, 1, none⟩) (Nat.lt_of_lt_of_le il HC5.out.size) (by show ¬ W.heap.size + 1 = W.heap.size; omega)).trans hs5.2.1, (hq.cell (p := ⟨W.heap.size + 1, 2, none⟩) (Nat.lt_of_lt_of_le il HC5.out.size) (by show ¬ W.heap.size + 1 = W.heap.size; omega)).trans hs5.2.2.1, (hq.cell (p := ⟨W.heap.size + 1, 3, none⟩) (Nat.lt_of_lt_of_le il HC5.out.size) (by show ¬ W.heap.size + 1 = W.heap.size; omega)).trans hs5.2.2.2⟩) (fun hHeld => ?_)
  clear hK K
  try simp only [Act.put, List.setIfInBounds_toArray, List.set_cons_zero, List.set_cons_succ]
  refine wpAnyH_done (by kernel_rfl) ?_ _
  obtain ⟨w6, hw6⟩ : ∃ w6, w6 = w5.setCell ⟨W.heap.size, 2 + a, none⟩ (.int .i64 vv) := ⟨_, rfl⟩
  rw [← hw6]
  have hT6 : Blk w6 W.heap.size 28 #[.int .i64 f, .int .i64 (pc + 1), .int .i64 s0, .int .i64 s1, .int .i64 s2, .int .i64 s3, .int .i64 s4, .int .i64 s5, .int .i64 s6, .int .i64 s7, .slice D n c, .bool false] := by
    have h := HT5.out.set_ (2 + a) (.int .i64 vv)
    rw [HSE.out] at h
    rw [hw6]
    exact h
  have hZ6 : Blk w6 (W.heap.size + 1 + 1) 28 #[.int .i64 0, .int .i64 0, .int .i64 0, .int .i64 0, .int .i64 0, .int .i64 0, .int .i64 0, .int .i64 0, .int .i64 0, .int .i64 0, .slice none 0 0, .bool false] := by
    rw [hw6]
    exact HZ5.out.far (p := ⟨W.heap.size, 2 + a, none⟩) (show W.heap.size + 1 + 1 ≠ W.heap.size by omega) _
  have HC6 : Hid (Chg (fun _ => False) W w6) := Lib.hid (by
    rw [hw6]
    exact ((((((Chg.refl _ _).alloc _).alloc _).alloc _).trans HC5.out (fun _ _ h => h)).setCell (p := ⟨W.heap.size, 2 + a, none⟩) (.inr (by show W.heap.size ≤ W.heap.size; omega)) _))
  have t0 := hT6.cell 0
  have z0 := hZ6.cell 0
  have y0 := hZ6.frozen 0
  have t1 := hT6.cell 1
  have z1 := hZ6.cell 1
  have y1 := hZ6.frozen 1
  have t2 := hT6.cell 2
  have z2 := hZ6.cell 2
  have y2 := hZ6.frozen 2
  have t3 := hT6.cell 3
  have z3 := hZ6.cell 3
  have y3 := hZ6.frozen 3
  have t4 := hT6.cell 4
  have z4 := hZ6.cell 4
  have y4 := hZ6.frozen 4
  have t5 := hT6.cell 5
  have z5 := hZ6.cell 5
  have y5 := hZ6.frozen 5
  have t6 := hT6.cell 6
  have z6 := hZ6.cell 6
  have y6 := hZ6.frozen 6
  have t7 := hT6.cell 7
  have z7 := hZ6.cell 7
  have y7 := hZ6.frozen 7
  have t8 := hT6.cell 8
  have z8 := hZ6.cell 8
  have y8 := hZ6.frozen 8
  have t9 := hT6.cell 9
  have z9 := hZ6.cell 9
  have y9 := hZ6.frozen 9
  have t10 := hT6.cell 10
  have z10 := hZ6.cell 10
  have y10 := hZ6.frozen 10
  have t11 := hT6.cell 11
  have z11 := hZ6.cell 11
  have y11 := hZ6.frozen 11
  have tl := hT6.lt
  have zl := hZ6.lt
  simp only [List.getElem?_toArray, List.getElem?_cons_zero, List.getElem?_cons_succ] at t0 z0 t1 z1 t2 z2 t3 z3 t4 z4 t5 z5 t6 z6 t7 z7 t8 z8 t9 z9 t10 z10 t11 z11
  have HZ6 := Lib.hid hZ6
  clear hw6 hT6 hZ6 k2 k3
  go_wp2
  refine bodyPost_ret (results_cell_row rfl _ _ (W.heap.size + 1 + 1) 28 #[.int .i64 f, .int .i64 (pc + 1), .int .i64 s0, .int .i64 s1, .int .i64 s2, .int .i64 s3, .int .i64 s4, .int .i64 s5, .int .i64 s6, .int .i64 s7, .slice D n c, .bool false] (0, 0) _ rfl (Blk.set12 _ _ _ _ _ _ _ _ _ _ _ _ HZ6.out) Tryd.underlying28 rfl (by kernel_rfl)) rfl ?_
  exact ⟨rfl, chg12 _ _ _ _ _ _ _ _ _ _ _ _ HC6.out (by omega)⟩
set_option maxRecDepth 100000 in
set_option maxHeartbeats 16000000 in
theorem do_3 (W : World) (a b e : Nat) (ha : a < 8) (hb : b < 8) (he : e < 8) (hl : rs.length = 8) (hp0 : 0 ≤ pc) (hp : pc ≤ 1000) :
    Calls Tryd.prog 23 #[.agg #[.int .i64 f, .int .i64 pc, .int .i64 (rs.getD 0 0), .int .i64 (rs.getD 1 0), .int .i64 (rs.getD 2 0), .int .i64 (rs.getD 3 0), .int .i64 (rs.getD 4 0), .int .i64 (rs.getD 5 0), .int .i64 (rs.getD 6 0), .int .i64 (rs.getD 7 0), .slice D n c, .bool false], .agg #[.int .i64 3, .int .i64 (a : Int), .int .i64 (b : Int), .int .i64 (e : Int), .int .i64 N], .int .i64 ans] W fun r W' => r = .returned (.agg #[.int .i64 f, .int .i64 (pc + 1), .int .i64 ((rs.set a (ofF 3 (rs.getD b 0) (rs.getD e 0))).getD 0 0), .int .i64 ((rs.set a (ofF 3 (rs.getD b 0) (rs.getD e 0))).getD 1 0), .int .i64 ((rs.set a (ofF 3 (rs.getD b 0) (rs.getD e 0))).getD 2 0), .int .i64 ((rs.set a (ofF 3 (rs.getD b 0) (rs.getD e 0))).getD 3 0), .int .i64 ((rs.set a (ofF 3 (rs.getD b 0) (rs.getD e 0))).getD 4 0), .int .i64 ((rs.set a (ofF 3 (rs.getD b 0) (rs.getD e 0))).getD 5 0), .int .i64 ((rs.set a (ofF 3 (rs.getD b 0) (rs.getD e 0))).getD 6 0), .int .i64 ((rs.set a (ofF 3 (rs.getD b 0) (rs.getD e 0))).getD 7 0), .slice D n c, .bool false]) ∧ Chg (fun _ => False) W W' := by
  obtain ⟨r0, r1, r2, r3, r4, r5, r6, r7, rfl⟩ := eight hl
  obtain ⟨ra, hra, raE⟩ := get8 (r0 := r0) (r1 := r1) (r2 := r2) (r3 := r3) (r4 := r4) (r5 := r5) (r6 := r6) (r7 := r7) ha
  obtain ⟨rb, hrb, rbE⟩ := get8 (r0 := r0) (r1 := r1) (r2 := r2) (r3 := r3) (r4 := r4) (r5 := r5) (r6 := r6) (r7 := r7) hb
  obtain ⟨re, hre, reE⟩ := get8 (r0 := r0) (r1 := r1) (r2 := r2) (r3 := r3) (r4 := r4) (r5 := r5) (r6 := r6) (r7 := r7) he
  rw [hrb, hre]
  have HM := Lib.hid (fun V => pair_3 rb re V)
  generalize ofF 3 rb re = vv at *
  obtain ⟨s0, s1, s2, s3, s4, s5, s6, s7, hs, hsE⟩ := set8 (r0 := r0) (r1 := r1) (r2 := r2) (r3 := r3) (r4 := r4) (r5 := r5) (r6 := r6) (r7 := r7) ha vv
  rw [hs]
  have gb1 : (#[.int .i64 f, .int .i64 (pc + 1), .int .i64 r0, .int .i64 r1, .int .i64 r2, .int .i64 r3, .int .i64 r4, .int .i64 r5, .int .i64 r6, .int .i64 r7, .slice D n c, .bool false] : Array Value)[2 + b]? = some (.int .i64 rb) := rbE _ _ _ _
  have gb2 : (((W.alloc (.cells #[.int .i64 f, .int .i64 (pc + 1), .int .i64 r0, .int .i64 r1, .int .i64 r2, .int .i64 r3, .int .i64 r4, .int .i64 r5, .int .i64 r6, .int .i64 r7, .slice D n c, .bool false] 28)).alloc (.cells #[.int .i64 3, .int .i64 (a : Int), .int .i64 (b : Int), .int .i64 (e : Int), .int .i64 N] 32)).alloc (.cells #[.int .i64 0, .int .i64 0, .int .i64 0, .int .i64 0, .int .i64 0, .int .i64 0, .int .i64 0, .int .i64 0, .int .i64 0, .int .i64 0, .slice none 0 0, .bool false] 28)).cell? ⟨W.heap.size, 2 + b, none⟩ = some (.int .i64 rb) := (((Blk.new W 28 #[.int .i64 f, .int .i64 (pc + 1), .int .i64 r0, .int .i64 r1, .int .i64 r2, .int .i64 r3, .int .i64 r4, .int .i64 r5, .int .i64 r6, .int .i64 r7, .slice D n c, .bool false]).alloc _).alloc _).cell _ |>.trans gb1
  have gb3 : (((W.alloc (.cells #[.int .i64 f, .int .i64 (pc + 1), .int .i64 r0, .int .i64 r1, .int .i64 r2, .int .i64 r3, .int .i64 r4, .int .i64 r5, .int .i64 r6, .int .i64 r7, .slice D n c, .bool false] 28)).alloc (.cells #[.int .i64 3, .int .i64 (a : Int), .int .i64 (b : Int), .int .i64 (e : Int), .int .i64 N] 32)).alloc (.cells #[.int .i64 0, .int .i64 0, .int .i64 0, .int .i64 0, .int .i64 0, .int .i64 0, .int .i64 0, .int .i64 0, .int .i64 0, .int .i64 0, .slice none 0 0, .bool false] 28)).frozen? ⟨W.heap.size, 2 + b, none⟩ = false := (((Blk.new W 28 #[.int .i64 f, .int .i64 (pc + 1), .int .i64 r0, .int .i64 r1, .int .i64 r2, .int .i64 r3, .int .i64 r4, .int .i64 r5, .int .i64 r6, .int .i64 r7, .slice D n c, .bool false]).alloc _).alloc _).frozen _
  have ge1 : (#[.int .i64 f, .int .i64 (pc + 1), .int .i64 r0, .int .i64 r1, .int .i64 r2, .int .i64 r3, .int .i64 r4, .int .i64 r5, .int .i64 r6, .int .i64 r7, .slice D n c, .bool false] : Array Value)[2 + e]? = some (.int .i64 re) := reE _ _ _ _
  have ge2 : (((W.alloc (.cells #[.int .i64 f, .int .i64 (pc + 1), .int .i64 r0, .int .i64 r1, .int .i64 r2, .int .i64 r3, .int .i64 r4, .int .i64 r5, .int .i64 r6, .int .i64 r7, .slice D n c, .bool false] 28)).alloc (.cells #[.int .i64 3, .int .i64 (a : Int), .int .i64 (b : Int), .int .i64 (e : Int), .int .i64 N] 32)).alloc (.cells #[.int .i64 0, .int .i64 0, .int .i64 0, .int .i64 0, .int .i64 0, .int .i64 0, .int .i64 0, .int .i64 0, .int .i64 0, .int .i64 0, .slice none 0 0, .bool false] 28)).cell? ⟨W.heap.size, 2 + e, none⟩ = some (.int .i64 re) := (((Blk.new W 28 #[.int .i64 f, .int .i64 (pc + 1), .int .i64 r0, .int .i64 r1, .int .i64 r2, .int .i64 r3, .int .i64 r4, .int .i64 r5, .int .i64 r6, .int .i64 r7, .slice D n c, .bool false]).alloc _).alloc _).cell _ |>.trans ge1
  have ge3 : (((W.alloc (.cells #[.int .i64 f, .int .i64 (pc + 1), .int .i64 r0, .int .i64 r1, .int .i64 r2, .int .i64 r3, .int .i64 r4, .int .i64 r5, .int .i64 r6, .int .i64 r7, .slice D n c, .bool false] 28)).alloc (.cells #[.int .i64 3, .int .i64 (a : Int), .int .i64 (b : Int), .int .i64 (e : Int), .int .i64 N] 32)).alloc (.cells #[.int .i64 0, .int .i64 0, .int .i64 0, .int .i64 0, .int .i64 0, .int .i64 0, .int .i64 0, .int .i64 0, .int .i64 0, .int .i64 0, .slice none 0 0, .bool false] 28)).frozen? ⟨W.heap.size, 2 + e, none⟩ = false := (((Blk.new W 28 #[.int .i64 f, .int .i64 (pc + 1), .int .i64 r0, .int .i64 r1, .int .i64 r2, .int .i64 r3, .int .i64 r4, .int .i64 r5, .int .i64 r6, .int .i64 r7, .slice D n c, .bool false]).alloc _).alloc _).frozen _
  have a0 : (0 : Int) ≤ a := by omega
  have a8 : (a : Int) < 8 := by omega
  have b0 : (0 : Int) ≤ b := by omega
  have b8 : (b : Int) < 8 := by omega
  have e0 : (0 : Int) ≤ e := by omega
  have e8 : (e : Int) < 8 := by omega
  have HRE := Lib.hid raE
  have HSE := Lib.hid (hsE f (pc + 1) (.slice D n c) (.bool false))
  have HTW : Hid (Blk (((W.alloc (.cells #[.int .i64 f, .int .i64 (pc + 1), .int .i64 r0, .int .i64 r1, .int .i64 r2, .int .i64 r3, .int .i64 r4, .int .i64 r5, .int .i64 r6, .int .i64 r7, .slice D n c, .bool false] 28)).alloc (.cells #[.int .i64 3, .int .i64 (a : Int), .int .i64 (b : Int), .int .i64 (e : Int), .int .i64 N] 32)).alloc (.cells #[.int .i64 0, .int .i64 0, .int .i64 0, .int .i64 0, .int .i64 0, .int .i64 0, .int .i64 0, .int .i64 0, .int .i64 0, .int .i64 0, .slice none 0 0, .bool false] 28)) W.heap.size 28 #[.int .i64 f, .int .i64 (pc + 1), .int .i64 r0, .int .i64 r1, .int .i64 r2, .int .i64 r3, .int .i64 r4, .int .i64 r5, .int .i64 r6, .int .i64 r7, .slice D n c, .bool false]) := Lib.hid (blk1 W _ _ _ _)
  have hI : Blk (((W.alloc (.cells #[.int .i64 f, .int .i64 (pc + 1), .int .i64 r0, .int .i64 r1, .int .i64 r2, .int .i64 r3, .int .i64 r4, .int .i64 r5, .int .i64 r6, .int .i64 r7, .slice D n c, .bool false] 28)).alloc (.cells #[.int .i64 3, .int .i64 (a : Int), .int .i64 (b : Int), .int .i64 (e : Int), .int .i64 N] 32)).alloc (.cells #[.int .i64 0, .int .i64 0, .int .i64 0, .int .i64 0, .int .i64 0, .int .i64 0, .int .i64 0, .int .i64 0, .int .i64 0, .int .i64 0, .slice none 0 0, .bool false] 28)) (W.heap.size + 1) 32 #[.int .i64 3, .int .i64 (a : Int), .int .i64 (b : Int), .int .i64 (e : Int), .int .i64 N] := blk2 W _ _ _ _
  have HZW : Hid (Blk (((W.alloc (.cells #[.int .i64 f, .int .i64 (pc + 1), .int .i64 r0, .int .i64 r1, .int .i64 r2, .int .i64 r3, .int .i64 r4, .int .i64 r5, .int .i64 r6, .int .i64 r7, .slice D n c, .bool false] 28)).alloc (.cells #[.int .i64 3, .int .i64 (a : Int), .int .i64 (b : Int), .int .i64 (e : Int), .int .i64 N] 32)).alloc (.cells #[.int .i64 0, .int .i64 0, .int .i64 0, .int .i64 0, .int .i64 0, .int .i64 0, .int .i64 0, .int .i64 0, .int .i64 0, .int .i64 0, .slice none 0 0, .bool false] 28)) (W.heap.size + 1 + 1) 28 #[.int .i64 0, .int .i64 0, .int .i64 0, .int .i64 0, .int .i64 0, .int .i64 0, .int .i64 0, .int .i64 0, .int .i64 0, .int .i64 0, .slice none 0 0, .bool false]) := Lib.hid (blk3 W _ _ _ _)
  have HCW : Hid (Chg (fun _ => False) (((W.alloc (.cells #[.int .i64 f, .int .i64 (pc + 1), .int .i64 r0, .int .i64 r1, .int .i64 r2, .int .i64 r3, .int .i64 r4, .int .i64 r5, .int .i64 r6, .int .i64 r7, .slice D n c, .bool false] 28)).alloc (.cells #[.int .i64 3, .int .i64 (a : Int), .int .i64 (b : Int), .int .i64 (e : Int), .int .i64 N] 32)).alloc (.cells #[.int .i64 0, .int .i64 0, .int .i64 0, .int .i64 0, .int .i64 0, .int .i64 0, .int .i64 0, .int .i64 0, .int .i64 0, .int .i64 0, .slice none 0 0, .bool false] 28)) (((W.alloc (.cells #[.int .i64 f, .int .i64 (pc + 1), .int .i64 r0, .int .i64 r1, .int .i64 r2, .int .i64 r3, .int .i64 r4, .int .i64 r5, .int .i64 r6, .int .i64 r7, .slice D n c, .bool false] 28)).alloc (.cells #[.int .i64 3, .int .i64 (a : Int), .int .i64 (b : Int), .int .i64 (e : Int), .int .i64 N] 32)).alloc (.cells #[.int .i64 0, .int .i64 0, .int .i64 0, .int .i64 0, .int .i64 0, .int .i64 0, .int .i64 0, .int .i64 0, .int .i64 0, .int .i64 0, .slice none 0 0, .bool false] 28)).drew) := Lib.hid (Chg.refl _ _).drew
  have i0 := hI.cell 0
  have i1 := hI.cell 1
  have i2 := hI.cell 2
  have i3 := hI.cell 3
  have il := hI.lt
  simp only [List.getElem?_toArray, List.getElem?_cons_zero, List.getElem?_cons_succ] at i0 i1 i2 i3
  have hs0 : ((((W.alloc (.cells #[.int .i64 f, .int .i64 (pc + 1), .int .i64 r0, .int .i64 r1, .int .i64 r2, .int .i64 r3, .int .i64 r4, .int .i64 r5, .int .i64 r6, .int .i64 r7, .slice D n c, .bool false] 28)).alloc (.cells #[.int .i64 3, .int .i64 (a : Int), .int .i64 (b : Int), .int .i64 (e : Int), .int .i64 N] 32)).alloc (.cells #[.int .i64 0, .int .i64 0, .int .i64 0, .int .i64 0, .int .i64 0, .int .i64 0, .int .i64 0, .int .i64 0, .int .i64 0, .int .i64 0, .slice none 0 0, .bool false] 28))).drew.cell? ⟨W.heap.size + 1, 0, none⟩ = some (.int .i64 3) ∧ ((((W.alloc (.cells #[.int .i64 f, .int .i64 (pc + 1), .int .i64 r0, .int .i64 r1, .int .i64 r2, .int .i64 r3, .int .i64 r4, .int .i64 r5, .int .i64 r6, .int .i64 r7, .slice D n c, .bool false] 28)).alloc (.cells #[.int .i64 3, .int .i64 (a : Int), .int .i64 (b : Int), .int .i64 (e : Int), .int .i64 N] 32)).alloc (.cells #[.int .i64 0, .int .i64 0, .int .i64 0, .int .i64 0, .int .i64 0, .int .i64 0, .int .i64 0, .int .i64 0, .int .i64 0, .int .i64 0, .slice none 0 0, .bool false] 28))).drew.cell? ⟨W.heap.size + 1, 1, none⟩ = some (.int .i64 (a : Int)) ∧ ((((W.alloc (.cells #[.int .i64 f, .int .i64 (pc + 1), .int .i64 r0, .int .i64 r1, .int .i64 r2, .int .i64 r3, .int .i64 r4, .int .i64 r5, .int .i64 r6, .int .i64 r7, .slice D n c, .bool false] 28)).alloc (.cells #[.int .i64 3, .int .i64 (a : Int), .int .i64 (b : Int), .int .i64 (e : Int), .int .i64 N] 32)).alloc (.cells #[.int .i64 0, .int .i64 0, .int .i64 0, .int .i64 0, .int .i64 0, .int .i64 0, .int .i64 0, .int .i64 0, .int .i64 0, .int .i64 0, .slice none 0 0, .bool false] 28))).drew.cell? ⟨W.heap.size + 1, 2, none⟩ = some (.int .i64 (b : Int)) ∧ ((((W.alloc (.cells #[.int .i64 f, .int .i64 (pc + 1), .int .i64 r0, .int .i64 r1, .int .i64 r2, .int .i64 r3, .int .i64 r4, .int .i64 r5, .int .i64 r6, .int .i64 r7, .slice D n c, .bool false] 28)).alloc (.cells #[.int .i64 3, .int .i64 (a : Int), .int .i64 (b : Int), .int .i64 (e : Int), .int .i64 N] 32)).alloc (.cells #[.int .i64 0, .int .i64 0, .int .i64 0, .int .i64 0, .int .i64 0, .int .i64 0, .int .i64 0, .int .i64 0, .int .i64 0, .int .i64 0, .slice none 0 0, .bool false] 28))).drew.cell? ⟨W.heap.size + 1, 3, none⟩ = some (.int .i64 (e : Int)) := ⟨i0, i1, i2, i3⟩
  clear hs hsE raE hra rbE hrb reE hre hI
  simp only [List.getD_cons_zero, List.getD_cons_succ]
  go_enter Tryd.func23, Tryd.ntmps23
  go_wp2
  refine wp_region_held_drew (S := fun w' => w'.cell? ⟨W.heap.size + 1, 0, none⟩ = some (.int .i64 3) ∧ w'.cell? ⟨W.heap.size + 1, 1, none⟩ = some (.int .i64 (a : Int)) ∧ w'.cell? ⟨W.heap.size + 1, 2, none⟩ = some (.int .i64 (b : Int)) ∧ w'.cell? ⟨W.heap.size + 1, 3, none⟩ = some (.int .i64 (e : Int))) (by kernel_rfl) hs0 (fun hHeld => ?_)
  refine wpAnyH_take (i := 0) (oi := Oper.mk _ _ _ _ _ _) (v := ?v44) rfl (by kernel_rfl) (by kernel_rfl) (by kernel_rfl) (fun _ _ _ h => h) (Or.inl ⟨by rfl, ?hy44⟩) (by assumption) ?rs44
  case hy44 => (intro w hSw; (try dsimp only at hSw); first | (go_simp <;> with_reducible rfl) | rfl)
  try simp only [Act.put, List.setIfInBounds_toArray, List.set_cons_zero, List.set_cons_succ]
  refine wpAnyH_take (i := 1) (oi := Oper.mk _ _ _ _ _ _) (v := ?v45) rfl (by kernel_rfl) (by kernel_rfl) (by kernel_rfl) (fun _ _ _ h => h) (Or.inl ⟨by rfl, ?hy45⟩) (by assumption) ?rs45
  case hy45 => (intro w hSw; (try dsimp only at hSw); first | (go_simp <;> with_reducible rfl) | rfl)
  try simp only [Act.put, List.setIfInBounds_toArray, List.set_cons_zero, List.set_cons_succ]
  refine wpAnyH_take (i := 2) (oi := Oper.mk _ _ _ _ _ _) (v := ?v46) rfl (by kernel_rfl) (by kernel_rfl) (by kernel_rfl) (fun _ _ _ h => h) (Or.inl ⟨by rfl, ?hy46⟩) (by assumption) ?rs46
  case hy46 => (intro w hSw; (try dsimp only at hSw); first | (go_simp <;> with_reducible rfl) | rfl)
  try simp only [Act.put, List.setIfInBounds_toArray, List.set_cons_zero, List.set_cons_succ]
  refine wpAnyH_take (i := 3) (oi := Oper.mk _ _ _ _ _ _) (v := ?v47) rfl (by kernel_rfl) (by kernel_rfl) (by kernel_rfl) (fun _ _ _ h => h) (Or.inl ⟨by rfl, ?hy47⟩) (by assumption) ?rs47
  case hy47 => (intro w hSw; (try dsimp only at hSw); first | (go_simp <;> with_reducible rfl) | rfl)
  try simp only [Act.put, List.setIfInBounds_toArray, List.set_cons_zero, List.set_cons_succ]
  refine wpAnyH_take (i := 5) (oi := Oper.mk _ _ _ _ _ _) (v := ?v48) rfl (by kernel_rfl) (by kernel_rfl) (by kernel_rfl) (fun _ _ _ h => h) (Or.inl ⟨by rfl, ?hy48⟩) (by assumption) ?rs48
  case hy48 => (intro w hSw; (try dsimp only at hSw); first | (go_simp <;> with_reducible rfl) | rfl)
  try simp only [Act.put, List.setIfInBounds_toArray, List.set_cons_zero, List.set_cons_succ]
  refine wpAnyH_take (i := 6) (oi := Oper.mk _ _ _ _ _ _) (v := ?v49) rfl (by kernel_rfl) (by kernel_rfl) (by kernel_rfl) (fun _ _ _ h => h) (Or.inl ⟨by rfl, ?hy49⟩) (by assumption) ?rs49
  case hy49 => (intro w hSw; (try dsimp only at hSw); first | (go_simp <;> with_reducible rfl) | rfl)
  try simp only [Act.put, List.setIfInBounds_toArray, List.set_cons_zero, List.set_cons_succ]
  refine wpAnyH_take (i := 7) (oi := Oper.mk _ _ _ _ _ _) (v := ?v50) rfl (by kernel_rfl) (by kernel_rfl) (by kernel_rfl) (fun _ _ _ h => h) (Or.inl ⟨by rfl, ?hy50⟩) (by assumption) ?rs50
  case hy50 => (intro w hSw; (try dsimp only at hSw); first | (go_simp <;> with_reducible rfl) | rfl)
  try simp only [Act.put, List.setIfInBounds_toArray, List.set_cons_zero, List.set_cons_succ]
  refine wpAnyH_take (i := 8) (oi := Oper.mk _ _ _ _ _ _) (v := ?v51) rfl (by kernel_rfl) (by kernel_rfl) (by kernel_rfl) (fun _ _ _ h => h) (Or.inl ⟨by rfl, ?hy51⟩) (by assumption) ?rs51
  case hy51 => (intro w hSw; (try dsimp only at hSw); first | (go_simp <;> with_reducible rfl) | rfl)
  try simp only [Act.put, List.setIfInBounds_toArray, List.set_cons_zero, List.set_cons_succ]
  refine wpAnyH_take (i := 10) (oi := Oper.mk _ _ _ _ _ _) (v := ?v52) rfl (by kernel_rfl) (by kernel_rfl) (by kernel_rfl) (fun _ _ _ h => h) (Or.inl ⟨by rfl, ?hy52⟩) (by assumption) ?rs52
  case hy52 => (intro w hSw; (try dsimp only at hSw); first | (go_simp <;> with_reducible rfl) | rfl)
  try simp only [Act.put, List.setIfInBounds_toArray, List.set_cons_zero, List.set_cons_succ]
  refine wpAnyH_take (i := 11) (oi := Oper.mk _ _ _ _ _ _) (v := ?v53) rfl (by kernel_rfl) (by kernel_rfl) (by kernel_rfl) (fun _ _ _ h => h) (Or.inl ⟨by rfl, ?hy53⟩) (by assumption) ?rs53
  case hy53 => (intro w hSw; (try dsimp only at hSw); first | (go_simp <;> with_reducible rfl) | rfl)
  try simp only [Act.put, List.setIfInBounds_toArray, List.set_cons_zero, List.set_cons_succ]
  refine wpAnyH_take (i := 12) (oi := Oper.mk _ _ _ _ _ _) (v := ?v54) rfl (by kernel_rfl) (by kernel_rfl) (by kernel_rfl) (fun _ _ _ h => h) (Or.inl ⟨by rfl, ?hy54⟩) (by assumption) ?rs54
  case hy54 => (intro w hSw; (try dsimp only at hSw); first | (go_simp <;> with_reducible rfl) | rfl)
  try simp only [Act.put, List.setIfInBounds_toArray, List.set_cons_zero, List.set_cons_succ]
  refine wpAnyH_take (i := 13) (oi := Oper.mk _ _ _ _ _ _) (v := ?v55) rfl (by kernel_rfl) (by kernel_rfl) (by kernel_rfl) (fun _ _ _ h => h) (Or.inl ⟨by rfl, ?hy55⟩) (by assumption) ?rs55
  case hy55 => (intro w hSw; (try dsimp only at hSw); first | (go_simp <;> with_reducible rfl) | rfl)
  try simp only [Act.put, List.setIfInBounds_toArray, List.set_cons_zero, List.set_cons_succ]
  refine wpAnyH_take (i := 17) (oi := Oper.mk _ _ _ _ _ _) (v := ?v56) rfl (by kernel_rfl) (by kernel_rfl) (by kernel_rfl) (fun _ _ _ h => h) (Or.inl ⟨by rfl, ?hy56⟩) (by assumption) ?rs56
  case hy56 => (intro w hSw; (try dsimp only at hSw); first | (go_simp <;> with_reducible rfl) | rfl)
  try simp only [Act.put, List.setIfInBounds_toArray, List.set_cons_zero, List.set_cons_succ]
  refine wpAnyH_ready (rs := [4, 9, 14]) (by kernel_rfl) (by simp) ?_
  refine AllReadyH.cons (o := Oper.mk _ _ _ _ _ _) rfl (fun K hK => ?_) ?_
  · go_simp
    go_at_call 33; refine (of_3 _).mono ?_; rintro e1 v1 ⟨rfl, rfl⟩
    refine hK.out _ _ hHeld (fun hHeld => ?_)
    clear hK K
    try simp only [Act.put, List.setIfInBounds_toArray, List.set_cons_zero, List.set_cons_succ]
    refine wpAnyH_ready (rs := [9, 14]) (by kernel_rfl) (by simp) ?_
    refine AllReadyH.cons (o := Oper.mk _ _ _ _ _ _) rfl (fun K hK => ?_) ?_
    · go_simp
      skip
      refine hK.out _ _ hHeld (fun hHeld => ?_)
      clear hK K
      try simp only [Act.put, List.setIfInBounds_toArray, List.set_cons_zero, List.set_cons_succ]
      refine wpAnyH_ready (rs := [14]) (by kernel_rfl) (by simp) ?_
      refine AllReadyH.cons (o := Oper.mk _ _ _ _ _ _) rfl (fun K hK => ?_) AllReadyH.nil
      go_simp
      skip
      refine hK.out _ _ hHeld (fun hHeld => ?_)
      clear hK K
      try simp only [Act.put, List.setIfInBounds_toArray, List.set_cons_zero, List.set_cons_succ]
      refine wpAnyH_take (i := 15) (oi := Oper.mk _ _ _ _ _ _) (v := ?v58) rfl (by kernel_rfl) (by kernel_rfl) (by kernel_rfl) (fun _ _ _ h => h) (Or.inl ⟨by rfl, ?hy58⟩) (by assumption) ?rs58
      case hy58 => (intro w hSw; (try dsimp only at hSw); first | (go_simp <;> with_reducible rfl) | rfl)
      try simp only [Act.put, List.setIfInBounds_toArray, List.set_cons_zero, List.set_cons_succ]
      refine wpAnyH_ready (rs := [16]) (by kernel_rfl) (by simp) ?_
      refine AllReadyH.cons (o := Oper.mk _ _ _ _ _ _) rfl (fun K hK => ?_) AllReadyH.nil
      go_simp
      go_at_call 41; refine (HM.out _).mono ?_; rintro e2 w5 ⟨rfl, hc5⟩; have HC5 := Lib.hid (HCW.out.trans hc5 (fun _ _ h => h)); have hs5 : w5.cell? ⟨W.heap.size + 1, 0, none⟩ = some (.int .i64 3) ∧ w5.cell? ⟨W.heap.size + 1, 1, none⟩ = some (.int .i64 (a : Int)) ∧ w5.cell? ⟨W.heap.size + 1, 2, none⟩ = some (.int .i64 (b : Int)) ∧ w5.cell? ⟨W.heap.size + 1, 3, none⟩ = some (.int .i64 (e : Int)) := ⟨(HC5.out.cell (p := ⟨W.heap.size + 1, 0, none⟩) il (fun h => h)).trans i0, (HC5.out.cell (p := ⟨W.heap.size + 1, 1, none⟩) il (fun h => h)).trans i1, (HC5.out.cell (p := ⟨W.heap.size + 1, 2, none⟩) il (fun h => h)).trans i2, (HC5.out.cell (p := ⟨W.heap.size + 1, 3, none⟩) il (fun h => h)).trans i3⟩; have hT5 := HTW.out.kept HC5.out (fun h => h); have HT5 := Lib.hid hT5; have HZ5 := Lib.hid (HZW.out.kept HC5.out (fun h => h)); have k2 : w5.cell? ⟨W.heap.size, 2 + a, none⟩ = some (.int .i64 ra) := (hT5.cell _).trans (HRE.out _ _ _ _); have k3 := hT5.frozen (2 + a); have kl := hT5.lt; clear hT5 hc5
      refine hK.out _ _ hs5 (fun hHeld => ?_)
      clear hK K
      try simp only [Act.put, List.setIfInBounds_toArray, List.set_cons_zero, List.set_cons_succ]
      refine wpAnyH_take (i := 18) (oi := Oper.mk _ _ _ _ _ _) (v := ?v60) rfl (by kernel_rfl) (by kernel_rfl) (by kernel_rfl) (fun _ _ _ h => h) (Or.inl ⟨by rfl, ?hy60⟩) (by assumption) ?rs60
      case hy60 => (intro w hSw; (try dsimp only at hSw); first | (go_simp <;> with_reducible rfl) | rfl)
      try simp only [Act.put, List.setIfInBounds_toArray, List.set_cons_zero, List.set_cons_succ]
      refine wpAnyH_ready (rs := [19]) (by kernel_rfl) (by simp) ?_
      refine AllReadyH.cons (o := Oper.mk _ _ _ _ _ _) rfl (fun K hK => ?_) AllReadyH.nil
      go_simp
      skip
      refine hK.out _ _ (by have hq := ((Chg.refl (fun k => k = W.heap.size) w5).setCell (p := ⟨W.heap.size, 2 + a, none⟩) (.inl rfl) (.int .i64 vv)); exact ⟨(hq.cell (p := ⟨W.heap.size + 1, 0, none⟩) (Nat.lt_of_lt_of_le il HC5.out.size) (by show ¬ W.heap.size + 1 = W.heap.size; omega)).trans hs5.1, (hq.cell (p := ⟨W.heap.size + 1, 1, none⟩) (Nat.lt_of_lt_of_le il HC5.out.size) (by show ¬ W.heap.size + 1 = W.heap.size; omega)).trans hs5.2.1, (hq.cell (p := ⟨W.heap.size + 1, 2, none⟩) (Nat.lt_of_lt_of_le il HC5.out.size) (by show ¬ W.heap.size + 1 = W.heap.size; omega)).trans hs5.2.2.1, (hq.cell (p := ⟨W.heap.size + 1, 3, none⟩) (Nat.lt_of_lt_of_le il HC5.out.size) (by show ¬ W.heap.size + 1 = W.heap.size; omega)).trans hs5.2.2.2⟩) (fun hHeld => ?_)
      clear hK K
      try simp only [Act.put, List.setIfInBounds_toArray, List.set_cons_zero, List.set_cons_succ]
      refine wpAnyH_done (by kernel_rfl) ?_ _
      obtain ⟨w6, hw6⟩ : ∃ w6, w6 = w5.setCell ⟨W.heap.size, 2 + a, none⟩ (.int .i64 vv) := ⟨_, rfl⟩
      rw [← hw6]
      have hT6 : Blk w6 W.heap.size 28 #[.int .i64 f, .int .i64 (pc + 1), .int .i64 s0, .int .i64 s1, .int .i64 s2, .int .i64 s3, .int .i64 s4, .int .i64 s5, .int .i64 s6, .int .i64 s7, .slice D n c, .bool false] := by
        have h := HT5.out.set_ (2 + a) (.int .i64 vv)
        rw [HSE.out] at h
        rw [hw6]
        exact h
      have hZ6 : Blk w6 (W.heap.size + 1 + 1) 28 #[.int .i64 0, .int .i64 0, .int .i64 0, .int .i64 0, .int .i64 0, .int .i64 0, .int .i64 0, .int .i64 0, .int .i64 0, .int .i64 0, .slice none 0 0, .bool false] := by
        rw [hw6]
        exact HZ5.out.far (p := ⟨W.heap.size, 2 + a, none⟩) (show W.heap.size + 1 + 1 ≠ W.heap.size by omega) _
      have HC6 : Hid (Chg (fun _ => False) W w6) := Lib.hid (by
        rw [hw6]
        exact ((((((Chg.refl _ _).alloc _).alloc _).alloc _).trans HC5.out (fun _ _ h => h)).setCell (p := ⟨W.heap.size, 2 + a, none⟩) (.inr (by show W.heap.size ≤ W.heap.size; omega)) _))
      have t0 := hT6.cell 0
      have z0 := hZ6.cell 0
      have y0 := hZ6.frozen 0
      have t1 := hT6.cell 1
      have z1 := hZ6.cell 1
      have y1 := hZ6.frozen 1
      have t2 := hT6.cell 2
      have z2 := hZ6.cell 2
      have y2 := hZ6.frozen 2
      have t3 := hT6.cell 3
      have z3 := hZ6.cell 3
      have y3 := hZ6.frozen 3
      have t4 := hT6.cell 4
      have z4 := hZ6.cell 4
      have y4 := hZ6.frozen 4
      have t5 := hT6.cell 5
      have z5 := hZ6.cell 5
      have y5 := hZ6.frozen 5
      have t6 := hT6.cell 6
      have z6 := hZ6.cell 6
      have y6 := hZ6.frozen 6
      have t7 := hT6.cell 7
      have z7 := hZ6.cell 7
      have y7 := hZ6.frozen 7
      have t8 := hT6.cell 8
      have z8 := hZ6.cell 8
      have y8 := hZ6.frozen 8
      have t9 := hT6.cell 9
      have z9 := hZ6.cell 9
      have y9 := hZ6.frozen 9
      have t10 := hT6.cell 10
      have z10 := hZ6.cell 10
      have y10 := hZ6.frozen 10
      have t11 := hT6.cell 11
      have z11 := hZ6.cell 11
      have y11 := hZ6.frozen 11
      have tl := hT6.lt
      have zl := hZ6.lt
      simp only [List.getElem?_toArray, List.getElem?_cons_zero, List.getElem?_cons_succ] at t0 z0 t1 z1 t2 z2 t3 z3 t4 z4 t5 z5 t6 z6 t7 z7 t8 z8 t9 z9 t10 z10 t11 z11
      have HZ6 := Lib.hid hZ6
      clear hw6 hT6 hZ6 k2 k3
      go_wp2
      refine bodyPost_ret (results_cell_row rfl _ _ (W.heap.size + 1 + 1) 28 #[.int .i64 f, .int .i64 (pc + 1), .int .i64 s0, .int .i64 s1, .int .i64 s2, .int .i64 s3, .int .i64 s4, .int .i64 s5, .int .i64 s6, .int .i64 s7, .slice D n c, .bool false] (0, 0) _ rfl (Blk.set12 _ _ _ _ _ _ _ _ _ _ _ _ HZ6.out) Tryd.underlying28 rfl (by kernel_rfl)) rfl ?_
      exact ⟨rfl, chg12 _ _ _ _ _ _ _ _ _ _ _ _ HC6.out (by omega)⟩
    refine AllReadyH.cons (o := Oper.mk _ _ _ _ _ _) rfl (fun K hK => ?_) AllReadyH.nil
    go_simp
    skip
    refine hK.out _ _ hHeld (fun hHeld => ?_)
    clear hK K
    try simp only [Act.put, List.setIfInBounds_toArray, List.set_cons_zero, List.set_cons_succ]
    refine wpAnyH_ready (rs := [9]) (by kernel_rfl) (by simp) ?_
    refine AllReadyH.cons (o := Oper.mk _ _ _ _ _ _) rfl (fun K hK => ?_) AllReadyH.nil
    go_simp
    skip
    refine hK.out _ _ hHeld (fun hHeld => ?_)
    clear hK K
    try simp only [Act.put, List.setIfInBounds_toArray, List.set_cons_zero, List.set_cons_succ]
    refine wpAnyH_take (i := 15) (oi := Oper.mk _ _ _ _ _ _) (v := ?v63) rfl (by kernel_rfl) (by kernel_rfl) (by kernel_rfl) (fun _ _ _ h => h) (Or.inl ⟨by rfl, ?hy63⟩) (by assumption) ?rs63
    case hy63 => (intro w hSw; (try dsimp only at hSw); first | (go_simp <;> with_reducible rfl) | rfl)
    try simp only [Act.put, List.setIfInBounds_toArray, List.set_cons_zero, List.set_cons_succ]
    refine wpAnyH_ready (rs := [16]) (by kernel_rfl) (by simp) ?_
    refine AllReadyH.cons (o := Oper.mk _ _ _ _ _ _) rfl (fun K hK => ?_) AllReadyH.nil
    go_simp
    go_at_call 41; refine (HM.out _).mono ?_; rintro e2 w5 ⟨rfl, hc5⟩; have HC5 := Lib.hid (HCW.out.trans hc5 (fun _ _ h => h)); have hs5 : w5.cell? ⟨W.heap.size + 1, 0, none⟩ = some (.int .i64 3) ∧ w5.cell? ⟨W.heap.size + 1, 1, none⟩ = some (.int .i64 (a : Int)) ∧ w5.cell? ⟨W.heap.size + 1, 2, none⟩ = some (.int .i64 (b : Int)) ∧ w5.cell? ⟨W.heap.size + 1, 3, none⟩ = some (.int .i64 (e : Int)) := ⟨(HC5.out.cell (p := ⟨W.heap.size + 1, 0, none⟩) il (fun h => h)).trans i0, (HC5.out.cell (p := ⟨W.heap.size + 1, 1, none⟩) il (fun h => h)).trans i1, (HC5.out.cell (p := ⟨W.heap.size + 1, 2, none⟩) il (fun h => h)).trans i2, (HC5.out.cell (p := ⟨W.heap.size + 1, 3, none⟩) il (fun h => h)).trans i3⟩; have hT5 := HTW.out.kept HC5.out (fun h => h); have HT5 := Lib.hid hT5; have HZ5 := Lib.hid (HZW.out.kept HC5.out (fun h => h)); have k2 : w5.cell? ⟨W.heap.size, 2 + a, none⟩ = some (.int .i64 ra) := (hT5.cell _).trans (HRE.out _ _ _ _); have k3 := hT5.frozen (2 + a); have kl := hT5.lt; clear hT5 hc5
    refine hK.out _ _ hs5 (fun hHeld => ?_)
    clear hK K
    try simp only [Act.put, List.setIfInBounds_toArray, List.set_cons_zero, List.set_cons_succ]
    refine wpAnyH_take (i := 18) (oi := Oper.mk _ _ _ _ _ _) (v := ?v65) rfl (by kernel_rfl) (by kernel_rfl) (by kernel_rfl) (fun _ _ _ h => h) (Or.inl ⟨by rfl, ?hy65⟩) (by assumption) ?rs65
    case hy65 => (intro w hSw; (try dsimp only at hSw); first | (go_simp <;> with_reducible rfl) | rfl)
    try simp only [Act.put, List.setIfInBounds_toArray, List.set_cons_zero, List.set_cons_succ]
    refine wpAnyH_ready (rs := [19]) (by kernel_rfl) (by simp) ?_
    refine AllReadyH.cons (o := Oper.mk _ _ _ _ _ _) rfl (fun K hK => ?_) AllReadyH.nil
    go_simp
    skip
    refine hK.out _ _ (by have hq := ((Chg.refl (fun k => k = W.heap.size) w5).setCell (p := ⟨W.heap.size, 2 + a, none⟩) (.inl rfl) (.int .i64 vv)); exact ⟨(hq.cell (p := ⟨W.heap.size + 1, 0, none⟩) (Nat.lt_of_lt_of_le il HC5.out.size) (by show ¬ W.heap.size + 1 = W.heap.size; omega)).trans hs5.1, (hq.cell (p := ⟨W.heap.size + 1, 1, none⟩) (Nat.lt_of_lt_of_le il HC5.out.size) (by show ¬ W.heap.size + 1 = W.heap.size; omega)).trans hs5.2.1, (hq.cell (p := ⟨W.heap.size + 1, 2, none⟩) (Nat.lt_of_lt_of_le il HC5.out.size) (by show ¬ W.heap.size + 1 = W.heap.size; omega)).trans hs5.2.2.1, (hq.cell (p := ⟨W.heap.size + 1, 3, none⟩) (Nat.lt_of_lt_of_le il HC5.out.size) (by show ¬ W.heap.size + 1 = W.heap.size; omega)).trans hs5.2.2.2⟩) (fun hHeld => ?_)
    clear hK K
    try simp only [Act.put, List.setIfInBounds_toArray, List.set_cons_zero, List.set_cons_succ]
    refine wpAnyH_done (by kernel_rfl) ?_ _
    obtain ⟨w6, hw6⟩ : ∃ w6, w6 = w5.setCell ⟨W.heap.size, 2 + a, none⟩ (.int .i64 vv) := ⟨_, rfl⟩
    rw [← hw6]
    have hT6 : Blk w6 W.heap.size 28 #[.int .i64 f, .int .i64 (pc + 1), .int .i64 s0, .int .i64 s1, .int .i64 s2, .int .i64 s3, .int .i64 s4, .int .i64 s5, .int .i64 s6, .int .i64 s7, .slice D n c, .bool false] := by
      have h := HT5.out.set_ (2 + a) (.int .i64 vv)
      rw [HSE.out] at h
      rw [hw6]
      exact h
    have hZ6 : Blk w6 (W.heap.size + 1 + 1) 28 #[.int .i64 0, .int .i64 0, .int .i64 0, .int .i64 0, .int .i64 0, .int .i64 0, .int .i64 0, .int .i64 0, .int .i64 0, .int .i64 0, .slice none 0 0, .bool false] := by
      rw [hw6]
      exact HZ5.out.far (p := ⟨W.heap.size, 2 + a, none⟩) (show W.heap.size + 1 + 1 ≠ W.heap.size by omega) _
    have HC6 : Hid (Chg (fun _ => False) W w6) := Lib.hid (by
      rw [hw6]
      exact ((((((Chg.refl _ _).alloc _).alloc _).alloc _).trans HC5.out (fun _ _ h => h)).setCell (p := ⟨W.heap.size, 2 + a, none⟩) (.inr (by show W.heap.size ≤ W.heap.size; omega)) _))
    have t0 := hT6.cell 0
    have z0 := hZ6.cell 0
    have y0 := hZ6.frozen 0
    have t1 := hT6.cell 1
    have z1 := hZ6.cell 1
    have y1 := hZ6.frozen 1
    have t2 := hT6.cell 2
    have z2 := hZ6.cell 2
    have y2 := hZ6.frozen 2
    have t3 := hT6.cell 3
    have z3 := hZ6.cell 3
    have y3 := hZ6.frozen 3
    have t4 := hT6.cell 4
    have z4 := hZ6.cell 4
    have y4 := hZ6.frozen 4
    have t5 := hT6.cell 5
    have z5 := hZ6.cell 5
    have y5 := hZ6.frozen 5
    have t6 := hT6.cell 6
    have z6 := hZ6.cell 6
    have y6 := hZ6.frozen 6
    have t7 := hT6.cell 7
    have z7 := hZ6.cell 7
    have y7 := hZ6.frozen 7
    have t8 := hT6.cell 8
    have z8 := hZ6.cell 8
    have y8 := hZ6.frozen 8
    have t9 := hT6.cell 9
    have z9 := hZ6.cell 9
    have y9 := hZ6.frozen 9
    have t10 := hT6.cell 10
    have z10 := hZ6.cell 10
    have y10 := hZ6.frozen 10
    have t11 := hT6.cell 11
    have z11 := hZ6.cell 11
    have y11 := hZ6.frozen 11
    have tl := hT6.lt
    have zl := hZ6.lt
    simp only [List.getElem?_toArray, List.getElem?_cons_zero, List.getElem?_cons_succ] at t0 z0 t1 z1 t2 z2 t3 z3 t4 z4 t5 z5 t6 z6 t7 z7 t8 z8 t9 z9 t10 z10 t11 z11
    have HZ6 := Lib.hid hZ6
    clear hw6 hT6 hZ6 k2 k3
    go_wp2
    refine bodyPost_ret (results_cell_row rfl _ _ (W.heap.size + 1 + 1) 28 #[.int .i64 f, .int .i64 (pc + 1), .int .i64 s0, .int .i64 s1, .int .i64 s2, .int .i64 s3, .int .i64 s4, .int .i64 s5, .int .i64 s6, .int .i64 s7, .slice D n c, .bool false] (0, 0) _ rfl (Blk.set12 _ _ _ _ _ _ _ _ _ _ _ _ HZ6.out) Tryd.underlying28 rfl (by kernel_rfl)) rfl ?_
    exact ⟨rfl, chg12 _ _ _ _ _ _ _ _ _ _ _ _ HC6.out (by omega)⟩
  refine AllReadyH.cons (o := Oper.mk _ _ _ _ _ _) rfl (fun K hK => ?_) ?_
  · go_simp
    skip
    refine hK.out _ _ hHeld (fun hHeld => ?_)
    clear hK K
    try simp only [Act.put, List.setIfInBounds_toArray, List.set_cons_zero, List.set_cons_succ]
    refine wpAnyH_ready (rs := [4, 14]) (by kernel_rfl) (by simp) ?_
    refine AllReadyH.cons (o := Oper.mk _ _ _ _ _ _) rfl (fun K hK => ?_) ?_
    · go_simp
      go_at_call 33; refine (of_3 _).mono ?_; rintro e1 v1 ⟨rfl, rfl⟩
      refine hK.out _ _ hHeld (fun hHeld => ?_)
      clear hK K
      try simp only [Act.put, List.setIfInBounds_toArray, List.set_cons_zero, List.set_cons_succ]
      refine wpAnyH_ready (rs := [14]) (by kernel_rfl) (by simp) ?_
      refine AllReadyH.cons (o := Oper.mk _ _ _ _ _ _) rfl (fun K hK => ?_) AllReadyH.nil
      go_simp
      skip
      refine hK.out _ _ hHeld (fun hHeld => ?_)
      clear hK K
      try simp only [Act.put, List.setIfInBounds_toArray, List.set_cons_zero, List.set_cons_succ]
      refine wpAnyH_take (i := 15) (oi := Oper.mk _ _ _ _ _ _) (v := ?v68) rfl (by kernel_rfl) (by kernel_rfl) (by kernel_rfl) (fun _ _ _ h => h) (Or.inl ⟨by rfl, ?hy68⟩) (by assumption) ?rs68
      case hy68 => (intro w hSw; (try dsimp only at hSw); first | (go_simp <;> with_reducible rfl) | rfl)
      try simp only [Act.put, List.setIfInBounds_toArray, List.set_cons_zero, List.set_cons_succ]
      refine wpAnyH_ready (rs := [16]) (by kernel_rfl) (by simp) ?_
      refine AllReadyH.cons (o := Oper.mk _ _ _ _ _ _) rfl (fun K hK => ?_) AllReadyH.nil
      go_simp
      go_at_call 41; refine (HM.out _).mono ?_; rintro e2 w5 ⟨rfl, hc5⟩; have HC5 := Lib.hid (HCW.out.trans hc5 (fun _ _ h => h)); have hs5 : w5.cell? ⟨W.heap.size + 1, 0, none⟩ = some (.int .i64 3) ∧ w5.cell? ⟨W.heap.size + 1, 1, none⟩ = some (.int .i64 (a : Int)) ∧ w5.cell? ⟨W.heap.size + 1, 2, none⟩ = some (.int .i64 (b : Int)) ∧ w5.cell? ⟨W.heap.size + 1, 3, none⟩ = some (.int .i64 (e : Int)) := ⟨(HC5.out.cell (p := ⟨W.heap.size + 1, 0, none⟩) il (fun h => h)).trans i0, (HC5.out.cell (p := ⟨W.heap.size + 1, 1, none⟩) il (fun h => h)).trans i1, (HC5.out.cell (p := ⟨W.heap.size + 1, 2, none⟩) il (fun h => h)).trans i2, (HC5.out.cell (p := ⟨W.heap.size + 1, 3, none⟩) il (fun h => h)).trans i3⟩; have hT5 := HTW.out.kept HC5.out (fun h => h); have HT5 := Lib.hid hT5; have HZ5 := Lib.hid (HZW.out.kept HC5.out (fun h => h)); have k2 : w5.cell? ⟨W.heap.size, 2 + a, none⟩ = some (.int .i64 ra) := (hT5.cell _).trans (HRE.out _ _ _ _); have k3 := hT5.frozen (2 + a); have kl := hT5.lt; clear hT5 hc5
      refine hK.out _ _ hs5 (fun hHeld => ?_)
      clear hK K
      try simp only [Act.put, List.setIfInBounds_toArray, List.set_cons_zero, List.set_cons_succ]
      refine wpAnyH_take (i := 18) (oi := Oper.mk _ _ _ _ _ _) (v := ?v70) rfl (by kernel_rfl) (by kernel_rfl) (by kernel_rfl) (fun _ _ _ h => h) (Or.inl ⟨by rfl, ?hy70⟩) (by assumption) ?rs70
      case hy70 => (intro w hSw; (try dsimp only at hSw); first | (go_simp <;> with_reducible rfl) | rfl)
      try simp only [Act.put, List.setIfInBounds_toArray, List.set_cons_zero, List.set_cons_succ]
      refine wpAnyH_ready (rs := [19]) (by kernel_rfl) (by simp) ?_
      refine AllReadyH.cons (o := Oper.mk _ _ _ _ _ _) rfl (fun K hK => ?_) AllReadyH.nil
      go_simp
      skip
      refine hK.out _ _ (by have hq := ((Chg.refl (fun k => k = W.heap.size) w5).setCell (p := ⟨W.heap.size, 2 + a, none⟩) (.inl rfl) (.int .i64 vv)); exact ⟨(hq.cell (p := ⟨W.heap.size + 1, 0, none⟩) (Nat.lt_of_lt_of_le il HC5.out.size) (by show ¬ W.heap.size + 1 = W.heap.size; omega)).trans hs5.1, (hq.cell (p := ⟨W.heap.size + 1, 1, none⟩) (Nat.lt_of_lt_of_le il HC5.out.size) (by show ¬ W.heap.size + 1 = W.heap.size; omega)).trans hs5.2.1, (hq.cell (p := ⟨W.heap.size + 1, 2, none⟩) (Nat.lt_of_lt_of_le il HC5.out.size) (by show ¬ W.heap.size + 1 = W.heap.size; omega)).trans hs5.2.2.1, (hq.cell (p := ⟨W.heap.size + 1, 3, none⟩) (Nat.lt_of_lt_of_le il HC5.out.size) (by show ¬ W.heap.size + 1 = W.heap.size; omega)).trans hs5.2.2.2⟩) (fun hHeld => ?_)
      clear hK K
      try simp only [Act.put, List.setIfInBounds_toArray, List.set_cons_zero, List.set_cons_succ]
      refine wpAnyH_done (by kernel_rfl) ?_ _
      obtain ⟨w6, hw6⟩ : ∃ w6, w6 = w5.setCell ⟨W.heap.size, 2 + a, none⟩ (.int .i64 vv) := ⟨_, rfl⟩
      rw [← hw6]
      have hT6 : Blk w6 W.heap.size 28 #[.int .i64 f, .int .i64 (pc + 1), .int .i64 s0, .int .i64 s1, .int .i64 s2, .int .i64 s3, .int .i64 s4, .int .i64 s5, .int .i64 s6, .int .i64 s7, .slice D n c, .bool false] := by
        have h := HT5.out.set_ (2 + a) (.int .i64 vv)
        rw [HSE.out] at h
        rw [hw6]
        exact h
      have hZ6 : Blk w6 (W.heap.size + 1 + 1) 28 #[.int .i64 0, .int .i64 0, .int .i64 0, .int .i64 0, .int .i64 0, .int .i64 0, .int .i64 0, .int .i64 0, .int .i64 0, .int .i64 0, .slice none 0 0, .bool false] := by
        rw [hw6]
        exact HZ5.out.far (p := ⟨W.heap.size, 2 + a, none⟩) (show W.heap.size + 1 + 1 ≠ W.heap.size by omega) _
      have HC6 : Hid (Chg (fun _ => False) W w6) := Lib.hid (by
        rw [hw6]
        exact ((((((Chg.refl _ _).alloc _).alloc _).alloc _).trans HC5.out (fun _ _ h => h)).setCell (p := ⟨W.heap.size, 2 + a, none⟩) (.inr (by show W.heap.size ≤ W.heap.size; omega)) _))
      have t0 := hT6.cell 0
      have z0 := hZ6.cell 0
      have y0 := hZ6.frozen 0
      have t1 := hT6.cell 1
      have z1 := hZ6.cell 1
      have y1 := hZ6.frozen 1
      have t2 := hT6.cell 2
      have z2 := hZ6.cell 2
      have y2 := hZ6.frozen 2
      have t3 := hT6.cell 3
      have z3 := hZ6.cell 3
      have y3 := hZ6.frozen 3
      have t4 := hT6.cell 4
      have z4 := hZ6.cell 4
      have y4 := hZ6.frozen 4
      have t5 := hT6.cell 5
      have z5 := hZ6.cell 5
      have y5 := hZ6.frozen 5
      have t6 := hT6.cell 6
      have z6 := hZ6.cell 6
      have y6 := hZ6.frozen 6
      have t7 := hT6.cell 7
      have z7 := hZ6.cell 7
      have y7 := hZ6.frozen 7
      have t8 := hT6.cell 8
      have z8 := hZ6.cell 8
      have y8 := hZ6.frozen 8
      have t9 := hT6.cell 9
      have z9 := hZ6.cell 9
      have y9 := hZ6.frozen 9
      have t10 := hT6.cell 10
      have z10 := hZ6.cell 10
      have y10 := hZ6.frozen 10
      have t11 := hT6.cell 11
      have z11 := hZ6.cell 11
      have y11 := hZ6.frozen 11
      have tl := hT6.lt
      have zl := hZ6.lt
      simp only [List.getElem?_toArray, List.getElem?_cons_zero, List.getElem?_cons_succ] at t0 z0 t1 z1 t2 z2 t3 z3 t4 z4 t5 z5 t6 z6 t7 z7 t8 z8 t9 z9 t10 z10 t11 z11
      have HZ6 := Lib.hid hZ6
      clear hw6 hT6 hZ6 k2 k3
      go_wp2
      refine bodyPost_ret (results_cell_row rfl _ _ (W.heap.size + 1 + 1) 28 #[.int .i64 f, .int .i64 (pc + 1), .int .i64 s0, .int .i64 s1, .int .i64 s2, .int .i64 s3, .int .i64 s4, .int .i64 s5, .int .i64 s6, .int .i64 s7, .slice D n c, .bool false] (0, 0) _ rfl (Blk.set12 _ _ _ _ _ _ _ _ _ _ _ _ HZ6.out) Tryd.underlying28 rfl (by kernel_rfl)) rfl ?_
      exact ⟨rfl, chg12 _ _ _ _ _ _ _ _ _ _ _ _ HC6.out (by omega)⟩
    refine AllReadyH.cons (o := Oper.mk _ _ _ _ _ _) rfl (fun K hK => ?_) AllReadyH.nil
    go_simp
    skip
    refine hK.out _ _ hHeld (fun hHeld => ?_)
    clear hK K
    try simp only [Act.put, List.setIfInBounds_toArray, List.set_cons_zero, List.set_cons_succ]
    refine wpAnyH_take (i := 15) (oi := Oper.mk _ _ _ _ _ _) (v := ?v72) rfl (by kernel_rfl) (by kernel_rfl) (by kernel_rfl) (fun _ _ _ h => h) (Or.inl ⟨by rfl, ?hy72⟩) (by assumption) ?rs72
    case hy72 => (intro w hSw; (try dsimp only at hSw); first | (go_simp <;> with_reducible rfl) | rfl)
    try simp only [Act.put, List.setIfInBounds_toArray, List.set_cons_zero, List.set_cons_succ]
    refine wpAnyH_ready (rs := [4]) (by kernel_rfl) (by simp) ?_
    refine AllReadyH.cons (o := Oper.mk _ _ _ _ _ _) rfl (fun K hK => ?_) AllReadyH.nil
    go_simp
    go_at_call 33; refine (of_3 _).mono ?_; rintro e1 v1 ⟨rfl, rfl⟩
    refine hK.out _ _ hHeld (fun hHeld => ?_)
    clear hK K
    try simp only [Act.put, List.setIfInBounds_toArray, List.set_cons_zero, List.set_cons_succ]
    refine wpAnyH_ready (rs := [16]) (by kernel_rfl) (by simp) ?_
    refine AllReadyH.cons (o := Oper.mk _ _ _ _ _ _) rfl (fun K hK => ?_) AllReadyH.nil
    go_simp
    go_at_call 41; refine (HM.out _).mono ?_; rintro e2 w5 ⟨rfl, hc5⟩; have HC5 := Lib.hid (HCW.out.trans hc5 (fun _ _ h => h)); have hs5 : w5.cell? ⟨W.heap.size + 1, 0, none⟩ = some (.int .i64 3) ∧ w5.cell? ⟨W.heap.size + 1, 1, none⟩ = some (.int .i64 (a : Int)) ∧ w5.cell? ⟨W.heap.size + 1, 2, none⟩ = some (.int .i64 (b : Int)) ∧ w5.cell? ⟨W.heap.size + 1, 3, none⟩ = some (.int .i64 (e : Int)) := ⟨(HC5.out.cell (p := ⟨W.heap.size + 1, 0, none⟩) il (fun h => h)).trans i0, (HC5.out.cell (p := ⟨W.heap.size + 1, 1, none⟩) il (fun h => h)).trans i1, (HC5.out.cell (p := ⟨W.heap.size + 1, 2, none⟩) il (fun h => h)).trans i2, (HC5.out.cell (p := ⟨W.heap.size + 1, 3, none⟩) il (fun h => h)).trans i3⟩; have hT5 := HTW.out.kept HC5.out (fun h => h); have HT5 := Lib.hid hT5; have HZ5 := Lib.hid (HZW.out.kept HC5.out (fun h => h)); have k2 : w5.cell? ⟨W.heap.size, 2 + a, none⟩ = some (.int .i64 ra) := (hT5.cell _).trans (HRE.out _ _ _ _); have k3 := hT5.frozen (2 + a); have kl := hT5.lt; clear hT5 hc5
    refine hK.out _ _ hs5 (fun hHeld => ?_)
    clear hK K
    try simp only [Act.put, List.setIfInBounds_toArray, List.set_cons_zero, List.set_cons_succ]
    refine wpAnyH_take (i := 18) (oi := Oper.mk _ _ _ _ _ _) (v := ?v75) rfl (by kernel_rfl) (by kernel_rfl) (by kernel_rfl) (fun _ _ _ h => h) (Or.inl ⟨by rfl, ?hy75⟩) (by assumption) ?rs75
    case hy75 => (intro w hSw; (try dsimp only at hSw); first | (go_simp <;> with_reducible rfl) | rfl)
    try simp only [Act.put, List.setIfInBounds_toArray, List.set_cons_zero, List.set_cons_succ]
    refine wpAnyH_ready (rs := [19]) (by kernel_rfl) (by simp) ?_
    refine AllReadyH.cons (o := Oper.mk _ _ _ _ _ _) rfl (fun K hK => ?_) AllReadyH.nil
    go_simp
    skip
    refine hK.out _ _ (by have hq := ((Chg.refl (fun k => k = W.heap.size) w5).setCell (p := ⟨W.heap.size, 2 + a, none⟩) (.inl rfl) (.int .i64 vv)); exact ⟨(hq.cell (p := ⟨W.heap.size + 1, 0, none⟩) (Nat.lt_of_lt_of_le il HC5.out.size) (by show ¬ W.heap.size + 1 = W.heap.size; omega)).trans hs5.1, (hq.cell (p := ⟨W.heap.size + 1, 1, none⟩) (Nat.lt_of_lt_of_le il HC5.out.size) (by show ¬ W.heap.size + 1 = W.heap.size; omega)).trans hs5.2.1, (hq.cell (p := ⟨W.heap.size + 1, 2, none⟩) (Nat.lt_of_lt_of_le il HC5.out.size) (by show ¬ W.heap.size + 1 = W.heap.size; omega)).trans hs5.2.2.1, (hq.cell (p := ⟨W.heap.size + 1, 3, none⟩) (Nat.lt_of_lt_of_le il HC5.out.size) (by show ¬ W.heap.size + 1 = W.heap.size; omega)).trans hs5.2.2.2⟩) (fun hHeld => ?_)
    clear hK K
    try simp only [Act.put, List.setIfInBounds_toArray, List.set_cons_zero, List.set_cons_succ]
    refine wpAnyH_done (by kernel_rfl) ?_ _
    obtain ⟨w6, hw6⟩ : ∃ w6, w6 = w5.setCell ⟨W.heap.size, 2 + a, none⟩ (.int .i64 vv) := ⟨_, rfl⟩
    rw [← hw6]
    have hT6 : Blk w6 W.heap.size 28 #[.int .i64 f, .int .i64 (pc + 1), .int .i64 s0, .int .i64 s1, .int .i64 s2, .int .i64 s3, .int .i64 s4, .int .i64 s5, .int .i64 s6, .int .i64 s7, .slice D n c, .bool false] := by
      have h := HT5.out.set_ (2 + a) (.int .i64 vv)
      rw [HSE.out] at h
      rw [hw6]
      exact h
    have hZ6 : Blk w6 (W.heap.size + 1 + 1) 28 #[.int .i64 0, .int .i64 0, .int .i64 0, .int .i64 0, .int .i64 0, .int .i64 0, .int .i64 0, .int .i64 0, .int .i64 0, .int .i64 0, .slice none 0 0, .bool false] := by
      rw [hw6]
      exact HZ5.out.far (p := ⟨W.heap.size, 2 + a, none⟩) (show W.heap.size + 1 + 1 ≠ W.heap.size by omega) _
    have HC6 : Hid (Chg (fun _ => False) W w6) := Lib.hid (by
      rw [hw6]
      exact ((((((Chg.refl _ _).alloc _).alloc _).alloc _).trans HC5.out (fun _ _ h => h)).setCell (p := ⟨W.heap.size, 2 + a, none⟩) (.inr (by show W.heap.size ≤ W.heap.size; omega)) _))
    have t0 := hT6.cell 0
    have z0 := hZ6.cell 0
    have y0 := hZ6.frozen 0
    have t1 := hT6.cell 1
    have z1 := hZ6.cell 1
    have y1 := hZ6.frozen 1
    have t2 := hT6.cell 2
    have z2 := hZ6.cell 2
    have y2 := hZ6.frozen 2
    have t3 := hT6.cell 3
    have z3 := hZ6.cell 3
    have y3 := hZ6.frozen 3
    have t4 := hT6.cell 4
    have z4 := hZ6.cell 4
    have y4 := hZ6.frozen 4
    have t5 := hT6.cell 5
    have z5 := hZ6.cell 5
    have y5 := hZ6.frozen 5
    have t6 := hT6.cell 6
    have z6 := hZ6.cell 6
    have y6 := hZ6.frozen 6
    have t7 := hT6.cell 7
    have z7 := hZ6.cell 7
    have y7 := hZ6.frozen 7
    have t8 := hT6.cell 8
    have z8 := hZ6.cell 8
    have y8 := hZ6.frozen 8
    have t9 := hT6.cell 9
    have z9 := hZ6.cell 9
    have y9 := hZ6.frozen 9
    have t10 := hT6.cell 10
    have z10 := hZ6.cell 10
    have y10 := hZ6.frozen 10
    have t11 := hT6.cell 11
    have z11 := hZ6.cell 11
    have y11 := hZ6.frozen 11
    have tl := hT6.lt
    have zl := hZ6.lt
    simp only [List.getElem?_toArray, List.getElem?_cons_zero, List.getElem?_cons_succ] at t0 z0 t1 z1 t2 z2 t3 z3 t4 z4 t5 z5 t6 z6 t7 z7 t8 z8 t9 z9 t10 z10 t11 z11
    have HZ6 := Lib.hid hZ6
    clear hw6 hT6 hZ6 k2 k3
    go_wp2
    refine bodyPost_ret (results_cell_row rfl _ _ (W.heap.size + 1 + 1) 28 #[.int .i64 f, .int .i64 (pc + 1), .int .i64 s0, .int .i64 s1, .int .i64 s2, .int .i64 s3, .int .i64 s4, .int .i64 s5, .int .i64 s6, .int .i64 s7, .slice D n c, .bool false] (0, 0) _ rfl (Blk.set12 _ _ _ _ _ _ _ _ _ _ _ _ HZ6.out) Tryd.underlying28 rfl (by kernel_rfl)) rfl ?_
    exact ⟨rfl, chg12 _ _ _ _ _ _ _ _ _ _ _ _ HC6.out (by omega)⟩
  refine AllReadyH.cons (o := Oper.mk _ _ _ _ _ _) rfl (fun K hK => ?_) AllReadyH.nil
  go_simp
  skip
  refine hK.out _ _ hHeld (fun hHeld => ?_)
  clear hK K
  try simp only [Act.put, List.setIfInBounds_toArray, List.set_cons_zero, List.set_cons_succ]
  refine wpAnyH_ready (rs := [4, 9]) (by kernel_rfl) (by simp) ?_
  refine AllReadyH.cons (o := Oper.mk _ _ _ _ _ _) rfl (fun K hK => ?_) ?_
  · go_simp
    go_at_call 33; refine (of_3 _).mono ?_; rintro e1 v1 ⟨rfl, rfl⟩
    refine hK.out _ _ hHeld (fun hHeld => ?_)
    clear hK K
    try simp only [Act.put, List.setIfInBounds_toArray, List.set_cons_zero, List.set_cons_succ]
    refine wpAnyH_ready (rs := [9]) (by kernel_rfl) (by simp) ?_
    refine AllReadyH.cons (o := Oper.mk _ _ _ _ _ _) rfl (fun K hK => ?_) AllReadyH.nil
    go_simp
    skip
    refine hK.out _ _ hHeld (fun hHeld => ?_)
    clear hK K
    try simp only [Act.put, List.setIfInBounds_toArray, List.set_cons_zero, List.set_cons_succ]
    refine wpAnyH_take (i := 15) (oi := Oper.mk _ _ _ _ _ _) (v := ?v78) rfl (by kernel_rfl) (by kernel_rfl) (by kernel_rfl) (fun _ _ _ h => h) (Or.inl ⟨by rfl, ?hy78⟩) (by assumption) ?rs78
    case hy78 => (intro w hSw; (try dsimp only at hSw); first | (go_simp <;> with_reducible rfl) | rfl)
    try simp only [Act.put, List.setIfInBounds_toArray, List.set_cons_zero, List.set_cons_succ]
    refine wpAnyH_ready (rs := [16]) (by kernel_rfl) (by simp) ?_
    refine AllReadyH.cons (o := Oper.mk _ _ _ _ _ _) rfl (fun K hK => ?_) AllReadyH.nil
    go_simp
    go_at_call 41; refine (HM.out _).mono ?_; rintro e2 w5 ⟨rfl, hc5⟩; have HC5 := Lib.hid (HCW.out.trans hc5 (fun _ _ h => h)); have hs5 : w5.cell? ⟨W.heap.size + 1, 0, none⟩ = some (.int .i64 3) ∧ w5.cell? ⟨W.heap.size + 1, 1, none⟩ = some (.int .i64 (a : Int)) ∧ w5.cell? ⟨W.heap.size + 1, 2, none⟩ = some (.int .i64 (b : Int)) ∧ w5.cell? ⟨W.heap.size + 1, 3, none⟩ = some (.int .i64 (e : Int)) := ⟨(HC5.out.cell (p := ⟨W.heap.size + 1, 0, none⟩) il (fun h => h)).trans i0, (HC5.out.cell (p := ⟨W.heap.size + 1, 1, none⟩) il (fun h => h)).trans i1, (HC5.out.cell (p := ⟨W.heap.size + 1, 2, none⟩) il (fun h => h)).trans i2, (HC5.out.cell (p := ⟨W.heap.size + 1, 3, none⟩) il (fun h => h)).trans i3⟩; have hT5 := HTW.out.kept HC5.out (fun h => h); have HT5 := Lib.hid hT5; have HZ5 := Lib.hid (HZW.out.kept HC5.out (fun h => h)); have k2 : w5.cell? ⟨W.heap.size, 2 + a, none⟩ = some (.int .i64 ra) := (hT5.cell _).trans (HRE.out _ _ _ _); have k3 := hT5.frozen (2 + a); have kl := hT5.lt; clear hT5 hc5
    refine hK.out _ _ hs5 (fun hHeld => ?_)
    clear hK K
    try simp only [Act.put, List.setIfInBounds_toArray, List.set_cons_zero, List.set_cons_succ]
    refine wpAnyH_take (i := 18) (oi := Oper.mk _ _ _ _ _ _) (v := ?v80) rfl (by kernel_rfl) (by kernel_rfl) (by kernel_rfl) (fun _ _ _ h => h) (Or.inl ⟨by rfl, ?hy80⟩) (by assumption) ?rs80
    case hy80 => (intro w hSw; (try dsimp only at hSw); first | (go_simp <;> with_reducible rfl) | rfl)
    try simp only [Act.put, List.setIfInBounds_toArray, List.set_cons_zero, List.set_cons_succ]
    refine wpAnyH_ready (rs := [19]) (by kernel_rfl) (by simp) ?_
    refine AllReadyH.cons (o := Oper.mk _ _ _ _ _ _) rfl (fun K hK => ?_) AllReadyH.nil
    go_simp
    skip
    refine hK.out _ _ (by have hq := ((Chg.refl (fun k => k = W.heap.size) w5).setCell (p := ⟨W.heap.size, 2 + a, none⟩) (.inl rfl) (.int .i64 vv)); exact ⟨(hq.cell (p := ⟨W.heap.size + 1, 0, none⟩) (Nat.lt_of_lt_of_le il HC5.out.size) (by show ¬ W.heap.size + 1 = W.heap.size; omega)).trans hs5.1, (hq.cell (p := ⟨W.heap.size + 1, 1, none⟩) (Nat.lt_of_lt_of_le il HC5.out.size) (by show ¬ W.heap.size + 1 = W.heap.size; omega)).trans hs5.2.1, (hq.cell (p := ⟨W.heap.size + 1, 2, none⟩) (Nat.lt_of_lt_of_le il HC5.out.size) (by show ¬ W.heap.size + 1 = W.heap.size; omega)).trans hs5.2.2.1, (hq.cell (p := ⟨W.heap.size + 1, 3, none⟩) (Nat.lt_of_lt_of_le il HC5.out.size) (by show ¬ W.heap.size + 1 = W.heap.size; omega)).trans hs5.2.2.2⟩) (fun hHeld => ?_)
    clear hK K
    try simp only [Act.put, List.setIfInBounds_toArray, List.set_cons_zero, List.set_cons_succ]
    refine wpAnyH_done (by kernel_rfl) ?_ _
    obtain ⟨w6, hw6⟩ : ∃ w6, w6 = w5.setCell ⟨W.heap.size, 2 + a, none⟩ (.int .i64 vv) := ⟨_, rfl⟩
    rw [← hw6]
    have hT6 : Blk w6 W.heap.size 28 #[.int .i64 f, .int .i64 (pc + 1), .int .i64 s0, .int .i64 s1, .int .i64 s2, .int .i64 s3, .int .i64 s4, .int .i64 s5, .int .i64 s6, .int .i64 s7, .slice D n c, .bool false] := by
      have h := HT5.out.set_ (2 + a) (.int .i64 vv)
      rw [HSE.out] at h
      rw [hw6]
      exact h
    have hZ6 : Blk w6 (W.heap.size + 1 + 1) 28 #[.int .i64 0, .int .i64 0, .int .i64 0, .int .i64 0, .int .i64 0, .int .i64 0, .int .i64 0, .int .i64 0, .int .i64 0, .int .i64 0, .slice none 0 0, .bool false] := by
      rw [hw6]
      exact HZ5.out.far (p := ⟨W.heap.size, 2 + a, none⟩) (show W.heap.size + 1 + 1 ≠ W.heap.size by omega) _
    have HC6 : Hid (Chg (fun _ => False) W w6) := Lib.hid (by
      rw [hw6]
      exact ((((((Chg.refl _ _).alloc _).alloc _).alloc _).trans HC5.out (fun _ _ h => h)).setCell (p := ⟨W.heap.size, 2 + a, none⟩) (.inr (by show W.heap.size ≤ W.heap.size; omega)) _))
    have t0 := hT6.cell 0
    have z0 := hZ6.cell 0
    have y0 := hZ6.frozen 0
    have t1 := hT6.cell 1
    have z1 := hZ6.cell 1
    have y1 := hZ6.frozen 1
    have t2 := hT6.cell 2
    have z2 := hZ6.cell 2
    have y2 := hZ6.frozen 2
    have t3 := hT6.cell 3
    have z3 := hZ6.cell 3
    have y3 := hZ6.frozen 3
    have t4 := hT6.cell 4
    have z4 := hZ6.cell 4
    have y4 := hZ6.frozen 4
    have t5 := hT6.cell 5
    have z5 := hZ6.cell 5
    have y5 := hZ6.frozen 5
    have t6 := hT6.cell 6
    have z6 := hZ6.cell 6
    have y6 := hZ6.frozen 6
    have t7 := hT6.cell 7
    have z7 := hZ6.cell 7
    have y7 := hZ6.frozen 7
    have t8 := hT6.cell 8
    have z8 := hZ6.cell 8
    have y8 := hZ6.frozen 8
    have t9 := hT6.cell 9
    have z9 := hZ6.cell 9
    have y9 := hZ6.frozen 9
    have t10 := hT6.cell 10
    have z10 := hZ6.cell 10
    have y10 := hZ6.frozen 10
    have t11 := hT6.cell 11
    have z11 := hZ6.cell 11
    have y11 := hZ6.frozen 11
    have tl := hT6.lt
    have zl := hZ6.lt
    simp only [List.getElem?_toArray, List.getElem?_cons_zero, List.getElem?_cons_succ] at t0 z0 t1 z1 t2 z2 t3 z3 t4 z4 t5 z5 t6 z6 t7 z7 t8 z8 t9 z9 t10 z10 t11 z11
    have HZ6 := Lib.hid hZ6
    clear hw6 hT6 hZ6 k2 k3
    go_wp2
    refine bodyPost_ret (results_cell_row rfl _ _ (W.heap.size + 1 + 1) 28 #[.int .i64 f, .int .i64 (pc + 1), .int .i64 s0, .int .i64 s1, .int .i64 s2, .int .i64 s3, .int .i64 s4, .int .i64 s5, .int .i64 s6, .int .i64 s7, .slice D n c, .bool false] (0, 0) _ rfl (Blk.set12 _ _ _ _ _ _ _ _ _ _ _ _ HZ6.out) Tryd.underlying28 rfl (by kernel_rfl)) rfl ?_
    exact ⟨rfl, chg12 _ _ _ _ _ _ _ _ _ _ _ _ HC6.out (by omega)⟩
  refine AllReadyH.cons (o := Oper.mk _ _ _ _ _ _) rfl (fun K hK => ?_) AllReadyH.nil
  go_simp
  skip
  refine hK.out _ _ hHeld (fun hHeld => ?_)
  clear hK K
  try simp only [Act.put, List.setIfInBounds_toArray, List.set_cons_zero, List.set_cons_succ]
  refine wpAnyH_take (i := 15) (oi := Oper.mk _ _ _ _ _ _) (v := ?v82) rfl (by kernel_rfl) (by kernel_rfl) (by kernel_rfl) (fun _ _ _ h => h) (Or.inl ⟨by rfl, ?hy82⟩) (by assumption) ?rs82
  case hy82 => (intro w hSw; (try dsimp only at hSw); first | (go_simp <;> with_reducible rfl) | rfl)
  try simp only [Act.put, List.setIfInBounds_toArray, List.set_cons_zero, List.set_cons_succ]
  refine wpAnyH_ready (rs := [4]) (by kernel_rfl) (by simp) ?_
  refine AllReadyH.cons (o := Oper.mk _ _ _ _ _ _) rfl (fun K hK => ?_) AllReadyH.nil
  go_simp
  go_at_call 33; refine (of_3 _).mono ?_; rintro e1 v1 ⟨rfl, rfl⟩
  refine hK.out _ _ hHeld (fun hHeld => ?_)
  clear hK K
  try simp only [Act.put, List.setIfInBounds_toArray, List.set_cons_zero, List.set_cons_succ]
  refine wpAnyH_ready (rs := [16]) (by kernel_rfl) (by simp) ?_
  refine AllReadyH.cons (o := Oper.mk _ _ _ _ _ _) rfl (fun K hK => ?_) AllReadyH.nil
  go_simp
  go_at_call 41; refine (HM.out _).mono ?_; rintro e2 w5 ⟨rfl, hc5⟩; have HC5 := Lib.hid (HCW.out.trans hc5 (fun _ _ h => h)); have hs5 : w5.cell? ⟨W.heap.size + 1, 0, none⟩ = some (.int .i64 3) ∧ w5.cell? ⟨W.heap.size + 1, 1, none⟩ = some (.int .i64 (a : Int)) ∧ w5.cell? ⟨W.heap.size + 1, 2, none⟩ = some (.int .i64 (b : Int)) ∧ w5.cell? ⟨W.heap.size + 1, 3, none⟩ = some (.int .i64 (e : Int)) := ⟨(HC5.out.cell (p := ⟨W.heap.size + 1, 0, none⟩) il (fun h => h)).trans i0, (HC5.out.cell (p := ⟨W.heap.size + 1, 1, none⟩) il (fun h => h)).trans i1, (HC5.out.cell (p := ⟨W.heap.size + 1, 2, none⟩) il (fun h => h)).trans i2, (HC5.out.cell (p := ⟨W.heap.size + 1, 3, none⟩) il (fun h => h)).trans i3⟩; have hT5 := HTW.out.kept HC5.out (fun h => h); have HT5 := Lib.hid hT5; have HZ5 := Lib.hid (HZW.out.kept HC5.out (fun h => h)); have k2 : w5.cell? ⟨W.heap.size, 2 + a, none⟩ = some (.int .i64 ra) := (hT5.cell _).trans (HRE.out _ _ _ _); have k3 := hT5.frozen (2 + a); have kl := hT5.lt; clear hT5 hc5
  refine hK.out _ _ hs5 (fun hHeld => ?_)
  clear hK K
  try simp only [Act.put, List.setIfInBounds_toArray, List.set_cons_zero, List.set_cons_succ]
  refine wpAnyH_take (i := 18) (oi := Oper.mk _ _ _ _ _ _) (v := ?v85) rfl (by kernel_rfl) (by kernel_rfl) (by kernel_rfl) (fun _ _ _ h => h) (Or.inl ⟨by rfl, ?hy85⟩) (by assumption) ?rs85
  case hy85 => (intro w hSw; (try dsimp only at hSw); first | (go_simp <;> with_reducible rfl) | rfl)
  try simp only [Act.put, List.setIfInBounds_toArray, List.set_cons_zero, List.set_cons_succ]
  refine wpAnyH_ready (rs := [19]) (by kernel_rfl) (by simp) ?_
  refine AllReadyH.cons (o := Oper.mk _ _ _ _ _ _) rfl (fun K hK => ?_) AllReadyH.nil
  go_simp
  skip
  refine hK.out _ _ (by have hq := ((Chg.refl (fun k => k = W.heap.size) w5).setCell (p := ⟨W.heap.size, 2 + a, none⟩) (.inl rfl) (.int .i64 vv)); exact ⟨(hq.cell (p := ⟨W.heap.size + 1, 0, none⟩) (Nat.lt_of_lt_of_le il HC5.out.size) (by show ¬ W.heap.size + 1 = W.heap.size; omega)).trans hs5.1, (hq.cell (p := ⟨W.heap.size + 1, 1, none⟩) (Nat.lt_of_lt_of_le il HC5.out.size) (by show ¬ W.heap.size + 1 = W.heap.size; omega)).trans hs5.2.1, (hq.cell (p := ⟨W.heap.size + 1, 2, none⟩) (Nat.lt_of_lt_of_le il HC5.out.size) (by show ¬ W.heap.size + 1 = W.heap.size; omega)).trans hs5.2.2.1, (hq.cell (p := ⟨W.heap.size + 1, 3, none⟩) (Nat.lt_of_lt_of_le il HC5.out.size) (by show ¬ W.heap.size + 1 = W.heap.size; omega)).trans hs5.2.2.2⟩) (fun hHeld => ?_)
  clear hK K
  try simp only [Act.put, List.setIfInBounds_toArray, List.set_cons_zero, List.set_cons_succ]
  refine wpAnyH_done (by kernel_rfl) ?_ _
  obtain ⟨w6, hw6⟩ : ∃ w6, w6 = w5.setCell ⟨W.heap.size, 2 + a, none⟩ (.int .i64 vv) := ⟨_, rfl⟩
  rw [← hw6]
  have hT6 : Blk w6 W.heap.size 28 #[.int .i64 f, .int .i64 (pc + 1), .int .i64 s0, .int .i64 s1, .int .i64 s2, .int .i64 s3, .int .i64 s4, .int .i64 s5, .int .i64 s6, .int .i64 s7, .slice D n c, .bool false] := by
    have h := HT5.out.set_ (2 + a) (.int .i64 vv)
    rw [HSE.out] at h
    rw [hw6]
    exact h
  have hZ6 : Blk w6 (W.heap.size + 1 + 1) 28 #[.int .i64 0, .int .i64 0, .int .i64 0, .int .i64 0, .int .i64 0, .int .i64 0, .int .i64 0, .int .i64 0, .int .i64 0, .int .i64 0, .slice none 0 0, .bool false] := by
    rw [hw6]
    exact HZ5.out.far (p := ⟨W.heap.size, 2 + a, none⟩) (show W.heap.size + 1 + 1 ≠ W.heap.size by omega) _
  have HC6 : Hid (Chg (fun _ => False) W w6) := Lib.hid (by
    rw [hw6]
    exact ((((((Chg.refl _ _).alloc _).alloc _).alloc _).trans HC5.out (fun _ _ h => h)).setCell (p := ⟨W.heap.size, 2 + a, none⟩) (.inr (by show W.heap.size ≤ W.heap.size; omega)) _))
  have t0 := hT6.cell 0
  have z0 := hZ6.cell 0
  have y0 := hZ6.frozen 0
  have t1 := hT6.cell 1
  have z1 := hZ6.cell 1
  have y1 := hZ6.frozen 1
  have t2 := hT6.cell 2
  have z2 := hZ6.cell 2
  have y2 := hZ6.frozen 2
  have t3 := hT6.cell 3
  have z3 := hZ6.cell 3
  have y3 := hZ6.frozen 3
  have t4 := hT6.cell 4
  have z4 := hZ6.cell 4
  have y4 := hZ6.frozen 4
  have t5 := hT6.cell 5
  have z5 := hZ6.cell 5
  have y5 := hZ6.frozen 5
  have t6 := hT6.cell 6
  have z6 := hZ6.cell 6
  have y6 := hZ6.frozen 6
  have t7 := hT6.cell 7
  have z7 := hZ6.cell 7
  have y7 := hZ6.frozen 7
  have t8 := hT6.cell 8
  have z8 := hZ6.cell 8
  have y8 := hZ6.frozen 8
  have t9 := hT6.cell 9
  have z9 := hZ6.cell 9
  have y9 := hZ6.frozen 9
  have t10 := hT6.cell 10
  have z10 := hZ6.cell 10
  have y10 := hZ6.frozen 10
  have t11 := hT6.cell 11
  have z11 := hZ6.cell 11
  have y11 := hZ6.frozen 11
  have tl := hT6.lt
  have zl := hZ6.lt
  simp only [List.getElem?_toArray, List.getElem?_cons_zero, List.getElem?_cons_succ] at t0 z0 t1 z1 t2 z2 t3 z3 t4 z4 t5 z5 t6 z6 t7 z7 t8 z8 t9 z9 t10 z10 t11 z11
  have HZ6 := Lib.hid hZ6
  clear hw6 hT6 hZ6 k2 k3
  go_wp2
  refine bodyPost_ret (results_cell_row rfl _ _ (W.heap.size + 1 + 1) 28 #[.int .i64 f, .int .i64 (pc + 1), .int .i64 s0, .int .i64 s1, .int .i64 s2, .int .i64 s3, .int .i64 s4, .int .i64 s5, .int .i64 s6, .int .i64 s7, .slice D n c, .bool false] (0, 0) _ rfl (Blk.set12 _ _ _ _ _ _ _ _ _ _ _ _ HZ6.out) Tryd.underlying28 rfl (by kernel_rfl)) rfl ?_
  exact ⟨rfl, chg12 _ _ _ _ _ _ _ _ _ _ _ _ HC6.out (by omega)⟩
end
end Go.Proofs.YthdkbofnplnidaaDoor
