/- A step of a thread that fits. -/
import Derived.Test.YthdkbofnplnidaaDoorVmB
import Derived.Test.YthdkbofnplnidaaDoorVmE
import Derived.BigRegion
namespace Go.Proofs.YthdkbofnplnidaaDoor
open Go.ChangeShapes Go.WideShapes Go.ChangeAt Go.RowKit Go.Deep
set_option linter.unusedVariables false
set_option linter.unusedSimpArgs false

/-- What an instruction does to a thread whose stack is its own. -/
def DoOk (op a b e N ans : Int) (f pc : Int) (rs : List Int) (es : List (List Int)) (f' pc' : Int) (rs' : List Int) (es' : List (List Int)) (d' : Bool) : Prop :=
  ∀ (V : World) (base : Nat) (D : Option Addr) (n c : Nat), Tab V → Row V base 54 2 D n c (kv es) → base ≤ V.heap.size →
    Calls Tryd.prog 23 #[.agg #[.int .i64 f, .int .i64 pc, .int .i64 (rs.getD 0 0), .int .i64 (rs.getD 1 0), .int .i64 (rs.getD 2 0), .int .i64 (rs.getD 3 0), .int .i64 (rs.getD 4 0), .int .i64 (rs.getD 5 0), .int .i64 (rs.getD 6 0), .int .i64 (rs.getD 7 0), .slice D n c, .bool false], .agg #[.int .i64 op, .int .i64 a, .int .i64 b, .int .i64 e, .int .i64 N], .int .i64 ans] V fun r V' =>
      ∃ D2 n2 c2, r = .returned (.agg #[.int .i64 f', .int .i64 pc', .int .i64 (rs'.getD 0 0), .int .i64 (rs'.getD 1 0), .int .i64 (rs'.getD 2 0), .int .i64 (rs'.getD 3 0), .int .i64 (rs'.getD 4 0), .int .i64 (rs'.getD 5 0), .int .i64 (rs'.getD 6 0), .int .i64 (rs'.getD 7 0), .slice D2 n2 c2, .bool d']) ∧ Row V' base 54 2 D2 n2 c2 (kv es') ∧ Chg (fun g => base ≤ g) V V'
theorem results_cell_row2 {P : Program} {fn : Func} {p u v : Tmp} {ty : TypeId} (h : fn.results = #[.cell p ty, .tmp u, .tmp v]) (tmps : Array Value) (w : World) (g : Nat) (t : TypeId) (cs : Array Value) (fr : Nat × Nat) (d : TypeDesc)
    (hp : tmps.getD p undef = .pointer (some ⟨g, 0, none⟩)) (hg : w.heap[g]? = some (.cells cs t fr))
    (hu : P.underlying ty = some d) (hd : (match d with | .struct _ | .array _ _ => true | _ => false) = true) (hi : (P.info? ty).map (·.size) = some cs.size) :
    (results fn tmps).run P w = .ok (.tuple #[.agg cs, tmps.getD u undef, tmps.getD v undef]) w := by
  have hp' : tmps[p]?.getD undef = .pointer (some ⟨g, 0, none⟩) := by simpa using hp
  simp [results, h, hp', asAddr, run_loadVar_row w g t ty cs fr d hg hu hd hi]
def numF (op a ans : Int) (rs : List Int) : Int := if akI op = true then ans else if op = 15 then rs.getD a.toNat 0 else 0
section
variable {W : World} {A : Option Addr} {m : Nat} {Ac : Nat → Option Addr} {nc cc : Nat → Nat} {As : Nat → Option Addr} {ns cs : Nat → Nat} {code : Nat → List (List Int)} {safe : Nat → List Bool}
set_option maxRecDepth 100000 in
set_option maxHeartbeats 16000000 in
theorem step_any (c : Nat) (hP : PM W A m Ac nc cc As ns cs code safe) (hT : Tab W) (hm : m ≤ 100) (f pc : Nat) (rs : List Int) (hl : rs.length = 8) (D : Option Addr) (n cap : Nat) (es : List (List Int)) (hu : Uni 2 es) (hD : Rd W 2 D n (kv es)) (hn : n ≤ 1000)
    (hfit : fitsF m nc code safe f pc es false = true) (hfm : f < m) (hpc : pc < nc f) (op b e N ans : Int) (a : Nat) (ha : a < 8)
    (i0 : ipart (code f) pc 0 = op) (i1 : ipart (code f) pc 1 = a) (i2 : ipart (code f) pc 2 = b) (i3 : ipart (code f) pc 3 = e) (i4 : ipart (code f) pc 4 = N)
    (f' pc' : Int) (rs' : List Int) (es' : List (List Int)) (d' : Bool) (hdo : DoOk op a b e N ans f pc rs es f' pc' rs' es' d') :
    Calls Tryd.prog 10 #[.agg #[.slice A m c], .agg #[.int .i64 (f : Int), .int .i64 (pc : Int), .int .i64 (rs.getD 0 0), .int .i64 (rs.getD 1 0), .int .i64 (rs.getD 2 0), .int .i64 (rs.getD 3 0), .int .i64 (rs.getD 4 0), .int .i64 (rs.getD 5 0), .int .i64 (rs.getD 6 0), .int .i64 (rs.getD 7 0), .slice D n cap, .bool false], .int .i64 ans] W fun r W' =>
      ∃ D2 n2 c2, r = .returned (.tuple #[.agg #[.int .i64 f', .int .i64 pc', .int .i64 (rs'.getD 0 0), .int .i64 (rs'.getD 1 0), .int .i64 (rs'.getD 2 0), .int .i64 (rs'.getD 3 0), .int .i64 (rs'.getD 4 0), .int .i64 (rs'.getD 5 0), .int .i64 (rs'.getD 6 0), .int .i64 (rs'.getD 7 0), .slice D2 n2 c2, .bool d'], .int .i64 (numF op a ans rs), .bool true]) ∧ Rd W' 2 D2 n2 (kv es') ∧ Chg (fun _ => False) W W' := by
  obtain ⟨r0, r1, r2, r3, r4, r5, r6, r7, rfl⟩ := eight hl
  obtain ⟨ra, hra, raE⟩ := get8 (r0 := r0) (r1 := r1) (r2 := r2) (r3 := r3) (r4 := r4) (r5 := r5) (r6 := r6) (r7 := r7) ha
  have hnum : numF op a ans [r0, r1, r2, r3, r4, r5, r6, r7] = if akI op = true then ans else if op = 15 then ra else 0 := by unfold numF; rw [← hra]; rfl
  obtain ⟨num, hnu⟩ : ∃ num, num = (if akI op = true then ans else if op = 15 then ra else 0) := ⟨_, rfl⟩
  rw [hnum, ← hnu]
  unfold DoOk at hdo
  simp only [List.getD_cons_zero, List.getD_cons_succ] at hdo ⊢
  generalize rs'.getD 0 0 = s0, rs'.getD 1 0 = s1, rs'.getD 2 0 = s2, rs'.getD 3 0 = s3, rs'.getD 4 0 = s4, rs'.getD 5 0 = s5, rs'.getD 6 0 = s6, rs'.getD 7 0 = s7 at hdo ⊢
  have HDO := Lib.hid hdo
  have HNU := Lib.hid hnu
  have HRA := Lib.hid raE
  have hc0 : Chg (fun _ => False) W (((W.alloc (.cells #[.slice A m c] 24)).alloc (.cells #[.int .i64 (f : Int), .int .i64 (pc : Int), .int .i64 r0, .int .i64 r1, .int .i64 r2, .int .i64 r3, .int .i64 r4, .int .i64 r5, .int .i64 r6, .int .i64 r7, .slice D n cap, .bool false] 28)).alloc (.cells #[.int .i64 0, .int .i64 0, .int .i64 0, .int .i64 0, .int .i64 0, .int .i64 0, .int .i64 0, .int .i64 0, .int .i64 0, .int .i64 0, .slice none 0 0, .bool false] 28)) := (((Chg.refl _ _).alloc _).alloc _).alloc _
  have HC0 := Lib.hid hc0
  have HB0 : Hid (Blk (((W.alloc (.cells #[.slice A m c] 24)).alloc (.cells #[.int .i64 (f : Int), .int .i64 (pc : Int), .int .i64 r0, .int .i64 r1, .int .i64 r2, .int .i64 r3, .int .i64 r4, .int .i64 r5, .int .i64 r6, .int .i64 r7, .slice D n cap, .bool false] 28)).alloc (.cells #[.int .i64 0, .int .i64 0, .int .i64 0, .int .i64 0, .int .i64 0, .int .i64 0, .int .i64 0, .int .i64 0, .int .i64 0, .int .i64 0, .slice none 0 0, .bool false] 28)) W.heap.size 24 #[.slice A m c]) := Lib.hid (blk1 W _ _ _ _)
  have HT0 : Hid (Blk (((W.alloc (.cells #[.slice A m c] 24)).alloc (.cells #[.int .i64 (f : Int), .int .i64 (pc : Int), .int .i64 r0, .int .i64 r1, .int .i64 r2, .int .i64 r3, .int .i64 r4, .int .i64 r5, .int .i64 r6, .int .i64 r7, .slice D n cap, .bool false] 28)).alloc (.cells #[.int .i64 0, .int .i64 0, .int .i64 0, .int .i64 0, .int .i64 0, .int .i64 0, .int .i64 0, .int .i64 0, .int .i64 0, .int .i64 0, .slice none 0 0, .bool false] 28)) (W.heap.size + 1) 28 #[.int .i64 (f : Int), .int .i64 (pc : Int), .int .i64 r0, .int .i64 r1, .int .i64 r2, .int .i64 r3, .int .i64 r4, .int .i64 r5, .int .i64 r6, .int .i64 r7, .slice D n cap, .bool false]) := Lib.hid (blk2 W _ _ _ _)
  have HZ0 : Hid (Blk (((W.alloc (.cells #[.slice A m c] 24)).alloc (.cells #[.int .i64 (f : Int), .int .i64 (pc : Int), .int .i64 r0, .int .i64 r1, .int .i64 r2, .int .i64 r3, .int .i64 r4, .int .i64 r5, .int .i64 r6, .int .i64 r7, .slice D n cap, .bool false] 28)).alloc (.cells #[.int .i64 0, .int .i64 0, .int .i64 0, .int .i64 0, .int .i64 0, .int .i64 0, .int .i64 0, .int .i64 0, .int .i64 0, .int .i64 0, .slice none 0 0, .bool false] 28)) (W.heap.size + 1 + 1) 28 #[.int .i64 0, .int .i64 0, .int .i64 0, .int .i64 0, .int .i64 0, .int .i64 0, .int .i64 0, .int .i64 0, .int .i64 0, .int .i64 0, .slice none 0 0, .bool false]) := Lib.hid (blk3 W _ _ _ _)
  have HF := Lib.hid (fits_any c (hP.chg hc0) (hT.chg hc0) hm f pc r0 r1 r2 r3 r4 r5 r6 r7 D n cap false es hu (hD.kept hc0 (fun _ _ h => h)) hn)
  rw [hfit] at HF
  have HP := Lib.hid hP
  have HT := Lib.hid hT
  have HD := Lib.hid hD
  have HU := Lib.hid hu
  clear hP hT hD hu hfit hdo hnum hnu hc0 raE hra
  go_enter Tryd.func10, Tryd.ntmps10
  go_wp2_with fail
  refine HF.out.mono ?_
  rintro e1 w2 ⟨rfl, hc2⟩
  have HC2 := Lib.hid (HC0.out.trans hc2 (fun _ _ h => h))
  have HB2 := Lib.hid (HB0.out.kept hc2 (fun h => h))
  have HT2 := Lib.hid (HT0.out.kept hc2 (fun h => h))
  have HZ2 := Lib.hid (HZ0.out.kept hc2 (fun h => h))
  clear hc2
  have t0 := HT2.out.cell 0
  have t1 := HT2.out.cell 1
  have t2 := HT2.out.cell 2
  have t3 := HT2.out.cell 3
  have t4 := HT2.out.cell 4
  have t5 := HT2.out.cell 5
  have t6 := HT2.out.cell 6
  have t7 := HT2.out.cell 7
  have t8 := HT2.out.cell 8
  have t9 := HT2.out.cell 9
  have t10 := HT2.out.cell 10
  have t11 := HT2.out.cell 11
  have tl := HT2.out.lt
  simp at t0 t1 t2 t3 t4 t5 t6 t7 t8 t9 t10 t11
  go_wp2_with fail
  refine (tclone_any f pc r0 r1 r2 r3 r4 r5 r6 r7 D n cap false es w2 HU.out (HD.out.kept HC2.out (fun _ _ h => h)) hn).mono ?_
  rintro e2 w3 ⟨D3, c3, rfl, hr3, hc3⟩
  have HC3 := Lib.hid (HC2.out.trans hc3 (fun _ _ h => h))
  have HB3 := Lib.hid (HB2.out.kept hc3 (fun h => h))
  have HT3 := Lib.hid (HT2.out.kept hc3 (fun h => h))
  have HZ3 := Lib.hid (HZ2.out.kept hc3 (fun h => h))
  have HR3 := Lib.hid hr3
  have HS2 := Lib.hid HC2.out.size
  have HSZ23 := Lib.hid hc3.size
  clear hc3 hr3 t0 t1 t2 t3 t4 t5 t6 t7 t8 t9 t10 t11 tl
  have t0 := HT3.out.cell 0
  have y0 := HT3.out.frozen 0
  have t1 := HT3.out.cell 1
  have y1 := HT3.out.frozen 1
  have t2 := HT3.out.cell 2
  have y2 := HT3.out.frozen 2
  have t3 := HT3.out.cell 3
  have y3 := HT3.out.frozen 3
  have t4 := HT3.out.cell 4
  have y4 := HT3.out.frozen 4
  have t5 := HT3.out.cell 5
  have y5 := HT3.out.frozen 5
  have t6 := HT3.out.cell 6
  have y6 := HT3.out.frozen 6
  have t7 := HT3.out.cell 7
  have y7 := HT3.out.frozen 7
  have t8 := HT3.out.cell 8
  have y8 := HT3.out.frozen 8
  have t9 := HT3.out.cell 9
  have y9 := HT3.out.frozen 9
  have t10 := HT3.out.cell 10
  have y10 := HT3.out.frozen 10
  have t11 := HT3.out.cell 11
  have y11 := HT3.out.frozen 11
  have tl := HT3.out.lt
  simp at t0 t1 t2 t3 t4 t5 t6 t7 t8 t9 t10 t11
  obtain ⟨w4, hw4⟩ : ∃ w4, w4 = ((((((((((((w3.setCell ⟨W.heap.size + 1, 0, none⟩ (.int .i64 (f : Int))).setCell ⟨W.heap.size + 1, 1, none⟩ (.int .i64 (pc : Int))).setCell ⟨W.heap.size + 1, 2, none⟩ (.int .i64 r0)).setCell ⟨W.heap.size + 1, 3, none⟩ (.int .i64 r1)).setCell ⟨W.heap.size + 1, 4, none⟩ (.int .i64 r2)).setCell ⟨W.heap.size + 1, 5, none⟩ (.int .i64 r3)).setCell ⟨W.heap.size + 1, 6, none⟩ (.int .i64 r4)).setCell ⟨W.heap.size + 1, 7, none⟩ (.int .i64 r5)).setCell ⟨W.heap.size + 1, 8, none⟩ (.int .i64 r6)).setCell ⟨W.heap.size + 1, 9, none⟩ (.int .i64 r7)).setCell ⟨W.heap.size + 1, 10, none⟩ (.slice D3 n c3)).setCell ⟨W.heap.size + 1, 11, none⟩ (.bool false)) := ⟨_, rfl⟩
  go_wp2_with fail
  rw [← hw4]
  have HT4 : Hid (Blk w4 (W.heap.size + 1) 28 #[.int .i64 (f : Int), .int .i64 (pc : Int), .int .i64 r0, .int .i64 r1, .int .i64 r2, .int .i64 r3, .int .i64 r4, .int .i64 r5, .int .i64 r6, .int .i64 r7, .slice D3 n c3, .bool false]) := Lib.hid (by rw [hw4]; exact Blk.set12 _ _ _ _ _ _ _ _ _ _ _ _ HT3.out)
  have hc34 : Chg (fun g => g = W.heap.size + 1) w3 w4 := by rw [hw4]; exact chg12s _ _ _ _ _ _ _ _ _ _ _ _
  have HC4 : Hid (Chg (fun _ => False) W w4) := Lib.hid (HC3.out.trans hc34 (fun k hk h => by have h' : k = W.heap.size + 1 := h; omega))
  have HB4 := Lib.hid (HB3.out.kept hc34 (by omega))
  have HZ4 := Lib.hid (HZ3.out.kept hc34 (by omega))
  have HR4 := Lib.hid (HR3.out.kept hc34 (fun g hg h => by have := (HR3.out.blk_lt g hg).1; have := HS2.out; have h' : g = W.heap.size + 1 := h; have := HT2.out.lt; omega))
  have HSZ4 := Lib.hid (Nat.le_trans (show w2.heap.size ≤ w3.heap.size from HSZ23.out) hc34.size)
  clear hw4 hc34 t0 y0 t1 y1 t2 y2 t3 y3 t4 y4 t5 y5 t6 y6 t7 y7 t8 y8 t9 y9 t10 y10 t11 y11 tl
  have hPM4 := HP.out.chg HC4.out
  obtain ⟨bF, oF, hA, hbF, hcc⟩ := hPM4.cells (by omega)
  subst hA
  obtain ⟨e0, e1⟩ := hcc f hfm
  obtain ⟨bi, oi, hAc, hbi, c0, c1, c2, c3', c4⟩ := (hPM4.fn f hfm).instr hpc
  rw [hAc] at e0
  rw [i0] at c0
  rw [i1] at c1
  rw [i2] at c2
  rw [i3] at c3'
  rw [i4] at c4
  clear i0 i1 i2 i3 i4
  have p0 := HB4.out.cell 0
  have u0 := HT4.out.cell 0
  have u1 := HT4.out.cell 1
  have pl := HB4.out.lt
  have ul := HT4.out.lt
  simp at p0 u0 u1
  have f0 : (0 : Int) ≤ f := by omega
  have f1 : (f : Int) < m := by omega
  have pc0 : (0 : Int) ≤ pc := by omega
  have pc1 : (pc : Int) < nc f := by omega
  generalize nc f = nf at *
  generalize cc f = cf at *
  clear hcc hPM4 hAc e1
  go_region
  have HC5 : Hid (Chg (fun _ => False) W (w4.alloc (.cells #[.int .i64 op, .int .i64 (a : Int), .int .i64 b, .int .i64 e, .int .i64 N] 32)).drew) := Lib.hid (HC4.out.alloc _).drew
  have HA := Lib.hid (asks_any op (w4.alloc (.cells #[.int .i64 op, .int .i64 (a : Int), .int .i64 b, .int .i64 e, .int .i64 N] 32)).drew (HT.out.chg HC5.out))
  have HI5 : Hid (Blk (w4.alloc (.cells #[.int .i64 op, .int .i64 (a : Int), .int .i64 b, .int .i64 e, .int .i64 N] 32)).drew w4.heap.size 32 #[.int .i64 op, .int .i64 (a : Int), .int .i64 b, .int .i64 e, .int .i64 N]) := Lib.hid (Blk.new w4 32 _).drew
  go_wp2_with fail
  refine HA.out.mono ?_
  rintro e5 w6 ⟨rfl, hc6⟩
  have hT6 := ((HT4.out.alloc (.cells #[.int .i64 op, .int .i64 (a : Int), .int .i64 b, .int .i64 e, .int .i64 N] 32)).drew).kept hc6 (fun h => h)
  have hZ6 := ((HZ4.out.alloc (.cells #[.int .i64 op, .int .i64 (a : Int), .int .i64 b, .int .i64 e, .int .i64 N] 32)).drew).kept hc6 (fun h => h)
  have hI6 := HI5.out.kept hc6 (fun h => h)
  have HC6 := Lib.hid (HC5.out.trans hc6 (fun _ _ h => h))
  have HR6 := Lib.hid (((HR4.out.alloc (.cells #[.int .i64 op, .int .i64 (a : Int), .int .i64 b, .int .i64 e, .int .i64 N] 32)).drew).kept hc6 (fun _ _ h => h))
  have hsz6 : w4.heap.size ≤ w6.heap.size := Nat.le_trans (by simp) hc6.size
  have HDO6 := Lib.hid (HDO.out w6 w2.heap.size D3 n c3 (HT.out.chg HC6.out) HR6.out (Nat.le_trans HSZ4.out hsz6))
  have HZ6 := Lib.hid hZ6
  have HLT := Lib.hid (show W.heap.size + 1 + 1 < w2.heap.size from HZ2.out.lt)
  have ha0 : (0 : Int) ≤ a := by omega
  have ha8 : (a : Int) < 8 := by omega
  have k2 : w6.cell? ⟨W.heap.size + 1, 2 + a, none⟩ = some (.int .i64 ra) := (hT6.cell _).trans (HRA.out _ _ _ _)
  clear p0 u0 u1 c0 c1 c2 c3' c4 e0 hc6
  have t0 := hT6.cell 0
  have t1 := hT6.cell 1
  have t2 := hT6.cell 2
  have t3 := hT6.cell 3
  have t4 := hT6.cell 4
  have t5 := hT6.cell 5
  have t6 := hT6.cell 6
  have t7 := hT6.cell 7
  have t8 := hT6.cell 8
  have t9 := hT6.cell 9
  have t10 := hT6.cell 10
  have t11 := hT6.cell 11
  have j0 := hI6.cell 0
  have j1 := hI6.cell 1
  have j2 := hI6.cell 2
  have j3 := hI6.cell 3
  have j4 := hI6.cell 4
  have tl := hT6.lt
  have jl := hI6.lt
  simp at t0 t1 t2 t3 t4 t5 t6 t7 t8 t9 t10 t11 j0 j1 j2 j3 j4
  clear hT6 hI6 hZ6
  cases hk : akI op with
  | true =>
    rw [hk] at HNU
    simp only [if_true] at HNU
    go_wp2_with (go_at_call 23; refine HDO6.out.mono ?_; rintro e7 w7 ⟨D2, n2, c2', rfl, hr7, hc7⟩; have HR7 := Lib.hid hr7; have HC7 := Lib.hid (HC6.out.trans hc7 (fun k hk h => by have := HC2.out.size; have h' : w2.heap.size ≤ k := h; omega)); have hZ7 := HZ6.out.kept hc7 (fun h => by have h' : w2.heap.size ≤ W.heap.size + 1 + 1 := h; have := HLT.out; omega); have HZ7 := Lib.hid hZ7; have z0 := hZ7.cell 0; have y0 := hZ7.frozen 0; have z1 := hZ7.cell 1; have y1 := hZ7.frozen 1; have z2 := hZ7.cell 2; have y2 := hZ7.frozen 2; have z3 := hZ7.cell 3; have y3 := hZ7.frozen 3; have z4 := hZ7.cell 4; have y4 := hZ7.frozen 4; have z5 := hZ7.cell 5; have y5 := hZ7.frozen 5; have z6 := hZ7.cell 6; have y6 := hZ7.frozen 6; have z7 := hZ7.cell 7; have y7 := hZ7.frozen 7; have z8 := hZ7.cell 8; have y8 := hZ7.frozen 8; have z9 := hZ7.cell 9; have y9 := hZ7.frozen 9; have z10 := hZ7.cell 10; have y10 := hZ7.frozen 10; have z11 := hZ7.cell 11; have y11 := hZ7.frozen 11; have zl := hZ7.lt; simp at z0 z1 z2 z3 z4 z5 z6 z7 z8 z9 z10 z11; clear hr7 hc7 hZ7)
    refine bodyPost_ret (results_cell_row2 rfl _ _ (W.heap.size + 1 + 1) 28 #[.int .i64 f', .int .i64 pc', .int .i64 s0, .int .i64 s1, .int .i64 s2, .int .i64 s3, .int .i64 s4, .int .i64 s5, .int .i64 s6, .int .i64 s7, .slice D2 n2 c2', .bool d'] (0, 0) _ rfl (Blk.set12 _ _ _ _ _ _ _ _ _ _ _ _ HZ7.out) Tryd.underlying28 rfl (by kernel_rfl)) rfl ?_
    rw [HNU.out]
    exact ⟨D2, n2, c2', rfl, (row12 _ _ _ _ _ _ _ _ _ _ _ _ HR7.out (fun h => by have := (HR7.out.blk_lt _ h).1; have := HLT.out; omega)).rd, chg12 _ _ _ _ _ _ _ _ _ _ _ _ HC7.out (by omega)⟩
  | false =>
    rw [hk] at HNU
    simp only [Bool.false_eq_true, if_false] at HNU
    by_cases h15 : op = 15
    · subst h15
      simp only [if_true] at HNU
      go_wp2_with (go_at_call 23; refine HDO6.out.mono ?_; rintro e7 w7 ⟨D2, n2, c2', rfl, hr7, hc7⟩; have HR7 := Lib.hid hr7; have HC7 := Lib.hid (HC6.out.trans hc7 (fun k hk h => by have := HC2.out.size; have h' : w2.heap.size ≤ k := h; omega)); have hZ7 := HZ6.out.kept hc7 (fun h => by have h' : w2.heap.size ≤ W.heap.size + 1 + 1 := h; have := HLT.out; omega); have HZ7 := Lib.hid hZ7; have z0 := hZ7.cell 0; have y0 := hZ7.frozen 0; have z1 := hZ7.cell 1; have y1 := hZ7.frozen 1; have z2 := hZ7.cell 2; have y2 := hZ7.frozen 2; have z3 := hZ7.cell 3; have y3 := hZ7.frozen 3; have z4 := hZ7.cell 4; have y4 := hZ7.frozen 4; have z5 := hZ7.cell 5; have y5 := hZ7.frozen 5; have z6 := hZ7.cell 6; have y6 := hZ7.frozen 6; have z7 := hZ7.cell 7; have y7 := hZ7.frozen 7; have z8 := hZ7.cell 8; have y8 := hZ7.frozen 8; have z9 := hZ7.cell 9; have y9 := hZ7.frozen 9; have z10 := hZ7.cell 10; have y10 := hZ7.frozen 10; have z11 := hZ7.cell 11; have y11 := hZ7.frozen 11; have zl := hZ7.lt; simp at z0 z1 z2 z3 z4 z5 z6 z7 z8 z9 z10 z11; clear hr7 hc7 hZ7)
      refine bodyPost_ret (results_cell_row2 rfl _ _ (W.heap.size + 1 + 1) 28 #[.int .i64 f', .int .i64 pc', .int .i64 s0, .int .i64 s1, .int .i64 s2, .int .i64 s3, .int .i64 s4, .int .i64 s5, .int .i64 s6, .int .i64 s7, .slice D2 n2 c2', .bool d'] (0, 0) _ rfl (Blk.set12 _ _ _ _ _ _ _ _ _ _ _ _ HZ7.out) Tryd.underlying28 rfl (by kernel_rfl)) rfl ?_
      rw [HNU.out]
      exact ⟨D2, n2, c2', rfl, (row12 _ _ _ _ _ _ _ _ _ _ _ _ HR7.out (fun h => by have := (HR7.out.blk_lt _ h).1; have := HLT.out; omega)).rd, chg12 _ _ _ _ _ _ _ _ _ _ _ _ HC7.out (by omega)⟩
    · have o15 : (op == 15) = false := beq_eq_false_iff_ne.2 h15
      rw [if_neg h15] at HNU
      go_wp2_with (go_at_call 23; refine HDO6.out.mono ?_; rintro e7 w7 ⟨D2, n2, c2', rfl, hr7, hc7⟩; have HR7 := Lib.hid hr7; have HC7 := Lib.hid (HC6.out.trans hc7 (fun k hk h => by have := HC2.out.size; have h' : w2.heap.size ≤ k := h; omega)); have hZ7 := HZ6.out.kept hc7 (fun h => by have h' : w2.heap.size ≤ W.heap.size + 1 + 1 := h; have := HLT.out; omega); have HZ7 := Lib.hid hZ7; have z0 := hZ7.cell 0; have y0 := hZ7.frozen 0; have z1 := hZ7.cell 1; have y1 := hZ7.frozen 1; have z2 := hZ7.cell 2; have y2 := hZ7.frozen 2; have z3 := hZ7.cell 3; have y3 := hZ7.frozen 3; have z4 := hZ7.cell 4; have y4 := hZ7.frozen 4; have z5 := hZ7.cell 5; have y5 := hZ7.frozen 5; have z6 := hZ7.cell 6; have y6 := hZ7.frozen 6; have z7 := hZ7.cell 7; have y7 := hZ7.frozen 7; have z8 := hZ7.cell 8; have y8 := hZ7.frozen 8; have z9 := hZ7.cell 9; have y9 := hZ7.frozen 9; have z10 := hZ7.cell 10; have y10 := hZ7.frozen 10; have z11 := hZ7.cell 11; have y11 := hZ7.frozen 11; have zl := hZ7.lt; simp at z0 z1 z2 z3 z4 z5 z6 z7 z8 z9 z10 z11; clear hr7 hc7 hZ7)
      refine bodyPost_ret (results_cell_row2 rfl _ _ (W.heap.size + 1 + 1) 28 #[.int .i64 f', .int .i64 pc', .int .i64 s0, .int .i64 s1, .int .i64 s2, .int .i64 s3, .int .i64 s4, .int .i64 s5, .int .i64 s6, .int .i64 s7, .slice D2 n2 c2', .bool d'] (0, 0) _ rfl (Blk.set12 _ _ _ _ _ _ _ _ _ _ _ _ HZ7.out) Tryd.underlying28 rfl (by kernel_rfl)) rfl ?_
      rw [HNU.out]
      exact ⟨D2, n2, c2', rfl, (row12 _ _ _ _ _ _ _ _ _ _ _ _ HR7.out (fun h => by have := (HR7.out.blk_lt _ h).1; have := HLT.out; omega)).rd, chg12 _ _ _ _ _ _ _ _ _ _ _ _ HC7.out (by omega)⟩
end
end Go.Proofs.YthdkbofnplnidaaDoor
