/- What must come at any rate. -/
import Derived.Test.YthdkbofnplnidaaDoorVmF
namespace Go.Proofs.YthdkbofnplnidaaDoor
open Go.ChangeShapes Go.WideShapes Go.ChangeAt Go.RowKit Go.Deep
set_option linter.unusedVariables false
set_option linter.unusedSimpArgs false

section
variable {rs : List Int} {es : List (List Int)}
theorem dook_const (a : Nat) (ha : a < 8) (hl : rs.length = 8) (b e N ans f pc : Int) (hp0 : 0 ≤ pc) (hp : pc ≤ 1000) : DoOk 1 a b e N ans f pc rs es f (pc + 1) (rs.set a N) es false := by
  intro V base D n c hT hR hb
  refine (do_const V a ha hl hp0 hp).mono ?_
  rintro r V' ⟨rfl, hc⟩
  exact ⟨D, n, c, rfl, hR.kept hc (fun _ _ h => h), hc.mono (fun _ _ h => h.elim)⟩
theorem dook_plain (hl : rs.length = 8) (op a b e N ans f pc : Int) (hp0 : 0 ≤ pc) (hp : pc ≤ 1000) (hne : op ≠ 1 ∧ op ≠ 2 ∧ op ≠ 3 ∧ op ≠ 4 ∧ op ≠ 5 ∧ op ≠ 7 ∧ op ≠ 6 ∧ op ≠ 8 ∧ op ≠ 9 ∧ op ≠ 14) (hk : akI op = false) : DoOk op a b e N ans f pc rs es f (pc + 1) rs es false := by
  intro V base D n c hT hR hb
  refine (do_plain V a op hl hp0 hp hT hne hk).mono ?_
  rintro r V' ⟨rfl, hc⟩
  exact ⟨D, n, c, rfl, hR.kept hc (fun _ _ h => h), hc.mono (fun _ _ h => h.elim)⟩
theorem dook_exit (hl : rs.length = 8) (a b e N ans f pc : Int) (hp0 : 0 ≤ pc) (hp : pc ≤ 1000) : DoOk 14 a b e N ans f pc rs es 0 0 [0, 0, 0, 0, 0, 0, 0, 0] [] true := by
  intro V base D n c hT hR hb
  refine (do_exit V a hl hp0 hp).mono ?_
  rintro r V' ⟨rfl, hc⟩
  exact ⟨none, 0, 0, rfl, Row.nil _ _ _ _, hc.mono (fun _ _ h => h.elim)⟩
end
abbrev codeB : Array Value := #[.int .i64 1, .int .i64 0, .int .i64 0, .int .i64 0, .int .i64 5, .int .i64 15, .int .i64 0, .int .i64 0, .int .i64 0, .int .i64 0, .int .i64 14, .int .i64 0, .int .i64 0, .int .i64 0, .int .i64 0]
abbrev cdL : List (List Int) := [[1, 0, 0, 0, 5], [15, 0, 0, 0, 0], [14, 0, 0, 0, 0]]
theorem exPM {W : World} {C S F : Nat} (hC : Blk W C 32 codeB) (hS : Blk W S 4 #[.bool false, .bool false, .bool false]) (hF : Blk W F 48 #[.slice (some ⟨C, 0, none⟩) 3 3, .slice (some ⟨S, 0, none⟩) 3 3]) :
    PM W (some ⟨F, 0, none⟩) 1 (fun _ => some ⟨C, 0, none⟩) (fun _ => 3) (fun _ => 3) (fun _ => some ⟨S, 0, none⟩) (fun _ => 3) (fun _ => 3) (fun _ => cdL) (fun _ => [false, false, false]) := by
  refine ⟨fun _ => ⟨F, 0, rfl, hF.lt, fun i hi => ?_⟩, fun i hi => ⟨⟨rfl, fun _ => ⟨C, 0, rfl, hC.lt, fun j u hu => ?_⟩⟩, fun e he => ?_, ⟨rfl, fun _ => ⟨S, 0, rfl, hS.lt, fun j u hu => ?_⟩⟩⟩, fun i hi => ⟨by decide, by decide, by decide, by decide⟩⟩
  · obtain rfl : i = 0 := by omega
    exact ⟨hF.cell 0, hF.cell 1⟩
  · rw [Nat.zero_add, hC.cell]
    have e : codeB.toList = kv cdL := rfl
    rw [← e] at hu
    simpa using hu
  · simp at he
    rcases he with rfl | rfl | rfl <;> rfl
  · rw [Nat.zero_add, hS.cell]
    have e : (#[Value.bool false, Value.bool false, Value.bool false] : Array Value).toList = bls [false, false, false] := rfl
    rw [← e] at hu
    simpa using hu
theorem blk_next {w : World} {o : Obj} {n : Nat} {t : TypeId} {cs : Array Value} (hn : (w.alloc o).heap.size = n) : Blk ((w.alloc o).alloc (.cells cs t)) n t cs := hn ▸ Blk.new _ _ _
theorem asz {w : World} {o : Obj} {n : Nat} (h : w.heap.size = n) : (w.alloc o).heap.size = n + 1 := by simp [h]
abbrev w1of (W : World) : World := W.alloc (.cells codeB 32)
abbrev w2of (W : World) : World := (w1of W).alloc (.cells #[.bool false, .bool false, .bool false] 4)
abbrev w3of (W : World) : World := (w2of W).alloc (.cells #[.slice (some ⟨W.heap.size, 0, none⟩) 3 3, .slice (some ⟨W.heap.size + 1, 0, none⟩) 3 3] 48)
abbrev w4of (W : World) : World := (w3of W).alloc (.cells #[.slice (some ⟨W.heap.size + 1 + 1, 0, none⟩) 1 1] 24)
theorem chg4 (W : World) : Chg (fun _ => False) W (w4of W) := ((((Chg.refl _ _).alloc _).alloc _).alloc _).alloc _
structure Lit (w : World) (N : Nat) : Prop where
  t : Tab w
  c : Blk w N 32 codeB
  s : Blk w (N + 1) 4 #[.bool false, .bool false, .bool false]
  f : Blk w (N + 1 + 1) 48 #[.slice (some ⟨N, 0, none⟩) 3 3, .slice (some ⟨N + 1, 0, none⟩) 3 3]
  p : Blk w (N + 1 + 1 + 1) 24 #[.slice (some ⟨N + 1 + 1, 0, none⟩) 1 1]
theorem Lit.kept {w w' : World} {N : Nat} (h : Lit w N) (hc : Chg (fun _ => False) w w') : Lit w' N :=
  ⟨h.t.chg hc, h.c.kept hc (fun h => h), h.s.kept hc (fun h => h), h.f.kept hc (fun h => h), h.p.kept hc (fun h => h)⟩
theorem lit4 (W : World) (hT : Tab W) : Lit (w4of W) W.heap.size :=
  ⟨(((hT.alloc _).alloc _).alloc _).alloc _, (((Blk.new _ _ _).alloc _).alloc _).alloc _, ((blk_next (asz rfl)).alloc _).alloc _, (blk_next (asz (asz rfl))).alloc _, blk_next (asz (asz (asz rfl)))⟩
theorem stp1 {V : World} {K : Nat} (L : Lit V K) (D : Option Addr) (n c : Nat) (hD : Rd V 2 D n (kv [])) :
    Calls Tryd.prog 10 #[.agg #[.slice (some ⟨K + 1 + 1, 0, none⟩) 1 1], .agg #[.int .i64 0, .int .i64 0, .int .i64 0, .int .i64 0, .int .i64 0, .int .i64 0, .int .i64 0, .int .i64 0, .int .i64 0, .int .i64 0, .slice D n c, .bool false], .int .i64 0] V fun r V' =>
      ∃ D2 n2 c2, r = .returned (.tuple #[.agg #[.int .i64 0, .int .i64 1, .int .i64 5, .int .i64 0, .int .i64 0, .int .i64 0, .int .i64 0, .int .i64 0, .int .i64 0, .int .i64 0, .slice D2 n2 c2, .bool false], .int .i64 0, .bool true]) ∧ Rd V' 2 D2 n2 (kv []) ∧ Chg (fun _ => False) V V' :=
  step_any 1 (exPM L.c L.s L.f) L.t (by decide) 0 0 [0, 0, 0, 0, 0, 0, 0, 0] rfl D n c [] (Uni.nil 2) hD (by have := hD.lenk (Uni.nil 2) (by decide); simp at this; omega) (by decide) (by decide) (by decide) 1 0 0 5 0 0 (by decide) rfl rfl rfl rfl rfl 0 1 [5, 0, 0, 0, 0, 0, 0, 0] [] false (dook_const 0 (by decide) rfl 0 0 5 0 0 0 (by decide) (by decide))
theorem stp2 {V : World} {K : Nat} (L : Lit V K) (D : Option Addr) (n c : Nat) (hD : Rd V 2 D n (kv [])) :
    Calls Tryd.prog 10 #[.agg #[.slice (some ⟨K + 1 + 1, 0, none⟩) 1 1], .agg #[.int .i64 0, .int .i64 1, .int .i64 5, .int .i64 0, .int .i64 0, .int .i64 0, .int .i64 0, .int .i64 0, .int .i64 0, .int .i64 0, .slice D n c, .bool false], .int .i64 0] V fun r V' =>
      ∃ D2 n2 c2, r = .returned (.tuple #[.agg #[.int .i64 0, .int .i64 2, .int .i64 5, .int .i64 0, .int .i64 0, .int .i64 0, .int .i64 0, .int .i64 0, .int .i64 0, .int .i64 0, .slice D2 n2 c2, .bool false], .int .i64 5, .bool true]) ∧ Rd V' 2 D2 n2 (kv []) ∧ Chg (fun _ => False) V V' :=
  step_any 1 (exPM L.c L.s L.f) L.t (by decide) 0 1 [5, 0, 0, 0, 0, 0, 0, 0] rfl D n c [] (Uni.nil 2) hD (by have := hD.lenk (Uni.nil 2) (by decide); simp at this; omega) (by decide) (by decide) (by decide) 15 0 0 0 0 0 (by decide) rfl rfl rfl rfl rfl 0 2 [5, 0, 0, 0, 0, 0, 0, 0] [] false (dook_plain rfl 15 0 0 0 0 0 0 1 (by decide) (by decide) (by decide) (by decide))
theorem stp3 {V : World} {K : Nat} (L : Lit V K) (D : Option Addr) (n c : Nat) (hD : Rd V 2 D n (kv [])) :
    Calls Tryd.prog 10 #[.agg #[.slice (some ⟨K + 1 + 1, 0, none⟩) 1 1], .agg #[.int .i64 0, .int .i64 2, .int .i64 5, .int .i64 0, .int .i64 0, .int .i64 0, .int .i64 0, .int .i64 0, .int .i64 0, .int .i64 0, .slice D n c, .bool false], .int .i64 0] V fun r V' =>
      ∃ D2 n2 c2, r = .returned (.tuple #[.agg #[.int .i64 0, .int .i64 0, .int .i64 0, .int .i64 0, .int .i64 0, .int .i64 0, .int .i64 0, .int .i64 0, .int .i64 0, .int .i64 0, .slice D2 n2 c2, .bool true], .int .i64 0, .bool true]) ∧ Rd V' 2 D2 n2 (kv []) ∧ Chg (fun _ => False) V V' :=
  step_any 1 (exPM L.c L.s L.f) L.t (by decide) 0 2 [5, 0, 0, 0, 0, 0, 0, 0] rfl D n c [] (Uni.nil 2) hD (by have := hD.lenk (Uni.nil 2) (by decide); simp at this; omega) (by decide) (by decide) (by decide) 14 0 0 0 0 0 (by decide) rfl rfl rfl rfl rfl 0 0 [0, 0, 0, 0, 0, 0, 0, 0] [] true (dook_exit rfl 0 0 0 0 0 0 2 (by decide) (by decide))
set_option maxRecDepth 100000 in
set_option maxHeartbeats 8000000 in
theorem alive_any (W : World) (hT : Tab W) : Calls Tryd.prog 7 #[] W fun e W' => e = .returned (.bool true) ∧ Chg (fun _ => False) W W' := by
  have H4 := Lib.hid (lit4 W hT)
  clear hT
  have p0 := H4.out.p.cell 0
  have pl := H4.out.p.lt
  simp at p0
  go_enter Tryd.func7, Tryd.ntmps7
  go_wp2
  have hs1 : (w4of W).drew.cell? ⟨W.heap.size + 1 + 1 + 1, 0, none⟩ = some (.slice (some ⟨W.heap.size + 1 + 1, 0, none⟩) 1 1) := H4.out.p.cell 0
  refine wp_region_held_drew (S := fun w' => w'.cell? ⟨W.heap.size + 1 + 1 + 1, 0, none⟩ = some (.slice (some ⟨W.heap.size + 1 + 1, 0, none⟩) 1 1)) (by kernel_rfl) hs1 (fun hHeld => ?_)
  refine wpAnyH_take (i := 0) (oi := Oper.mk _ _ _ _ _ _) (v := ?v1) rfl (by kernel_rfl) (by kernel_rfl) (by kernel_rfl) (fun _ _ _ h => h) (Or.inl ⟨by rfl, ?hy1⟩) (by assumption) ?rs1
  case hy1 => (intro w hSw; (try dsimp only at hSw); first | (go_simp <;> with_reducible rfl) | rfl)
  try simp only [Act.put, List.setIfInBounds_toArray, List.set_cons_zero, List.set_cons_succ]
  refine wpAnyH_ready (rs := [1, 7]) (by kernel_rfl) (by simp) ?_
  refine AllReadyH.cons (o := Oper.mk _ _ _ _ _ _) rfl (fun K hK => ?_) ?_
  · go_simp
    go_at_call 15; refine (new_any 0 0 _).mono ?_; rintro e u1 ⟨rfl, hc1⟩; have K1 := Lib.hid ((Chg.refl (fun _ => False) (w4of W)).drew.trans hc1 (fun _ _ h => h)); clear hc1; have hs2 : u1.cell? ⟨W.heap.size + 1 + 1 + 1, 0, none⟩ = some (.slice (some ⟨W.heap.size + 1 + 1, 0, none⟩) 1 1) := (K1.out.cell (p := ⟨W.heap.size + 1 + 1 + 1, 0, none⟩) pl (fun h => h)).trans p0
    refine hK.out _ _ hs2 (fun hHeld => ?_)
    clear hK K
    try simp only [Act.put, List.setIfInBounds_toArray, List.set_cons_zero, List.set_cons_succ]
    refine wpAnyH_ready (rs := [2, 7]) (by kernel_rfl) (by simp) ?_
    refine AllReadyH.cons (o := Oper.mk _ _ _ _ _ _) rfl (fun K hK => ?_) ?_
    · go_simp
      go_at_call 10; refine (stp1 (H4.out.kept K1.out) none 0 0 (Rd.nil _ _ _)).mono ?_; rintro e u2 ⟨D2, n2, c2, rfl, hr2, hc2⟩; have K2 := Lib.hid (K1.out.trans hc2 (fun _ _ h => h)); have R2 := Lib.hid hr2; clear hc2 hr2; have hs3 : u2.cell? ⟨W.heap.size + 1 + 1 + 1, 0, none⟩ = some (.slice (some ⟨W.heap.size + 1 + 1, 0, none⟩) 1 1) := (K2.out.cell (p := ⟨W.heap.size + 1 + 1 + 1, 0, none⟩) pl (fun h => h)).trans p0
      refine hK.out _ _ hs3 (fun hHeld => ?_)
      clear hK K
      try simp only [Act.put, List.setIfInBounds_toArray, List.set_cons_zero, List.set_cons_succ]
      refine wpAnyH_take (i := 3) (oi := Oper.mk _ _ _ _ _ _) (v := ?v2) rfl (by kernel_rfl) (by kernel_rfl) (by kernel_rfl) (fun _ _ _ h => h) (Or.inl ⟨by rfl, ?hy2⟩) (by assumption) ?rs2
      case hy2 => (intro w hSw; (try dsimp only at hSw); first | (go_simp <;> with_reducible rfl) | rfl)
      try simp only [Act.put, List.setIfInBounds_toArray, List.set_cons_zero, List.set_cons_succ]
      refine wpAnyH_take (i := 4) (oi := Oper.mk _ _ _ _ _ _) (v := ?v3) rfl (by kernel_rfl) (by kernel_rfl) (by kernel_rfl) (fun _ _ _ h => h) (Or.inl ⟨by rfl, ?hy3⟩) (by assumption) ?rs3
      case hy3 => (intro w hSw; (try dsimp only at hSw); first | (go_simp <;> with_reducible rfl) | rfl)
      try simp only [Act.put, List.setIfInBounds_toArray, List.set_cons_zero, List.set_cons_succ]
      refine wpAnyH_take (i := 5) (oi := Oper.mk _ _ _ _ _ _) (v := ?v4) rfl (by kernel_rfl) (by kernel_rfl) (by kernel_rfl) (fun _ _ _ h => h) (Or.inl ⟨by rfl, ?hy4⟩) (by assumption) ?rs4
      case hy4 => (intro w hSw; (try dsimp only at hSw); first | (go_simp <;> with_reducible rfl) | rfl)
      try simp only [Act.put, List.setIfInBounds_toArray, List.set_cons_zero, List.set_cons_succ]
      refine wpAnyH_take (i := 6) (oi := Oper.mk _ _ _ _ _ _) (v := ?v5) rfl (by kernel_rfl) (by kernel_rfl) (by kernel_rfl) (fun _ _ _ h => h) (Or.inl ⟨by rfl, ?hy5⟩) (by assumption) ?rs5
      case hy5 => (intro w hSw; (try dsimp only at hSw); first | (go_simp <;> with_reducible rfl) | rfl)
      try simp only [Act.put, List.setIfInBounds_toArray, List.set_cons_zero, List.set_cons_succ]
      refine wpAnyH_ready (rs := [7]) (by kernel_rfl) (by simp) ?_
      refine AllReadyH.cons (o := Oper.mk _ _ _ _ _ _) rfl (fun K hK => ?_) AllReadyH.nil
      go_simp
      skip
      refine hK.out _ _ (((K2.out.alloc _).cell (p := ⟨W.heap.size + 1 + 1 + 1, 0, none⟩) pl (fun h => h)).trans p0) (fun hHeld => ?_)
      clear hK K
      try simp only [Act.put, List.setIfInBounds_toArray, List.set_cons_zero, List.set_cons_succ]
      refine wpAnyH_ready (rs := [8]) (by kernel_rfl) (by simp) ?_
      refine AllReadyH.cons (o := Oper.mk _ _ _ _ _ _) rfl (fun K hK => ?_) AllReadyH.nil
      go_simp
      skip
      refine hK.out _ _ (((K2.out.alloc _).cell (p := ⟨W.heap.size + 1 + 1 + 1, 0, none⟩) pl (fun h => h)).trans p0) (fun hHeld => ?_)
      clear hK K
      try simp only [Act.put, List.setIfInBounds_toArray, List.set_cons_zero, List.set_cons_succ]
      refine wpAnyH_take (i := 9) (oi := Oper.mk _ _ _ _ _ _) (v := ?v8) rfl (by kernel_rfl) (by kernel_rfl) (by kernel_rfl) (fun _ _ _ h => h) (Or.inl ⟨by rfl, ?hy8⟩) (by assumption) ?rs8
      case hy8 => (intro w hSw; (try dsimp only at hSw); first | (go_simp <;> with_reducible rfl) | rfl)
      try simp only [Act.put, List.setIfInBounds_toArray, List.set_cons_zero, List.set_cons_succ]
      refine wpAnyH_take (i := 10) (oi := Oper.mk _ _ _ _ _ _) (v := ?v9) rfl (by kernel_rfl) (by kernel_rfl) (by kernel_rfl) (fun _ _ _ h => h) (Or.inl ⟨by rfl, ?hy9⟩) (by assumption) ?rs9
      case hy9 => (intro w hSw; (try dsimp only at hSw); first | (go_simp <;> with_reducible rfl) | rfl)
      try simp only [Act.put, List.setIfInBounds_toArray, List.set_cons_zero, List.set_cons_succ]
      refine wpAnyH_done (by kernel_rfl) ?_ _
      have HV : Hid (Blk (u2.alloc (.cells #[.int .i64 0, .int .i64 1, .int .i64 5, .int .i64 0, .int .i64 0, .int .i64 0, .int .i64 0, .int .i64 0, .int .i64 0, .int .i64 0, .slice D2 n2 c2, .bool false] 28)) u2.heap.size 28 #[.int .i64 0, .int .i64 1, .int .i64 5, .int .i64 0, .int .i64 0, .int .i64 0, .int .i64 0, .int .i64 0, .int .i64 0, .int .i64 0, .slice D2 n2 c2, .bool false]) := Lib.hid (Blk.new u2 28 _)
      have HKV := Lib.hid (K2.out.alloc (.cells #[.int .i64 0, .int .i64 1, .int .i64 5, .int .i64 0, .int .i64 0, .int .i64 0, .int .i64 0, .int .i64 0, .int .i64 0, .int .i64 0, .slice D2 n2 c2, .bool false] 28))
      have RV := Lib.hid (R2.out.alloc (.cells #[.int .i64 0, .int .i64 1, .int .i64 5, .int .i64 0, .int .i64 0, .int .i64 0, .int .i64 0, .int .i64 0, .int .i64 0, .int .i64 0, .slice D2 n2 c2, .bool false] 28))
      obtain ⟨V, hV⟩ : ∃ V, V = u2.alloc (.cells #[.int .i64 0, .int .i64 1, .int .i64 5, .int .i64 0, .int .i64 0, .int .i64 0, .int .i64 0, .int .i64 0, .int .i64 0, .int .i64 0, .slice D2 n2 c2, .bool false] 28) := ⟨_, rfl⟩
      obtain ⟨X, hX⟩ : ∃ X, X = u2.heap.size := ⟨_, rfl⟩
      rw [← hV, ← hX] at HV
      rw [← hV] at HKV RV
      rw [← hV, ← hX]
      clear hV hX
      have q0 := HV.out.cell 0
      have q1 := HV.out.cell 1
      have q2 := HV.out.cell 2
      have q3 := HV.out.cell 3
      have q4 := HV.out.cell 4
      have q5 := HV.out.cell 5
      have q6 := HV.out.cell 6
      have q7 := HV.out.cell 7
      have q8 := HV.out.cell 8
      have q9 := HV.out.cell 9
      have q10 := HV.out.cell 10
      have q11 := HV.out.cell 11
      have ql := HV.out.lt
      simp at q0 q1 q2 q3 q4 q5 q6 q7 q8 q9 q10 q11
      have pv := (HKV.out.cell (p := ⟨W.heap.size + 1 + 1 + 1, 0, none⟩) pl (fun h => h)).trans p0
      have pvl := Nat.lt_of_lt_of_le pl HKV.out.size
      go_wp2_with fail
      refine (stp2 (H4.out.kept HKV.out) D2 n2 c2 RV.out).mono ?_
      rintro e3 u3 ⟨D3, n3, c3, rfl, hr3, hc3⟩
      have K3 := Lib.hid (HKV.out.trans hc3 (fun _ _ h => h))
      have R3 := Lib.hid hr3
      have pw := (K3.out.cell (p := ⟨W.heap.size + 1 + 1 + 1, 0, none⟩) pl (fun h => h)).trans p0
      have pwl := Nat.lt_of_lt_of_le pl K3.out.size
      clear hc3 hr3
      go_wp2_with fail
      refine (stp3 (H4.out.kept (K3.out.alloc _)) D3 n3 c3 (R3.out.alloc _)).mono ?_
      rintro e4 u4 ⟨D4, n4, c4, rfl, hr4, hc4⟩
      have K4 := Lib.hid ((K3.out.alloc _).trans hc4 (fun _ _ h => h))
      clear hc4 hr4
      go_wp2
      go_ret
      exact ⟨rfl, ((chg4 W).trans K4.out (fun _ _ h => h)).alloc _⟩
    refine AllReadyH.cons (o := Oper.mk _ _ _ _ _ _) rfl (fun K hK => ?_) AllReadyH.nil
    go_simp
    skip
    refine hK.out _ _ (((K1.out.alloc _).cell (p := ⟨W.heap.size + 1 + 1 + 1, 0, none⟩) pl (fun h => h)).trans p0) (fun hHeld => ?_)
    clear hK K
    try simp only [Act.put, List.setIfInBounds_toArray, List.set_cons_zero, List.set_cons_succ]
    refine wpAnyH_ready (rs := [2]) (by kernel_rfl) (by simp) ?_
    refine AllReadyH.cons (o := Oper.mk _ _ _ _ _ _) rfl (fun K hK => ?_) AllReadyH.nil
    go_simp
    go_at_call 10; refine (stp1 (H4.out.kept (K1.out.alloc (.cells #[.int .i64 0, .int .i64 0, .int .i64 0, .int .i64 0, .int .i64 0, .int .i64 0, .int .i64 0, .int .i64 0, .int .i64 0, .int .i64 0, .slice none 0 0, .bool false] 28))) none 0 0 (Rd.nil _ _ _)).mono ?_; rintro e u2 ⟨D2, n2, c2, rfl, hr2, hc2⟩; have K2 := Lib.hid ((K1.out.alloc (.cells #[.int .i64 0, .int .i64 0, .int .i64 0, .int .i64 0, .int .i64 0, .int .i64 0, .int .i64 0, .int .i64 0, .int .i64 0, .int .i64 0, .slice none 0 0, .bool false] 28)).trans hc2 (fun _ _ h => h)); have R2 := Lib.hid hr2; have hzb := (Blk.new u1 28 #[.int .i64 0, .int .i64 0, .int .i64 0, .int .i64 0, .int .i64 0, .int .i64 0, .int .i64 0, .int .i64 0, .int .i64 0, .int .i64 0, .slice none 0 0, .bool false]).kept hc2 (fun h => h); have HX := Lib.hid (show (w4of W).heap.size ≤ u1.heap.size from K1.out.size); have ZB := Lib.hid hzb; have z0 := hzb.cell 0; have y0 := hzb.frozen 0; have z1 := hzb.cell 1; have y1 := hzb.frozen 1; have z2 := hzb.cell 2; have y2 := hzb.frozen 2; have z3 := hzb.cell 3; have y3 := hzb.frozen 3; have z4 := hzb.cell 4; have y4 := hzb.frozen 4; have z5 := hzb.cell 5; have y5 := hzb.frozen 5; have z6 := hzb.cell 6; have y6 := hzb.frozen 6; have z7 := hzb.cell 7; have y7 := hzb.frozen 7; have z8 := hzb.cell 8; have y8 := hzb.frozen 8; have z9 := hzb.cell 9; have y9 := hzb.frozen 9; have z10 := hzb.cell 10; have y10 := hzb.frozen 10; have z11 := hzb.cell 11; have y11 := hzb.frozen 11; have zl := hzb.lt; simp at z0 z1 z2 z3 z4 z5 z6 z7 z8 z9 z10 z11; clear hzb; clear hc2 hr2; have hs3 : u2.cell? ⟨W.heap.size + 1 + 1 + 1, 0, none⟩ = some (.slice (some ⟨W.heap.size + 1 + 1, 0, none⟩) 1 1) := (K2.out.cell (p := ⟨W.heap.size + 1 + 1 + 1, 0, none⟩) pl (fun h => h)).trans p0
    refine hK.out _ _ hs3 (fun hHeld => ?_)
    clear hK K
    try simp only [Act.put, List.setIfInBounds_toArray, List.set_cons_zero, List.set_cons_succ]
    refine wpAnyH_take (i := 3) (oi := Oper.mk _ _ _ _ _ _) (v := ?v11) rfl (by kernel_rfl) (by kernel_rfl) (by kernel_rfl) (fun _ _ _ h => h) (Or.inl ⟨by rfl, ?hy11⟩) (by assumption) ?rs11
    case hy11 => (intro w hSw; (try dsimp only at hSw); first | (go_simp <;> with_reducible rfl) | rfl)
    try simp only [Act.put, List.setIfInBounds_toArray, List.set_cons_zero, List.set_cons_succ]
    refine wpAnyH_take (i := 4) (oi := Oper.mk _ _ _ _ _ _) (v := ?v12) rfl (by kernel_rfl) (by kernel_rfl) (by kernel_rfl) (fun _ _ _ h => h) (Or.inl ⟨by rfl, ?hy12⟩) (by assumption) ?rs12
    case hy12 => (intro w hSw; (try dsimp only at hSw); first | (go_simp <;> with_reducible rfl) | rfl)
    try simp only [Act.put, List.setIfInBounds_toArray, List.set_cons_zero, List.set_cons_succ]
    refine wpAnyH_take (i := 5) (oi := Oper.mk _ _ _ _ _ _) (v := ?v13) rfl (by kernel_rfl) (by kernel_rfl) (by kernel_rfl) (fun _ _ _ h => h) (Or.inl ⟨by rfl, ?hy13⟩) (by assumption) ?rs13
    case hy13 => (intro w hSw; (try dsimp only at hSw); first | (go_simp <;> with_reducible rfl) | rfl)
    try simp only [Act.put, List.setIfInBounds_toArray, List.set_cons_zero, List.set_cons_succ]
    refine wpAnyH_take (i := 6) (oi := Oper.mk _ _ _ _ _ _) (v := ?v14) rfl (by kernel_rfl) (by kernel_rfl) (by kernel_rfl) (fun _ _ _ h => h) (Or.inl ⟨by rfl, ?hy14⟩) (by assumption) ?rs14
    case hy14 => (intro w hSw; (try dsimp only at hSw); first | (go_simp <;> with_reducible rfl) | rfl)
    try simp only [Act.put, List.setIfInBounds_toArray, List.set_cons_zero, List.set_cons_succ]
    refine wpAnyH_ready (rs := [8]) (by kernel_rfl) (by simp) ?_
    refine AllReadyH.cons (o := Oper.mk _ _ _ _ _ _) rfl (fun K hK => ?_) AllReadyH.nil
    go_simp
    skip
    refine hK.out _ _ (((chg12 _ _ _ _ _ _ _ _ _ _ _ _ K2.out HX.out).cell (p := ⟨W.heap.size + 1 + 1 + 1, 0, none⟩) pl (fun h => h)).trans p0) (fun hHeld => ?_)
    clear hK K
    try simp only [Act.put, List.setIfInBounds_toArray, List.set_cons_zero, List.set_cons_succ]
    refine wpAnyH_take (i := 9) (oi := Oper.mk _ _ _ _ _ _) (v := ?v16) rfl (by kernel_rfl) (by kernel_rfl) (by kernel_rfl) (fun _ _ _ h => h) (Or.inl ⟨by rfl, ?hy16⟩) (by assumption) ?rs16
    case hy16 => (intro w hSw; (try dsimp only at hSw); first | (go_simp <;> with_reducible rfl) | rfl)
    try simp only [Act.put, List.setIfInBounds_toArray, List.set_cons_zero, List.set_cons_succ]
    refine wpAnyH_take (i := 10) (oi := Oper.mk _ _ _ _ _ _) (v := ?v17) rfl (by kernel_rfl) (by kernel_rfl) (by kernel_rfl) (fun _ _ _ h => h) (Or.inl ⟨by rfl, ?hy17⟩) (by assumption) ?rs17
    case hy17 => (intro w hSw; (try dsimp only at hSw); first | (go_simp <;> with_reducible rfl) | rfl)
    try simp only [Act.put, List.setIfInBounds_toArray, List.set_cons_zero, List.set_cons_succ]
    refine wpAnyH_done (by kernel_rfl) ?_ _
    have HV : Hid (Blk ((((((((((((u2.setCell ⟨u1.heap.size, 0, none⟩ (.int .i64 0)).setCell ⟨u1.heap.size, 1, none⟩ (.int .i64 1)).setCell ⟨u1.heap.size, 2, none⟩ (.int .i64 5)).setCell ⟨u1.heap.size, 3, none⟩ (.int .i64 0)).setCell ⟨u1.heap.size, 4, none⟩ (.int .i64 0)).setCell ⟨u1.heap.size, 5, none⟩ (.int .i64 0)).setCell ⟨u1.heap.size, 6, none⟩ (.int .i64 0)).setCell ⟨u1.heap.size, 7, none⟩ (.int .i64 0)).setCell ⟨u1.heap.size, 8, none⟩ (.int .i64 0)).setCell ⟨u1.heap.size, 9, none⟩ (.int .i64 0)).setCell ⟨u1.heap.size, 10, none⟩ (.slice D2 n2 c2)).setCell ⟨u1.heap.size, 11, none⟩ (.bool false)) u1.heap.size 28 #[.int .i64 0, .int .i64 1, .int .i64 5, .int .i64 0, .int .i64 0, .int .i64 0, .int .i64 0, .int .i64 0, .int .i64 0, .int .i64 0, .slice D2 n2 c2, .bool false]) := Lib.hid (Blk.set12 _ _ _ _ _ _ _ _ _ _ _ _ ZB.out)
    have HKV : Hid (Chg (fun _ => False) (w4of W) ((((((((((((u2.setCell ⟨u1.heap.size, 0, none⟩ (.int .i64 0)).setCell ⟨u1.heap.size, 1, none⟩ (.int .i64 1)).setCell ⟨u1.heap.size, 2, none⟩ (.int .i64 5)).setCell ⟨u1.heap.size, 3, none⟩ (.int .i64 0)).setCell ⟨u1.heap.size, 4, none⟩ (.int .i64 0)).setCell ⟨u1.heap.size, 5, none⟩ (.int .i64 0)).setCell ⟨u1.heap.size, 6, none⟩ (.int .i64 0)).setCell ⟨u1.heap.size, 7, none⟩ (.int .i64 0)).setCell ⟨u1.heap.size, 8, none⟩ (.int .i64 0)).setCell ⟨u1.heap.size, 9, none⟩ (.int .i64 0)).setCell ⟨u1.heap.size, 10, none⟩ (.slice D2 n2 c2)).setCell ⟨u1.heap.size, 11, none⟩ (.bool false))) := Lib.hid (chg12 _ _ _ _ _ _ _ _ _ _ _ _ K2.out HX.out)
    have RV : Hid (Rd ((((((((((((u2.setCell ⟨u1.heap.size, 0, none⟩ (.int .i64 0)).setCell ⟨u1.heap.size, 1, none⟩ (.int .i64 1)).setCell ⟨u1.heap.size, 2, none⟩ (.int .i64 5)).setCell ⟨u1.heap.size, 3, none⟩ (.int .i64 0)).setCell ⟨u1.heap.size, 4, none⟩ (.int .i64 0)).setCell ⟨u1.heap.size, 5, none⟩ (.int .i64 0)).setCell ⟨u1.heap.size, 6, none⟩ (.int .i64 0)).setCell ⟨u1.heap.size, 7, none⟩ (.int .i64 0)).setCell ⟨u1.heap.size, 8, none⟩ (.int .i64 0)).setCell ⟨u1.heap.size, 9, none⟩ (.int .i64 0)).setCell ⟨u1.heap.size, 10, none⟩ (.slice D2 n2 c2)).setCell ⟨u1.heap.size, 11, none⟩ (.bool false)) 2 D2 n2 (kv [])) := Lib.hid ⟨R2.out.1, fun h => absurd h (by have := R2.out.lenk (Uni.nil 2) (by decide); simp at this; omega)⟩
    obtain ⟨V, hV⟩ : ∃ V, V = ((((((((((((u2.setCell ⟨u1.heap.size, 0, none⟩ (.int .i64 0)).setCell ⟨u1.heap.size, 1, none⟩ (.int .i64 1)).setCell ⟨u1.heap.size, 2, none⟩ (.int .i64 5)).setCell ⟨u1.heap.size, 3, none⟩ (.int .i64 0)).setCell ⟨u1.heap.size, 4, none⟩ (.int .i64 0)).setCell ⟨u1.heap.size, 5, none⟩ (.int .i64 0)).setCell ⟨u1.heap.size, 6, none⟩ (.int .i64 0)).setCell ⟨u1.heap.size, 7, none⟩ (.int .i64 0)).setCell ⟨u1.heap.size, 8, none⟩ (.int .i64 0)).setCell ⟨u1.heap.size, 9, none⟩ (.int .i64 0)).setCell ⟨u1.heap.size, 10, none⟩ (.slice D2 n2 c2)).setCell ⟨u1.heap.size, 11, none⟩ (.bool false)) := ⟨_, rfl⟩
    rw [← hV] at HV HKV RV
    rw [← hV]
    clear hV
    have q0 := HV.out.cell 0
    have q1 := HV.out.cell 1
    have q2 := HV.out.cell 2
    have q3 := HV.out.cell 3
    have q4 := HV.out.cell 4
    have q5 := HV.out.cell 5
    have q6 := HV.out.cell 6
    have q7 := HV.out.cell 7
    have q8 := HV.out.cell 8
    have q9 := HV.out.cell 9
    have q10 := HV.out.cell 10
    have q11 := HV.out.cell 11
    have ql := HV.out.lt
    simp at q0 q1 q2 q3 q4 q5 q6 q7 q8 q9 q10 q11
    have pv := (HKV.out.cell (p := ⟨W.heap.size + 1 + 1 + 1, 0, none⟩) pl (fun h => h)).trans p0
    have pvl := Nat.lt_of_lt_of_le pl HKV.out.size
    go_wp2_with fail
    refine (stp2 (H4.out.kept HKV.out) D2 n2 c2 RV.out).mono ?_
    rintro e3 u3 ⟨D3, n3, c3, rfl, hr3, hc3⟩
    have K3 := Lib.hid (HKV.out.trans hc3 (fun _ _ h => h))
    have R3 := Lib.hid hr3
    have pw := (K3.out.cell (p := ⟨W.heap.size + 1 + 1 + 1, 0, none⟩) pl (fun h => h)).trans p0
    have pwl := Nat.lt_of_lt_of_le pl K3.out.size
    clear hc3 hr3
    go_wp2_with fail
    refine (stp3 (H4.out.kept (K3.out.alloc _)) D3 n3 c3 (R3.out.alloc _)).mono ?_
    rintro e4 u4 ⟨D4, n4, c4, rfl, hr4, hc4⟩
    have K4 := Lib.hid ((K3.out.alloc _).trans hc4 (fun _ _ h => h))
    clear hc4 hr4
    go_wp2
    go_ret
    exact ⟨rfl, ((chg4 W).trans K4.out (fun _ _ h => h)).alloc _⟩
  refine AllReadyH.cons (o := Oper.mk _ _ _ _ _ _) rfl (fun K hK => ?_) AllReadyH.nil
  go_simp
  skip
  refine hK.out _ _ ((((Chg.refl (fun _ => False) (w4of W)).alloc (.cells #[.int .i64 0, .int .i64 0, .int .i64 0, .int .i64 0, .int .i64 0, .int .i64 0, .int .i64 0, .int .i64 0, .int .i64 0, .int .i64 0, .slice none 0 0, .bool false] 28)).drew.cell (p := ⟨W.heap.size + 1 + 1 + 1, 0, none⟩) pl (fun h => h)).trans p0) (fun hHeld => ?_)
  clear hK K
  try simp only [Act.put, List.setIfInBounds_toArray, List.set_cons_zero, List.set_cons_succ]
  refine wpAnyH_ready (rs := [1]) (by kernel_rfl) (by simp) ?_
  refine AllReadyH.cons (o := Oper.mk _ _ _ _ _ _) rfl (fun K hK => ?_) AllReadyH.nil
  go_simp
  go_at_call 15; refine (new_any 0 0 _).mono ?_; rintro e u1 ⟨rfl, hc1⟩; have K1 := Lib.hid (((Chg.refl (fun _ => False) (w4of W)).alloc (.cells #[.int .i64 0, .int .i64 0, .int .i64 0, .int .i64 0, .int .i64 0, .int .i64 0, .int .i64 0, .int .i64 0, .int .i64 0, .int .i64 0, .slice none 0 0, .bool false] 28)).drew.trans hc1 (fun _ _ h => h)); have hzb0 := (Blk.new (w4of W) 28 #[.int .i64 0, .int .i64 0, .int .i64 0, .int .i64 0, .int .i64 0, .int .i64 0, .int .i64 0, .int .i64 0, .int .i64 0, .int .i64 0, .slice none 0 0, .bool false]).drew; rw [show (w4of W).heap.size = W.heap.size + 1 + 1 + 1 + 1 from by simp] at hzb0; have hzb1 := hzb0.kept hc1 (fun h => h); clear hzb0; clear hc1; have hs2 : u1.cell? ⟨W.heap.size + 1 + 1 + 1, 0, none⟩ = some (.slice (some ⟨W.heap.size + 1 + 1, 0, none⟩) 1 1) := (K1.out.cell (p := ⟨W.heap.size + 1 + 1 + 1, 0, none⟩) pl (fun h => h)).trans p0
  refine hK.out _ _ hs2 (fun hHeld => ?_)
  clear hK K
  try simp only [Act.put, List.setIfInBounds_toArray, List.set_cons_zero, List.set_cons_succ]
  refine wpAnyH_ready (rs := [2]) (by kernel_rfl) (by simp) ?_
  refine AllReadyH.cons (o := Oper.mk _ _ _ _ _ _) rfl (fun K hK => ?_) AllReadyH.nil
  go_simp
  go_at_call 10; refine (stp1 (H4.out.kept K1.out) none 0 0 (Rd.nil _ _ _)).mono ?_; rintro e u2 ⟨D2, n2, c2, rfl, hr2, hc2⟩; have K2 := Lib.hid (K1.out.trans hc2 (fun _ _ h => h)); have R2 := Lib.hid hr2; have hzb := hzb1.kept hc2 (fun h => h); have HX := Lib.hid (show (w4of W).heap.size ≤ W.heap.size + 1 + 1 + 1 + 1 from by simp); have ZB := Lib.hid hzb; have z0 := hzb.cell 0; have y0 := hzb.frozen 0; have z1 := hzb.cell 1; have y1 := hzb.frozen 1; have z2 := hzb.cell 2; have y2 := hzb.frozen 2; have z3 := hzb.cell 3; have y3 := hzb.frozen 3; have z4 := hzb.cell 4; have y4 := hzb.frozen 4; have z5 := hzb.cell 5; have y5 := hzb.frozen 5; have z6 := hzb.cell 6; have y6 := hzb.frozen 6; have z7 := hzb.cell 7; have y7 := hzb.frozen 7; have z8 := hzb.cell 8; have y8 := hzb.frozen 8; have z9 := hzb.cell 9; have y9 := hzb.frozen 9; have z10 := hzb.cell 10; have y10 := hzb.frozen 10; have z11 := hzb.cell 11; have y11 := hzb.frozen 11; have zl := hzb.lt; simp at z0 z1 z2 z3 z4 z5 z6 z7 z8 z9 z10 z11; clear hzb; clear hc2 hr2; have hs3 : u2.cell? ⟨W.heap.size + 1 + 1 + 1, 0, none⟩ = some (.slice (some ⟨W.heap.size + 1 + 1, 0, none⟩) 1 1) := (K2.out.cell (p := ⟨W.heap.size + 1 + 1 + 1, 0, none⟩) pl (fun h => h)).trans p0
  refine hK.out _ _ hs3 (fun hHeld => ?_)
  clear hK K
  try simp only [Act.put, List.setIfInBounds_toArray, List.set_cons_zero, List.set_cons_succ]
  refine wpAnyH_take (i := 3) (oi := Oper.mk _ _ _ _ _ _) (v := ?v20) rfl (by kernel_rfl) (by kernel_rfl) (by kernel_rfl) (fun _ _ _ h => h) (Or.inl ⟨by rfl, ?hy20⟩) (by assumption) ?rs20
  case hy20 => (intro w hSw; (try dsimp only at hSw); first | (go_simp <;> with_reducible rfl) | rfl)
  try simp only [Act.put, List.setIfInBounds_toArray, List.set_cons_zero, List.set_cons_succ]
  refine wpAnyH_take (i := 4) (oi := Oper.mk _ _ _ _ _ _) (v := ?v21) rfl (by kernel_rfl) (by kernel_rfl) (by kernel_rfl) (fun _ _ _ h => h) (Or.inl ⟨by rfl, ?hy21⟩) (by assumption) ?rs21
  case hy21 => (intro w hSw; (try dsimp only at hSw); first | (go_simp <;> with_reducible rfl) | rfl)
  try simp only [Act.put, List.setIfInBounds_toArray, List.set_cons_zero, List.set_cons_succ]
  refine wpAnyH_take (i := 5) (oi := Oper.mk _ _ _ _ _ _) (v := ?v22) rfl (by kernel_rfl) (by kernel_rfl) (by kernel_rfl) (fun _ _ _ h => h) (Or.inl ⟨by rfl, ?hy22⟩) (by assumption) ?rs22
  case hy22 => (intro w hSw; (try dsimp only at hSw); first | (go_simp <;> with_reducible rfl) | rfl)
  try simp only [Act.put, List.setIfInBounds_toArray, List.set_cons_zero, List.set_cons_succ]
  refine wpAnyH_take (i := 6) (oi := Oper.mk _ _ _ _ _ _) (v := ?v23) rfl (by kernel_rfl) (by kernel_rfl) (by kernel_rfl) (fun _ _ _ h => h) (Or.inl ⟨by rfl, ?hy23⟩) (by assumption) ?rs23
  case hy23 => (intro w hSw; (try dsimp only at hSw); first | (go_simp <;> with_reducible rfl) | rfl)
  try simp only [Act.put, List.setIfInBounds_toArray, List.set_cons_zero, List.set_cons_succ]
  refine wpAnyH_ready (rs := [8]) (by kernel_rfl) (by simp) ?_
  refine AllReadyH.cons (o := Oper.mk _ _ _ _ _ _) rfl (fun K hK => ?_) AllReadyH.nil
  go_simp
  skip
  refine hK.out _ _ (((chg12 _ _ _ _ _ _ _ _ _ _ _ _ K2.out HX.out).cell (p := ⟨W.heap.size + 1 + 1 + 1, 0, none⟩) pl (fun h => h)).trans p0) (fun hHeld => ?_)
  clear hK K
  try simp only [Act.put, List.setIfInBounds_toArray, List.set_cons_zero, List.set_cons_succ]
  refine wpAnyH_take (i := 9) (oi := Oper.mk _ _ _ _ _ _) (v := ?v25) rfl (by kernel_rfl) (by kernel_rfl) (by kernel_rfl) (fun _ _ _ h => h) (Or.inl ⟨by rfl, ?hy25⟩) (by assumption) ?rs25
  case hy25 => (intro w hSw; (try dsimp only at hSw); first | (go_simp <;> with_reducible rfl) | rfl)
  try simp only [Act.put, List.setIfInBounds_toArray, List.set_cons_zero, List.set_cons_succ]
  refine wpAnyH_take (i := 10) (oi := Oper.mk _ _ _ _ _ _) (v := ?v26) rfl (by kernel_rfl) (by kernel_rfl) (by kernel_rfl) (fun _ _ _ h => h) (Or.inl ⟨by rfl, ?hy26⟩) (by assumption) ?rs26
  case hy26 => (intro w hSw; (try dsimp only at hSw); first | (go_simp <;> with_reducible rfl) | rfl)
  try simp only [Act.put, List.setIfInBounds_toArray, List.set_cons_zero, List.set_cons_succ]
  refine wpAnyH_done (by kernel_rfl) ?_ _
  have HV : Hid (Blk ((((((((((((u2.setCell ⟨(W.heap.size + 1 + 1 + 1 + 1), 0, none⟩ (.int .i64 0)).setCell ⟨(W.heap.size + 1 + 1 + 1 + 1), 1, none⟩ (.int .i64 1)).setCell ⟨(W.heap.size + 1 + 1 + 1 + 1), 2, none⟩ (.int .i64 5)).setCell ⟨(W.heap.size + 1 + 1 + 1 + 1), 3, none⟩ (.int .i64 0)).setCell ⟨(W.heap.size + 1 + 1 + 1 + 1), 4, none⟩ (.int .i64 0)).setCell ⟨(W.heap.size + 1 + 1 + 1 + 1), 5, none⟩ (.int .i64 0)).setCell ⟨(W.heap.size + 1 + 1 + 1 + 1), 6, none⟩ (.int .i64 0)).setCell ⟨(W.heap.size + 1 + 1 + 1 + 1), 7, none⟩ (.int .i64 0)).setCell ⟨(W.heap.size + 1 + 1 + 1 + 1), 8, none⟩ (.int .i64 0)).setCell ⟨(W.heap.size + 1 + 1 + 1 + 1), 9, none⟩ (.int .i64 0)).setCell ⟨(W.heap.size + 1 + 1 + 1 + 1), 10, none⟩ (.slice D2 n2 c2)).setCell ⟨(W.heap.size + 1 + 1 + 1 + 1), 11, none⟩ (.bool false)) (W.heap.size + 1 + 1 + 1 + 1) 28 #[.int .i64 0, .int .i64 1, .int .i64 5, .int .i64 0, .int .i64 0, .int .i64 0, .int .i64 0, .int .i64 0, .int .i64 0, .int .i64 0, .slice D2 n2 c2, .bool false]) := Lib.hid (Blk.set12 _ _ _ _ _ _ _ _ _ _ _ _ ZB.out)
  have HKV : Hid (Chg (fun _ => False) (w4of W) ((((((((((((u2.setCell ⟨(W.heap.size + 1 + 1 + 1 + 1), 0, none⟩ (.int .i64 0)).setCell ⟨(W.heap.size + 1 + 1 + 1 + 1), 1, none⟩ (.int .i64 1)).setCell ⟨(W.heap.size + 1 + 1 + 1 + 1), 2, none⟩ (.int .i64 5)).setCell ⟨(W.heap.size + 1 + 1 + 1 + 1), 3, none⟩ (.int .i64 0)).setCell ⟨(W.heap.size + 1 + 1 + 1 + 1), 4, none⟩ (.int .i64 0)).setCell ⟨(W.heap.size + 1 + 1 + 1 + 1), 5, none⟩ (.int .i64 0)).setCell ⟨(W.heap.size + 1 + 1 + 1 + 1), 6, none⟩ (.int .i64 0)).setCell ⟨(W.heap.size + 1 + 1 + 1 + 1), 7, none⟩ (.int .i64 0)).setCell ⟨(W.heap.size + 1 + 1 + 1 + 1), 8, none⟩ (.int .i64 0)).setCell ⟨(W.heap.size + 1 + 1 + 1 + 1), 9, none⟩ (.int .i64 0)).setCell ⟨(W.heap.size + 1 + 1 + 1 + 1), 10, none⟩ (.slice D2 n2 c2)).setCell ⟨(W.heap.size + 1 + 1 + 1 + 1), 11, none⟩ (.bool false))) := Lib.hid (chg12 _ _ _ _ _ _ _ _ _ _ _ _ K2.out HX.out)
  have RV : Hid (Rd ((((((((((((u2.setCell ⟨(W.heap.size + 1 + 1 + 1 + 1), 0, none⟩ (.int .i64 0)).setCell ⟨(W.heap.size + 1 + 1 + 1 + 1), 1, none⟩ (.int .i64 1)).setCell ⟨(W.heap.size + 1 + 1 + 1 + 1), 2, none⟩ (.int .i64 5)).setCell ⟨(W.heap.size + 1 + 1 + 1 + 1), 3, none⟩ (.int .i64 0)).setCell ⟨(W.heap.size + 1 + 1 + 1 + 1), 4, none⟩ (.int .i64 0)).setCell ⟨(W.heap.size + 1 + 1 + 1 + 1), 5, none⟩ (.int .i64 0)).setCell ⟨(W.heap.size + 1 + 1 + 1 + 1), 6, none⟩ (.int .i64 0)).setCell ⟨(W.heap.size + 1 + 1 + 1 + 1), 7, none⟩ (.int .i64 0)).setCell ⟨(W.heap.size + 1 + 1 + 1 + 1), 8, none⟩ (.int .i64 0)).setCell ⟨(W.heap.size + 1 + 1 + 1 + 1), 9, none⟩ (.int .i64 0)).setCell ⟨(W.heap.size + 1 + 1 + 1 + 1), 10, none⟩ (.slice D2 n2 c2)).setCell ⟨(W.heap.size + 1 + 1 + 1 + 1), 11, none⟩ (.bool false)) 2 D2 n2 (kv [])) := Lib.hid ⟨R2.out.1, fun h => absurd h (by have := R2.out.lenk (Uni.nil 2) (by decide); simp at this; omega)⟩
  obtain ⟨V, hV⟩ : ∃ V, V = ((((((((((((u2.setCell ⟨(W.heap.size + 1 + 1 + 1 + 1), 0, none⟩ (.int .i64 0)).setCell ⟨(W.heap.size + 1 + 1 + 1 + 1), 1, none⟩ (.int .i64 1)).setCell ⟨(W.heap.size + 1 + 1 + 1 + 1), 2, none⟩ (.int .i64 5)).setCell ⟨(W.heap.size + 1 + 1 + 1 + 1), 3, none⟩ (.int .i64 0)).setCell ⟨(W.heap.size + 1 + 1 + 1 + 1), 4, none⟩ (.int .i64 0)).setCell ⟨(W.heap.size + 1 + 1 + 1 + 1), 5, none⟩ (.int .i64 0)).setCell ⟨(W.heap.size + 1 + 1 + 1 + 1), 6, none⟩ (.int .i64 0)).setCell ⟨(W.heap.size + 1 + 1 + 1 + 1), 7, none⟩ (.int .i64 0)).setCell ⟨(W.heap.size + 1 + 1 + 1 + 1), 8, none⟩ (.int .i64 0)).setCell ⟨(W.heap.size + 1 + 1 + 1 + 1), 9, none⟩ (.int .i64 0)).setCell ⟨(W.heap.size + 1 + 1 + 1 + 1), 10, none⟩ (.slice D2 n2 c2)).setCell ⟨(W.heap.size + 1 + 1 + 1 + 1), 11, none⟩ (.bool false)) := ⟨_, rfl⟩
  rw [← hV] at HV HKV RV
  rw [← hV]
  clear hV
  have q0 := HV.out.cell 0
  have q1 := HV.out.cell 1
  have q2 := HV.out.cell 2
  have q3 := HV.out.cell 3
  have q4 := HV.out.cell 4
  have q5 := HV.out.cell 5
  have q6 := HV.out.cell 6
  have q7 := HV.out.cell 7
  have q8 := HV.out.cell 8
  have q9 := HV.out.cell 9
  have q10 := HV.out.cell 10
  have q11 := HV.out.cell 11
  have ql := HV.out.lt
  simp at q0 q1 q2 q3 q4 q5 q6 q7 q8 q9 q10 q11
  have pv := (HKV.out.cell (p := ⟨W.heap.size + 1 + 1 + 1, 0, none⟩) pl (fun h => h)).trans p0
  have pvl := Nat.lt_of_lt_of_le pl HKV.out.size
  go_wp2_with fail
  refine (stp2 (H4.out.kept HKV.out) D2 n2 c2 RV.out).mono ?_
  rintro e3 u3 ⟨D3, n3, c3, rfl, hr3, hc3⟩
  have K3 := Lib.hid (HKV.out.trans hc3 (fun _ _ h => h))
  have R3 := Lib.hid hr3
  have pw := (K3.out.cell (p := ⟨W.heap.size + 1 + 1 + 1, 0, none⟩) pl (fun h => h)).trans p0
  have pwl := Nat.lt_of_lt_of_le pl K3.out.size
  clear hc3 hr3
  go_wp2_with fail
  refine (stp3 (H4.out.kept (K3.out.alloc _)) D3 n3 c3 (R3.out.alloc _)).mono ?_
  rintro e4 u4 ⟨D4, n4, c4, rfl, hr4, hc4⟩
  have K4 := Lib.hid ((K3.out.alloc _).trans hc4 (fun _ _ h => h))
  clear hc4 hr4
  go_wp2
  go_ret
  exact ⟨rfl, ((chg4 W).trans K4.out (fun _ _ h => h)).alloc _⟩
end Go.Proofs.YthdkbofnplnidaaDoor
