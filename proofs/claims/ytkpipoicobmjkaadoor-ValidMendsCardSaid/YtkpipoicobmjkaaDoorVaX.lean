/- A program is mended, by the document: the walk. -/
import Derived.Test.YtkpipoicobmjkaaDoorVaU
namespace Go.Proofs.YtkpipoicobmjkaaDoor
open Go.ChangeShapes Go.WideShapes Go.ChangeAt Go.RowKit Go.Deep
set_option linter.unusedVariables false
set_option linter.unusedSimpArgs false

theorem Rd.litb (w : World) (z : Bool) (E : TypeId) : Rd (w.alloc (.cells #[.bool z] E)) 1 (some ⟨w.heap.size, 0, none⟩) 1 (bls [z]) := by
  refine ⟨rfl, fun _ => ⟨w.heap.size, 0, rfl, by simp, fun j u hu => ?_⟩⟩
  rw [Nat.zero_add, (Blk.new w E #[.bool z]).cell]
  simpa [bls] using hu
theorem Rd.litF (w : World) (x y : Value) (E : TypeId) : Rd (w.alloc (.cells #[x, y] E)) 2 (some ⟨w.heap.size, 0, none⟩) 1 [x, y] := by
  refine ⟨rfl, fun _ => ⟨w.heap.size, 0, rfl, by simp, fun j u hu => ?_⟩⟩
  rw [Nat.zero_add, (Blk.new w E #[x, y]).cell]
  simpa using hu
theorem step_go {P : Program} {ops : Array Oper} {o : Oper} {a : Act} {V : World} {K : Act → World → Prop} {Q : Exit → Act → World → Prop} {F : Prop} (hw : Region.wanted o (yielded ops a.tmps) = true) (f : FuncId) (xs : Array Operand) (ats : Array TypeId)
    (ho : o.op = .call { callee := .value (.func f), args := xs, argTypes := ats }) (vs : Array Value) (hv : xs.map a.eval = vs) (hrun : ∀ vs w, (callFunc f vs).run P w = .ok (.enter f vs) w) (v : Value) (P1 : World → Prop)
    (hc : Calls P f vs V fun e W' => e = .returned v ∧ P1 W') (h : ∀ w', P1 w' → K (a.put o.dst v) w') : if Region.wanted o (yielded ops a.tmps) = true then Oper.wp P o a V K Q else F := by
  rw [if_pos hw]
  unfold Oper.wp
  have he : (execOp a.eval o).run P V = .ok (.enter f vs) V := by
    obtain ⟨dst, op, ty, pos, after, guard⟩ := o
    simp only at ho
    subst ho
    rw [execOp_call_go, hv]
    simpa using hrun vs V
  rw [he, Oper.upon_enter]
  refine hc.mono ?_
  rintro e w' ⟨rfl, h1⟩
  exact h w' h1
theorem step_go0 {P : Program} {ops : Array Oper} {o : Oper} {a : Act} {V : World} {K : Act → World → Prop} {Q : Exit → Act → World → Prop} {F : Prop} (hgd : o.guard = none) (f : FuncId) (xs : Array Operand) (ats : Array TypeId)
    (ho : o.op = .call { callee := .value (.func f), args := xs, argTypes := ats }) (vs : Array Value) (hv : xs.map a.eval = vs) (hrun : ∀ vs w, (callFunc f vs).run P w = .ok (.enter f vs) w) (v : Value) (P1 : World → Prop)
    (hc : Calls P f vs V fun e W' => e = .returned v ∧ P1 W') (h : ∀ w', P1 w' → K (a.put o.dst v) w') : if Region.wanted o (yielded ops a.tmps) = true then Oper.wp P o a V K Q else F :=
  step_go (by simp [Region.wanted, hgd]) f xs ats ho vs hv hrun v P1 hc h
theorem ms0 {code : List (List Int)} {safe : List Bool} {sk wb : Bool} (h1 : safe.getD 0 false = sk) (h2 : wtI (ipart code 0 0) = wb) : msafe code safe 0 = (sk || wb) := by
  unfold msafe; rw [h1, h2]; simp
theorem msj {code : List (List Int)} {safe : List Bool} {sk ah wb : Bool} {j : Nat} (h0 : 0 < j) (h1 : safe.getD j false = sk) (h3 : wtI (ipart code (j - 1) 0) = ah) (h2 : wtI (ipart code j 0) = wb) : msafe code safe j = (sk || ah || wb) := by
  unfold msafe; rw [h1, h2, h3, decide_eq_true h0]; simp
section
variable {W : World} {A : Option Addr} {m : Nat} {Ac : Nat → Option Addr} {nc cc : Nat → Nat} {As : Nat → Option Addr} {ns cs : Nat → Nat} {code : Nat → List (List Int)} {safe : Nat → List Bool}
set_option maxRecDepth 100000 in
set_option maxHeartbeats 32000000 in
theorem rmend_any (c : Nat) (hP : PM W A m Ac nc cc As ns cs code safe) (hm : m ≤ 20) (hl : ∀ i, i < m → nc i ≤ 100 ∧ ns i ≤ 1000) :
    Calls Tryd.prog 16 #[.agg #[.slice A m c]] W fun e W' => ∃ Ao co Bc dc Bs ds, e = .returned (.agg #[.slice Ao m co]) ∧ PM W' Ao m Bc nc dc Bs nc ds code (fun i => mendS (code i) (safe i) (nc i)) ∧ Chg (fun _ => False) W W' := by
  obtain ⟨w1, hw1⟩ : ∃ w1, w1 = ((W.alloc (.cells #[.slice A m c] 24)).alloc (.cells #[.slice none 0 0] 24)).alloc (.cells #[.slice none 0 0] 24) := ⟨_, rfl⟩
  have hcb : Chg (fun _ => False) W w1 := by rw [hw1]; exact (((Chg.refl _ _).alloc _).alloc _).alloc _
  have HCB := Lib.hid hcb
  have HB : Hid (Blk w1 W.heap.size 24 #[.slice A m c]) := Lib.hid (by rw [hw1]; exact ((Blk.new W _ _).alloc _).alloc _)
  have HR : Hid (Blk w1 (W.heap.size + 1) 24 #[.slice none 0 0]) := Lib.hid (by
    rw [hw1]
    have h := Blk.new (W.alloc (.cells #[.slice A m c] 24)) 24 #[.slice none 0 0]
    rw [show (W.alloc (.cells #[.slice A m c] 24)).heap.size = W.heap.size + 1 from by simp] at h
    exact h.alloc _)
  have HX : Hid (Blk w1 (W.heap.size + 1 + 1) 24 #[.slice none 0 0]) := Lib.hid (by
    rw [hw1]
    have h := Blk.new ((W.alloc (.cells #[.slice A m c] 24)).alloc (.cells #[.slice none 0 0] 24)) 24 #[.slice none 0 0]
    rw [show ((W.alloc (.cells #[.slice A m c] 24)).alloc (.cells #[.slice none 0 0] 24)).heap.size = W.heap.size + 1 + 1 from by simp] at h
    exact h)
  have HSZ1 : Hid (w1.heap.size = W.heap.size + 3) := Lib.hid (by rw [hw1]; simp)
  have HW1 := Lib.hid hw1
  have HP := Lib.hid hP
  have HL := Lib.hid hl
  clear hP hl hcb hw1
  go_enter Tryd.func16, Tryd.ntmps16
  go_wp2
  rw [← HW1.out]
  go_loopw [4] (fun iv wr => ∃ k : Nat, k ≤ m ∧ iv = .int .i64 k ∧ Hid (∃ Ao co fv Bc dc Bs ds, RE w1 wr (W.heap.size + 1 + 1) k Ao co fv Bc dc Bs ds nc code safe)) (fun iv _ => m - (intOf iv).toNat)
  case atStart => exact ⟨0, by omega, rfl, Lib.hid ⟨none, 0, [], fun _ => none, fun _ => 0, fun _ => none, fun _ => 0, ⟨HX.out, Row.nil _ _ _ _, fun i hi => absurd hi (by omega), fun i hi => absurd hi (by omega), Chg.refl _ _, by have := HSZ1.out; omega⟩⟩⟩
  case round =>
    obtain ⟨k, hk, rfl, HR0⟩ := hrel
    obtain ⟨Ao, co, fv, Bc, dc, Bs, ds, hRE⟩ := HR0.out
    have HRE := Lib.hid hRE
    have hc1 := hRE.chg
    have hsz1 := hc1.size
    have hs1 := HSZ1.out
    have HCW : Hid (Chg (fun _ => False) W wr) := Lib.hid (HCB.out.trans hc1 (fun g hg h => by omega))
    have b0 := (HB.out.kept hc1 (fun h => by omega)).cell 0
    have HBr := Lib.hid (HB.out.kept hc1 (fun h => by omega))
    have HRr := Lib.hid (HR.out.kept hc1 (fun h => by omega))
    have lw : W.heap.size + 3 ≤ wr.heap.size := by omega
    simp at b0
    clear hRE hc1 hsz1 hs1 HR0 HR HB HX
    have k0 : (0 : Int) ≤ k := by omega
    by_cases hlt : k < m
    · have k1 : (k : Int) < m := by omega
      obtain ⟨b, o, rfl, hbl, hcc⟩ := (HP.out.chg HCW.out).cells (by omega)
      obtain ⟨e0, e1⟩ := hcc k hlt
      obtain ⟨q1, q2⟩ := HL.out k hlt
      have HFX := Lib.hid (fun (V : World) (hc : Chg (fun _ => False) W V) => (HP.out.chg hc).fn k hlt)
      obtain ⟨nk, hnk⟩ : ∃ nk, nc k = nk := ⟨_, rfl⟩
      obtain ⟨Ak, hAk⟩ : ∃ x, Ac k = x := ⟨_, rfl⟩
      obtain ⟨ck, hck⟩ : ∃ x, cc k = x := ⟨_, rfl⟩
      obtain ⟨Sk, hSk⟩ : ∃ x, As k = x := ⟨_, rfl⟩
      obtain ⟨mk, hmk⟩ : ∃ x, ns k = x := ⟨_, rfl⟩
      obtain ⟨dk, hdk⟩ : ∃ x, cs k = x := ⟨_, rfl⟩
      rw [hAk, hnk, hck] at e0
      rw [hSk, hmk, hdk] at e1
      rw [hnk] at q1
      rw [hmk] at q2
      rw [hAk, hnk, hSk, hmk] at HFX
      have HNK := Lib.hid hnk
      clear hcc hnk hAk hck hSk hmk hdk
      have HFW := Lib.hid (HFX.out _ HCW.out)
      have hrow0 : Row ((wr.alloc (.cells #[.slice Ak nk ck, .slice Sk mk dk] 33)).alloc (.cells #[] 43)) wr.heap.size 43 5 (some ⟨wr.heap.size + 1, 0, none⟩) 0 0 (kv []) := by
        have h := heap_alloc_new (wr.alloc (.cells #[.slice Ak nk ck, .slice Sk mk dk] 33)) (.cells #[] 43)
        rw [show (wr.alloc (.cells #[.slice Ak nk ck, .slice Sk mk dk] 33)).heap.size = wr.heap.size + 1 from by simp] at h
        exact ⟨rfl, Nat.le_refl _, Nat.zero_le _, .inr ⟨wr.heap.size + 1, #[], rfl, by omega, h, by simp, rfl⟩⟩
      have HR0 := Lib.hid hrow0
      have HFB := Lib.hid (Blk.new wr 33 #[.slice Ak nk ck, .slice Sk mk dk])
      have HLE := Lib.hid (show wr.heap.size ≤ ((wr.alloc (.cells #[.slice Ak nk ck, .slice Sk mk dk] 33)).alloc (.cells #[] 43)).heap.size by simp; omega)
      clear hrow0
      go_wp2_with (at_builtin; refine wpList_apI rfl (.tmp 21) (.tmp 23) rfl rfl wr.heap.size _ 0 0 [] rfl HR0.out Ak nk ck (code k) rfl ((HFW.out.c.alloc _).alloc _) ?_ ?_ ?_; (next => omega); (next => exact HLE.out); intro A3 c3 w3 s1 s2 s3; simp only [Nat.zero_add, List.nil_append] at s1; have HS1 := Lib.hid s1; have HC3 := Lib.hid (Chg.grown (((Chg.refl (fun _ => False) wr).alloc (.cells #[.slice Ak nk ck, .slice Sk mk dk] 33)).alloc (.cells #[] 43)) s2 (fun g hg => .inr (by have := Option.some.inj (show some (wr.heap.size + 1) = some g from hg); omega))); have HF3 := Lib.hid ((HFB.out.alloc (.cells #[] 43)).grown s2 (fun e => by have := Option.some.inj (show some wr.heap.size = some (wr.heap.size + 1) from e); omega)); have y0 := HF3.out.cell 0; have y9 := HF3.out.lt; simp at y0; clear s1 s2 s3)
      obtain ⟨w4, hw4⟩ : ∃ w4, w4 = w3.alloc (.cells #[.slice A3 nk c3, .slice none 0 0] 33) := ⟨_, rfl⟩
      rw [← hw4]
      have HG0 : Hid (RG wr w4 wr.heap.size w3.heap.size nk 0 Ak ck Sk mk dk A3 c3 none 0 (code k) (safe k)) := Lib.hid (by
        rw [hw4]
        have h9 := HF3.out.lt
        exact ⟨HF3.out.alloc _, Blk.new _ _ _, HS1.out.alloc _, Row.nil _ _ _ _, HC3.out.alloc _, Nat.le_refl _, by omega, by omega⟩)
      clear hw4 y0 y9
      obtain ⟨wo, hwo⟩ : ∃ wo, wo = wr := ⟨_, rfl⟩
      subst hwo
      go_loopw [7] (fun iv wq => ∃ j : Nat, j ≤ nk ∧ iv = .int .i64 j ∧ Hid (∃ Sg cg, RG wo wq wo.heap.size w3.heap.size nk j Ak ck Sk mk dk A3 c3 Sg cg (code k) (safe k))) (fun iv _ => nk - (intOf iv).toNat)
      case atStart => exact ⟨0, by omega, rfl, Lib.hid ⟨_, _, HG0.out⟩⟩
      case round =>
        obtain ⟨j, hj, rfl, HI⟩ := hrel
        obtain ⟨wq, hwq⟩ : ∃ wq, wq = wr := ⟨_, rfl⟩
        subst hwq
        obtain ⟨Sg, cg, hG⟩ := HI.out
        have HG := Lib.hid hG
        have j0 : (0 : Int) ≤ j := by omega
        have HCWQ : Hid (Chg (fun _ => False) W wq) := Lib.hid (HCW.out.trans hG.chg (fun _ _ h => h))
        have x0 := hG.b5.cell 0
        have x1 := hG.b5.cell 1
        have x2 := hG.b6.cell 1
        have x3 := hG.b6.cell 0
        have x8 := hG.b5.lt
        have x9 := hG.b6.lt
        simp at x0 x1 x2 x3
        clear HI hG HG0
        by_cases hjl : j < nk
        · have j1 : (j : Int) < nk := by omega
          obtain ⟨bi, oi, hAe, hbi, c0, _⟩ := (HFX.out _ HCWQ.out).instr hjl
          have HSFX := Lib.hid (fun (V : World) (hc : Chg (fun _ => False) wq V) => HFX.out _ (HCWQ.out.trans hc (fun _ _ h => h)))
          obtain ⟨sk, hsk⟩ : ∃ sk, (safe k).getD j false = sk := ⟨_, rfl⟩
          obtain ⟨wb, hwb⟩ : ∃ wb, wtI (ipart (code k) j 0) = wb := ⟨_, rfl⟩
          have HSF := Lib.hid (fun V (hc : Chg (fun _ => False) wq V) => show Calls Tryd.prog 21 #[.agg #[.slice Ak nk ck, .slice Sk mk dk], .int .i64 (j : Int)] V (fun e W' => e = .returned (.bool sk) ∧ Chg (fun _ => False) V W') from by rw [← hsk]; exact safe_any (HSFX.out V hc) q2 j (by omega))
          have HWT := Lib.hid (fun V => show Calls Tryd.prog 25 #[.int .i64 (ipart (code k) j 0)] V (fun e W' => e = .returned (.bool wb) ∧ V = W') from by rw [← hwb]; exact rwaits_i _ V)
          have HSK := Lib.hid hsk
          have HWB := Lib.hid hwb
          have HJ1 := Lib.hid (show j + 1 ≤ 1048576 by omega)
          have HQZ := Lib.hid (fun (V : World) (ob : Obj) (h : wq.heap.size ≤ V.heap.size) => show wo.heap.size ≤ (V.alloc ob).heap.size from by have := HG.out.chg.size; simp; omega)
          have hsq := HG.out.chg.size
          subst hAe
          by_cases hj0 : j = 0
          · subst hj0
            have hms := ms0 HSK.out HWB.out
            have HMS0 := Lib.hid hms
            clear hsk hwb hms
            simp only [Nat.zero_mul, Nat.add_zero] at c0
            have HSF := Lib.hid (fun V (hc : Chg (fun _ => False) wq V) => show Calls Tryd.prog 21 #[.agg #[.slice (some ⟨bi, oi, none⟩) nk ck, .slice Sk mk dk], .int .i64 0] V (fun e W' => e = .returned (.bool sk) ∧ Chg (fun _ => False) V W') from HSF.out V hc)
            generalize ipart (code k) 0 0 = op at *
            cases sk with
            | true =>
              have HMS : Hid (msafe (code k) (safe k) 0 = true) := Lib.hid (by rw [HMS0.out]; simp)
              clear HMS0 HSK HWB
              go_wp2
              first
                | go_region_law (first
                  | (refine step_go0 rfl 21 _ _ rfl #[.agg #[.slice (some ⟨bi, oi, none⟩) nk ck, .slice Sk mk dk], .int .i64 0] (by simp [Act.eval, Act.put]) (fun _ _ => rfl) (.bool true) (fun w5 => Chg (fun _ => False) wq.drew w5) (HSF.out wq.drew ((Chg.refl _ wq).drew)) ?_; intro w5 hc5; have HC5 := Lib.hid (((Chg.refl (fun _ => False) wq).drew).trans hc5 (fun _ _ h => h)); have HG5 := Lib.hid (HG.out.same HC5.out); have v1 := HG5.out.b6.cell 1; have v2 := HG5.out.b5.cell 0; have v3 := HG5.out.b6.lt; have HSZ5 : Hid (wo.heap.size ≤ (w5.alloc (.cells #[.bool true] 4)).heap.size) := Lib.hid (HQZ.out w5 _ HC5.out.size); have v4 := HG5.out.b5.lt; have v5 := (HC5.out.cell (p := ⟨bi, oi, none⟩) hbi (fun h => h)).trans c0; simp at v1 v2; clear hc5)
                  | (refine step_apB rfl (.tmp 46) (.tmp 62) rfl wo.heap.size Sg 0 cg ((mendS (code k) (safe k) nk).take 0) rfl (HG5.out.rs.alloc _) _ 1 1 [true] rfl (Rd.litb _ _ _) HJ1.out ?_ ?_; (next => exact HSZ5.out); intro A7 c7 w7 r1 r2 r3; have hx6 := ((HG5.out.b6.alloc (.cells #[.bool true] 4)).grown r2 (fun e => (HG5.out.rs.blk_ne HG5.out.b6 (by decide)) e.symm)); have z1 := hx6.cell 1; have z2 := hx6.frozen 1; have z3 := hx6.lt; have HN := Lib.hid (RG.next HG5.out hjl ((Chg.refl (fun _ => False) w5).alloc (.cells #[.bool true] 4)) (by rw [HMS.out]; exact r1) r2); simp at z1; clear r1 r2 r3 hx6))
                | fail "REGION"
              all_goals go_wp2
              all_goals go_roundw
              all_goals first
                | exact ⟨0 + 1, by omega, rfl, Lib.hid ⟨_, _, HN.out⟩⟩
                | (simp [intOf]; omega)
            | false =>
              have HMS : Hid (msafe (code k) (safe k) 0 = wb) := Lib.hid (by rw [HMS0.out]; simp)
              clear HMS0 HSK HWB
              go_wp2
              first
                | go_region_law (first
                  | (refine step_go0 rfl 21 _ _ rfl #[.agg #[.slice (some ⟨bi, oi, none⟩) nk ck, .slice Sk mk dk], .int .i64 0] (by simp [Act.eval, Act.put]) (fun _ _ => rfl) (.bool false) (fun w5 => Chg (fun _ => False) wq.drew w5) (HSF.out wq.drew ((Chg.refl _ wq).drew)) ?_; intro w5 hc5; have HC5 := Lib.hid (((Chg.refl (fun _ => False) wq).drew).trans hc5 (fun _ _ h => h)); have HG5 := Lib.hid (HG.out.same HC5.out); have v1 := HG5.out.b6.cell 1; have v2 := HG5.out.b5.cell 0; have v3 := HG5.out.b6.lt; have HSZ5 : Hid (wo.heap.size ≤ (w5.alloc (.cells #[.bool wb] 4)).heap.size) := Lib.hid (HQZ.out w5 _ HC5.out.size); have v4 := HG5.out.b5.lt; have v5 := (HC5.out.cell (p := ⟨bi, oi, none⟩) hbi (fun h => h)).trans c0; simp at v1 v2; clear hc5)
                  | (refine step_go (by rfl) 25 _ _ rfl #[.int .i64 op] (by simp [Act.eval, Act.put]) (fun _ _ => rfl) (.bool wb) (fun w6 => w5 = w6) (HWT.out w5) ?_; intro w6 hw6; subst hw6)
                  | (refine step_apB rfl (.tmp 46) (.tmp 62) rfl wo.heap.size Sg 0 cg ((mendS (code k) (safe k) nk).take 0) rfl (HG5.out.rs.alloc _) _ 1 1 [wb] rfl (Rd.litb _ _ _) HJ1.out ?_ ?_; (next => exact HSZ5.out); intro A7 c7 w7 r1 r2 r3; have hx6 := ((HG5.out.b6.alloc (.cells #[.bool wb] 4)).grown r2 (fun e => (HG5.out.rs.blk_ne HG5.out.b6 (by decide)) e.symm)); have z1 := hx6.cell 1; have z2 := hx6.frozen 1; have z3 := hx6.lt; have HN := Lib.hid (RG.next HG5.out hjl ((Chg.refl (fun _ => False) w5).alloc (.cells #[.bool wb] 4)) (by rw [HMS.out]; exact r1) r2); simp at z1; clear r1 r2 r3 hx6))
                | fail "REGION"
              all_goals go_wp2
              all_goals go_roundw
              all_goals first
                | exact ⟨0 + 1, by omega, rfl, Lib.hid ⟨_, _, HN.out⟩⟩
                | (simp [intOf]; omega)
          · have hjp : 0 < j := by omega
            have jp : (0 : Int) < j := by omega
            have jd : decide ((0 : Int) < (j : Int)) = true := decide_eq_true jp
            have jm : (j : Int) - 1 = ((j - 1 : Nat) : Int) := by omega
            have jm0 : (0 : Int) ≤ (j : Int) - 1 := by omega
            have jmt : ((j : Int) - 1).toNat = j - 1 := by omega
            have jm1 : (j : Int) - 1 < (nk : Int) := by omega
            obtain ⟨bi', oi', hAe', hbi', d0, _⟩ := (HFX.out _ HCWQ.out).instr (show j - 1 < nk by omega)
            cases hAe'
            obtain ⟨ah, hah⟩ : ∃ ah, wtI (ipart (code k) (j - 1) 0) = ah := ⟨_, rfl⟩
            have HWA := Lib.hid (fun V => show Calls Tryd.prog 25 #[.int .i64 (ipart (code k) (j - 1) 0)] V (fun e W' => e = .returned (.bool ah) ∧ V = W') from by rw [← hah]; exact rwaits_i _ V)
            have hms := msj hjp HSK.out hah HWB.out
            have HMS0 := Lib.hid hms
            clear hsk hwb hms hah jm
            generalize ipart (code k) j 0 = op at *
            generalize ipart (code k) (j - 1) 0 = oq at *
            cases sk with
            | true =>
              have HMS : Hid (msafe (code k) (safe k) j = true) := Lib.hid (by rw [HMS0.out]; simp)
              clear HMS0 HSK HWB
              go_wp2_with (go_at_call 25; refine (HWA.out _).mono ?_; rintro e w6 ⟨rfl, rfl⟩)
              first
                | go_region_law (first
                  | (refine step_go0 rfl 21 _ _ rfl #[.agg #[.slice (some ⟨bi, oi, none⟩) nk ck, .slice Sk mk dk], .int .i64 j] (by simp [Act.eval, Act.put]) (fun _ _ => rfl) (.bool true) (fun w5 => Chg (fun _ => False) wq.drew w5) (HSF.out wq.drew ((Chg.refl _ wq).drew)) ?_; intro w5 hc5; have HC5 := Lib.hid (((Chg.refl (fun _ => False) wq).drew).trans hc5 (fun _ _ h => h)); have HG5 := Lib.hid (HG.out.same HC5.out); have v1 := HG5.out.b6.cell 1; have v2 := HG5.out.b5.cell 0; have v3 := HG5.out.b6.lt; have HSZ5 : Hid (wo.heap.size ≤ (w5.alloc (.cells #[.bool true] 4)).heap.size) := Lib.hid (HQZ.out w5 _ HC5.out.size); have v4 := HG5.out.b5.lt; have v5 := (HC5.out.cell (p := ⟨bi, oi + j * 5, none⟩) hbi (fun h => h)).trans c0; simp at v1 v2; clear hc5)
                  | (refine step_apB rfl (.tmp 46) (.tmp 62) rfl wo.heap.size Sg j cg ((mendS (code k) (safe k) nk).take j) rfl (HG5.out.rs.alloc _) _ 1 1 [true] rfl (Rd.litb _ _ _) HJ1.out ?_ ?_; (next => exact HSZ5.out); intro A7 c7 w7 r1 r2 r3; have hx6 := ((HG5.out.b6.alloc (.cells #[.bool true] 4)).grown r2 (fun e => (HG5.out.rs.blk_ne HG5.out.b6 (by decide)) e.symm)); have z1 := hx6.cell 1; have z2 := hx6.frozen 1; have z3 := hx6.lt; have HN := Lib.hid (RG.next HG5.out hjl ((Chg.refl (fun _ => False) w5).alloc (.cells #[.bool true] 4)) (by rw [HMS.out]; exact r1) r2); simp at z1; clear r1 r2 r3 hx6))
                | fail "REGION"
              all_goals go_wp2
              all_goals go_roundw
              all_goals first
                | exact ⟨j + 1, by omega, by go_num, Lib.hid ⟨_, _, HN.out⟩⟩
                | (simp [intOf]; omega)
            | false =>
              cases ah with
              | true =>
                have HMS : Hid (msafe (code k) (safe k) j = true) := Lib.hid (by rw [HMS0.out]; simp)
                clear HMS0 HSK HWB
                go_wp2_with (go_at_call 25; refine (HWA.out _).mono ?_; rintro e w6 ⟨rfl, rfl⟩)
                first
                  | go_region_law (first
                    | (refine step_go0 rfl 21 _ _ rfl #[.agg #[.slice (some ⟨bi, oi, none⟩) nk ck, .slice Sk mk dk], .int .i64 j] (by simp [Act.eval, Act.put]) (fun _ _ => rfl) (.bool false) (fun w5 => Chg (fun _ => False) wq.drew w5) (HSF.out wq.drew ((Chg.refl _ wq).drew)) ?_; intro w5 hc5; have HC5 := Lib.hid (((Chg.refl (fun _ => False) wq).drew).trans hc5 (fun _ _ h => h)); have HG5 := Lib.hid (HG.out.same HC5.out); have v1 := HG5.out.b6.cell 1; have v2 := HG5.out.b5.cell 0; have v3 := HG5.out.b6.lt; have HSZ5 : Hid (wo.heap.size ≤ (w5.alloc (.cells #[.bool true] 4)).heap.size) := Lib.hid (HQZ.out w5 _ HC5.out.size); have v4 := HG5.out.b5.lt; have v5 := (HC5.out.cell (p := ⟨bi, oi + j * 5, none⟩) hbi (fun h => h)).trans c0; simp at v1 v2; clear hc5)
                    | (refine step_apB rfl (.tmp 46) (.tmp 62) rfl wo.heap.size Sg j cg ((mendS (code k) (safe k) nk).take j) rfl (HG5.out.rs.alloc _) _ 1 1 [true] rfl (Rd.litb _ _ _) HJ1.out ?_ ?_; (next => exact HSZ5.out); intro A7 c7 w7 r1 r2 r3; have hx6 := ((HG5.out.b6.alloc (.cells #[.bool true] 4)).grown r2 (fun e => (HG5.out.rs.blk_ne HG5.out.b6 (by decide)) e.symm)); have z1 := hx6.cell 1; have z2 := hx6.frozen 1; have z3 := hx6.lt; have HN := Lib.hid (RG.next HG5.out hjl ((Chg.refl (fun _ => False) w5).alloc (.cells #[.bool true] 4)) (by rw [HMS.out]; exact r1) r2); simp at z1; clear r1 r2 r3 hx6))
                  | fail "REGION"
                all_goals go_wp2
                all_goals go_roundw
                all_goals first
                  | exact ⟨j + 1, by omega, by go_num, Lib.hid ⟨_, _, HN.out⟩⟩
                  | (simp [intOf]; omega)
              | false =>
                have HMS : Hid (msafe (code k) (safe k) j = wb) := Lib.hid (by rw [HMS0.out]; simp)
                clear HMS0 HSK HWB
                go_wp2_with (go_at_call 25; refine (HWA.out _).mono ?_; rintro e w6 ⟨rfl, rfl⟩)
                first
                  | go_region_law (first
                    | (refine step_go0 rfl 21 _ _ rfl #[.agg #[.slice (some ⟨bi, oi, none⟩) nk ck, .slice Sk mk dk], .int .i64 j] (by simp [Act.eval, Act.put]) (fun _ _ => rfl) (.bool false) (fun w5 => Chg (fun _ => False) wq.drew w5) (HSF.out wq.drew ((Chg.refl _ wq).drew)) ?_; intro w5 hc5; have HC5 := Lib.hid (((Chg.refl (fun _ => False) wq).drew).trans hc5 (fun _ _ h => h)); have HG5 := Lib.hid (HG.out.same HC5.out); have v1 := HG5.out.b6.cell 1; have v2 := HG5.out.b5.cell 0; have v3 := HG5.out.b6.lt; have HSZ5 : Hid (wo.heap.size ≤ (w5.alloc (.cells #[.bool wb] 4)).heap.size) := Lib.hid (HQZ.out w5 _ HC5.out.size); have v4 := HG5.out.b5.lt; have v5 := (HC5.out.cell (p := ⟨bi, oi + j * 5, none⟩) hbi (fun h => h)).trans c0; simp at v1 v2; clear hc5)
                    | (refine step_go (by rfl) 25 _ _ rfl #[.int .i64 op] (by simp [Act.eval, Act.put]) (fun _ _ => rfl) (.bool wb) (fun w6 => w5 = w6) (HWT.out w5) ?_; intro w6 hw6; subst hw6)
                    | (refine step_apB rfl (.tmp 46) (.tmp 62) rfl wo.heap.size Sg j cg ((mendS (code k) (safe k) nk).take j) rfl (HG5.out.rs.alloc _) _ 1 1 [wb] rfl (Rd.litb _ _ _) HJ1.out ?_ ?_; (next => exact HSZ5.out); intro A7 c7 w7 r1 r2 r3; have hx6 := ((HG5.out.b6.alloc (.cells #[.bool wb] 4)).grown r2 (fun e => (HG5.out.rs.blk_ne HG5.out.b6 (by decide)) e.symm)); have z1 := hx6.cell 1; have z2 := hx6.frozen 1; have z3 := hx6.lt; have HN := Lib.hid (RG.next HG5.out hjl ((Chg.refl (fun _ => False) w5).alloc (.cells #[.bool wb] 4)) (by rw [HMS.out]; exact r1) r2); simp at z1; clear r1 r2 r3 hx6))
                  | fail "REGION"
                all_goals go_wp2
                all_goals go_roundw
                all_goals first
                  | exact ⟨j + 1, by omega, by go_num, Lib.hid ⟨_, _, HN.out⟩⟩
                  | (simp [intOf]; omega)
        · obtain rfl : j = nk := by omega
          have HREQ := Lib.hid (HRE.out.same HG.out.chg)
          have y0 := HREQ.out.x.cell 0
          have y1 := HREQ.out.x.frozen 0
          have y2 := HREQ.out.x.lt
          have HB1 := Lib.hid (show w1.heap.size ≤ wo.heap.size from HRE.out.chg.size)
          have HBQ := Lib.hid (show w1.heap.size ≤ wq.heap.size from Nat.le_trans HB1.out HG.out.chg.size)
          simp at y0
          go_wp2_with (at_builtin; refine wpList_apF rfl (.tmp 66) (.tmp 68) rfl rfl w1.heap.size Ao k co fv rfl (HREQ.out.o.alloc _) _ 1 1 [.slice A3 j c3, .slice Sg j cg] rfl (Rd.litF _ _ _ _) ?_ ?_ ?_ ?_; (next => (intro u hu; simp at hu; rcases hu with rfl | rfl <;> rfl)); (next => omega); (next => (have := HBQ.out; simp; omega)); intro A8 c8 w8 r1 r2 r3; have hx8 := ((HREQ.out.x.alloc (.cells #[.slice A3 j c3, .slice Sg j cg] 33)).grown r2 (fun e => (HREQ.out.o.blk_ne HREQ.out.x (by decide)) e.symm)); have z1 := hx8.cell 0; have z2 := hx8.frozen 0; have z3 := hx8.lt; have HN := Lib.hid (RE.next HREQ.out ((Chg.refl (fun _ => False) wq).alloc (.cells #[.slice A3 j c3, .slice Sg j cg] 33)) (by rw [HNK.out]; exact (HG.out.ra.alloc _).lower HB1.out) (HFX.out _ HCWQ.out).u (by rw [HNK.out]; have h7 := HG.out.rs; rw [List.take_of_length_le (by rw [mendS_len]; exact Nat.le_refl _)] at h7; exact (h7.alloc _).lower HB1.out) (by rw [HNK.out]; exact r1) r2); simp at z1; clear r1 r2 r3 hx8)
          go_roundw
          all_goals first
            | exact ⟨k + 1, by omega, by go_num, Lib.hid ⟨_, _, _, _, _, _, _, HN.out⟩⟩
            | (simp [intOf]; omega)
    · obtain rfl : k = m := by omega
      have m0 := HRE.out.x.cell 0
      have m9 := HRE.out.x.lt
      have r0 := HRr.out.cell 0
      have rf := HRr.out.frozen 0
      have r9 := HRr.out.lt
      simp at m0 r0
      go_wp2
      have hres := HRr.out.set_ 0 (.slice Ao k co)
      have hch : Chg (fun g => g = W.heap.size + 1) wr (wr.setCell ⟨W.heap.size + 1, 0, none⟩ (.slice Ao k co)) := Chg.setCell (S := fun g => g = W.heap.size + 1) (Chg.refl _ _) (p := ⟨W.heap.size + 1, 0, none⟩) (.inl rfl) _
      refine bodyPost_ret (results_cell_row rfl _ _ (W.heap.size + 1) 24 #[.slice Ao k co] (0, 0) _ rfl (by have h9 := hres; simp only [List.setIfInBounds_toArray, List.set_cons_zero] at h9; exact h9) Tryd.underlying24 rfl (by kernel_rfl)) rfl ?_
      have hpm := RE.pm HRE.out (fun i hi => by have := (HL.out i hi).1; omega) hch (by have := HSZ1.out; omega)
      exact ⟨_, _, _, _, _, _, rfl, hpm, HCW.out.trans hch (fun g hg h => by omega)⟩
end
end Go.Proofs.YtkpipoicobmjkaaDoor
