/- A program is mended, by the program. -/
import Derived.Test.YtkpipoicobmjkaaDoorVaS
namespace Go.Proofs.YtkpipoicobmjkaaDoor
open Go.ChangeShapes Go.WideShapes Go.ChangeAt Go.RowKit Go.Deep
set_option linter.unusedVariables false
set_option linter.unusedSimpArgs false

def RoundIn (w2 : World) (S n : Nat) (code : List (List Int)) (l0 : List Bool) (j : Nat) (w : World) : Prop := Blk w S 4 (bls (mendL code l0 j)).toArray ∧ Chg (fun g => g = S) w2 w
theorem RoundIn.no {w2 w w' : World} {S n j : Nat} {code : List (List Int)} {l0 : List Bool} (h : RoundIn w2 S n code l0 j w) (hw : wtI (ipart code j 0) = false) (hc : Chg (fun _ => False) w w') : RoundIn w2 S n code l0 (j + 1) w' := by
  refine ⟨?_, h.2.trans hc (fun _ _ h => h.elim)⟩
  rw [mendL, mstep, if_neg (by simp [hw])]
  exact h.1.kept hc (fun h => h)
theorem RoundIn.one {w2 w w' : World} {S n j : Nat} {code : List (List Int)} {l0 : List Bool} (h : RoundIn w2 S n code l0 j w) (hw : wtI (ipart code j 0) = true) (hc : Chg (fun _ => False) w w') (hl : l0.length ≤ j + 1) : RoundIn w2 S n code l0 (j + 1) (w'.setCell ⟨S, j, none⟩ (.bool true)) := by
  refine ⟨?_, (h.2.trans hc (fun _ _ h => h.elim)).setCell (p := ⟨S, j, none⟩) (.inl rfl) _⟩
  rw [mendL, mstep, if_pos hw, List.set_eq_of_length_le (by simp [mendL_len]; omega), ← bls_set]
  exact (h.1.kept hc (fun h => h)).set_ j _
theorem RoundIn.two {w2 w w' : World} {S n j : Nat} {code : List (List Int)} {l0 : List Bool} (h : RoundIn w2 S n code l0 j w) (hw : wtI (ipart code j 0) = true) (hc : Chg (fun _ => False) w w') : RoundIn w2 S n code l0 (j + 1) ((w'.setCell ⟨S, j, none⟩ (.bool true)).setCell ⟨S, j + 1, none⟩ (.bool true)) := by
  refine ⟨?_, ((h.2.trans hc (fun _ _ h => h.elim)).setCell (p := ⟨S, j, none⟩) (.inl rfl) _).setCell (p := ⟨S, j + 1, none⟩) (.inl rfl) _⟩
  rw [mendL, mstep, if_pos hw, ← bls_set, ← bls_set]
  exact ((h.1.kept hc (fun h => h)).set_ j _).set_ (j + 1) _
theorem heap_repb (w : World) (n : Nat) (t : TypeId) (k : Nat) (hk : k = w.heap.size) : (w.alloc (.cells (Array.replicate n (Value.bool false)) t)).heap[k]? = some (.cells (List.replicate n (Value.bool false)).toArray t (0, 0)) := by
  subst hk
  have h := heap_alloc_new w (.cells (Array.replicate n (Value.bool false)) t)
  rw [h]; simp
section
variable {W : World} {A : Option Addr} {m : Nat} {Ac : Nat → Option Addr} {nc cc : Nat → Nat} {As : Nat → Option Addr} {ns cs : Nat → Nat} {code : Nat → List (List Int)} {safe : Nat → List Bool}
set_option maxRecDepth 100000 in
set_option maxHeartbeats 16000000 in
theorem mend_any (c : Nat) (hP : PM W A m Ac nc cc As ns cs code safe) (hT : Tab W) (hm : m ≤ 20) (hl : ∀ i, i < m → nc i ≤ 100 ∧ ns i ≤ 1000) :
    Calls Tryd.prog 15 #[.agg #[.slice A m c]] W fun e W' => ∃ G Bc dc Bs ds, e = .returned (.agg #[.slice (some ⟨G, 0, none⟩) m m]) ∧ PM W' (some ⟨G, 0, none⟩) m Bc nc dc Bs nc ds code (fun i => mendS (code i) (safe i) (nc i)) ∧ Chg (fun _ => False) W W' := by
  have hmk := make_funcs m (by omega)
  have hmb := fun n (hn : n ≤ 1000000) => make_bls n hn
  have hzs := zfuncs_size m
  generalize zfuncs m = Z at *
  obtain ⟨w1, hw1⟩ : ∃ w1, w1 = (((W.alloc (.cells #[.slice A m c] 24)).alloc (.cells #[.slice none 0 0] 24)).alloc (.cells Z 33)).alloc (.cells #[.slice (some ⟨W.heap.size + 1 + 1, 0, none⟩) m m] 24) := ⟨_, rfl⟩
  have hcb : Chg (fun _ => False) W w1 := by rw [hw1]; exact ((((Chg.refl _ _).alloc _).alloc _).alloc _).alloc _
  have HCB := Lib.hid hcb
  have HB : Hid (Blk w1 W.heap.size 24 #[.slice A m c]) := Lib.hid (by rw [hw1]; exact (((Blk.new W _ _).alloc _).alloc _).alloc _)
  have HR : Hid (Blk w1 (W.heap.size + 1) 24 #[.slice none 0 0]) := Lib.hid (by
    rw [hw1]
    have h := Blk.new (W.alloc (.cells #[.slice A m c] 24)) 24 #[.slice none 0 0]
    rw [show (W.alloc (.cells #[.slice A m c] 24)).heap.size = W.heap.size + 1 from by simp] at h
    exact (h.alloc _).alloc _)
  have HG : Hid (Blk w1 (W.heap.size + 1 + 1) 33 Z) := Lib.hid (by
    rw [hw1]
    have h := Blk.new ((W.alloc (.cells #[.slice A m c] 24)).alloc (.cells #[.slice none 0 0] 24)) 33 Z
    rw [show ((W.alloc (.cells #[.slice A m c] 24)).alloc (.cells #[.slice none 0 0] 24)).heap.size = W.heap.size + 1 + 1 from by simp] at h
    exact h.alloc _)
  have HM : Hid (Blk w1 (W.heap.size + 1 + 1 + 1) 24 #[.slice (some ⟨W.heap.size + 1 + 1, 0, none⟩) m m]) := Lib.hid (by
    rw [hw1]
    have h := Blk.new (((W.alloc (.cells #[.slice A m c] 24)).alloc (.cells #[.slice none 0 0] 24)).alloc (.cells Z 33)) 24 #[.slice (some ⟨W.heap.size + 1 + 1, 0, none⟩) m m]
    rw [show (((W.alloc (.cells #[.slice A m c] 24)).alloc (.cells #[.slice none 0 0] 24)).alloc (.cells Z 33)).heap.size = W.heap.size + 1 + 1 + 1 from by simp] at h
    exact h)
  have HSZ1 : Hid (w1.heap.size = W.heap.size + 4) := Lib.hid (by rw [hw1]; simp)
  have HW1 := Lib.hid hw1
  have HZ := Lib.hid hzs
  have HMB := Lib.hid hmb
  have HP := Lib.hid hP
  have HT := Lib.hid hT
  have HL := Lib.hid hl
  clear hzs hmb hP hT hl hcb hw1
  go_enter Tryd.func15, Tryd.ntmps15
  go_wp2
  rw [← HW1.out]
  go_loopw [17] (fun iv wr => ∃ k : Nat, k ≤ m ∧ iv = .int .i64 k ∧ Hid (∃ cv Bc dc Bs ds, ME w1 wr (W.heap.size + 1 + 1) m k cv Bc dc Bs ds nc code safe ∧ ∀ i, i < k → nc i ≤ dc i ∧ nc i ≤ ds i)) (fun iv _ => m - (intOf iv).toNat)
  case atStart => exact ⟨0, by omega, rfl, Lib.hid ⟨Z, fun _ => none, fun _ => 0, fun _ => none, fun _ => 0, ⟨HG.out, HZ.out, fun i hi => absurd hi (by omega), fun i hi => absurd hi (by omega), by have := HSZ1.out; omega, Chg.refl _ _⟩, fun i hi => absurd hi (by omega)⟩⟩
  case round =>
    obtain ⟨k, hk, rfl, HR0⟩ := hrel
    obtain ⟨cv, Bc, dc, Bs, ds, hME, hcap⟩ := HR0.out
    have HME := Lib.hid hME
    have HCAP := Lib.hid hcap
    have hc1 := hME.chg
    have hsz1 := hc1.size
    have hs1 := HSZ1.out
    have HCW : Hid (Chg (fun _ => False) W wr) := Lib.hid (HCB.out.trans hc1 (fun g hg h => by omega))
    have b0 := (HB.out.kept hc1 (fun h => by omega)).cell 0
    have HBr := Lib.hid (HB.out.kept hc1 (fun h => by omega))
    have HMr := Lib.hid (HM.out.kept hc1 (fun h => by omega))
    have HRr := Lib.hid (HR.out.kept hc1 (fun h => by omega))
    have lw : W.heap.size + 4 ≤ wr.heap.size := by omega
    simp at b0
    clear hME hcap hc1 hsz1 hs1 HR0 HR HB HM HG hmk
    have k0 : (0 : Int) ≤ k := by omega
    by_cases hlt : k < m
    · have k1 : (k : Int) < m := by omega
      obtain ⟨b, o, rfl, hbl, hcc⟩ := (HP.out.chg HCW.out).cells (by omega)
      obtain ⟨e0, e1⟩ := hcc k hlt
      obtain ⟨q1, q2⟩ := HL.out k hlt
      have HFX := Lib.hid (fun (V : World) (hc : Chg (fun _ => False) W V) => (HP.out.chg hc).fn k hlt)
      obtain ⟨nk, hnk⟩ : ∃ nk, nc k = nk := ⟨_, rfl⟩
      obtain ⟨Ak, hAk⟩ : ∃ x, Ac k = x := ⟨_, rfl⟩
      obtain ⟨ck, hck⟩ : ∃ x, cc k = x := ⟨_, rfl⟩
      obtain ⟨Sk, hSk⟩ : ∃ x, As k = x := ⟨_, rfl⟩
      obtain ⟨mk, hmk⟩ : ∃ x, ns k = x := ⟨_, rfl⟩
      obtain ⟨dk, hdk⟩ : ∃ x, cs k = x := ⟨_, rfl⟩
      rw [hAk, hnk, hck] at e0
      rw [hSk, hmk, hdk] at e1
      rw [hnk] at q1
      rw [hmk] at q2
      rw [hAk, hnk, hSk, hmk] at HFX
      have HNK := Lib.hid hnk
      clear hcc hnk hAk hck hSk hmk hdk
      have hmk2 := HMB.out nk (by omega)
      have hcX : Chg (fun _ => False) W ((wr.alloc (.cells #[.slice Ak nk ck, .slice Sk mk dk] 33)).alloc (.cells (Array.replicate nk (Value.bool false)) 4)) := (HCW.out.alloc _).alloc _
      have hFX := HFX.out _ hcX
      have hsl := hFX.lens
      have HLS := Lib.hid hsl
      have C1 := Lib.hid (show ((bls (safe k)).take nk).length = Nat.min mk nk by rw [List.length_take, bls_length, hsl]; exact Nat.min_comm _ _)
      have C2 := Lib.hid (fun (h0 : 0 < ((bls (safe k)).take nk).length) => show (some (⟨wr.heap.size + 1, 0, none⟩ : Addr) = some ⟨wr.heap.size + 1, 0, none⟩) ∧ ∃ ad, Sk = some ad ∧ ∀ j v, ((bls (safe k)).take nk)[j]? = some v → ((wr.alloc (.cells #[.slice Ak nk ck, .slice Sk mk dk] 33)).alloc (.cells (Array.replicate nk (Value.bool false)) 4)).cell? (ad.add j) = some v from by
        rw [List.length_take, bls_length, hsl] at h0
        obtain ⟨bs, os, hb1, hb2, hb3⟩ := hFX.s.2 (by omega)
        refine ⟨rfl, ⟨bs, os, none⟩, hb1, fun j v hv => ?_⟩
        have e : (⟨bs, os, none⟩ : Addr).add j = ⟨bs, os + j, none⟩ := by unfold Addr.add; split <;> simp_all
        rw [e]
        rw [List.getElem?_take] at hv
        split at hv
        · exact hb3 j v hv
        · cases hv)
      have C3 := Lib.hid (show 0 + ((bls (safe k)).take nk).length ≤ (List.replicate nk (Value.bool false)).length by simp; omega)
      have C4 := Lib.hid (show ∀ v ∈ (bls (safe k)).take nk, v.oneCell' = true from fun v hv => by
        have := List.mem_of_mem_take hv
        simp only [bls, List.mem_map] at this
        obtain ⟨z, _, rfl⟩ := this
        rfl)
      have C5 := Lib.hid (heap_repb (wr.alloc (.cells #[.slice Ak nk ck, .slice Sk mk dk] 33)) nk 4 (wr.heap.size + 1) (by simp))
      have HFB := Lib.hid (Blk.new wr 33 #[.slice Ak nk ck, .slice Sk mk dk])
      clear hcX hFX hsl
      go_wp2_with (first
        | (go_at_call 23; go_in)
        | (refine wpList_copy_splice rfl (.tmp 26) (.tmp 28) 31 31 rfl 4 Tryd.underlying31 boolT_size (some ⟨wr.heap.size + 1, 0, none⟩) Sk nk nk mk dk ?_ ?_ (wr.heap.size + 1) 0 (List.replicate nk (.bool false)) 4 ?_ ((bls (safe k)).take nk) ?_ ?_ ?_ ?_ (wr.heap.size + 1) ((wr.alloc (.cells #[.slice Ak nk ck, .slice Sk mk dk] 33)).alloc (.cells (Array.replicate nk (Value.bool false)) 4)) ?_ ?_ ?_; (next => rfl); (next => rfl); (next => exact C5.out); (next => exact C1.out); (next => exact C2.out); (next => exact C3.out); (next => exact C4.out); (next => exact Below.refl _ _); (next => exact Nat.le_refl _); intro w3 hg3 hb3; have HB3 := Lib.hid hb3; have HC3 := Lib.hid (Chg.addBelow (((Chg.refl (fun _ => False) wr).alloc (.cells #[.slice Ak nk ck, .slice Sk mk dk] 33)).alloc (.cells (Array.replicate nk (Value.bool false)) 4)) hb3 (by omega)); have HF3 := Lib.hid ((HFB.out.alloc (.cells (Array.replicate nk (Value.bool false)) 4)).kept (Chg.ofBelow hb3) (by omega)); have y0 := HF3.out.cell 0; have y1 := HF3.out.cell 1; have y9 := HF3.out.lt; have HS3 : Hid (Blk w3 (wr.heap.size + 1) 4 (bls (safe0 (safe k) nk)).toArray) := Lib.hid (by have h := hg3.out; rw [splice_safe] at h; exact h); simp at y0 y1; clear hb3 hg3))
      obtain ⟨w4, hw4⟩ : ∃ w4, w4 = w3.alloc (.cells #[.slice Ak nk ck, .slice Sk mk dk] 33) := ⟨_, rfl⟩
      rw [← hw4]
      have HC4 : Hid (Chg (fun _ => False) wr w4) := Lib.hid (by rw [hw4]; exact HC3.out.alloc _)
      have HD4 : Hid (Blk w4 w3.heap.size 33 #[.slice Ak nk ck, .slice Sk mk dk]) := Lib.hid (by rw [hw4]; exact Blk.new _ _ _)
      have HF4 : Hid (Blk w4 wr.heap.size 33 #[.slice Ak nk ck, .slice Sk mk dk]) := Lib.hid (by rw [hw4]; exact HF3.out.alloc _)
      have HS4 : Hid (Blk w4 (wr.heap.size + 1) 4 (bls (safe0 (safe k) nk)).toArray) := Lib.hid (by rw [hw4]; exact HS3.out.alloc _)
      have hz3 := HC3.out.size
      have hS3 := HS3.out.lt
      obtain ⟨l0, hl0⟩ : ∃ l0, l0 = safe0 (safe k) nk := ⟨_, rfl⟩
      have hl0n : l0.length = nk := by rw [hl0]; exact safe0_len _ _
      have HL0N := Lib.hid hl0n
      have HL0 := Lib.hid hl0
      have HW4 := Lib.hid hw4
      rw [← hl0] at HS4
      clear hw4 hl0 hl0n y0 y1 C1 C2 C3 C4 C5
      obtain ⟨wo, hwo⟩ : ∃ wo, wo = wr := ⟨_, rfl⟩
      subst hwo
      go_loopw [35] (fun iv wq => ∃ j : Nat, j ≤ nk ∧ iv = .int .i64 j ∧ Hid (RoundIn w4 (wo.heap.size + 1) nk (code k) l0 j wq)) (fun iv _ => nk - (intOf iv).toNat)
      case atStart => exact ⟨0, by omega, rfl, Lib.hid ⟨HS4.out, Chg.refl _ _⟩⟩
      case round =>
        obtain ⟨j, hj, rfl, HI⟩ := hrel
        obtain ⟨wq, hwq⟩ : ∃ wq, wq = wr := ⟨_, rfl⟩
        subst hwq
        have j0 : (0 : Int) ≤ j := by omega
        have HCI := Lib.hid HI.out.2
        have HCQ : Hid (Chg (fun _ => False) wo wq) := Lib.hid (HC4.out.trans HCI.out (fun g hg h => by omega))
        have HCWQ : Hid (Chg (fun _ => False) W wq) := Lib.hid (HCW.out.trans HCQ.out (fun _ _ h => h))
        by_cases hjl : j < nk
        · have j1 : (j : Int) < nk := by omega
          have hlen : (mendL (code k) l0 j).length = nk := by rw [mendL_len, HL0N.out]
          obtain ⟨wb, hwb⟩ : ∃ wb, wtI (ipart (code k) j 0) = wb := ⟨_, rfl⟩
          have HWB := Lib.hid hwb
          have HWT := Lib.hid (show Calls Tryd.prog 30 (#[.int .i64 (j : Int)] ++ #[.pointer (some ⟨w3.heap.size, 0, none⟩)]) wq (fun e W' => e = .returned (.bool wb) ∧ Chg (fun _ => False) wq W') from by rw [← hwb]; exact wait_any ck dk w3.heap.size j wq (HT.out.chg HCWQ.out) (HFX.out _ HCWQ.out) hjl (by omega) (HD4.out.kept HCI.out (fun h => by omega)))
          have HBS := Lib.hid HI.out.1
          have HLEN := Lib.hid hlen
          clear hwb hlen
          cases wb with
          | false =>
            go_wp2_with (go_at_call 30; refine HWT.out.mono ?_; rintro e w5 ⟨rfl, hc5⟩; have HC5 := Lib.hid hc5; clear hc5)
            go_roundw
            case rel => exact ⟨j + 1, by omega, by go_num, Lib.hid (HI.out.no HWB.out HC5.out)⟩
            case measure => simp [intOf]; omega
          | true =>
            by_cases hj2 : j + 1 < nk
            · have j2 : (j : Int) + 1 < nk := by omega
              have j3 : decide ((j : Int) + 1 < (nk : Int)) = true := decide_eq_true j2
              go_wp2_with (go_at_call 30; refine HWT.out.mono ?_; rintro e w5 ⟨rfl, hc5⟩; have HC5 := Lib.hid hc5; have h5 := HBS.out.kept hc5 (fun h => h); have s0 : w5.cell? ⟨wo.heap.size + 1, j, none⟩ = some (.bool ((mendL (code k) l0 j)[j]'(by rw [HLEN.out]; exact hjl))) := (by rw [h5.cell]; simpa using bls_get (mendL (code k) l0 j) j (by rw [HLEN.out]; exact hjl)); have s1 : w5.cell? ⟨wo.heap.size + 1, j + 1, none⟩ = some (.bool ((mendL (code k) l0 j)[j + 1]'(by rw [HLEN.out]; exact hj2))) := (by rw [h5.cell]; simpa using bls_get (mendL (code k) l0 j) (j + 1) (by rw [HLEN.out]; exact hj2)); have f0 := h5.frozen j; have f1 := h5.frozen (j + 1); have f9 := h5.lt; clear hc5 h5)
              go_roundw
              case rel => exact ⟨j + 1, by omega, by go_num, Lib.hid (HI.out.two HWB.out HC5.out)⟩
              case measure => simp [intOf]; omega
            · have j2 : ¬ (j : Int) + 1 < nk := by omega
              have j3 : decide ((j : Int) + 1 < (nk : Int)) = false := decide_eq_false j2
              go_wp2_with (go_at_call 30; refine HWT.out.mono ?_; rintro e w5 ⟨rfl, hc5⟩; have HC5 := Lib.hid hc5; have h5 := HBS.out.kept hc5 (fun h => h); have s0 : w5.cell? ⟨wo.heap.size + 1, j, none⟩ = some (.bool ((mendL (code k) l0 j)[j]'(by rw [HLEN.out]; exact hjl))) := (by rw [h5.cell]; simpa using bls_get (mendL (code k) l0 j) j (by rw [HLEN.out]; exact hjl)); have f0 := h5.frozen j; have f9 := h5.lt; clear hc5 h5)
              go_roundw
              case rel => exact ⟨j + 1, by omega, by go_num, Lib.hid (HI.out.one HWB.out HC5.out (by rw [HL0N.out]; omega))⟩
              case measure => simp [intOf]; omega
        · obtain rfl : j = nk := by omega
          have hfin := HI.out.1
          rw [HL0.out, mendL_all] at hfin
          have HFIN := Lib.hid hfin
          have HCL := Lib.hid (fun (V : World) (hc : Chg (fun _ => False) wq V) => clone_i Ak j ck (code k) V (HFX.out _ (HCWQ.out.trans hc (fun _ _ h => h))).u (HFX.out _ (HCWQ.out.trans hc (fun _ _ h => h))).c (by omega))
          have hm0 := (HMr.out.kept HCQ.out (fun h => h)).cell 0
          have hf0 := (HF4.out.kept HCI.out (fun h => by omega)).cell 0
          have hm9 := (HMr.out.kept HCQ.out (fun h => h)).lt
          have hf9 := (HF4.out.kept HCI.out (fun h => by omega)).lt
          simp at hm0 hf0
          have hs0 : wq.drew.cell? ⟨W.heap.size + 1 + 1 + 1, 0, none⟩ = some (.slice (some ⟨W.heap.size + 1 + 1, 0, none⟩) m m) ∧ wq.drew.cell? ⟨wo.heap.size, 0, none⟩ = some (.slice Ak j ck) := ⟨hm0, hf0⟩
          have HGC : Hid (∀ V, Chg (fun _ => False) wq V → ∃ u v, V.cell? ⟨W.heap.size + 1 + 1, k * 2, none⟩ = some u ∧ V.cell? ⟨W.heap.size + 1 + 1, k * 2 + 1, none⟩ = some v ∧ V.frozen? ⟨W.heap.size + 1 + 1, k * 2, none⟩ = false ∧ V.frozen? ⟨W.heap.size + 1 + 1, k * 2 + 1, none⟩ = false ∧ W.heap.size + 1 + 1 < V.heap.size) := Lib.hid (fun V hc => by
            have h := HME.out.g.kept (HCQ.out.trans hc (fun _ _ h => h)) (fun h => h)
            have hsz := HME.out.sz
            exact ⟨cv[k * 2]'(by omega), cv[k * 2 + 1]'(by omega), by rw [h.cell]; exact Array.getElem?_eq_getElem _, by rw [h.cell]; exact Array.getElem?_eq_getElem _, h.frozen _, h.frozen _, h.lt⟩)
          have HKP : Hid (∀ (V : World) (u v : Value), (V.cell? ⟨W.heap.size + 1 + 1 + 1, 0, none⟩ = some (.slice (some ⟨W.heap.size + 1 + 1, 0, none⟩) m m) ∧ V.cell? ⟨wo.heap.size, 0, none⟩ = some (.slice Ak j ck)) → (((V.setCell ⟨W.heap.size + 1 + 1, k * 2, none⟩ u).setCell ⟨W.heap.size + 1 + 1, k * 2 + 1, none⟩ v).cell? ⟨W.heap.size + 1 + 1 + 1, 0, none⟩ = some (.slice (some ⟨W.heap.size + 1 + 1, 0, none⟩) m m) ∧ ((V.setCell ⟨W.heap.size + 1 + 1, k * 2, none⟩ u).setCell ⟨W.heap.size + 1 + 1, k * 2 + 1, none⟩ v).cell? ⟨wo.heap.size, 0, none⟩ = some (.slice Ak j ck))) := Lib.hid (fun V u v h => by
            have hch : Chg (fun g => g = W.heap.size + 1 + 1) V ((V.setCell ⟨W.heap.size + 1 + 1, k * 2, none⟩ u).setCell ⟨W.heap.size + 1 + 1, k * 2 + 1, none⟩ v) := Chg.setCell (S := fun g => g = W.heap.size + 1 + 1) (Chg.setCell (S := fun g => g = W.heap.size + 1 + 1) (Chg.refl _ _) (p := ⟨W.heap.size + 1 + 1, k * 2, none⟩) (.inl rfl) _) (p := ⟨W.heap.size + 1 + 1, k * 2 + 1, none⟩) (.inl rfl) _
            exact ⟨(hch.cell (p := ⟨W.heap.size + 1 + 1 + 1, 0, none⟩) (World.block_lt_of_cell? V _ h.1) (by show ¬ W.heap.size + 1 + 1 + 1 = W.heap.size + 1 + 1; omega)).trans h.1, (hch.cell (p := ⟨wo.heap.size, 0, none⟩) (World.block_lt_of_cell? V _ h.2) (by show ¬ wo.heap.size = W.heap.size + 1 + 1; omega)).trans h.2⟩)
          go_wp2
          go_region_held3 (fun w' => w'.cell? ⟨W.heap.size + 1 + 1 + 1, 0, none⟩ = some (.slice (some ⟨W.heap.size + 1 + 1, 0, none⟩) m m) ∧ w'.cell? ⟨wo.heap.size, 0, none⟩ = some (.slice Ak j ck)) (first | assumption | exact HKP.out _ _ _ hs1)
            ((first
              | (go_at_call 24; refine (HCL.out _ ((Chg.refl _ wq).drew)).mono ?_; rintro e w6 ⟨A6, c6, rfl, hr6, hc6⟩; have HC6 := Lib.hid (((Chg.refl (fun _ => False) wq).drew).trans hc6 (fun _ _ h => h)); have hs1 : w6.cell? ⟨W.heap.size + 1 + 1 + 1, 0, none⟩ = some (.slice (some ⟨W.heap.size + 1 + 1, 0, none⟩) m m) ∧ w6.cell? ⟨wo.heap.size, 0, none⟩ = some (.slice Ak j ck) := ⟨(HC6.out.cell (p := ⟨W.heap.size + 1 + 1 + 1, 0, none⟩) hm9 (fun h => h)).trans hm0, (HC6.out.cell (p := ⟨wo.heap.size, 0, none⟩) hf9 (fun h => h)).trans hf0⟩; obtain ⟨gu, gv, g0, g1, g2, g3, g4⟩ := HGC.out _ HC6.out; have HR6 := Lib.hid hr6; clear hr6 hc6)))
          all_goals go_simp
          all_goals go_wp2
          go_roundw
          case rel =>
            refine ⟨k + 1, by omega, by go_num, Lib.hid ?_⟩
            have hF6 : FM w6 A6 (nc k) (some ⟨wo.heap.size + 1, 0, none⟩) (nc k) (code k) (mendS (code k) (safe k) (nc k)) := by
              rw [HNK.out]
              exact ⟨HR6.out.rd, (HFX.out _ HCWQ.out).u, (HFIN.out.kept HC6.out (fun h => h)).rdb (mendS_len _ _ _)⟩
            have hz := HCQ.out.size
            have hnx := ME.next (c1 := c6) (c2 := j) HME.out hlt HME.out.chg.size (HCQ.out.trans HC6.out (fun _ _ h => h)) hF6 (fun g hg => by have h9 : wq.heap.size ≤ g := (HR6.out.blk_lt g hg).1; omega) (fun g hg => by have := Option.some.inj (show some (wo.heap.size + 1) = some g from hg); omega)
            rw [HNK.out] at hnx
            refine ⟨_, _, _, _, _, hnx, fun i hi => ?_⟩
            by_cases e : i = k
            · subst e
              rw [upd_eq, upd_eq, HNK.out]
              exact ⟨HR6.out.2.1, Nat.le_refl _⟩
            · rw [upd_ne _ _ e, upd_ne _ _ e]
              exact HCAP.out i (by omega)
          case measure => simp [intOf]; omega
    · obtain rfl : k = m := by omega
      have m0 := HMr.out.cell 0
      have m9 := HMr.out.lt
      have r0 := HRr.out.cell 0
      have rf := HRr.out.frozen 0
      have r9 := HRr.out.lt
      simp at m0 r0
      go_wp2
      have hres := HRr.out.set_ 0 (.slice (some ⟨W.heap.size + 1 + 1, 0, none⟩) k k)
      have hch : Chg (fun g => g = W.heap.size + 1) wr (wr.setCell ⟨W.heap.size + 1, 0, none⟩ (.slice (some ⟨W.heap.size + 1 + 1, 0, none⟩) k k)) := Chg.setCell (S := fun g => g = W.heap.size + 1) (Chg.refl _ _) (p := ⟨W.heap.size + 1, 0, none⟩) (.inl rfl) _
      refine bodyPost_ret (results_cell_row rfl _ _ (W.heap.size + 1) 24 #[.slice (some ⟨W.heap.size + 1 + 1, 0, none⟩) k k] (0, 0) _ rfl (by have h9 := hres; simp only [List.setIfInBounds_toArray, List.set_cons_zero] at h9; exact h9) Tryd.underlying24 rfl (by kernel_rfl)) rfl ?_
      have hpm := ME.pm HME.out (fun i hi => ⟨by have := (HL.out i hi).1; omega, HCAP.out i hi⟩) hch (by omega) (by have := HSZ1.out; omega)
      exact ⟨_, _, _, _, _, rfl, hpm, HCW.out.trans hch (fun g hg h => by omega)⟩
end
end Go.Proofs.YtkpipoicobmjkaaDoor
