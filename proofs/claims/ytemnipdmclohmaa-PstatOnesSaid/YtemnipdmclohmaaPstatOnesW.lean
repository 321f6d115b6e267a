/- The walk of the law PstatOnes. -/
import Derived.Test.YtemnipdmclohmaaPsF
import Derived.Test.YtemnipdmclohmaaRapp
namespace Go.Proofs.Ytemnipdmclohmaa
open Go.ChangeShapes Go.WideShapes Go.ChangeAt Go.RowKit Go.Deep
set_option linter.unusedVariables false

theorem lower {w w' : World} {B B' : Nat} (h : Below B w w') (hB : B' ≤ B) : Below B' w w' := ⟨h.os, h.tape, h.output, h.size, fun k hk => h.block k (by omega)⟩
theorem low {w w1 w2 : World} (h : Below w.heap.size w w1) (hc : Chg (fun _ => False) w1 w2) : Below w.heap.size w w2 := h.trans (hc.below h.size (by rintro g _ hh; exact hh.elim))
theorem Tb.drewN {w : World} {base T : Nat} {A : Option Addr} {ps : List (Int × Int)} (h : Tb w base T A ps) (n : Nat) : Tb (w.drewN n) base T A ps := h.same ((Chg.refl _ _).drewN n)
def fw (q : Int × Int) : Int := 10 * q.2 + q.1
/-- What holds at each act's head. -/
def OKept (w wr : World) (n : Nat) (A : Option Addr) (ps : List (Int × Int)) : Prop := Tb wr w.heap.size w.heap.size A ps ∧ Inv ps ∧ Uq ps ∧ ps.length = n ∧ Below w.heap.size w wr
def ORound (w : World) (n len : Nat) (i : Value) (wr : World) : Prop := ∃ (k : Nat) (A : Option Addr) (ps : List (Int × Int)), k ≤ len ∧ i = .int .i64 k ∧ OKept w wr n A ps
theorem ORound.skip {w wr w2 : World} {n len k : Nat} {A : Option Addr} {ps : List (Int × Int)} (hk : k < len) (h : OKept w wr n A ps) (hc : Chg (fun _ => False) wr w2) : ORound w n len (.int .i64 ((k : Int) + 1)) w2 := by
  obtain ⟨h1, h2, h3, h4, h5⟩ := h
  exact ⟨k + 1, A, ps, by omega, by go_num, h1.same hc, h2, h3, h4, low h5 hc⟩
theorem OKept.act {w wr w2 w3 : World} {n : Nat} {A : Option Addr} {ps : List (Int × Int)} {kd i m : Int} (h : OKept w wr n A ps) (hc : Chg (fun _ => False) wr w2) (hA : TA w2 w3 w.heap.size w.heap.size A (pact ps kd i m).1) (hm : kd = 0 → ∀ j, j < ps.length → (ps.getD j (0, 0)).2 ≠ m) : ∃ A', OKept w w3 n A' (pact ps kd i m).1 := by
  obtain ⟨h1, h2, h3, h4, h5⟩ := h
  have hb := TA.below (h1.same hc) (low h5 hc) (Nat.le_refl _) hA
  obtain ⟨A', hT, _, _⟩ := hA
  exact ⟨A', hT, pact_inv h2 _ _ _, pact_uq h3 _ _ _ hm, by rw [pact_len]; exact h4, hb⟩
theorem rd_far {w wr w2 w3 : World} {n c : Nat} {A D : Option Addr} {ps qs : List (Int × Int)} {xs : List Int} (h : Tb wr w.heap.size w.heap.size A ps) (hA : TA w2 w3 w.heap.size w.heap.size A qs) (hc : wr.heap.size < w2.heap.size) (hD : Row w2 (wr.heap.size + 1) 3 1 D n c (ints xs)) : Rd w3 1 D n (ints xs) := by
  obtain ⟨A', _, h2, _⟩ := hA
  refine hD.rd.kept h2 (fun g hg => ?_)
  have hb := (hD.blk_lt g hg).1
  rintro (rfl | h4)
  · have := h.lt; omega
  · obtain ⟨_, c', _, hR, _⟩ := h
    have := (hR.blk_lt g h4).2
    omega
theorem cell_far {w wr w2 w3 : World} {A : Option Addr} {ps qs : List (Int × Int)} {o : Nat} (h : Tb wr w.heap.size w.heap.size A ps) (hA : TA w2 w3 w.heap.size w.heap.size A qs) (hc : wr.heap.size < w2.heap.size) : w3.cell? ⟨wr.heap.size, o, none⟩ = w2.cell? ⟨wr.heap.size, o, none⟩ := by
  obtain ⟨A', _, h2, _⟩ := hA
  refine h2.cell (p := ⟨wr.heap.size, o, none⟩) hc ?_
  rintro (h4 | h4)
  · have := h.lt; simp at h4; omega
  · obtain ⟨_, c', _, hR, _⟩ := h
    have := (hR.blk_lt _ h4).2
    simp at this

set_option maxRecDepth 100000 in
set_option maxHeartbeats 8000000 in
theorem walk_pstatOnes (a0 : Int) (a1 : Option Addr) (len1 cap1 : Nat) (z1 : Nat → Int) (w : World) (w0 : (Lit.int .i64 a0).wf = true) (w1 : Flat w a1 len1 3 z1) :
    Calls Try.prog 4 #[.int .i64 a0, .slice a1 len1 cap1] w fun e w' => e = .returned (.bool true) ∧ Below w.heap.size w w' := by
  have hm := w1.1
  unfold maxLen at hm
  clear w0
  have HLT := Lib.hid (light_any a1 len1 cap1 z1 w w1)
  go_enter Try.func4, Try.ntmps4
  go_wp2_with fail
  refine HLT.out.mono ?_
  rintro e w' ⟨rfl, rfl | ⟨rfl, hl60, hz⟩⟩
  · go_wp2_with (go_at_call 7; refine (alive_any _).mono ?_; rintro e w' ⟨rfl, hb⟩)
    go_ret
    exact ⟨rfl, hb⟩
  clear HLT
  by_cases hn : a0 < 1
  · go_wp2_with (go_at_call 7; refine (alive_any _).mono ?_; rintro e w' ⟨rfl, hb⟩)
    go_ret
    exact ⟨rfl, hb⟩
  by_cases hn2 : 20 < a0
  · have hn' : 1 ≤ a0 := by omega
    go_wp2_with (go_at_call 7; refine (alive_any _).mono ?_; rintro e w' ⟨rfl, hb⟩)
    go_ret
    exact ⟨rfl, hb⟩
  obtain ⟨n, rfl⟩ : ∃ n : Nat, a0 = n := ⟨a0.toNat, by omega⟩
  have hn1 : 1 ≤ n := by omega
  have hn20 : n ≤ 20 := by omega
  clear hn hn2
  have i1 : (1 : Int) ≤ n := by omega
  have i2 : (n : Int) ≤ 20 := by omega
  have hl60' : (len1 : Int) ≤ 60 := by omega
  go_wp2_with fail
  refine (tnew_in n _ hn1 (by omega)).mono ?_
  rintro e v1 ⟨A1, rfl, hT1, hb1⟩
  have HK0 := Lib.hid (show OKept w' v1 n A1 (List.replicate n (0, -1)) from ⟨hT1, Inv.new n, Uq.new n, by simp, hb1⟩)
  have HZ := Lib.hid hz
  have HF := Lib.hid w1
  clear hT1 hb1 hz w1
  go_wp2_with fail
  go_loopw [6] (fun i wr => ORound w' n len1 i wr) (fun i _ => len1 - (intOf i).toNat)
  case atStart => exact ⟨0, A1, _, Nat.zero_le _, rfl, HK0.out⟩
  case round =>
    obtain ⟨k, A, ps, hk, rfl, hK⟩ := hrel
    have HK := Lib.hid hK
    clear hK HK0
    have k0 : (0 : Int) ≤ (k : Int) := by omega
    by_cases hlt : k < len1
    · obtain ⟨b, of, rfl, hbl, hc⟩ := HF.out.2 (by omega)
      have hb : Below w'.heap.size w' wr := HK.out.2.2.2.2
      have k1 : (k : Int) < (len1 : Int) := by omega
      have e0 : wr.cell? ⟨b, of + k * 3, none⟩ = some (.int .i64 (z1 (k * 3))) := (hb.cell (p := ⟨b, of + k * 3, none⟩) hbl).trans (hc (k * 3) (by omega)).1
      have e1 : wr.cell? ⟨b, of + k * 3 + 1, none⟩ = some (.int .i64 (z1 (k * 3 + 1))) := (hb.cell (p := ⟨b, of + k * 3 + 1, none⟩) hbl).trans (hc (k * 3 + 1) (by omega)).1
      have e2 : wr.cell? ⟨b, of + k * 3 + 2, none⟩ = some (.int .i64 (z1 (k * 3 + 2))) := (hb.cell (p := ⟨b, of + k * 3 + 2, none⟩) hbl).trans (hc (k * 3 + 2) (by omega)).1
      have hkd := HZ.out k hlt
      generalize z1 (k * 3) = p0 at e0 hkd
      generalize z1 (k * 3 + 1) = p1 at e1
      generalize z1 (k * 3 + 2) = p2 at e2
      have hsz := hb.size
      clear hc hb
      go_wp2_with fail
      obtain ⟨wo, hwo⟩ : ∃ wo, wo = wr := ⟨_, rfl⟩
      subst hwo
      obtain ⟨V, hV⟩ : ∃ V, V = wo.alloc (.cells #[.int .i64 p0, .int .i64 p1, .int .i64 p2] 34) := ⟨_, rfl⟩
      have v0 : V.cell? ⟨wo.heap.size, 0, none⟩ = some (.int .i64 p0) := by rw [hV]; simp [go_sem]
      have v1 : V.cell? ⟨wo.heap.size, 1, none⟩ = some (.int .i64 p1) := by rw [hV]; simp [go_sem]
      have v2 : V.cell? ⟨wo.heap.size, 2, none⟩ = some (.int .i64 p2) := by rw [hV]; simp [go_sem]
      have hVs : V.heap.size = wo.heap.size + 1 := by rw [hV]; simp
      have HV := Lib.hid (show Chg (fun _ => False) wo V by rw [hV]; exact (Chg.refl _ _).alloc _)
      rw [← hV]
      clear hV e0 e1 e2
      go_loopw [8, 9, 10] (fun h s i wy => ∃ (j : Nat) (D : Option Addr) (c : Nat), j ≤ n ∧ i = .int .i64 j ∧ h = .int .i64 (cw (ps.take j) p2) ∧ s = .slice D j c ∧ Hid (Row wy (wo.heap.size + 1) 3 1 D j c (ints ((ps.take j).map fw))) ∧ Hid (Chg (fun _ => False) V wy)) (fun _ _ i _ => n - (intOf i).toNat)
      case atStart => exact ⟨0, none, 0, Nat.zero_le _, rfl, rfl, rfl, Row.nil _ _ _ _, Chg.refl _ _⟩
      case round =>
        obtain ⟨j, D, c, hj, rfl, rfl, rfl, HR, HC⟩ := hrel
        have hlen : ps.length = n := HK.out.2.2.2.1
        have HTx := Lib.hid ((HK.out.1.same HV.out).same HC.out)
        have x0 := (HC.out.cell (p := ⟨wo.heap.size, 0, none⟩) (by simp; omega) (fun h => h)).trans v0
        have x1 := (HC.out.cell (p := ⟨wo.heap.size, 1, none⟩) (by simp; omega) (fun h => h)).trans v1
        have x2 := (HC.out.cell (p := ⟨wo.heap.size, 2, none⟩) (by simp; omega) (fun h => h)).trans v2
        have hxs : wo.heap.size + 1 ≤ wr.heap.size := by have := HC.out.size; omega
        have j0 : (0 : Int) ≤ (j : Int) := by omega
        have hcl := cw_le (ps.take j) p2
        rw [List.length_take] at hcl
        have hst := cw_take ps p2 j
        obtain ⟨h, hh⟩ : ∃ h, cw (ps.take j) p2 = h := ⟨_, rfl⟩
        rw [hh] at hst hcl ⊢
        have h0 : (0 : Int) ≤ (h : Int) := by omega
        have h1 : (h : Int) ≤ 20 := by omega
        by_cases hjn : j < n
        · have hjl : j < ps.length := by omega
          replace hst := hst hjl
          have j1 : (j : Int) < (n : Int) := by omega
          have HWHO := Lib.hid (fun (W : World) (hT : Tb W w'.heap.size w'.heap.size A ps) => who_at _ _ _ ps W hT j hjl)
          have HGET := Lib.hid (fun (W : World) (hT : Tb W w'.heap.size w'.heap.size A ps) => get_at _ _ _ ps W hT j hjl)
          have hi := HK.out.2.1 ps[j] (List.getElem_mem _)
          have hmap : (ps.take (j + 1)).map fw = (ps.take j).map fw ++ [10 * ps[j].2 + ps[j].1] := by rw [List.take_succ_eq_append_getElem hjl, List.map_append]; rfl
          obtain ⟨b', hb'⟩ : ∃ b', ps[j].2 = b' := ⟨_, rfl⟩
          obtain ⟨a', ha'⟩ : ∃ a', ps[j].1 = a' := ⟨_, rfl⟩
          obtain ⟨g1, g2, g3, g4, _⟩ := hi
          rw [hb'] at HWHO hst hmap g3 g4
          rw [ha'] at HGET hmap g1 g2
          clear hb' ha'
          have HM := Lib.hid hmap
          clear hmap
          have ew1 : IntKind.i64.wrap (10 * b') = 10 * b' := by go_unwrap
          have ew2 : IntKind.i64.wrap (10 * b' + a') = 10 * b' + a' := by go_unwrap
          by_cases hbm : b' = p2
          · rw [if_pos hbm] at hst
            subst hbm
            go_wp2_with fail
            go_quiet (exact Calls.quiet_of_same (HWHO.out _ (HTx.out.drewN _)))
            go_wp2_with (first
              | (go_at_call 12; refine (HWHO.out _ (HTx.out.drewN _)).mono ?_; rintro e u1 ⟨rfl, rfl⟩)
              | (go_at_call 13; refine (HGET.out _ (HTx.out.drewN _)).mono ?_; rintro e u1 ⟨rfl, rfl⟩)
              | (at_builtin; refine wpList_app rfl (.tmp 49) (.tmp 58) rfl (wo.heap.size + 1) D j c ((ps.take j).map fw) rfl ((HR.out.alloc _).drewN _) (some ⟨wr.heap.size, 0, none⟩) 1 1 [10 * b' + a'] rfl ?c0 ?c1 ?c2 ?_; (case c0 => exact (Rd.litn _ _ _ _ rfl).drewN _); (case c1 => omega); (case c2 => simp; omega); intro A2 c2 w2 h1' h2' h3'))
            refine ⟨⟨j + 1, A2, c2, by omega, by go_num, congrArg (Value.int .i64) (by omega), rfl, by rw [HM.out]; exact h1', (((HC.out.alloc _).drewN _).grown h2' (fun g hg => .inr (by have := (HR.out.blk_lt g hg).1; omega)))⟩, by simp [intOf]; omega⟩
          · rw [if_neg hbm] at hst
            go_wp2_with fail
            go_quiet (exact Calls.quiet_of_same (HWHO.out _ (HTx.out.drewN _)))
            go_wp2_with (first
              | (go_at_call 12; refine (HWHO.out _ (HTx.out.drewN _)).mono ?_; rintro e u1 ⟨rfl, rfl⟩)
              | (go_at_call 13; refine (HGET.out _ (HTx.out.drewN _)).mono ?_; rintro e u1 ⟨rfl, rfl⟩)
              | (at_builtin; refine wpList_app rfl (.tmp 49) (.tmp 58) rfl (wo.heap.size + 1) D j c ((ps.take j).map fw) rfl ((HR.out.alloc _).drewN _) (some ⟨wr.heap.size, 0, none⟩) 1 1 [10 * b' + a'] rfl ?c0 ?c1 ?c2 ?_; (case c0 => exact (Rd.litn _ _ _ _ rfl).drewN _); (case c1 => omega); (case c2 => simp; omega); intro A2 c2 w2 h1' h2' h3'))
            refine ⟨⟨j + 1, A2, c2, by omega, by go_num, congrArg (Value.int .i64) (by omega), rfl, by rw [HM.out]; exact h1', (((HC.out.alloc _).drewN _).grown h2' (fun g hg => .inr (by have := (HR.out.blk_lt g hg).1; omega)))⟩, by simp [intOf]; omega⟩
        · have hjn' : j = n := by omega
          subst hjn'
          rw [← hlen, List.take_length] at hh
          have hcw : 0 ≤ p2 → h ≤ 1 := fun hp => by rw [← hh]; exact cw_one HK.out.2.2.1 hp
          by_cases c0 : p0 = 0
          · subst c0
            go_wp2_with fail
            all_goals first
              | (exfalso; omega)
              | exact ⟨ORound.skip hlt HK.out (HV.out.trans HC.out (fun _ _ h => h)), by simp [intOf]; omega⟩
              | skip
            all_goals (have hC := act_any _ _ A ps 0 p1 p2 _ HTx.out (by omega) (by omega))
            all_goals (have hzero : (0 : Int) = 0 → ∀ i, i < ps.length → (ps.getD i (0, 0)).2 ≠ p2 := fun hp i hi => cw_zero (by omega) i hi)
            all_goals (have HS := Lib.hid (pact_same ps 0 p1 p2))
            all_goals (have HI := Lib.hid (fun (u3 : World) (hA : TA wr u3 w'.heap.size w'.heap.size A (pact ps 0 p1 p2).1) => HK.out.act (HV.out.trans HC.out (fun _ _ h => h)) hA hzero))
            all_goals generalize pact ps 0 p1 p2 = r at hC HS HI
            all_goals (clear hzero; refine hC.mono ?_; rintro e u3 ⟨rfl, hA⟩)
            all_goals (obtain ⟨A3, hK3⟩ := HI.out _ hA)
            all_goals (have hrd := rd_far HK.out.1 hA (by omega) HR.out)
            all_goals (have y1 : u3.cell? ⟨wo.heap.size, 1, none⟩ = some (.int .i64 p1) := (cell_far HK.out.1 hA (by omega)).trans x1)
            all_goals (have hu3 : wo.heap.size < u3.heap.size := World.block_lt_of_cell? u3 _ y1)
            all_goals (have HK3 := Lib.hid hK3; have HRD := Lib.hid hrd; clear hK3 hrd hC hA HI)
            all_goals go_wp2_with fail
            all_goals go_loopw [11] (fun i wy => ∃ j' : Nat, j' ≤ j ∧ i = .int .i64 j' ∧ Hid (Chg (fun _ => False) u3 wy)) (fun i _ => j - (intOf i).toNat)
            all_goals try (exact ⟨0, Nat.zero_le _, rfl, Chg.refl _ _⟩)
            all_goals
              obtain ⟨q, hq, rfl, H3⟩ := hrel
              have q0 : (0 : Int) ≤ (q : Int) := by omega
              have y2 := (H3.out.cell (p := ⟨wo.heap.size, 1, none⟩) hu3 (fun h => h)).trans y1
              by_cases hqn : q < j
              · have q1 : (q : Int) < (j : Int) := by omega
                have HT3 := Lib.hid (HK3.out.1.same H3.out)
                have hl3 : r.1.length = j := by have := HK3.out.2.2.2.1; omega
                by_cases hqp : (q : Int) = p1
                · go_wp2_with fail
                  go_quiet (fail)
                  go_wp2_with fail
                  exact ⟨⟨q + 1, by omega, by go_num, H3.out.drewN _⟩, by simp [intOf]; omega⟩
                · have hne : ((q : Int) == p1) = false := by simpa using hqp
                  have hsame : ps[q]'(by omega) = r.1[q]'(by omega) := by
                    have := HS.out q hqp
                    rw [getD_at _ (by omega), getD_at _ (by omega)] at this
                    exact this.symm
                  have HWHO := Lib.hid (fun (W : World) (hT : Tb W w'.heap.size w'.heap.size A3 r.1) => who_at _ _ _ r.1 W hT q (by omega))
                  have HGET := Lib.hid (fun (W : World) (hT : Tb W w'.heap.size w'.heap.size A3 r.1) => get_at _ _ _ r.1 W hT q (by omega))
                  have hi := HK3.out.2.1 (r.1[q]'(by omega)) (List.getElem_mem _)
                  obtain ⟨g, o, rfl, hg, hcs⟩ := (HRD.out.kept H3.out (fun _ _ h => h)).at_ (by omega)
                  have hz := hcs q (by simp; omega)
                  rw [List.getElem_map, List.getElem_take, hsame] at hz
                  unfold fw at hz
                  obtain ⟨b', hb'⟩ : ∃ b', (r.1[q]'(by omega)).2 = b' := ⟨_, rfl⟩
                  obtain ⟨a', ha'⟩ : ∃ a', (r.1[q]'(by omega)).1 = a' := ⟨_, rfl⟩
                  obtain ⟨g1, g2, g3, g4, _⟩ := hi
                  rw [hb'] at HWHO hz g3 g4
                  rw [ha'] at HGET hz g1 g2
                  clear hb' ha' hcs hsame
                  have ew1 : IntKind.i64.wrap (10 * b') = 10 * b' := by go_unwrap
                  have ew2 : IntKind.i64.wrap (10 * b' + a') = 10 * b' + a' := by go_unwrap
                  go_wp2_with fail
                  go_quiet (first | exact Calls.quiet_of_same (HWHO.out _ (HT3.out.drewN _)) | exact Calls.quiet_of_same (HGET.out _ (HT3.out.drewN _)))
                  go_wp2_with fail
                  exact ⟨⟨q + 1, by omega, by go_num, H3.out.drewN _⟩, by simp [intOf]; omega⟩
              · have hqj : q = j := by omega
                subst hqj
                go_wp2_with fail
                exact ⟨ORound.skip hlt HK3.out H3.out, by simp [intOf]; omega⟩
          · have c0' : (p0 == 0) = false := by simpa using c0
            go_wp2_with fail
            all_goals first
              | (exfalso; omega)
              | exact ⟨ORound.skip hlt HK.out (HV.out.trans HC.out (fun _ _ h => h)), by simp [intOf]; omega⟩
              | skip
            all_goals (have hC := act_any _ _ A ps p0 p1 p2 _ HTx.out (by omega) (by omega))
            all_goals (have hzero : p0 = 0 → ∀ i, i < ps.length → (ps.getD i (0, 0)).2 ≠ p2 := fun hp i hi => cw_zero (by omega) i hi)
            all_goals (have HS := Lib.hid (pact_same ps p0 p1 p2))
            all_goals (have HI := Lib.hid (fun (u3 : World) (hA : TA wr u3 w'.heap.size w'.heap.size A (pact ps p0 p1 p2).1) => HK.out.act (HV.out.trans HC.out (fun _ _ h => h)) hA hzero))
            all_goals generalize pact ps p0 p1 p2 = r at hC HS HI
            all_goals (clear hzero; refine hC.mono ?_; rintro e u3 ⟨rfl, hA⟩)
            all_goals (obtain ⟨A3, hK3⟩ := HI.out _ hA)
            all_goals (have hrd := rd_far HK.out.1 hA (by omega) HR.out)
            all_goals (have y1 : u3.cell? ⟨wo.heap.size, 1, none⟩ = some (.int .i64 p1) := (cell_far HK.out.1 hA (by omega)).trans x1)
            all_goals (have hu3 : wo.heap.size < u3.heap.size := World.block_lt_of_cell? u3 _ y1)
            all_goals (have HK3 := Lib.hid hK3; have HRD := Lib.hid hrd; clear hK3 hrd hC hA HI)
            all_goals go_wp2_with fail
            all_goals go_loopw [11] (fun i wy => ∃ j' : Nat, j' ≤ j ∧ i = .int .i64 j' ∧ Hid (Chg (fun _ => False) u3 wy)) (fun i _ => j - (intOf i).toNat)
            all_goals try (exact ⟨0, Nat.zero_le _, rfl, Chg.refl _ _⟩)
            all_goals
              obtain ⟨q, hq, rfl, H3⟩ := hrel
              have q0 : (0 : Int) ≤ (q : Int) := by omega
              have y2 := (H3.out.cell (p := ⟨wo.heap.size, 1, none⟩) hu3 (fun h => h)).trans y1
              by_cases hqn : q < j
              · have q1 : (q : Int) < (j : Int) := by omega
                have HT3 := Lib.hid (HK3.out.1.same H3.out)
                have hl3 : r.1.length = j := by have := HK3.out.2.2.2.1; omega
                by_cases hqp : (q : Int) = p1
                · go_wp2_with fail
                  go_quiet (fail)
                  go_wp2_with fail
                  exact ⟨⟨q + 1, by omega, by go_num, H3.out.drewN _⟩, by simp [intOf]; omega⟩
                · have hne : ((q : Int) == p1) = false := by simpa using hqp
                  have hsame : ps[q]'(by omega) = r.1[q]'(by omega) := by
                    have := HS.out q hqp
                    rw [getD_at _ (by omega), getD_at _ (by omega)] at this
                    exact this.symm
                  have HWHO := Lib.hid (fun (W : World) (hT : Tb W w'.heap.size w'.heap.size A3 r.1) => who_at _ _ _ r.1 W hT q (by omega))
                  have HGET := Lib.hid (fun (W : World) (hT : Tb W w'.heap.size w'.heap.size A3 r.1) => get_at _ _ _ r.1 W hT q (by omega))
                  have hi := HK3.out.2.1 (r.1[q]'(by omega)) (List.getElem_mem _)
                  obtain ⟨g, o, rfl, hg, hcs⟩ := (HRD.out.kept H3.out (fun _ _ h => h)).at_ (by omega)
                  have hz := hcs q (by simp; omega)
                  rw [List.getElem_map, List.getElem_take, hsame] at hz
                  unfold fw at hz
                  obtain ⟨b', hb'⟩ : ∃ b', (r.1[q]'(by omega)).2 = b' := ⟨_, rfl⟩
                  obtain ⟨a', ha'⟩ : ∃ a', (r.1[q]'(by omega)).1 = a' := ⟨_, rfl⟩
                  obtain ⟨g1, g2, g3, g4, _⟩ := hi
                  rw [hb'] at HWHO hz g3 g4
                  rw [ha'] at HGET hz g1 g2
                  clear hb' ha' hcs hsame
                  have ew1 : IntKind.i64.wrap (10 * b') = 10 * b' := by go_unwrap
                  have ew2 : IntKind.i64.wrap (10 * b' + a') = 10 * b' + a' := by go_unwrap
                  go_wp2_with fail
                  go_quiet (first | exact Calls.quiet_of_same (HWHO.out _ (HT3.out.drewN _)) | exact Calls.quiet_of_same (HGET.out _ (HT3.out.drewN _)))
                  go_wp2_with fail
                  exact ⟨⟨q + 1, by omega, by go_num, H3.out.drewN _⟩, by simp [intOf]; omega⟩
              · have hqj : q = j := by omega
                subst hqj
                go_wp2_with fail
                exact ⟨ORound.skip hlt HK3.out H3.out, by simp [intOf]; omega⟩
    · have hkn : k = len1 := by omega
      subst hkn
      go_wp2_with (go_at_call 7; refine (alive_any _).mono ?_; rintro e w'' ⟨rfl, hb⟩)
      go_ret
      exact ⟨rfl, HK.out.2.2.2.2.trans (lower hb HK.out.2.2.2.2.size)⟩
end Go.Proofs.Ytemnipdmclohmaa
