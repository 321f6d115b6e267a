/- The document's answer to a new length. -/
import Derived.Test.YtemnipdmclohmaaPsJ
namespace Go.Proofs.Ytemnipdmclohmaa
open Go.ChangeShapes Go.WideShapes Go.ChangeAt Go.RowKit Go.Deep
set_option linter.unusedVariables false

theorem cnt_cons (q : Int × Int) (ps : List (Int × Int)) (s : Int) : cnt (q :: ps) s = cnt ps s + if q.1 = s then 1 else 0 := by
  unfold cnt
  by_cases h : q.1 = s <;> simp [h]
theorem cnt34 (ps : List (Int × Int)) : cnt ps 3 + cnt ps 4 ≤ ps.length ∧ (cnt ps 3 + cnt ps 4 = ps.length ↔ ∀ q ∈ ps, q.1 = 3 ∨ q.1 = 4) := by
  induction ps with
  | nil => simp [cnt]
  | cons q ps ih =>
    rw [cnt_cons, cnt_cons, List.length_cons]
    obtain ⟨h1, h2⟩ := ih
    simp only [List.forall_mem_cons, ← h2]
    by_cases h3 : q.1 = 3
    · have h4 : ¬ q.1 = 4 := by omega
      rw [if_pos h3, if_neg h4]
      constructor
      · omega
      · constructor
        · intro h; exact ⟨.inl h3, by omega⟩
        · rintro ⟨_, h⟩; omega
    · by_cases h4 : q.1 = 4
      · rw [if_neg h3, if_pos h4]
        constructor
        · omega
        · constructor
          · intro h; exact ⟨.inr h4, by omega⟩
          · rintro ⟨_, h⟩; omega
      · rw [if_neg h3, if_neg h4]
        constructor
        · omega
        · constructor
          · intro h; omega
          · rintro ⟨h | h, _⟩
            · exact absurd h h3
            · exact absurd h h4
theorem ok34 {qs : List (Int × Int)} {k : Nat} (h : ∀ j (hj : j < qs.length), j < k → qs[j].1 = 3 ∨ qs[j].1 = 4) (hk : k < qs.length) (h1 : qs[k].1 = 3 ∨ qs[k].1 = 4) : ∀ j (hj : j < qs.length), j < k + 1 → qs[j].1 = 3 ∨ qs[j].1 = 4 := by
  intro j hj hjk
  by_cases hh : j = k
  · subst hh; exact h1
  · exact h j hj (by omega)
/-- One place of the new list. -/
def hz (ps : List (Int × Int)) (n i : Nat) : Int × Int := if n ≤ i then (4, -1) else if i < ps.length ∧ (ps.getD i (0, 0)).1 = 3 then ps.getD i (0, 0) else (3, -1)
def hl (ps : List (Int × Int)) (n k : Nat) : List (Int × Int) := (List.range k).map (hz ps n)
@[simp] theorem hl_len (ps : List (Int × Int)) (n k : Nat) : (hl ps n k).length = k := by simp [hl]
theorem hl_succ (ps : List (Int × Int)) (n k : Nat) : hl ps n (k + 1) = hl ps n k ++ [hz ps n k] := by simp [hl, List.range_succ]
theorem hl_all (ps : List (Int × Int)) (n : Nat) (h : ∀ q ∈ ps, q.1 = 3 ∨ q.1 = 4) : hl ps n (max n ps.length) = rz1 ps n ps.length ++ List.replicate (n - ps.length) (3, -1) := by
  apply List.ext_getElem
  · simp; omega
  · intro i h1 h2
    have hi : i < max n ps.length := by simpa using h1
    simp only [hl, List.getElem_map, List.getElem_range]
    by_cases hip : i < ps.length
    · rw [List.getElem_append_left (by simpa using hip)]
      simp only [rz1, List.getElem_map, List.getElem_range, if_pos hip]
      have h34 := h _ (List.getElem_mem hip)
      unfold hz gz
      rw [getD_at ps hip]
      by_cases hn : n ≤ i
      · rw [if_pos hn, if_pos hn]
      · rw [if_neg hn, if_neg hn]
        rcases h34 with e | e
        · rw [if_pos ⟨hip, e⟩, if_neg (by omega)]
        · rw [if_neg (by rintro ⟨_, h⟩; omega), if_pos e]
    · rw [List.getElem_append_right (by simpa using hip), List.getElem_replicate]
      unfold hz
      rw [if_neg (by omega), if_neg (by omega)]
set_option maxRecDepth 100000 in
set_option maxHeartbeats 8000000 in
theorem rres_any (base : Nat) (B : Option Addr) (c : Nat) (n : Int) (qs : List (Int × Int)) (W : World) (hX : Xl W base B c qs) (hB : base ≤ W.heap.size) (hl256 : qs.length ≤ 256) :
    Calls Try.prog 19 #[.slice B qs.length c, .int .i64 n] W (DoP base W (rsz qs n)) := by
  have HX := Lib.hid hX
  clear hX
  unfold rsz
  go_enter Try.func19, Try.ntmps19
  by_cases hn : n < 1
  · rw [if_pos (.inl hn)]
    go_wp2
    go_returns
    exact ⟨B, c, rfl, HX.out, Chg.refl _ _⟩
  by_cases hn2 : 256 < n
  · rw [if_pos (.inr hn2)]
    have hn' : 1 ≤ n := by omega
    go_wp2
    go_returns
    exact ⟨B, c, rfl, HX.out, Chg.refl _ _⟩
  obtain ⟨t, rfl⟩ : ∃ t : Nat, n = t := ⟨n.toNat, by omega⟩
  rw [if_neg (by omega), Int.toNat_natCast]
  have i1 : (1 : Int) ≤ t := by omega
  have i2 : (t : Int) ≤ 256 := by omega
  have H34 := Lib.hid (cnt34 qs)
  obtain ⟨R, hR⟩ : ∃ R, (if (cnt qs 3 : Int) ≠ (qs.length : Int) - (cnt qs 4 : Nat) then (qs, (9 : Int)) else (rz1 qs t qs.length ++ List.replicate (t - qs.length) (3, -1), 0)) = R := ⟨_, rfl⟩
  rw [hR]
  have HR := Lib.hid hR
  clear hR hn hn2
  go_wp2
  go_loopw [6] (fun i wr => ∃ k : Nat, k ≤ qs.length ∧ i = .int .i64 k ∧ Hid (wr = W) ∧ Hid (∀ j (hj : j < qs.length), j < k → qs[j].1 = 3 ∨ qs[j].1 = 4)) (fun i _ => qs.length - (intOf i).toNat)
  case atStart => exact ⟨0, Nat.zero_le _, rfl, rfl, fun j _ hj => by omega⟩
  case round =>
    obtain ⟨k, hk, rfl, HW, HO⟩ := hrel
    obtain rfl := HW.out
    have k0 : (0 : Int) ≤ (k : Int) := by omega
    by_cases hlt : k < qs.length
    · have k1 : (k : Int) < (qs.length : Int) := by omega
      obtain ⟨b0, o, rfl, hbl, hcs⟩ := HX.out.rd.at2 (by omega)
      have e0 := (hcs k hlt).1
      clear hcs
      obtain ⟨a, ha⟩ : ∃ a, qs[k].1 = a := ⟨_, rfl⟩
      rw [ha] at e0
      have HA := Lib.hid ha
      clear ha
      by_cases h4 : a = 4
      · subst h4
        go_wp2
        exact ⟨⟨k + 1, by omega, by go_num, by first | exact trivial | rfl, ok34 HO.out hlt (.inr HA.out)⟩, by simp [intOf]; omega⟩
      · by_cases h3 : a = 3
        · subst h3
          go_wp2
          exact ⟨⟨k + 1, by omega, by go_num, by first | exact trivial | rfl, ok34 HO.out hlt (.inl HA.out)⟩, by simp [intOf]; omega⟩
        · have h4' : (a != 4) = true := by simpa using h4
          have h3' : (a != 3) = true := by simpa using h3
          go_wp2
          go_returns
          have hne : ¬ (cnt qs 3 : Int) = (qs.length : Int) - (cnt qs 4 : Nat) := by
            intro h
            have := H34.out.2.1 (by omega) qs[k] (List.getElem_mem _)
            rw [HA.out] at this
            omega
          have := HR.out
          rw [if_pos hne] at this
          subst this
          exact ⟨_, c, rfl, HX.out, Chg.refl _ _⟩
    · have hkn : k = qs.length := by omega
      subst hkn
      have hall : ∀ q ∈ qs, q.1 = 3 ∨ q.1 = 4 := fun q hq => by
        obtain ⟨j, hj, rfl⟩ := List.mem_iff_getElem.1 hq
        exact HO.out j hj hj
      have hRe := HR.out
      rw [if_neg (by have := H34.out.2.2 hall; simp; omega), ← hl_all qs t hall] at hRe
      have HRE := Lib.hid hRe
      clear hRe
      obtain ⟨V, hV⟩ : ∃ V, V = wr := ⟨_, rfl⟩
      subst hV
      go_wp2
      go_loopw [7, 8] (fun d i wy => ∃ (k : Nat) (D : Option Addr) (cd : Nat), k ≤ max t qs.length ∧ i = .int .i64 k ∧ d = .slice D k cd ∧ Hid (Row wy V.heap.size 29 2 D k cd (pv (hl qs t k))) ∧ Hid (Chg (fun _ => False) V wy)) (fun _ i _ => max t qs.length - (intOf i).toNat)
      case atStart => exact ⟨0, none, 0, Nat.zero_le _, rfl, rfl, Row.nil _ _ _ _, Chg.refl _ _⟩
      case round =>
        obtain ⟨k, D, cd, hk, rfl, rfl, HR2, HC2⟩ := hrel
        have k0 : (0 : Int) ≤ (k : Int) := by omega
        have hVs : V.heap.size ≤ wr.heap.size := HC2.out.size
        have hbn : blk D ≠ some wr.heap.size := fun e => by have := (HR2.out.blk_lt _ e).2; omega
        have hgr : ∀ g, blk D = some g → False ∨ V.heap.size ≤ g := fun g hg => .inr (HR2.out.blk_lt g hg).1
        by_cases hlt : k < max t qs.length
        · have k1 : (k : Int) < max (t : Int) (qs.length : Int) := by omega
          by_cases htk : t ≤ k
          · have htk' : (t : Int) ≤ (k : Int) := by omega
            have HZ := Lib.hid (show hz qs t k = (4, -1) by simp [hz, htk])
            go_wp2_with (at_builtin; refine wpList_app2 rfl (.tmp 67) (.tmp 69) 27 29 Try.underlying27 ref_info rfl V.heap.size D k cd (hl qs t k) rfl ?c0 (some ⟨_, 0, none⟩) 1 1 [hz qs t k] rfl ?c3 ?c1 ?c2 ?_; (case c0 => first | exact (HR2.out.alloc _).alloc _ | exact ((HR2.out.alloc _).setCell hbn _).alloc _ | exact (((HR2.out.alloc _).setCell hbn _).setCell hbn _).alloc _); (case c3 => rw [HZ.out]; exact Rd.lit2 _ _ _ _ _ (by simp)); (case c1 => omega); (case c2 => simp; omega); intro A2 c2 w2 h1 h2 h3)
            refine ⟨⟨k + 1, A2, c2, by omega, by go_num, rfl, by rw [hl_succ]; exact h1, ?_⟩, by simp [intOf]; omega⟩
            first
              | exact ((HC2.out.alloc _).alloc _).grown h2 hgr
              | exact (((HC2.out.alloc _).setCell (p := ⟨wr.heap.size, 0, none⟩) (.inr hVs) _).alloc _).grown h2 hgr
              | exact ((((HC2.out.alloc _).setCell (p := ⟨wr.heap.size, 0, none⟩) (.inr hVs) _).setCell (p := ⟨wr.heap.size, 1, none⟩) (.inr hVs) _).alloc _).grown h2 hgr
          · have htk' : ¬ (t : Int) ≤ (k : Int) := by omega
            by_cases hkq : k < qs.length
            · have hkq' : (k : Int) < (qs.length : Int) := by omega
              obtain ⟨b0, o, rfl, hbl, hcs⟩ := (HX.out.same HC2.out).rd.at2 (by omega)
              obtain ⟨e0, e1⟩ := hcs k hkq
              have hzz : hz qs t k = if qs[k].1 = 3 then (qs[k].1, qs[k].2) else (3, -1) := by
                unfold hz
                rw [if_neg htk, getD_at qs hkq]
                by_cases h3 : qs[k].1 = 3
                · rw [if_pos ⟨hkq, h3⟩, if_pos h3]
                · rw [if_neg (fun h => h3 h.2), if_neg h3]
              generalize qs[k].1 = a at e0 hzz
              generalize qs[k].2 = b at e1 hzz
              clear hcs
              by_cases h3 : a = 3
              · rw [if_pos h3] at hzz
                subst h3
                have HZ := Lib.hid hzz
                clear hzz
                go_wp2_with (at_builtin; refine wpList_app2 rfl (.tmp 67) (.tmp 69) 27 29 Try.underlying27 ref_info rfl V.heap.size D k cd (hl qs t k) rfl ?c0 (some ⟨_, 0, none⟩) 1 1 [hz qs t k] rfl ?c3 ?c1 ?c2 ?_; (case c0 => first | exact (HR2.out.alloc _).alloc _ | exact ((HR2.out.alloc _).setCell hbn _).alloc _ | exact (((HR2.out.alloc _).setCell hbn _).setCell hbn _).alloc _); (case c3 => rw [HZ.out]; exact Rd.lit2 _ _ _ _ _ (by simp)); (case c1 => omega); (case c2 => simp; omega); intro A2 c2 w2 h1 h2 h3)
                refine ⟨⟨k + 1, A2, c2, by omega, by go_num, rfl, by rw [hl_succ]; exact h1, ?_⟩, by simp [intOf]; omega⟩
                first
                  | exact ((HC2.out.alloc _).alloc _).grown h2 hgr
                  | exact (((HC2.out.alloc _).setCell (p := ⟨wr.heap.size, 0, none⟩) (.inr hVs) _).alloc _).grown h2 hgr
                  | exact ((((HC2.out.alloc _).setCell (p := ⟨wr.heap.size, 0, none⟩) (.inr hVs) _).setCell (p := ⟨wr.heap.size, 1, none⟩) (.inr hVs) _).alloc _).grown h2 hgr
              · rw [if_neg h3] at hzz
                have HZ := Lib.hid hzz
                clear hzz
                go_wp2_with (at_builtin; refine wpList_app2 rfl (.tmp 67) (.tmp 69) 27 29 Try.underlying27 ref_info rfl V.heap.size D k cd (hl qs t k) rfl ?c0 (some ⟨_, 0, none⟩) 1 1 [hz qs t k] rfl ?c3 ?c1 ?c2 ?_; (case c0 => first | exact (HR2.out.alloc _).alloc _ | exact ((HR2.out.alloc _).setCell hbn _).alloc _ | exact (((HR2.out.alloc _).setCell hbn _).setCell hbn _).alloc _); (case c3 => rw [HZ.out]; exact Rd.lit2 _ _ _ _ _ (by simp)); (case c1 => omega); (case c2 => simp; omega); intro A2 c2 w2 h1 h2 h3)
                refine ⟨⟨k + 1, A2, c2, by omega, by go_num, rfl, by rw [hl_succ]; exact h1, ?_⟩, by simp [intOf]; omega⟩
                first
                  | exact ((HC2.out.alloc _).alloc _).grown h2 hgr
                  | exact (((HC2.out.alloc _).setCell (p := ⟨wr.heap.size, 0, none⟩) (.inr hVs) _).alloc _).grown h2 hgr
                  | exact ((((HC2.out.alloc _).setCell (p := ⟨wr.heap.size, 0, none⟩) (.inr hVs) _).setCell (p := ⟨wr.heap.size, 1, none⟩) (.inr hVs) _).alloc _).grown h2 hgr
            · have hkq' : ¬ (k : Int) < (qs.length : Int) := by omega
              have HZ := Lib.hid (show hz qs t k = (3, -1) by unfold hz; rw [if_neg htk, if_neg (fun h => hkq h.1)])
              go_wp2_with (at_builtin; refine wpList_app2 rfl (.tmp 67) (.tmp 69) 27 29 Try.underlying27 ref_info rfl V.heap.size D k cd (hl qs t k) rfl ?c0 (some ⟨_, 0, none⟩) 1 1 [hz qs t k] rfl ?c3 ?c1 ?c2 ?_; (case c0 => first | exact (HR2.out.alloc _).alloc _ | exact ((HR2.out.alloc _).setCell hbn _).alloc _ | exact (((HR2.out.alloc _).setCell hbn _).setCell hbn _).alloc _); (case c3 => rw [HZ.out]; exact Rd.lit2 _ _ _ _ _ (by simp)); (case c1 => omega); (case c2 => simp; omega); intro A2 c2 w2 h1 h2 h3)
              refine ⟨⟨k + 1, A2, c2, by omega, by go_num, rfl, by rw [hl_succ]; exact h1, ?_⟩, by simp [intOf]; omega⟩
              first
                | exact ((HC2.out.alloc _).alloc _).grown h2 hgr
                | exact (((HC2.out.alloc _).setCell (p := ⟨wr.heap.size, 0, none⟩) (.inr hVs) _).alloc _).grown h2 hgr
                | exact ((((HC2.out.alloc _).setCell (p := ⟨wr.heap.size, 0, none⟩) (.inr hVs) _).setCell (p := ⟨wr.heap.size, 1, none⟩) (.inr hVs) _).alloc _).grown h2 hgr
        · have hkm : k = max t qs.length := by omega
          have k1 : ¬ (k : Int) < max (t : Int) (qs.length : Int) := by omega
          subst hkm
          go_wp2
          all_goals go_returns
          all_goals (have hRe := HRE.out; subst hRe)
          all_goals exact ⟨D, cd, by simp, by unfold Xl; rw [hl_len]; exact HR2.out.lower hB, HC2.out⟩
end Go.Proofs.Ytemnipdmclohmaa
