/- Any act, on the table and on the document's list; are they alike? -/
import Derived.Test.YtemnipdmclohmaaPsK
namespace Go.Proofs.Ytemnipdmclohmaa
open Go.ChangeShapes Go.WideShapes Go.ChangeAt Go.RowKit Go.Deep
set_option linter.unusedVariables false

def pdo (ps : List (Int × Int)) (kd p m : Int) : List (Int × Int) × Int := if kd = 6 then rsz ps p else pact ps kd p m
theorem act_full (base T : Nat) (A : Option Addr) (ps : List (Int × Int)) (kd i m : Int) (W : World) (hT : Tb W base T A ps) (h0 : 0 ≤ kd) (h6 : kd ≤ 6) :
    Calls Try.prog 10 #[.pointer (some ⟨T, 0, none⟩), .agg #[.int .i64 kd, .int .i64 i, .int .i64 m]] W fun e W' => e = .returned (.int .i64 (pdo ps kd i m).2) ∧ TA W W' base T A (pdo ps kd i m).1 := by
  unfold pdo
  by_cases hk : kd = 6
  · subst hk
    rw [if_pos rfl]
    have hop := resize_any base T A ps i (W.alloc (.cells #[.int .i64 6, .int .i64 i, .int .i64 m] 34)) (hT.same ((Chg.refl _ _).alloc _))
    generalize rsz ps i = r at hop ⊢
    have HOP := Lib.hid hop
    clear hop hT h0 h6
    go_enter Try.func10, Try.ntmps10
    go_wp2_with (go_at_call 24; refine HOP.out.mono ?_; rintro e w1 ⟨rfl, hA⟩)
    go_ret
    exact ⟨rfl, TA.pre ((Chg.refl _ _).alloc _) hA⟩
  · rw [if_neg hk]
    exact act_any base T A ps kd i m W hT h0 (by omega)
set_option maxRecDepth 100000 in
set_option maxHeartbeats 4000000 in
theorem do_full (base : Nat) (B : Option Addr) (c : Nat) (kd p m : Int) (qs : List (Int × Int)) (W : World) (hX : Xl W base B c qs) (hB : base ≤ W.heap.size) (hl : qs.length ≤ 256) (hI : Inv qs) (h0 : 0 ≤ kd) (h6 : kd ≤ 6) :
    Calls Try.prog 9 #[.slice B qs.length c, .agg #[.int .i64 kd, .int .i64 p, .int .i64 m]] W (DoP base W (pdo qs kd p m)) := by
  unfold pdo
  by_cases hk : kd = 6
  · subst hk
    rw [if_pos rfl]
    have hop := rres_any base B c p qs (W.alloc (.cells #[.int .i64 6, .int .i64 p, .int .i64 m] 34)) (hX.same ((Chg.refl _ _).alloc _)) (Nat.le_trans hB (by simp)) hl
    generalize rsz qs p = r at hop ⊢
    have HOP := Lib.hid hop
    clear hop hX h0 h6
    go_enter Try.func9, Try.ntmps9
    go_wp2_with (go_at_call 19; refine HOP.out.mono ?_; rintro e w1 ⟨B', c', rfl, hx, hc⟩)
    go_returns
    exact ⟨B', c', rfl, hx, Chg.pre ((Chg.refl _ _).alloc _) hc⟩
  · rw [if_neg hk]
    exact do_any base B c kd p m qs W hX hB hl hI h0 (by omega)
theorem rsz_inv {ps : List (Int × Int)} (h : Inv ps) (n : Int) : Inv (rsz ps n).1 := by
  unfold rsz
  split
  · exact h
  · split
    · exact h
    · intro q hq
      rcases List.mem_append.1 hq with hq | hq
      · simp only [rz1, List.mem_map, List.mem_range] at hq
        obtain ⟨i, hi, rfl⟩ := hq
        rw [if_pos hi, getD_at ps hi]
        unfold gz
        split
        · simp [Inv1]
        · split
          · simp [Inv1]
          · exact h _ (List.getElem_mem _)
      · obtain ⟨_, rfl⟩ := List.mem_replicate.1 hq
        simp [Inv1]
theorem pdo_inv {ps : List (Int × Int)} (h : Inv ps) (kd i m : Int) : Inv (pdo ps kd i m).1 := by
  unfold pdo
  split
  · exact rsz_inv h _
  · exact pact_inv h _ _ _
theorem rows_ne {w : World} {base base' size size' n n' c c' : Nat} {E E' : TypeId} {A A' : Option Addr} {xs xs' : List Value} (h : Row w base E size A n c xs) (h' : Row w base' E' size' A' n' c' xs') (hne : E ≠ E') (g : Nat) (hg : blk A = some g) : blk A' ≠ some g := by
  intro hg'
  rcases h.2.2.2 with ⟨rfl, _⟩ | ⟨g1, cur, rfl, _, hB, _⟩
  · cases hg
  · rcases h'.2.2.2 with ⟨rfl, _⟩ | ⟨g2, cur', rfl, _, hB', _⟩
    · cases hg'
    · have := hB.ne_ hB' hne
      simp at hg hg'
      omega
theorem Xl.far {w w' : World} {base base' T c : Nat} {A B : Option Addr} {ps ps' qs : List (Int × Int)} (h : Xl w base B c qs) (hT : Tb w base' T A ps) (hA : TA w w' base' T A ps') : Xl w' base B c qs := by
  obtain ⟨_, _, hc, _⟩ := hA
  obtain ⟨_, c', hB, hR, _⟩ := hT
  refine Row.kept h hc fun g hg => ?_
  rintro (rfl | h4)
  · exact Row.blk_ne h hB (by decide) hg
  · exact rows_ne h hR (by decide) g hg h4
theorem Tb.drewN {w : World} {base T : Nat} {A : Option Addr} {ps : List (Int × Int)} (h : Tb w base T A ps) (n : Nat) : Tb (w.drewN n) base T A ps := h.same ((Chg.refl _ _).drewN n)
set_option maxRecDepth 100000 in
set_option maxHeartbeats 8000000 in
theorem like_at (base b2 T : Nat) (A B : Option Addr) (c : Nat) (ps : List (Int × Int)) (W : World) (hT : Tb W base T A ps) (hX : Xl W b2 B c ps) :
    Calls Try.prog 11 #[.pointer (some ⟨T, 0, none⟩), .slice B ps.length c] W fun e W' => e = .returned (.bool true) ∧ Chg (fun _ => False) W W' := by
  have hl := hT.len
  have HT := Lib.hid hT
  have HX := Lib.hid hX
  clear hT hX
  go_enter Try.func11, Try.ntmps11
  go_wp2
  go_loopw [5] (fun i wr => ∃ k : Nat, k ≤ ps.length ∧ i = .int .i64 k ∧ Hid (Chg (fun _ => False) W wr)) (fun i _ => ps.length - (intOf i).toNat)
  case atStart => exact ⟨0, Nat.zero_le _, rfl, Chg.refl _ _⟩
  case round =>
    obtain ⟨k, hk, rfl, HC⟩ := hrel
    have k0 : (0 : Int) ≤ (k : Int) := by omega
    by_cases hlt : k < ps.length
    · have k1 : (k : Int) < (ps.length : Int) := by omega
      obtain ⟨b0, o, rfl, hbl, hcs⟩ := (HX.out.same HC.out).rd.at2 (by omega)
      obtain ⟨e0, e1⟩ := hcs k hlt
      have HWHO := Lib.hid (fun (W : World) (hT : Tb W base T A ps) => who_at _ _ _ ps W hT k hlt)
      have HGET := Lib.hid (fun (W : World) (hT : Tb W base T A ps) => get_at _ _ _ ps W hT k hlt)
      obtain ⟨b', hb'⟩ : ∃ b', ps[k].2 = b' := ⟨_, rfl⟩
      obtain ⟨a', ha'⟩ : ∃ a', ps[k].1 = a' := ⟨_, rfl⟩
      rw [hb'] at HWHO e1
      rw [ha'] at HGET e0
      clear hb' ha' hcs
      have HTx := Lib.hid (HT.out.same HC.out)
      go_wp2_with fail
      go_quiet (first | exact Calls.quiet_of_same (HWHO.out _ (HTx.out.drewN _)) | exact Calls.quiet_of_same (HGET.out _ (HTx.out.drewN _)))
      go_wp2_with fail
      exact ⟨⟨k + 1, by omega, by go_num, HC.out.drewN _⟩, by simp [intOf]; omega⟩
    · have hkn : k = ps.length := by omega
      have k1 : ¬ (k : Int) < (ps.length : Int) := by omega
      obtain ⟨V, hV⟩ : ∃ V, V = wr := ⟨_, rfl⟩
      subst hV
      go_wp2_with fail
      go_loopw [6] (fun i wr => ∃ s : Nat, s ≤ 5 ∧ i = .int .i64 s ∧ Hid (Chg (fun _ => False) W wr)) (fun i _ => 5 - (intOf i).toNat)
      case atStart => exact ⟨0, Nat.zero_le _, rfl, HC.out⟩
      case round =>
        obtain ⟨s, hs, rfl, HS⟩ := hrel
        have s0 : (0 : Int) ≤ (s : Int) := by omega
        have HTx := Lib.hid (HT.out.same HS.out)
        have HXx := Lib.hid (HX.out.same HS.out)
        by_cases hs5 : s < 5
        · have s1 : (s : Int) < 5 := by omega
          have HC1 := Lib.hid (count_at base T A ps s wr HTx.out)
          have HC2 := Lib.hid (fun W1 (h : Xl W1 b2 B c ps) => rcount_at B ps.length c s ps W1 h.rd rfl hl)
          obtain ⟨d, hd⟩ : ∃ d, cnt ps s = d := ⟨_, rfl⟩
          rw [hd] at HC1 HC2
          go_wp2_with (first
            | (go_at_call 15; refine HC1.out.mono ?_; rintro e w1 ⟨rfl, hc1⟩)
            | (go_at_call 25; refine (HC2.out _ (HXx.out.same hc1)).mono ?_; rintro e w2 ⟨rfl, rfl⟩))
          exact ⟨⟨s + 1, by omega, by go_num, HS.out.trans hc1 (fun _ _ h => h)⟩, by simp [intOf]; omega⟩
        · have hs5' : s = 5 := by omega
          subst hs5'
          have HG := Lib.hid (get_out base T A ps wr HTx.out ps.length (.inr (Int.le_refl _)))
          have HWH := Lib.hid (who_out base T A ps wr HTx.out (-1) (.inl (by decide)))
          have HLN := Lib.hid (len_at base T A ps wr HTx.out)
          have HC2 := Lib.hid (fun W1 (h : Xl W1 b2 B c ps) => rcount_at B ps.length c 4 ps W1 h.rd rfl hl)
          have hcl := cnt_le ps 4
          obtain ⟨d, hd⟩ : ∃ d, cnt ps 4 = d := ⟨_, rfl⟩
          rw [hd] at HLN HC2 hcl
          have ew : IntKind.i64.wrap ((ps.length : Int) - (d : Int)) = (ps.length : Int) - (d : Int) := by go_unwrap
          go_wp2_with (first
            | (go_at_call 13; refine HG.out.mono ?_; rintro e w1 ⟨rfl, rfl⟩)
            | (go_at_call 12; refine HWH.out.mono ?_; rintro e w1 ⟨rfl, rfl⟩)
            | (go_at_call 14; refine HLN.out.mono ?_; rintro e w3 ⟨rfl, hc3⟩)
            | (go_at_call 25; refine (HC2.out _ (HXx.out.same hc3)).mono ?_; rintro e w2 ⟨rfl, rfl⟩))
          go_ret
          exact ⟨by first | rfl | (refine ret_bool ?_; simp), HS.out.trans hc3 (fun _ _ h => h)⟩
end Go.Proofs.Ytemnipdmclohmaa
