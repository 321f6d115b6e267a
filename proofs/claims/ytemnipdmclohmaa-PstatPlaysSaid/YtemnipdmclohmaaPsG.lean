/- A table of another length. -/
import Derived.Test.YtemnipdmclohmaaPsF
namespace Go.Proofs.Ytemnipdmclohmaa
open Go.ChangeShapes Go.WideShapes Go.ChangeAt Go.RowKit Go.Deep
set_option linter.unusedVariables false

def gz (n i : Nat) (q : Int × Int) : Int × Int := if n ≤ i then (4, -1) else if q.1 = 4 then (3, -1) else q
def rz1 (ps : List (Int × Int)) (n k : Nat) : List (Int × Int) := (List.range ps.length).map fun i => if i < k then gz n i (ps.getD i (0, 0)) else ps.getD i (0, 0)
@[simp] theorem rz1_len (ps : List (Int × Int)) (n k : Nat) : (rz1 ps n k).length = ps.length := by simp [rz1]
theorem rz1_zero (ps : List (Int × Int)) (n : Nat) : rz1 ps n 0 = ps := by
  apply List.ext_getElem (by simp)
  intro i h1 h2
  simp only [rz1, List.getElem_map, List.getElem_range, Nat.not_lt_zero, if_false]
  exact getD_at ps h2
theorem rz1_at (ps : List (Int × Int)) (n k : Nat) (hk : k < ps.length) : (rz1 ps n k)[k]'(by simpa using hk) = ps[k] := by
  simp only [rz1, List.getElem_map, List.getElem_range, Nat.lt_irrefl, if_false]
  exact getD_at ps hk
theorem rz1_step (ps : List (Int × Int)) (n k : Nat) (hk : k < ps.length) : (rz1 ps n k).set k (gz n k ps[k]) = rz1 ps n (k + 1) := by
  apply List.ext_getElem (by simp)
  intro i h1 h2
  have hi : i < ps.length := by simpa using h2
  rw [List.getElem_set]
  simp only [rz1, List.getElem_map, List.getElem_range]
  by_cases h : k = i
  · subst h
    rw [if_pos rfl, if_pos (by omega), getD_at ps hk]
  · rw [if_neg h]
    by_cases h' : i < k
    · rw [if_pos h', if_pos (by omega)]
    · rw [if_neg h', if_neg (by omega)]
theorem rz1_keep (ps : List (Int × Int)) (n k : Nat) (hk : k < ps.length) (h : gz n k ps[k] = ps[k]) : rz1 ps n (k + 1) = rz1 ps n k := by
  rw [← rz1_step ps n k hk, h]
  have := rz1_at ps n k hk
  rw [← this]
  exact List.set_getElem_self _
def rsz (ps : List (Int × Int)) (n : Int) : List (Int × Int) × Int :=
  if n < 1 ∨ 256 < n then (ps, 2) else if (cnt ps 3 : Int) ≠ (ps.length : Int) - (cnt ps 4 : Nat) then (ps, 9) else (rz1 ps n.toNat ps.length ++ List.replicate (n.toNat - ps.length) (3, -1), 0)
theorem TA.trans {W W1 W2 : World} {base T : Nat} {A : Option Addr} {ps1 ps2 : List (Int × Int)} (hT0 : T < W.heap.size) (h : TA W W1 base T A ps1) (h2 : ∀ A', Tb W1 base T A' ps1 → TA W1 W2 base T A' ps2) : TA W W2 base T A ps2 := by
  obtain ⟨A1, t1, c1, g1⟩ := h
  obtain ⟨A2, t2, c2, g2⟩ := h2 A1 t1
  refine ⟨A2, t2, c1.trans c2 ?_, fun g hg => ?_⟩
  · rintro k hk (h | h)
    · exact .inl h
    · rcases g1 k h with h | h
      · exact .inr h
      · omega
  · rcases g2 g hg with h | h
    · exact g1 g h
    · exact .inr (Nat.le_trans c1.size h)
def tlen (w : World) (T : Nat) : Nat := match w.cell? ⟨T, 0, none⟩ with
  | some (.slice _ l _) => l
  | _ => 0
theorem Tb.tlen {w : World} {base T : Nat} {A : Option Addr} {ps : List (Int × Int)} (h : Tb w base T A ps) : tlen w T = ps.length := by
  obtain ⟨c, h1⟩ := h.row
  unfold Go.Proofs.Ytemnipdmclohmaa.tlen
  rw [h1]
set_option maxHeartbeats 4000000 in
theorem resize_in (base T : Nat) (A : Option Addr) (ps : List (Int × Int)) (n : Nat) (W : World) (hT : Tb W base T A ps) (h1 : 1 ≤ n) (h2 : n ≤ 256) (hc : (cnt ps 3 : Int) = (ps.length : Int) - (cnt ps 4 : Nat)) :
    Calls Try.prog 24 #[.pointer (some ⟨T, 0, none⟩), .int .i64 n] W fun e W' => e = .returned (.int .i64 0) ∧ TA W W' base T A (rz1 ps n ps.length ++ List.replicate (n - ps.length) (3, -1)) := by
  have hlT := hT.lt
  have hl := hT.len
  have i1 : (1 : Int) ≤ n := by omega
  have i2 : (n : Int) ≤ 256 := by omega
  have hcn := count_at base T A ps 3 W hT
  rw [hc] at hcn
  have HCN := Lib.hid hcn
  have HTT := Lib.hid hT
  have HLN := Lib.hid (fun W1 h => len_at base T A ps W1 h)
  obtain ⟨d, hd⟩ : ∃ d, (ps.length : Int) - (cnt ps 4 : Nat) = d := ⟨_, rfl⟩
  rw [hd] at HCN HLN
  clear hcn hT hc hd
  go_enter Try.func24, Try.ntmps24
  go_wp2_with (first
    | (go_at_call 15; refine HCN.out.mono ?_; rintro e w1 ⟨rfl, hc1⟩)
    | (go_at_call 14; refine (HLN.out _ (HTT.out.same hc1)).mono ?_; rintro e w2 ⟨rfl, hc2⟩; obtain ⟨c0, t0⟩ := ((HTT.out.same hc1).same hc2).row))
  have HA0 := Lib.hid (show TA W w2 base T A (rz1 ps n 0) by rw [rz1_zero]; exact TA.pre hc1 (TA.same (HTT.out.same hc1) hc2))
  clear hc1 hc2 HCN HLN
  go_loopw [27] (fun i wr => ∃ k : Nat, k ≤ ps.length ∧ i = .int .i64 k ∧ Hid (TA W wr base T A (rz1 ps n k))) (fun i _ => ps.length - (intOf i).toNat)
  case atStart => exact ⟨0, Nat.zero_le _, rfl, HA0.out⟩
  case round =>
    obtain ⟨k, hk, rfl, HA⟩ := hrel
    clear HA0
    have k0 : (0 : Int) ≤ (k : Int) := by omega
    by_cases hlt : k < ps.length
    · have k1 : (k : Int) < (ps.length : Int) := by omega
      obtain ⟨A', hT', _, _⟩ := HA.out
      have hkl : k < (rz1 ps n k).length := by simpa using hlt
      obtain ⟨g, c, rfl, hgT, hgl, t0, t1, t2, f1, f2⟩ := hT'.at_ hkl
      rw [rz1_len] at t0
      rw [rz1_at ps n k hlt] at t1 t2
      have hstep := rz1_step ps n k hlt
      have hkeep := rz1_keep ps n k hlt
      by_cases hnk : n ≤ k
      · have hnk' : (n : Int) ≤ (k : Int) := by omega
        have hg0 : gz n k ps[k] = (4, -1) := by simp [gz, hnk]
        rw [hg0] at hstep
        generalize ps[k].1 = a at t1
        generalize ps[k].2 = b at t2
        have HS := Lib.hid hstep
        clear hstep hkeep hT' hg0
        go_wp2
        refine ⟨⟨k + 1, by omega, by go_num, ?_⟩, by simp [intOf]; omega⟩
        rw [← HS.out]
        exact TA.trans hlT HA.out fun A1 h => by
          obtain ⟨c1, e1⟩ := h.row
          rw [rz1_len] at e1
          rw [e1] at t0
          cases t0
          exact Tb.set_ h rfl hkl 4 (-1)
      · have hnk' : ¬ (n : Int) ≤ (k : Int) := by omega
        by_cases ha4 : ps[k].1 = 4
        · have hg0 : gz n k ps[k] = (3, -1) := by simp [gz, hnk, ha4]
          rw [hg0] at hstep
          rw [ha4] at t1
          generalize ps[k].2 = b at t2
          have HS := Lib.hid hstep
          clear hstep hkeep hT' hg0 ha4
          go_wp2
          refine ⟨⟨k + 1, by omega, by go_num, ?_⟩, by simp [intOf]; omega⟩
          rw [← HS.out]
          exact TA.trans hlT HA.out fun A1 h => by
            obtain ⟨c1, e1⟩ := h.row
            rw [rz1_len] at e1
            rw [e1] at t0
            cases t0
            exact Tb.set_ h rfl hkl 3 (-1)
        · have hg0 : gz n k ps[k] = ps[k] := by simp [gz, hnk, ha4]
          have hk2 := hkeep hg0
          generalize ps[k].1 = a at t1 ha4
          generalize ps[k].2 = b at t2
          have HS := Lib.hid hk2
          clear hstep hkeep hT' hg0 hk2
          go_wp2
          refine ⟨⟨k + 1, by omega, by go_num, ?_⟩, by simp [intOf]; omega⟩
          rw [HS.out]
          exact HA.out
    · have hkn : k = ps.length := by omega
      subst hkn
      go_wp2_with fail
      go_loopw [] (fun wr => ∃ m : Nat, (m = 0 ∨ ps.length + m ≤ n) ∧ Hid (TA W wr base T A (rz1 ps n ps.length ++ List.replicate m (3, -1)))) (fun wr => n - tlen wr T)
      case atStart => exact ⟨0, .inl rfl, by show TA W wr base T A _; simpa using HA.out⟩
      case round =>
        obtain ⟨m, hm, HB⟩ := hrel
        obtain ⟨A', hT', _, _⟩ := HB.out
        obtain ⟨c, t0, t1, t2, t3⟩ := hT'.open_
        have htl := hT'.tlen
        obtain ⟨L, hL⟩ : ∃ L, rz1 ps n ps.length ++ List.replicate m (3, -1) = L := ⟨_, rfl⟩
        have hLl : L.length = ps.length + m := by rw [← hL]; simp
        have hL1 : rz1 ps n ps.length ++ List.replicate (m + 1) (3, -1) = L ++ [(3, -1)] := by rw [List.replicate_succ', ← List.append_assoc, hL]
        rw [hL] at HB hT' t0 t2 htl
        rw [hLl] at t0
        have HR := Lib.hid t2
        have HT' := Lib.hid hT'
        have HL1 := Lib.hid hL1
        have HLl := Lib.hid hLl
        have HTL := Lib.hid htl
        clear t2 hT' hL1 hLl htl
        by_cases hmn : ps.length + m < n
        · have hmn' : ((ps.length + m : Nat) : Int) < (n : Int) := by omega
          go_wp2_with (at_builtin; refine wpList_app2 rfl (.tmp 70) (.tmp 72) 44 48 Try.underlying44 proc_info rfl base A' (ps.length + m) c L rfl ?c0 (some ⟨wr.heap.size, 0, none⟩) 1 1 [(3, -1)] rfl (Rd.lit2 _ _ _ _ _ rfl) ?c1 ?c2 ?_; (case c0 => (have := HR.out.alloc (.cells #[.int .i64 3, .int .i64 (-1)] 48); rw [HLl.out] at this; exact this)); (case c1 => omega); (case c2 => have := HT'.out.1; simp; omega); intro A2 c2 w3 h1 h2 h3; obtain ⟨⟨c4, u0⟩, u1, hTA⟩ := Tb.app_ HT'.out (by rw [HLl.out]; exact h1) h2 h3 (by rw [HLl.out]; omega))
          rw [HLl.out, ← HL1.out] at hTA
          have htl2 : tlen (w3.setCell ⟨T, 0, none⟩ (.slice A2 (ps.length + m + 1) c2)) T = ps.length + (m + 1) := by
            obtain ⟨A3, hT3, _, _⟩ := hTA
            rw [hT3.tlen]; simp
          refine ⟨⟨m + 1, .inr (by omega), TA.trans hlT HB.out fun A1 h => ?_⟩, by rw [htl2, HTL.out, HLl.out]; omega⟩
          obtain ⟨c1, e1⟩ := h.row
          rw [HLl.out] at e1
          have e2 := e1.symm.trans t0
          cases e2
          exact hTA
        · have hmn' : ¬ ((ps.length + m : Nat) : Int) < (n : Int) := by omega
          go_wp2
          go_ret
          have hmm : n - ps.length = m := by omega
          rw [hmm, hL]
          exact ⟨rfl, HB.out⟩
theorem resize_any (base T : Nat) (A : Option Addr) (ps : List (Int × Int)) (n : Int) (W : World) (hT : Tb W base T A ps) :
    Calls Try.prog 24 #[.pointer (some ⟨T, 0, none⟩), .int .i64 n] W fun e W' => e = .returned (.int .i64 (rsz ps n).2) ∧ TA W W' base T A (rsz ps n).1 := by
  unfold rsz
  by_cases hn : n < 1 ∨ 256 < n
  · rw [if_pos hn]
    go_enter Try.func24, Try.ntmps24
    by_cases h1 : n < 1
    · go_wp2
      go_ret
      exact ⟨rfl, TA.same hT (Chg.refl _ _)⟩
    · have h2 : 256 < n := by omega
      go_wp2
      go_ret
      exact ⟨rfl, TA.same hT (Chg.refl _ _)⟩
  · rw [if_neg hn]
    obtain ⟨k, rfl⟩ : ∃ k : Nat, n = k := ⟨n.toNat, by omega⟩
    by_cases hc : (cnt ps 3 : Int) = (ps.length : Int) - (cnt ps 4 : Nat)
    · rw [if_neg (by simpa using hc), Int.toNat_natCast]
      exact resize_in base T A ps k W hT (by omega) (by omega) hc
    · rw [if_pos hc]
      have i1 : (1 : Int) ≤ k := by omega
      have i2 : (k : Int) ≤ 256 := by omega
      have HCN := Lib.hid (count_at base T A ps 3 W hT)
      have HTT := Lib.hid hT
      have HLN := Lib.hid (fun W1 h => len_at base T A ps W1 h)
      obtain ⟨d, hd⟩ : ∃ d, (ps.length : Int) - (cnt ps 4 : Nat) = d := ⟨_, rfl⟩
      obtain ⟨d', hd'⟩ : ∃ d', cnt ps 3 = d' := ⟨_, rfl⟩
      rw [hd] at HLN hc
      rw [hd'] at HCN hc
      have hne : ((d' : Int) == d) = false := by simpa using hc
      clear hT hd hd' hn
      go_enter Try.func24, Try.ntmps24
      go_wp2_with (first
        | (go_at_call 15; refine HCN.out.mono ?_; rintro e w1 ⟨rfl, hc1⟩)
        | (go_at_call 14; refine (HLN.out _ (HTT.out.same hc1)).mono ?_; rintro e w2 ⟨rfl, hc2⟩))
      go_ret
      exact ⟨rfl, TA.pre hc1 (TA.same (HTT.out.same hc1) hc2)⟩
end Go.Proofs.Ytemnipdmclohmaa
