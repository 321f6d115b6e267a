/- The walk of the law NumOnce. -/
import Derived.Test.YtedenmbdefnhiaaNumF
import Derived.Laws.MakeOwn
import Derived.Laws.Entries
namespace Go.Proofs.Ytedenmbdefnhiaa
open Go.ChangeShapes Go.WideShapes Go.ChangeAt Go.RowKit Go.Deep Go.Shelf
set_option linter.unusedVariables false

theorem wat_eq (n start step : Int) (hn : 1 ≤ n) : ∀ k : Nat, wat n start step k = (start + k * step) % n
  | 0 => by rw [wat, modOf, if_neg (by omega)]; simp
  | k + 1 => by
    rw [wat, modOf, if_neg (by omega), wat_eq n start step hn k, Int.emod_add_emod]
    congr 1
    push_cast
    rw [Int.add_mul, Int.one_mul, Int.add_assoc]
theorem wat_inj {N s : Nat} {start : Int} (hN : 1 ≤ N) (hg : Nat.gcd s N = 1) {i j : Nat} (hij : i < j) (hj : j < N) : wat N start s i ≠ wat N start s j := by
  rw [wat_eq N start s (by omega), wat_eq N start s (by omega)]
  intro h
  have h1 : ((start + j * s) - (start + i * s)) % (N : Int) = 0 := by rw [Int.sub_emod, h]; simp
  have h2 : (N : Int) ∣ (((j - i) * s : Nat) : Int) := by
    have := Int.dvd_of_emod_eq_zero h1
    have e : ((start + (j : Int) * s) - (start + i * s)) = (((j - i) * s : Nat) : Int) := by
      rw [Int.natCast_mul, Int.natCast_sub (by omega), Int.sub_mul]; omega
    rw [e] at this
    exact this
  have h3 : N ∣ (j - i) * s := Int.natCast_dvd_natCast.1 h2
  have h4 : N ∣ (j - i) := Nat.Coprime.dvd_of_dvd_mul_right (by rw [Nat.Coprime, Nat.gcd_comm]; exact hg) h3
  have := Nat.le_of_dvd (by omega) h4
  omega
theorem copr_mem {N : Nat} : ∀ {k : Nat} {x : Int}, x ∈ copr N k → ∃ s : Nat, x = s ∧ 1 ≤ s ∧ s ≤ k ∧ Nat.gcd s N = 1
  | 0, x, h => by simp [copr] at h
  | k + 1, x, h => by
    by_cases hg : Nat.gcd (k + 1) N = 1
    · rw [copr_yes hg, List.mem_append] at h
      rcases h with h | h
      · obtain ⟨s, h1, h2, h3, h4⟩ := copr_mem h
        exact ⟨s, h1, h2, by omega, h4⟩
      · simp at h
        exact ⟨k + 1, by rw [h]; simp, by omega, Nat.le_refl _, hg⟩
    · rw [copr_no hg] at h
      obtain ⟨s, h1, h2, h3, h4⟩ := copr_mem h
      exact ⟨s, h1, h2, by omega, h4⟩
theorem copr_pos {N : Nat} : ∀ k, 0 < (copr N (k + 1)).length
  | 0 => by rw [copr_yes (by simp)]; simp
  | k + 1 => by
    have := copr_pos (N := N) k
    by_cases h : Nat.gcd (k + 1 + 1) N = 1
    · rw [copr_yes h]; simp
    · rw [copr_no h]; exact this

/-- The marks after k places. -/
def Seen (N : Nat) (L : List Int) (cs : Array Value) : Prop := cs.size = N ∧ ∀ v, v < N → cs[v]? = some (.bool (decide ((v : Int) ∈ L)))
theorem Seen.zero (N : Nat) : Seen N [] (madeCells #[.bool false] N) := by
  refine ⟨by simp [madeCells], fun v hv => ?_⟩
  have := toList_madeCells_one (.bool false) N
  rw [← Array.getElem?_toList, this, List.getElem?_replicate, if_pos hv]
  simp
theorem Seen.step {N : Nat} {L : List Int} {cs : Array Value} {v : Nat} (h : Seen N L cs) (hv : v < N) : Seen N (L ++ [(v : Int)]) (cs.setIfInBounds v (.bool true)) := by
  refine ⟨by simpa using h.1, fun u hu => ?_⟩
  by_cases e : u = v
  · subst e
    rw [Array.getElem?_setIfInBounds_self_of_lt (by rw [h.1]; exact hv)]
    simp
  · rw [Array.getElem?_setIfInBounds_ne (fun h' => e h'.symm), h.2 u hu]
    have : (u : Int) ≠ (v : Int) := by omega
    simp [this]
theorem info_bool : (Try.prog.info? 4).map (fun i => (i.zero, i.size, i.bytes)) = some (some (.bool false), 1, 1) := by kernel_rfl
theorem make_bools (N : Nat) (hN : N ≤ 1000) (W : World) : (Instr.makeSlice 33 (.int .i64 (N : Int)) (.int .i64 (N : Int))).run Try.prog W = .ok (.slice (some ⟨W.heap.size, 0, none⟩) N N) (W.alloc (.cells (madeCells #[.bool false] N) 4)) := by
  obtain ⟨i0, hi, hz0, hz1, hz2⟩ := info_parts info_bool
  have hr := run_make (P := Try.prog) W 33 4 i0 (.bool false) Try.underlying33 hi hz0 .i64 .i64 N N (by omega) (by omega) (by rw [hz2]; omega) (by omega)
  simp only [Int.toNat_natCast, hz1, Nat.mul_one] at hr
  exact hr
def RoundN (w : World) (S N : Nat) (start : Int) (s : Nat) (A : Option Addr) (i : Value) (wr : World) : Prop :=
  ∃ (k : Nat) (cs : Array Value), k ≤ N ∧ i = .int .i64 k ∧ Blk wr S 4 cs ∧ Seen N (wlist N start s k) cs ∧ Rd wr 1 A N (ints (wlist N start s N)) ∧ blk A ≠ some S ∧ Below w.heap.size w wr ∧ w.heap.size ≤ S

theorem coprimes_is (N : Nat) (W : World) (h1 : 1 ≤ N) (h2 : N ≤ 1024) :
    Calls Try.prog 16 #[.int .i64 (N : Int)] W fun e W' => ∃ A c, e = .returned (.slice A (copr N N).length c) ∧ Row W' W.heap.size 3 1 A (copr N N).length c (ints (copr N N)) ∧ Below W.heap.size W W' := by
  refine (coprimes_yes N W h1 h2).mono ?_
  rintro e w4 ⟨⟨A4, c4, hv, hr4, hb4⟩, v, rfl⟩
  simp only at hv
  subst hv
  exact ⟨A4, c4, rfl, hr4, hb4⟩
theorem wat_new {N s k : Nat} {start : Int} (hN : 1 ≤ N) (hg : Nat.gcd s N = 1) (hk : k < N) : ¬ wat N start s k ∈ wlist N start s k := by
  intro h
  rw [wlist, List.mem_map] at h
  obtain ⟨i, hi, he⟩ := h
  rw [List.mem_range] at hi
  exact wat_inj hN hg hi hk he
theorem wlist_get (n start step : Int) {j k : Nat} (h : j < k) : (ints (wlist n start step k))[j]? = some (.int .i64 (wat n start step j)) := by
  rw [ints_get _ _ (by rw [wlist_len]; exact h)]
  simp [wlist]

set_option maxRecDepth 100000 in
set_option maxHeartbeats 16000000 in
theorem walk_numOnce (a0 a1 a2 : Int) (w : World) (w0 : (Lit.int .i64 a0).wf = true) (w1 : (Lit.int .i64 a1).wf = true) (w2 : (Lit.int .i64 a2).wf = true) :
    Calls Try.prog 6 #[.int .i64 a0, .int .i64 a1, .int .i64 a2] w fun e w' => e = .returned (.bool true) ∧ Below w.heap.size w w' := by
  clear w0 w1 w2
  have hc : a0 < 1 ∨ (¬ a0 < 1 ∧ 200 < a0) ∨ (1 ≤ a0 ∧ a0 ≤ 200) := by omega
  rcases hc with c1 | ⟨c1, c2⟩ | ⟨c1, c2⟩
  case inr.inr =>
    obtain ⟨N, rfl⟩ : ∃ N : Nat, a0 = N := ⟨a0.toNat, by omega⟩
    have h3 := Lib.hid (fun W => coprimes_is N W (by omega) (by omega))
    have hl := copr_len N N
    have hp : 0 < (copr N N).length := by
      obtain ⟨m, rfl⟩ : ∃ m, N = m + 1 := ⟨N - 1, by omega⟩
      exact copr_pos m
    have hmem := @copr_mem N N
    have hmk := Lib.hid (make_bools N (by omega))
    generalize copr N N = L at *
    have hpi : (0 : Int) < (L.length : Int) := by omega
    have hmo := Lib.hid (fun W => rmod_any a2 (L.length : Int) W (by omega))
    have hidx : 0 ≤ modOf a2 (L.length : Int) ∧ modOf a2 (L.length : Int) < L.length := by
      rw [modOf, if_neg (by omega)]
      exact ⟨Int.emod_nonneg _ (by omega), Int.emod_lt_of_pos _ (by omega)⟩
    obtain ⟨t, ht⟩ : ∃ t : Nat, modOf a2 (L.length : Int) = t := ⟨(modOf a2 (L.length : Int)).toNat, by omega⟩
    rw [ht] at hmo hidx
    have htl : t < L.length := by omega
    obtain ⟨s, hs, hs1, hs2, hsg⟩ := hmem (List.getElem_mem htl)
    have hget : (ints L)[t]? = some (.int .i64 (s : Int)) := by rw [ints_get _ _ htl, hs]
    have hwy := Lib.hid (fun W => walked_yes (N : Int) a1 (s : Int) W (by omega) (by omega) (by omega) (by omega))
    simp only [Int.toNat_natCast] at hwy
    have Hsg := Lib.hid hsg
    have hlz : ((L.length : Int) == 0) = false := beq_eq_false_iff_ne.2 (by omega)
    have hlz2 : decide ((L.length : Int) = 0) = false := decide_eq_false (by omega)
    clear ht hs hmem hsg
    have hN1 : (1 : Int) ≤ (N : Int) := by omega
    go_enter Try.func6, Try.ntmps6
    go_wp2_with (first
      | (go_at_call 16; refine (h3.out _).mono ?_; rintro e w4 ⟨A4, c4, rfl, hr4, hb4⟩; obtain ⟨b4, o4, rfl, hbl4, hc4⟩ := hr4.rd.2 hp; have e4 := hc4 t _ hget; clear hc4)
      | (go_at_call 9; refine (hmo.out _).mono ?_; rintro e w5 ⟨rfl, rfl⟩)
      | (go_at_call 18; refine (hwy.out _).mono ?_; rintro e w6 ⟨A, c, rfl, hrow, hb6⟩; have hm1 := hmk.out w6))
    have hb66 : Below w.heap.size w (w6.alloc (.cells (madeCells #[.bool false] N) 4)) := (hb4.trans (hb6.mono hb4.size)).alloc (hb4.trans (hb6.mono hb4.size)).size _
    have hneA : blk A ≠ some w6.heap.size := fun e => by have := (hrow.blk_lt _ e).2; omega
    have hS : w.heap.size ≤ w6.heap.size := (hb4.trans (hb6.mono hb4.size)).size
    obtain ⟨S, hSe⟩ : ∃ S, S = w6.heap.size := ⟨_, rfl⟩
    have h0 : RoundN w w6.heap.size N a1 s A (.int .i64 0) (w6.alloc (.cells (madeCells #[.bool false] N) 4)) := ⟨0, _, Nat.zero_le _, rfl, Blk.new _ _ _, Seen.zero N, hrow.rd.alloc _, hneA, hb66, hS⟩
    rw [← hSe] at h0 ⊢
    have H0 := Lib.hid h0
    clear h0 hb66 hneA hS hSe hm1 hrow hb6 e4 hbl4 hr4 hb4
    go_loopw [10] (fun i wr => RoundN w S N a1 s A i wr) (fun i _ => N - (intOf i).toNat)
    case atStart => exact H0.out
    case round =>
      clear H0
      obtain ⟨k, cs, hk, rfl, hB, hSn, hR, hneA, hb, hSw⟩ := hrel
      have hbs := hb.size
      by_cases hlt : k < N
      · obtain ⟨b, o, rfl, hbl, hcc⟩ := hR.2 (by omega)
        have e1 := hcc k _ (wlist_get N a1 s hlt)
        obtain ⟨hw0, hw1⟩ := wat_in (N : Int) a1 s hN1 k
        have hnew := wat_new (N := N) (s := s) (start := a1) (by omega) Hsg.out hlt
        have hsucc := wlist_succ (N : Int) a1 s k
        obtain ⟨v, hv⟩ : ∃ v : Nat, wat N a1 s k = v := ⟨(wat N a1 s k).toNat, by omega⟩
        rw [hv] at e1 hnew hsucc hw1
        have hvN : v < N := by omega
        have e2 := hB.cell v
        rw [hSn.2 v hvN, decide_eq_false hnew] at e2
        have f2 := hB.frozen v
        have kS := hB.lt
        have Hstep := Lib.hid (show Seen N (wlist N a1 s (k + 1)) (cs.setIfInBounds v (.bool true)) by rw [hsucc]; exact hSn.step hvN)
        have hne1 : b ≠ S := fun e => hneA (by rw [e]; rfl)
        have hne2 : S ≠ b := fun e => hne1 e.symm
        have hi1 : (0 : Int) ≤ (v : Int) := by omega
        have hi2 : ¬ (v : Int) < 0 := by omega
        have hi3 : ¬ (N : Int) ≤ (v : Int) := by omega
        clear hcc hnew hsucc hv hw0
        go_wp2
        go_roundw
        case rel => exact ⟨k + 1, _, by omega, by go_num, hB.set_ v (.bool true), Hstep.out, hR.setCell (p := ⟨S, v, none⟩) hneA _, hneA, hb.setCell hSw _, hSw⟩
        case measure => simp [intOf]; omega
      · obtain rfl : k = N := by omega
        go_wp2_with (go_at_call 7; refine (alive_any _).mono ?_; rintro e w' ⟨rfl, hb2⟩)
        go_ret
        exact ⟨rfl, hb.trans (hb2.mono hbs)⟩
  all_goals
    go_enter Try.func6, Try.ntmps6
    go_wp2_with (go_at_call 7; refine (alive_any _).mono ?_; rintro e w' ⟨rfl, hb⟩)
    go_ret
    exact ⟨rfl, hb⟩
end Go.Proofs.Ytedenmbdefnhiaa
