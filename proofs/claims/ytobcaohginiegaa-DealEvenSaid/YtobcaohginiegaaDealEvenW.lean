/- DealEven, walked. -/
import Derived.Test.YtobcaohginiegaaDK
import Derived.BigQuiet
namespace Go.Proofs.Ytobcaohginiegaa
open Go.ChangeShapes Go.WideShapes Go.ChangeAt Go.RowKit Go.Deep Go.Shelf
set_option linter.unusedVariables false

theorem make_ints (N : Nat) (hN : N ≤ 1000) (W : World) : (Instr.makeSlice 25 (.int .i64 (N : Int)) (.int .i64 (N : Int))).run Try.prog W = .ok (.slice (some ⟨W.heap.size, 0, none⟩) N N) (W.alloc (.cells (madeCells #[.int .i64 0] N) 3)) := by
  obtain ⟨i0, hi, hz0, hz1, hz2⟩ := info_parts int_info
  have hr := run_make (P := Try.prog) W 25 3 i0 (.int .i64 0) Try.underlying25 hi hz0 .i64 .i64 N N (by omega) (by omega) (by rw [hz2]; omega) (by omega)
  simp only [Int.toNat_natCast, hz1, Nat.mul_one] at hr
  exact hr
/-- How often each one has been the first, after q rounds and r more. -/
def Cnt (N q r : Nat) (cs : Array Value) : Prop := cs.size = N ∧ ∀ v, v < N → cs[v]? = some (.int .i64 ((q : Int) + if v < r then 1 else 0))
theorem Cnt.zero (N : Nat) : Cnt N 0 0 (madeCells #[.int .i64 0] N) := by
  refine ⟨by simp [madeCells], fun v hv => ?_⟩
  have := toList_madeCells_one (.int .i64 0) N
  rw [← Array.getElem?_toList, this, List.getElem?_replicate, if_pos hv]
  simp
theorem Cnt.at_ {N q r : Nat} {cs : Array Value} (h : Cnt N q r cs) (hr : r < N) : cs[r]? = some (.int .i64 (q : Int)) := by
  rw [h.2 r hr]; simp
theorem Cnt.step {N q r : Nat} {cs : Array Value} (h : Cnt N q r cs) (hr : r < N) : Cnt N q (r + 1) (cs.setIfInBounds r (.int .i64 ((q : Int) + 1))) := by
  refine ⟨by simpa using h.1, fun v hv => ?_⟩
  by_cases e : v = r
  · subst e
    rw [Array.getElem?_setIfInBounds_self_of_lt (by rw [h.1]; exact hv)]
    simp
  · rw [Array.getElem?_setIfInBounds_ne (fun h' => e h'.symm), h.2 v hv]
    by_cases h1 : v < r
    · rw [if_pos h1, if_pos (by omega)]
    · rw [if_neg h1, if_neg (by omega)]
theorem Cnt.turn {N q : Nat} {cs : Array Value} (h : Cnt N q N cs) : Cnt N (q + 1) 0 cs := by
  refine ⟨h.1, fun v hv => ?_⟩
  rw [h.2 v hv, if_pos hv]
  simp
theorem first_is (N q r : Nat) (h1 : 1 ≤ N) (h2 : N ≤ 256) (hr : r < N) (hd : ((q * N + r : Nat) : Int) < waysOf N) : (ints (orderOf N ((q * N + r : Nat) : Int)))[0]? = some (.int .i64 (r : Int)) := by
  rw [orderOf, wlist_get _ _ _ (by omega : 0 < N), wat, modOf, if_neg (by omega), drawOf, modOf, if_neg (by have := (ways_in N h1 h2).1; omega), Int.emod_eq_of_lt (by omega) hd, Int.emod_emod]
  have : (q * N + r) % N = r := by rw [Nat.mul_comm, Nat.mul_add_mod, Nat.mod_eq_of_lt hr]
  have e : ((q * N + r : Nat) : Int) % (N : Int) = (((q * N + r) % N : Nat) : Int) := by simp
  rw [e, this]
def RoundF (w : World) (S N c : Nat) (d : Value) (wr : World) : Prop :=
  ∃ (q r : Nat) (cs : Array Value), r < N ∧ q * N + r ≤ c * N ∧ q ≤ c ∧ d = .int .i64 ((q * N + r : Nat) : Int) ∧ Blk wr S 3 cs ∧ Cnt N q r cs ∧ Below w.heap.size w wr ∧ w.heap.size ≤ S
theorem RoundF.next {w wr : World} {S N c q r : Nat} {cs : Array Value} (h1 : 1 ≤ N) (hr : r < N) (hlt : q * N + r < c * N) (hq : q ≤ c) (hB : Blk wr S 3 cs) (hC : Cnt N q (r + 1) cs) (hb : Below w.heap.size w wr) (hS : w.heap.size ≤ S) :
    RoundF w S N c (.int .i64 (((q * N + r : Nat) : Int) + 1)) wr := by
  by_cases e : r + 1 < N
  · exact ⟨q, r + 1, cs, e, by omega, hq, by simp [Int.add_assoc], hB, hC, hb, hS⟩
  · have e' : r + 1 = N := by omega
    rw [e'] at hC
    have h5 : (q + 1) * N = q * N + N := Nat.succ_mul q N
    refine ⟨q + 1, 0, cs, by omega, by omega, ?_, by congr 1; omega, hB, hC.turn, hb, hS⟩
    apply Classical.byContradiction
    intro h6
    have h7 : q = c := by omega
    rw [h7] at hlt
    omega
theorem ends_at {N c q r : Nat} (h1 : 1 ≤ N) (hr : r < N) (h : q * N + r = c * N) : q = c ∧ r = 0 := by
  have h3 : (q * N + r) % N = r := by rw [Nat.mul_comm, Nat.mul_add_mod, Nat.mod_eq_of_lt hr]
  rw [h, Nat.mul_mod_left] at h3
  subst h3
  exact ⟨Nat.eq_of_mul_eq_mul_right (by omega) (by omega : q * N = c * N), rfl⟩

set_option maxRecDepth 100000 in
set_option maxHeartbeats 16000000 in
theorem walk_dealEven (a0 : Int) (w : World) (w0 : (Lit.int .i64 a0).wf = true) :
    Calls Try.prog 5 #[.int .i64 a0] w fun e w' => e = .returned (.bool true) ∧ Below w.heap.size w w' := by
  clear w0
  by_cases hn : a0 < 1 ∨ 20 < a0
  · have hn' : a0 < 1 ∨ (¬ a0 < 1 ∧ 20 < a0) := by omega
    clear hn
    rcases hn' with q1 | ⟨q1, q2⟩
    all_goals (
      go_enter Try.func5, Try.ntmps5
      go_wp2_with (go_at_call 6; refine (alive_any _).mono ?_; rintro e w7 ⟨rfl, hb7⟩)
      go_ret
      exact ⟨rfl, hb7⟩)
  · obtain ⟨N, rfl⟩ : ∃ N : Nat, a0 = N := ⟨a0.toNat, by omega⟩
    have n1 : 1 ≤ N := by omega
    have n2 : N ≤ 20 := by omega
    have hwy := fun W => ways_yes N W n1 (by omega)
    have hor := Lib.hid (fun (d : Int) W => order_yes N d W n1 (by omega))
    have hfi := fun q r hr hd => first_is N q r n1 (by omega) hr hd
    have hcl := copr_len N N
    have hcp : 0 < (copr N N).length := by obtain ⟨m, rfl⟩ : ∃ m, N = m + 1 := ⟨N - 1, by omega⟩; exact copr_pos m
    have hws : waysOf N = (((copr N N).length * N : Nat) : Int) := by rw [waysOf, Int.natCast_mul]
    have hmk := Lib.hid (make_ints N (by omega))
    rw [hws] at hwy hfi
    have hwy' := Lib.hid hwy
    have Hfi := Lib.hid hfi
    generalize (copr N N).length = c at *
    have hcN : c * N ≤ 400 := Nat.mul_le_mul (by omega : c ≤ 20) n2
    have n3 : (1 : Int) ≤ (N : Int) := by omega
    have n4 : (N : Int) ≤ 20 := by omega
    clear hn hws hwy hfi
    go_enter Try.func5, Try.ntmps5
    have hm1 := hmk.out w
    go_wp2
    have H0 := Lib.hid (show RoundF w w.heap.size N c (.int .i64 0) (w.alloc (.cells (madeCells #[.int .i64 0] N) 3)) from ⟨0, 0, _, by omega, by omega, by omega, by simp, Blk.new _ _ _, Cnt.zero N, (Below.refl _ _).alloc (Nat.le_refl _) _, Nat.le_refl _⟩)
    clear hm1 hmk
    obtain ⟨S, hSe⟩ : ∃ S, S = w.heap.size := ⟨_, rfl⟩
    rw [← hSe] at H0 ⊢
    clear hSe
    go_loopw [4] (fun d wr => RoundF w S N c d wr) (fun d _ => c * N - (intOf d).toNat)
    case atStart => exact H0.out
    case round =>
      clear H0
      obtain ⟨q, r, cs, hr, hle, hqc, rfl, hB, hC, hb, hSw⟩ := hrel
      have hbs := hb.size
      by_cases hlt : q * N + r < c * N
      · have hfirst := Hfi.out q r hr (by omega)
        have hord := Lib.hid (hor.out ((q * N + r : Nat) : Int))
        have hnext := Lib.hid (fun (wr' : World) (cs' : Array Value) (hB' : Blk wr' S 3 cs') (hC' : Cnt N q (r + 1) cs') (hb' : Below w.heap.size w wr') => RoundF.next (c := c) n1 hr hlt hqc hB' hC' hb' hSw)
        have hLl := orderOf_len N ((q * N + r : Nat) : Int)
        generalize orderOf N ((q * N + r : Nat) : Int) = L at *
        generalize q * N + r = d at *
        generalize c * N = m at *
        have hri : (0 : Int) ≤ (r : Int) := by omega
        have hri2 : (r : Int) < (N : Int) := by omega
        have hri3 : ¬ (r : Int) < 0 := by omega
        have hri4 : ¬ (N : Int) ≤ (r : Int) := by omega
        have hq4 : (q : Int) ≤ 400 := by omega
        have hst := hC.step hr
        have c0 := hC.at_ hr
        clear hor Hfi hle
        go_wp2_with (go_at_call 7; refine (hwy'.out _).mono ?_; rintro e u1 ⟨rfl, hb1⟩; have hz1 := hb1.size)
        refine (hord.out _).mono ?_
        rintro e u3 ⟨A, c3, rfl, hr3, hb3⟩
        obtain ⟨b4, o4, rfl, hbl4, hc4⟩ := hr3.rd.2 (by omega)
        have e4 : u3.cell? ⟨b4, o4, none⟩ = some (.int .i64 (r : Int)) := hc4 0 _ hfirst
        have hB3 : Blk u3 S 3 cs := (hb3.block S (by have := hB.lt; omega)).trans ((hb1.block S hB.lt).trans hB)
        have e5 := (hB3.cell r).trans c0
        have f5 := hB3.frozen r
        have hne : b4 ≠ S := fun e => by have := (hr3.blk_lt b4 rfl).1; have := (hr3.blk_lt b4 rfl).2; have := hB.lt; omega
        have hne' : S ≠ b4 := fun e => hne e.symm
        have k3 := hB3.lt
        have hz3 := hb3.size
        clear hc4
        go_wp2
        go_roundw
        case rel => exact hnext.out _ _ (hB3.set_ r (.int .i64 ((q : Int) + 1))) hst (((hb.trans (hb1.mono hbs)).trans (hb3.mono (Nat.le_trans hbs hz1))).setCell hSw _)
        case measure => simp [intOf]; omega
      · obtain ⟨rfl, rfl⟩ := ends_at n1 hr (Nat.le_antisymm hle (by omega))
        have hall : ∀ v, v < N → cs[v]? = some (.int .i64 (q : Int)) := fun v hv => by rw [hC.2 v hv]; simp
        have hq4 : (q : Int) ≤ 400 := by omega
        have hqp : (0 : Int) < (q : Int) := by omega
        generalize q * N + 0 = d at *
        generalize q * N = m at *
        have hlt2 : m ≤ d := by omega
        clear hor Hfi hle hC hr
        go_wp2_with (go_at_call 7; refine (hwy'.out _).mono ?_; rintro e u1 ⟨rfl, hb1⟩; have hz1 := hb1.size)
        have hB1 : Blk u1 S 3 cs := (hb1.block S hB.lt).trans hB
        have e0 := (hB1.cell 0).trans (hall 0 (by omega))
        have k1 := hB1.lt
        go_loopw [6] (fun i wr => (∃ k : Nat, 1 ≤ k ∧ k ≤ N ∧ i = .int .i64 k) ∧ ∃ p, wr = u1.drewN p) (fun i _ => N - (intOf i).toNat)
        case atStart => exact ⟨⟨1, by omega, n1, rfl⟩, 0, rfl⟩
        case round =>
          obtain ⟨⟨k, hk1, hk, rfl⟩, p, rfl⟩ := hrel
          by_cases hlk : k < N
          · have e1 := (hB1.cell k).trans (hall k hlk)
            have hi0 : (0 : Int) ≤ (k : Int) := by omega
            have hi1 : (k : Int) < (N : Int) := by omega
            clear hall
            go_wp2
            go_quiet (fail)
            go_wp2
            go_roundw
            case rel => exact ⟨⟨k + 1, by omega, by omega, by go_num⟩, _, rfl⟩
            case measure => simp [intOf]; omega
          · go_wp2_with (go_at_call 6; refine (alive_any _).mono ?_; rintro e w7 ⟨rfl, hb7⟩)
            go_ret
            exact ⟨rfl, (belowN (hb.trans (hb1.mono hbs)) _).trans (hb7.mono (Nat.le_trans hbs hz1))⟩
end Go.Proofs.Ytobcaohginiegaa
