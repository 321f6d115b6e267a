/- The walk of the law PctFair. -/
import Derived.Test.YtfmjmhnbdceipaaPctOnceW
import Derived.Test.YtfmjmhnbdceipaaShape
namespace Go.Proofs.Ytfmjmhnbdceipaa
open Go.ChangeShapes Go.WideShapes Go.ChangeAt Go.RowKit Go.Deep
set_option linter.unusedVariables false

abbrev ShPlan : Sh := .st (.cons (.int .u64) (.cons (.int .i64) (.cons (.int .i64) (.cons (.int .i64) (.cons (.int .i64) .nil)))))
theorem open_plan {w : World} {cs : List Value} {d : ShPlan.Den} (h : Lies w ShPlan cs d) : ∃ seed m s c e : Int, Sh.val ShPlan cs = .agg #[.int .u64 seed, .int .i64 m, .int .i64 s, .int .i64 c, .int .i64 e] ∧ (Lit.int .i64 m).wf = true ∧ (Lit.int .i64 s).wf = true ∧ (Lit.int .i64 c).wf = true ∧ (Lit.int .i64 e).wf = true := by
  obtain ⟨c1, r1, rfl, _, ⟨rfl, _⟩, c2, r2, rfl, _, ⟨rfl, w2⟩, c3, r3, rfl, _, ⟨rfl, w3⟩, c4, r4, rfl, _, ⟨rfl, w4⟩, c5, r5, rfl, _, ⟨rfl, w5⟩, hn⟩ := h
  have hn : r5 = [] := hn
  subst hn
  exact ⟨_, _, _, _, _, rfl, w2, w3, w4, w5⟩
theorem rot_mem (o : List Int) (h : 0 < o.length) (z : Int) (hz : z ∈ rot o) : z ∈ o := by
  cases o with
  | nil => simp at h
  | cons x t =>
    rcases List.mem_append.1 hz with hz | hz
    · exact List.mem_cons_of_mem _ hz
    · rw [List.mem_singleton.1 hz]; simp
theorem oAt_mem (o P : List Int) (h : 0 < o.length) : ∀ k z, z ∈ oAt o P k → z ∈ o
  | 0, z, hz => hz
  | k + 1, z, hz => by
    rw [oAt] at hz
    split at hz
    · exact oAt_mem o P h k z (rot_mem _ (by rw [oAt_len o P h]; exact h) z hz)
    · exact oAt_mem o P h k z hz
theorem headD_mem {l : List Int} (h : 0 < l.length) : l.headD 0 ∈ l := by
  cases l with
  | nil => simp at h
  | cons x t => simp
theorem pickAt_in {o P : List Int} {e : Int} {m : Nat} (hm : 1 ≤ m) (ho : o.length = m) (hin : ∀ z ∈ o, 0 ≤ z ∧ z < m) (k : Nat) : 0 ≤ pickAt o P e m k ∧ pickAt o P e m k < m := by
  unfold pickAt
  split
  · exact ⟨Int.emod_nonneg _ (by omega), Int.emod_lt_of_pos _ (by omega)⟩
  · exact hin _ (oAt_mem o P (by omega) (k + 1) _ (headD_mem (by rw [oAt_len o P (by omega)]; omega)))
/-- Whom each machine's last pick was at. -/
def Last (o P : List Int) (e : Int) (m : Nat) (k : Nat) (l : List Int) : Prop := l.length = m ∧ ∀ j : Nat, j < m → 0 ≤ l.getD j 0 ∧ l.getD j 0 ≤ k ∧ ∀ t : Nat, 1 ≤ t → t ≤ k → pickAt o P e m (t - 1) = j → (t : Int) ≤ l.getD j 0
theorem Last.zero (o P : List Int) (e : Int) (m : Nat) : Last o P e m 0 (List.replicate m 0) := by
  refine ⟨by simp, fun j hj => ?_⟩
  have : (List.replicate m (0 : Int)).getD j 0 = 0 := by simp [List.getD, hj]
  rw [this]
  exact ⟨Int.le_refl _, Int.le_refl _, fun t h1 h2 => by omega⟩
theorem Last.step {o P : List Int} {e : Int} {m k v : Nat} {l : List Int} (h : Last o P e m k l) (hv : v < m) (hp : pickAt o P e m k = v) : Last o P e m (k + 1) (l.set v ((k : Int) + 1)) := by
  obtain ⟨h1, h2⟩ := h
  refine ⟨by simpa using h1, fun j hj => ?_⟩
  obtain ⟨a, b, c⟩ := h2 j hj
  by_cases e1 : v = j
  · subst e1
    have : (l.set v ((k : Int) + 1)).getD v 0 = (k : Int) + 1 := by simp [List.getD, h1, hv]
    rw [this]
    exact ⟨by omega, by omega, fun t h1 h2 _ => by omega⟩
  · have : (l.set v ((k : Int) + 1)).getD j 0 = l.getD j 0 := by simp [List.getD, List.getElem?_set, e1]
    rw [this]
    refine ⟨a, by omega, fun t h3 h4 h5 => ?_⟩
    by_cases e2 : t = k + 1
    · subst e2
      simp only [Nat.add_sub_cancel] at h5
      rw [hp] at h5
      omega
    · exact c t h3 (by omega) h5
theorem Last.gap {o P : List Int} {e : Int} {m k j : Nat} {l : List Int} (h : Last o P e m k l) (he : 2 ≤ e) (hm : 1 ≤ m) (hk : 1 ≤ k) (hj : j < m) : (k : Int) - l.getD j 0 < e * m := by
  obtain ⟨_, h2⟩ := h
  obtain ⟨a, b, c⟩ := h2 j hj
  have hem : e * m ≥ 0 := Int.mul_nonneg (by omega) (by omega)
  by_cases hlt : (k : Int) < e * m
  · omega
  · have d1 := Int.emod_add_mul_ediv (k : Int) e
    have d2 : 0 ≤ (k : Int) % e := Int.emod_nonneg _ (by omega)
    have d3 : (k : Int) % e < e := Int.emod_lt_of_pos _ (by omega)
    obtain ⟨Q, hQ⟩ : ∃ Q, Q = (k : Int) / e := ⟨_, rfl⟩
    rw [← hQ] at d1
    have hQm : (m : Int) ≤ Q := by
      rw [hQ]
      exact Int.le_ediv_of_mul_le (by omega) (by rw [Int.mul_comm]; omega)
    have r0 : 0 ≤ (Q - j) % m := Int.emod_nonneg _ (by omega)
    have r1 : (Q - j) % m < m := Int.emod_lt_of_pos _ (by omega)
    obtain ⟨q, hq⟩ : ∃ q, q = Q - (Q - j) % m := ⟨_, rfl⟩
    have q1 : 1 ≤ q := by omega
    have q2 : q ≤ Q := by omega
    have q3 : Q + 1 - q ≤ m := by omega
    have q4 : q % m = j := by
      have e1 : q = j + m * ((Q - j) / m) := by
        have := Int.emod_add_mul_ediv (Q - j) m
        omega
      rw [e1, Int.add_mul_emod_self_left]
      exact Int.emod_eq_of_lt (by omega) (by omega)
    have t1 : e * 1 ≤ e * q := Int.mul_le_mul_of_nonneg_left q1 (by omega)
    have t2 : e * q ≤ e * Q := Int.mul_le_mul_of_nonneg_left q2 (by omega)
    have t3 : e * (Q + 1 - q) ≤ e * m := Int.mul_le_mul_of_nonneg_left q3 (by omega)
    have t4 : e * (Q + 1 - q) = e * Q + e - e * q := by rw [Int.mul_sub, Int.mul_add, Int.mul_one]
    obtain ⟨t, ht⟩ : ∃ t : Nat, (t : Int) = e * q := ⟨(e * q).toNat, Int.toNat_of_nonneg (by omega)⟩
    have hc := c t (by omega) (by omega) (by
      have e2 : ((t - 1 : Nat) : Int) + 1 = e * q := by omega
      unfold pickAt
      rw [e2, if_pos (by rw [Int.mul_emod_right]), Int.mul_ediv_cancel_left _ (by omega), q4])
    omega
def RoundFa (w : World) (L m n : Nat) (pv : Array Value) (A : Option Addr) (o P : List Int) (e : Int) (i : Value) (wr : World) : Prop :=
  ∃ (k : Nat) (l : List Int), k ≤ n ∧ i = .int .i64 k ∧ Blk wr L 3 (ints l).toArray ∧ Last o P e m k l ∧ Blk wr w.heap.size 24 pv ∧ Rd wr 3 A n (kv (scr o P e m n)) ∧ Below w.heap.size w wr
theorem RoundFa.step {w wr : World} {L m n k v : Nat} {pv : Array Value} {A : Option Addr} {o P l : List Int} {e : Int} (hk : k < n) (hB : Blk wr L 3 (ints l).toArray) (hL : Last o P e m k l) (hp : Blk wr w.heap.size 24 pv) (hR : Rd wr 3 A n (kv (scr o P e m n))) (hb : Below w.heap.size w wr) (hA : blk A ≠ some L) (hS : w.heap.size < L) (hv : v < m) (hpk : pickAt o P e m k = v) :
    Blk (wr.setCell ⟨L, v, none⟩ (.int .i64 ((k : Int) + 1))) L 3 (ints (l.set v ((k : Int) + 1))).toArray ∧ Blk (wr.setCell ⟨L, v, none⟩ (.int .i64 ((k : Int) + 1))) w.heap.size 24 pv ∧
    ∀ q, RoundFa w L m n pv A o P e (.int .i64 ((k : Int) + 1)) ((wr.setCell ⟨L, v, none⟩ (.int .i64 ((k : Int) + 1))).drewN q) := by
  have h1 := blk_set hB v ((k : Int) + 1)
  have h2 : Blk (wr.setCell ⟨L, v, none⟩ (.int .i64 ((k : Int) + 1))) w.heap.size 24 pv := hp.kept ((Chg.refl (fun g => g = L) _).setCell (p := ⟨L, v, none⟩) (.inl rfl) _) (show ¬ w.heap.size = L by omega)
  exact ⟨h1, h2, fun q => ⟨k + 1, _, by omega, by go_num, h1.drewN q, hL.step hv hpk, h2.drewN q, (hR.setCell (p := ⟨L, v, none⟩) hA _).drewN q, belowN (hb.setCell (p := ⟨L, v, none⟩) (Nat.le_of_lt hS) _) q⟩⟩
set_option maxRecDepth 100000 in
set_option maxHeartbeats 16000000 in
theorem walk_pctFair' (seed m s c e : Int) (w : World) :
    Calls Try.prog 6 #[.agg #[.int .u64 seed, .int .i64 m, .int .i64 s, .int .i64 c, .int .i64 e]] w fun e w' => e = .returned (.bool true) ∧ Below w.heap.size w w' := by
  have KW := Lib.hid (fun (w3 : World) (hb : Below (w.alloc (.cells #[.int .u64 seed, .int .i64 m, .int .i64 s, .int .i64 c, .int .i64 e] 24)).heap.size (w.alloc (.cells #[.int .u64 seed, .int .i64 m, .int .i64 s, .int .i64 c, .int .i64 e] 24)) w3) =>
    show Blk w3 w.heap.size 24 #[.int .u64 seed, .int .i64 m, .int .i64 s, .int .i64 c, .int .i64 e] ∧ w.heap.size + 1 ≤ w3.heap.size ∧ Below w.heap.size w w3 from
    ⟨(hb.block w.heap.size (by simp)).trans (Blk.new w 24 #[.int .u64 seed, .int .i64 m, .int .i64 s, .int .i64 c, .int .i64 e]), by have := hb.size; simpa using this, ((Below.refl _ _).alloc (Nat.le_refl _) _).trans (hb.mono (by simp))⟩)
  by_cases hs : 1000 < s
  · go_enter Try.func6, Try.ntmps6
    go_wp2_with (go_at_call 7; refine (alive_any _).mono ?_; rintro e w' ⟨rfl, hb2⟩; have H2 := Lib.hid (KW.out _ hb2))
    go_ret
    exact ⟨rfl, H2.out.2.2⟩
  · by_cases hr : rightP m s c e
    · have hso : ¬ 1000 < s := hs
      obtain ⟨⟨m1, m2⟩, ⟨e1, e2⟩, ⟨s0, s1⟩, c0, c1⟩ := id hr
      obtain ⟨m, rfl⟩ : ∃ k : Nat, m = k := ⟨m.toNat, by omega⟩
      obtain ⟨n, rfl⟩ : ∃ k : Nat, s = k := ⟨s.toNat, by omega⟩
      obtain ⟨c, rfl⟩ : ∃ k : Nat, c = k := ⟨c.toNat, by omega⟩
      have hS := fun W => script_yes seed e m n c W hr
      have hol := orderOf_len seed m
      have hin := orderOf_in seed m
      generalize orderOf seed m = o at *
      generalize pointsOf (IntKind.u64.wrap (seed + 1)) n c = P at *
      have HS := Lib.hid hS
      have HPk := Lib.hid (fun k => pickAt_in (o := o) (P := P) (e := e) (by omega) hol hin k)
      have hmk := run_make_row' (P := Try.prog) 37 3 (.int .i64 0) 8 Try.underlying37 int_info rfl .i64 .i64 m (by omega) (by omega)
      have HU := Lib.hid (scr_uni o P e m n)
      have n1 : (n : Int) ≤ 1000 := by omega
      clear hr hS hin hs hso hol
      go_enter Try.func6, Try.ntmps6
      go_wp2_with (go_at_call 8; refine (HS.out _).mono ?_; rintro e u1 ⟨A, d, rfl, r1, q1, d1, b1⟩; obtain ⟨b3, z3, q3⟩ := KW.out u1 b1; obtain ⟨a0, a1, a2, a3, a4⟩ := plan_cells b3; have HR := Lib.hid r1; have HB := Lib.hid b3; have HQ := Lib.hid q3; have HZ := Lib.hid (show w.heap.size < u1.heap.size from z3); have HA := Lib.hid q1; clear r1 b3 q3 z3 q1 b1)
      obtain ⟨L, hL⟩ : ∃ L, L = u1.heap.size := ⟨_, rfl⟩
      have hA : 0 < n → blk A ≠ some L := fun h0 h => by
        obtain ⟨b, o1, rfl, hb, _⟩ := HR.out.2 h0
        have h2 : some b = some L := h
        have h3 := Option.some.inj h2
        omega
      have H0 : Hid (RoundFa w L m n #[.int .u64 seed, .int .i64 m, .int .i64 n, .int .i64 c, .int .i64 e] A o P e (.int .i64 0) (u1.alloc (.cells (madeCells #[.int .i64 0] m) 3))) := by
        have h1 := Blk.new u1 3 (madeCells #[.int .i64 0] m)
        rw [made_zero, ← hL] at h1
        refine ⟨0, List.replicate m 0, Nat.zero_le _, rfl, ?_, Last.zero o P e m, HB.out.alloc _, HR.out.alloc _, HQ.out.alloc (Nat.le_of_lt HZ.out) _⟩
        rw [made_zero]
        simpa [iota] using h1
      have HL := Lib.hid (show w.heap.size < L by have := HZ.out; omega)
      rw [← hL]
      have HA := Lib.hid hA
      obtain ⟨wz, hwz⟩ : ∃ wz, wz = u1.alloc (.cells (madeCells #[.int .i64 0] m) 3) := ⟨_, rfl⟩
      rw [← hwz] at H0 ⊢
      clear hwz hmk a0 a1 a2 a3 a4 HR HB HQ HZ hL KW HS hA
      go_loopw [6] (fun i wr => RoundFa w L m n #[.int .u64 seed, .int .i64 m, .int .i64 n, .int .i64 c, .int .i64 e] A o P e i wr) (fun i _ => n - (intOf i).toNat)
      case atStart => exact H0.out
      case round =>
        clear H0
        obtain ⟨k, l, hk, rfl, hB, hLa, hp, hR, hb⟩ := hrel
        have k0 : (0 : Int) ≤ k := by omega
        by_cases hlt : k < n
        · have k1 : (k : Int) < n := by omega
          have hl := hLa.1
          obtain ⟨a0, a1, a2, a3, a4⟩ := plan_cells hp
          obtain ⟨hn, b, o1, rfl, hbl, hcc⟩ := hR.getk HU.out (by decide) (by omega)
          have e0 := hcc k (by rw [hn]; exact hlt) 0 (by decide)
          have hpe : ((scr o P e m n)[k]'(by rw [hn]; exact hlt)).getD 0 0 = pickAt o P e m k := by simp [scr, entAt]
          obtain ⟨v0, v1⟩ := HPk.out k
          obtain ⟨v, hv⟩ : ∃ v : Nat, pickAt o P e m k = (v : Int) := ⟨(pickAt o P e m k).toNat, by omega⟩
          have hvm : v < m := by omega
          have HN := Lib.hid (RoundFa.step hlt hB hLa hp hR hb (HA.out (by omega)) HL.out hvm hv)
          rw [hpe, hv] at e0
          rw [hv] at v0 v1
          have HLs := Lib.hid (hLa.step hvm hv)
          have s0 := blk_int hB v (by rw [hl]; exact hvm)
          have f0 := hB.frozen v
          have d0 : decide ((v : Int) < 0) = false := by simp
          have d1 : decide ((m : Int) ≤ (v : Int)) = false := by simp; omega
          simp only [Nat.add_zero] at e0
          clear hcc hpe hv hp hR hB hLa
          go_wp2_with fail
          go_quiet (fail)
          go_wp2_with fail
          have hem : e * (m : Int) ≤ 1000 * 64 := Int.mul_le_mul e2 (by omega) (by omega) (by omega)
          have hem0 : 0 ≤ e * (m : Int) := Int.mul_nonneg (by omega) (by omega)
          have j3 : IntKind.i64.wrap (e * (m : Int)) = e * m := IntWalk.i64_in _ (by omega)
          have j4 : IntKind.i64.wrap ((k : Int) + 1) = (k : Int) + 1 := IntWalk.i64_in _ (by omega)
          obtain ⟨hB2, hp2, hN2⟩ := HN.out
          have HB2 := Lib.hid (fun q => hB2.drewN q)
          have HP2 := Lib.hid (fun q => hp2.drewN q)
          have HN2 := Lib.hid hN2
          have hl2 : Hid ((l.set v ((k : Int) + 1)).length = m) := Lib.hid (by simp [hl])
          generalize l.set v ((k : Int) + 1) = l2 at *
          generalize wr.setCell ⟨L, v, none⟩ (.int .i64 ((k : Int) + 1)) = wy at *
          clear HN hB2 hp2 hN2 e0 s0 f0 d0 d1 a0 a1 a2 a3 a4 hem hb hl
          go_loopw [7] (fun j wr => ∃ t q : Nat, t ≤ m ∧ j = .int .i64 t ∧ wr = wy.drewN q) (fun i _ => m - (intOf i).toNat)
          case atStart => exact ⟨0, _, Nat.zero_le _, rfl, rfl⟩
          case round =>
            obtain ⟨t, q, ht, rfl, rfl⟩ := hrel
            have t0 : (0 : Int) ≤ t := by omega
            obtain ⟨a0, a1, a2, a3, a4⟩ := plan_cells (show Blk wy _ _ _ from HP2.out 0)
            by_cases hlt2 : t < m
            · have t1 : (t : Int) < m := by omega
              have g := HLs.out.gap e1 (by omega) (by omega) hlt2
              have s0 := blk_int (HB2.out 0) t (by rw [hl2.out]; exact hlt2)
              have s0 : wy.cell? ⟨L, t, none⟩ = some (.int .i64 (l2.getD t 0)) := s0
              obtain ⟨y0, y1, _⟩ := HLs.out.2 t hlt2
              generalize l2.getD t 0 = y at *
              have j5 : IntKind.i64.wrap ((k : Int) + 1 - y) = (k : Int) + 1 - y := IntWalk.i64_in _ (by omega)
              have d2 : decide (e * (m : Int) ≤ (k : Int) + 1 - y) = false := by simp; omega
              clear g
              go_wp2_with fail
              go_quiet (fail)
              go_wp2_with fail
              go_roundw
              case measure => simp [intOf]; omega
              case rel => exact ⟨t + 1, _, by omega, by go_num, rfl⟩
            · clear j3 j4
              go_wp2_with fail
              go_roundw
              case measure => simp [intOf]; omega
              case rel => exact HN2.out _
        · have hS2 := hb.size
          have HBl := Lib.hid hb
          obtain rfl : k = n := by omega
          obtain ⟨a0, a1, a2, a3, a4⟩ := plan_cells hp
          clear hb hR hB hLa hp
          go_wp2_with (go_at_call 7; refine (alive_any _).mono ?_; rintro e w' ⟨rfl, hb2⟩)
          go_ret
          exact ⟨rfl, HBl.out.trans (hb2.mono hS2)⟩
    · have H0 := Lib.hid (fun W => script_no seed m s c e W hr)
      have H1 := Lib.hid (fun W => right_no seed m s c e W hr)
      clear hr
      go_enter Try.func6, Try.ntmps6
      go_wp2_with (first
        | (go_at_call 8; refine (H0.out _).mono ?_; rintro e u1 ⟨rfl, b1⟩; obtain ⟨b3, z3, q3⟩ := KW.out u1 b1; obtain ⟨a0, a1, a2, a3, a4⟩ := plan_cells b3; have HQ := Lib.hid q3; have HZ := Lib.hid (show w.heap.size ≤ u1.heap.size by omega); clear q3 z3 b1)
        | (go_at_call 12; refine (H1.out _).mono ?_; rintro e u2 ⟨rfl, rfl⟩)
        | (go_at_call 7; refine (alive_any _).mono ?_; rintro e w' ⟨rfl, hb2⟩; have H2 := Lib.hid (((HQ.out.alloc HZ.out _).trans (hb2.mono (by simp; have := HZ.out; omega))))))
      go_ret
      exact ⟨rfl, H2.out⟩
theorem walk_pctFair (cs0 : List Value) (d0 : ShPlan.Den) (w : World) (hL0 : Lies w ShPlan cs0 d0) :
    Calls Try.prog 6 #[Sh.val ShPlan cs0] w fun e w' => e = .returned (.bool true) ∧ Below w.heap.size w w' := by
  obtain ⟨seed, m, s, c, e, h, _⟩ := open_plan hL0
  rw [h]
  exact walk_pctFair' seed m s c e w
end Go.Proofs.Ytfmjmhnbdceipaa
