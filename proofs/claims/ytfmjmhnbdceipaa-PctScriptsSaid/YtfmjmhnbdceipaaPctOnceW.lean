/- The walk of the law PctOnce. -/
import Derived.Test.YtfmjmhnbdceipaaPctOrdersW
import Derived.Test.YtfmjmhnbdceipaaBrow
namespace Go.Proofs.Ytfmjmhnbdceipaa
open Go.ChangeShapes Go.WideShapes Go.ChangeAt Go.RowKit Go.Deep
set_option linter.unusedVariables false

theorem sw_perm (l : List Int) (i k : Nat) (hi : i < l.length) (hk : k < l.length) : (sw l i k).Perm l := by
  have h := List.set_set_perm hi hk
  rw [sw, getD_at l k hk, getD_at l i hi]
  exact h
theorem shuf_perm : ∀ i x l, i < l.length → (shuf i x l).Perm l
  | 0, x, l, h => List.Perm.refl _
  | i + 1, x, l, h => by
    rw [shuf]
    have hb := bel_in x ((i : Int) + 2) (by omega)
    exact (shuf_perm i _ _ (by simp; omega)).trans (sw_perm l (i + 1) _ h (by omega))
theorem orderOf_perm (seed : Int) (n : Nat) : (orderOf seed n).Perm (iota n) := by
  rcases Nat.eq_zero_or_pos n with h | h
  · subst h; exact List.Perm.refl _
  · exact shuf_perm _ _ _ (by simp; omega)
theorem iota_mem (n : Nat) (z : Int) : z ∈ iota n ↔ 0 ≤ z ∧ z < n := by
  simp only [iota, List.mem_map, List.mem_range]
  constructor
  · rintro ⟨a, h, rfl⟩; exact ⟨Int.natCast_nonneg a, Int.ofNat_lt.2 h⟩
  · intro h; exact ⟨z.toNat, by omega, Int.toNat_of_nonneg h.1⟩
theorem iota_nodup (n : Nat) : (iota n).Nodup := by
  unfold iota
  rw [List.nodup_iff_pairwise_ne, List.pairwise_map]
  exact (List.nodup_range (n := n)).imp (fun h e => h (Int.ofNat.inj e))
theorem orderOf_in (seed : Int) (n : Nat) (z : Int) (h : z ∈ orderOf seed n) : 0 ≤ z ∧ z < n := (iota_mem n z).1 ((orderOf_perm seed n).mem_iff.1 h)
theorem orderOf_nodup (seed : Int) (n : Nat) : (orderOf seed n).Nodup := (orderOf_perm seed n).nodup_iff.2 (iota_nodup n)
theorem nodup_take_not {l : List Int} (h : l.Nodup) {k : Nat} (hk : k < l.length) : l[k] ∉ l.take k := by
  intro hm
  obtain ⟨j, hj, e⟩ := List.getElem_of_mem hm
  rw [List.getElem_take] at e
  have hjk : j < k := by rw [List.length_take] at hj; omega
  have := (List.nodup_iff_pairwise_ne.1 h)
  exact (List.pairwise_iff_getElem.1 this j k (by omega) hk hjk) e
def RoundOn (w : World) (S n : Nat) (A : Option Addr) (o : List Int) (i : Value) (wr : World) : Prop := ∃ k : Nat, k ≤ n ∧ i = .int .i64 k ∧ Blk wr S 4 (brow n (o.take k)) ∧ Rd wr 1 A n (ints o) ∧ Below w.heap.size w wr
theorem RoundOn.step {w wr : World} {S n k v : Nat} {A : Option Addr} {o : List Int} (hk : k < n) (ho : o.length = n) (hS : w.heap.size ≤ S) (hA : blk A ≠ some S) (hB : Blk wr S 4 (brow n (o.take k))) (hR : Rd wr 1 A n (ints o)) (hb : Below w.heap.size w wr) (hv : o[k]'(by omega) = (v : Int)) :
    RoundOn w S n A o (.int .i64 ((k : Int) + 1)) (wr.setCell ⟨S, v, none⟩ (.bool true)) := by
  refine ⟨k + 1, by omega, by go_num, ?_, hR.setCell hA _, hb.setCell (p := ⟨S, v, none⟩) hS _⟩
  have h := hB.set_ v (.bool true)
  rw [brow_set n (o.take k) (o.take (k + 1)) v true ?_] at h
  · exact h
  · intro j
    rw [List.take_succ_eq_append_getElem (by omega), hv]
    by_cases e : j = v
    · subst e; simp
    · have : (j : Int) ≠ v := by omega
      simp [e, this]
set_option maxRecDepth 100000 in
set_option maxHeartbeats 16000000 in
theorem walk_pctOnce (a0 a1 a2 a3 : Int) (w : World) (w0 : (Lit.int .u64 a0).wf = true) (w1 : (Lit.int .i64 a1).wf = true) (w2 : (Lit.int .i64 a2).wf = true) (w3 : (Lit.int .i64 a3).wf = true) :
    Calls Try.prog 5 #[.int .u64 a0, .int .i64 a1, .int .i64 a2, .int .i64 a3] w fun e w' => e = .returned (.bool true) ∧ Below w.heap.size w w' := by
  clear w0 w1 w2 w3
  by_cases hn : 0 ≤ a1 ∧ a1 ≤ 64
  · obtain ⟨n, rfl⟩ : ∃ k : Nat, a1 = k := ⟨a1.toNat, by omega⟩
    have n0 : (0 : Int) ≤ n := by omega
    have n1 : (n : Int) ≤ 64 := by omega
    have h1 := order_all a0 n
    rw [orderL, if_pos hn, Int.toNat_natCast] at h1
    have hin := orderOf_in a0 n
    have hnd := orderOf_nodup a0 n
    have hol := orderOf_len a0 n
    have h3 := points_all a0 a2 a3
    have hpl := pointsL_le a0 a2 a3
    have hpf : Up (pointsL a0 a2 a3) ∧ (∀ z ∈ pointsL a0 a2 a3, 0 ≤ z ∧ z ≤ a2) ∧ ((pointsL a0 a2 a3).length : Int) ≤ max a3 0 := by
      unfold pointsL
      split
      · rename_i h
        refine ⟨pointsOf_up _ _ _, fun z hz => ?_, ?_⟩
        · have := thr_in (a2 + 1) (by omega) a0 a3.toNat z ((pointsOf_mem a0 a2 a3.toNat z).1 hz); omega
        · have := pointsOf_le a0 a2 a3.toNat; omega
      · exact ⟨Up.nil, by simp, by simp; omega⟩
    generalize orderOf a0 n = o at *
    generalize pointsL a0 a2 a3 = p at *
    obtain ⟨hup, hpi, hpm⟩ := hpf
    have H1 := Lib.hid h1
    have H3 := Lib.hid h3
    have HIn := Lib.hid hin
    have HNd := Lib.hid hnd
    have HOl := Lib.hid hol
    have HUp := Lib.hid hup
    have HPi := Lib.hid hpi
    have HMk := Lib.hid (make_brow n (by omega))
    clear h1 h3 hin hnd hup hpi hn
    go_enter Try.func5, Try.ntmps5
    clear hol
    go_wp2_with (go_at_call 17; refine (H1.out _).mono ?_; rintro e u1 ⟨A1, c1, rfl, r1, q1, b1⟩; rw [HOl.out]; rw [HOl.out] at r1; have R1 := Lib.hid r1; have B1 := Lib.hid b1; have Q1 := Lib.hid q1; have hmk := HMk.out u1; clear r1 q1 b1)
    have H0 : Hid (RoundOn w u1.heap.size n A1 o (.int .i64 0) (u1.alloc (.cells (brow n []) 4))) := ⟨0, Nat.zero_le _, rfl, Blk.new _ _ _, R1.out.alloc _, B1.out.alloc B1.out.size _⟩
    have HA : Hid (blk A1 ≠ some u1.heap.size) := Lib.hid (fun h => by have := (Q1.out _ h).2; omega)
    have hSw : w.heap.size ≤ u1.heap.size := B1.out.size
    generalize u1.heap.size = S at *
    obtain ⟨wz, hwz⟩ : ∃ wz, wz = u1.alloc (.cells (brow n []) 4) := ⟨_, rfl⟩
    rw [← hwz] at H0 ⊢
    clear hwz hmk HMk H1 R1 B1 Q1
    go_loopw [11] (fun i wr => RoundOn w S n A1 o i wr) (fun i _ => n - (intOf i).toNat)
    case atStart => exact H0.out
    case round =>
      clear H0
      obtain ⟨k, hk, rfl, hB, hR, hb⟩ := hrel
      have k0 : (0 : Int) ≤ k := by omega
      by_cases hlt : k < n
      · have k1 : (k : Int) < n := by omega
        obtain ⟨b, o1, rfl, hbl, hcc⟩ := hR.at_ (by omega)
        have hko : k < o.length := by rw [HOl.out]; exact hlt
        have e0 := hcc k hko
        obtain ⟨v0, v1⟩ := HIn.out _ (List.getElem_mem hko)
        have hnot := nodup_take_not HNd.out hko
        obtain ⟨v, hv⟩ : ∃ v : Nat, o[k] = (v : Int) := ⟨(o[k]).toNat, by omega⟩
        rw [hv] at e0 v0 v1 hnot
        have HN := Lib.hid (RoundOn.step hlt HOl.out hSw HA.out hB hR hb hv)
        have s0 := hB.cell v
        rw [brow_at n _ v (by omega), decide_eq_false hnot] at s0
        have f0 := hB.frozen v
        have d0 : decide ((v : Int) < 0) = false := by simp
        have d1 : decide ((n : Int) ≤ (v : Int)) = false := by simp; omega
        have hbS : b ≠ S := fun e => HA.out (by rw [e]; rfl)
        clear hcc hnot hv hB hR hb hko
        go_wp2_with fail
        go_roundw
        case measure => simp [intOf]; omega
        case rel => exact HN.out
      · have HB := Lib.hid hb
        clear hB hR hb
        go_wp2_with (go_at_call 19; refine (H3.out _).mono ?_; rintro e u3 ⟨A3, c3, rfl, r3, q3, b3⟩; have R3 := Lib.hid r3; have B3 := Lib.hid (HB.out.trans (b3.mono HB.out.size)); clear r3 q3 b3)
        go_loopw [13] (fun i wr => ∃ j q : Nat, j ≤ p.length ∧ i = .int .i64 j ∧ wr = u3.drewN q) (fun i _ => p.length - (intOf i).toNat)
        case atStart => exact ⟨0, 0, Nat.zero_le _, rfl, rfl⟩
        case round =>
          obtain ⟨j, q, hj, rfl, rfl⟩ := hrel
          have j0 : (0 : Int) ≤ j := by omega
          have p1 : (p.length : Int) ≤ 100 := by omega
          by_cases hlt2 : j < p.length
          · have j1 : (j : Int) < p.length := by omega
            obtain ⟨b, o1, rfl, hbl, hcc⟩ := R3.out.at_ (by omega)
            have e0 := hcc j hlt2
            obtain ⟨z0, z1⟩ := HPi.out _ (List.getElem_mem hlt2)
            have d0 : decide (p[j] < 0) = false := by simp; omega
            have d1 : decide (a2 < p[j]) = false := by simp; omega
            by_cases hz : j = 0
            · subst hz
              generalize p[0] = z at *
              simp only [Nat.add_zero] at e0
              clear hcc
              go_wp2_with fail
              go_quiet (fail)
              go_wp2_with fail
              go_roundw
              case measure => simp [intOf]; omega
              case rel => exact ⟨1, _, by omega, by go_num, rfl⟩
            · have hlt3 := HUp.out.lt (i := j - 1) (j := j) (by omega) hlt2 (by omega)
              have e1 := hcc (j - 1) (by omega)
              have d2 : decide (p[j] ≤ p[j - 1]'(by omega)) = false := by simp; omega
              generalize p[j] = z at *
              generalize p[j - 1]'(by omega) = y at *
              have j2 : 0 < j := by omega
              have j7 : decide ((0 : Int) < (j : Int)) = true := by simp; omega
              have j3 : IntKind.i64.wrap ((j : Int) - 1) = (j : Int) - 1 := IntWalk.i64_in _ (by omega)
              have j4 : ((j : Int) - 1).toNat = j - 1 := by omega
              have j5 : (0 : Int) ≤ (j : Int) - 1 := by omega
              have j6 : (j : Int) - 1 < p.length := by omega
              clear hcc
              go_wp2_with fail
              go_quiet (fail)
              clear j3
              go_wp2_with fail
              go_roundw
              case measure => simp [intOf]; omega
              case rel => exact ⟨j + 1, _, by omega, by go_num, rfl⟩
          · go_wp2_with (go_at_call 7; refine (alive_any _).mono ?_; rintro e w' ⟨rfl, hb2⟩)
            go_ret
            exact ⟨rfl, (belowN B3.out q).trans (hb2.mono B3.out.size)⟩
  · have h1 := order_all a0 a1
    rw [orderL, if_neg hn] at h1
    have H1 := Lib.hid h1
    by_cases h0 : a1 < 0
    · clear hn h1
      go_enter Try.func5, Try.ntmps5
      go_wp2_with (first
        | (go_at_call 17; refine (H1.out _).mono ?_; rintro e u1 ⟨A1, c1, rfl, r1, q1, b1⟩; have B1 := Lib.hid b1; clear r1 q1 b1)
        | (go_at_call 7; refine (alive_any _).mono ?_; rintro e w' ⟨rfl, hb2⟩))
      go_ret
      exact ⟨rfl, B1.out.trans (hb2.mono B1.out.size)⟩
    · have h2 : 64 < a1 := by omega
      clear hn h1
      go_enter Try.func5, Try.ntmps5
      go_wp2_with (first
        | (go_at_call 17; refine (H1.out _).mono ?_; rintro e u1 ⟨A1, c1, rfl, r1, q1, b1⟩; have B1 := Lib.hid b1; clear r1 q1 b1)
        | (go_at_call 7; refine (alive_any _).mono ?_; rintro e w' ⟨rfl, hb2⟩))
      go_ret
      exact ⟨rfl, B1.out.trans (hb2.mono B1.out.size)⟩
end Go.Proofs.Ytfmjmhnbdceipaa
