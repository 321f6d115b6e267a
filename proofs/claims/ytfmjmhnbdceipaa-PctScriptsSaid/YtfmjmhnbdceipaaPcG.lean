/- The script of a plan: the program's. -/
import Derived.Test.YtfmjmhnbdceipaaPcF
import Derived.Deep.RegionLaw
import Derived.Deep.RegionHeld3
namespace Go.Proofs.Ytfmjmhnbdceipaa
open Go.ChangeShapes Go.WideShapes Go.ChangeAt Go.RowKit Go.Deep
set_option linter.unusedVariables false

structure ScA (W wr : World) (G S : Nat) (pv : Array Value) (o P : List Int) (every m : Int) (k : Nat) (A : Option Addr) (cA : Nat) (D : Option Addr) (cD : Nat) : Prop where
  plan : Blk wr W.heap.size 24 pv
  ents : Blk wr G 45 (kv (esAt o P every m S k)).toArray
  ord : Rd wr 1 A o.length (ints (oAt o P k))
  ordc : o.length ≤ cA ∧ cA ≤ maxLen
  pts : Rd wr 1 D (restAt P k).length (ints (restAt P k))
  ptsc : (restAt P k).length ≤ cD ∧ cD ≤ maxLen
  nA : ∀ g, blk A = some g → g ≠ G
  nD : ∀ g, blk D = some g → g ≠ G
  below : Below W.heap.size W wr
  hG : W.heap.size < G
theorem ScA.next {W wr w2 : World} {G S k cA cD cA' cD' : Nat} {pv : Array Value} {o P : List Int} {every m : Int} {A D A' D' : Option Addr} (h : ScA W wr G S pv o P every m k A cA D cD) (hk : k < S) (hc : Chg (fun _ => False) wr w2)
    (hA : Rd w2 1 A' o.length (ints (oAt o P (k + 1)))) (hAc : o.length ≤ cA' ∧ cA' ≤ maxLen) (hnA : ∀ g, blk A' = some g → g ≠ G)
    (hD : Rd w2 1 D' (restAt P (k + 1)).length (ints (restAt P (k + 1)))) (hDc : (restAt P (k + 1)).length ≤ cD' ∧ cD' ≤ maxLen) (hnD : ∀ g, blk D' = some g → g ≠ G) :
    ScA W (((w2.setCell ⟨G, k * 3, none⟩ (.int .i64 (pickAt o P every m k))).setCell ⟨G, k * 3 + 1, none⟩ (.int .i64 ((k : Int) % 8))).setCell ⟨G, k * 3 + 2, none⟩ (.int .i64 k)) G S pv o P every m (k + 1) A' cA' D' cD' := by
  have hs : Chg (fun g => g = G) w2 (w2.setCells G (k * 3) (ints (entAt o P every m k))) := setCells_chg _ _ _
  have h1 := (h.ents.kept hc (fun h => h)).setk (esAt_uni o P every m S k) (e := entAt o P every m k) rfl (i := k) (by rw [esAt_len _ _ _ _ (by omega)]; exact hk)
  rw [esAt_set o P every m hk] at h1
  have hG := h.hG
  refine ⟨(h.plan.kept hc (fun h => h)).kept hs (by omega), h1, hA.kept hs (fun g hg e => hnA g hg e), hAc, hD.kept hs (fun g hg e => hnD g hg e), hDc, hnA, hnD, (h.below.trans (hc.below h.below.size (fun _ _ h => h.elim))).trans (hs.below (Nat.le_trans h.below.size hc.size) (by rintro k _ rfl; omega)), hG⟩
theorem plan_cells {w : World} {b : Nat} {T : TypeId} {v0 v1 v2 v3 v4 : Value} (h : Blk w b T #[v0, v1, v2, v3, v4]) : w.cell? ⟨b, 0, none⟩ = some v0 ∧ w.cell? ⟨b, 1, none⟩ = some v1 ∧ w.cell? ⟨b, 2, none⟩ = some v2 ∧ w.cell? ⟨b, 3, none⟩ = some v3 ∧ w.cell? ⟨b, 4, none⟩ = some v4 := by
  refine ⟨?_, ?_, ?_, ?_, ?_⟩ <;> (rw [h.cell]; rfl)
theorem tail_rd {w : World} {b o n : Nat} {l : List Int} (h : ∀ k (hk : k < l.length), w.cell? ⟨b, o + k, none⟩ = some (.int .i64 l[k])) : ∀ j u, (ints l.tail)[j]? = some u → w.cell? ⟨b, o + 1 + j, none⟩ = some u := by
  intro j u hu
  have hj : j < l.tail.length := by have := (List.getElem?_eq_some_iff.1 hu).1; simpa using this
  rw [ints_get _ j hj] at hu
  have := h (j + 1) (by simp at hj; omega)
  rw [show o + 1 + j = o + (j + 1) by omega, this]
  simpa using hu
theorem slice_if (h : Prop) [Decidable h] (b p q n c : Nat) : Value.slice (if h then some ⟨b, p, none⟩ else some ⟨b, q, none⟩) n c = .slice (some ⟨b, if h then p else q, none⟩) n c := by split <;> rfl
theorem tail_if {w : World} {b o m : Nat} {l : List Int} (hl : l.length = m) (h : ∀ k (hk : k < l.length), w.cell? ⟨b, o + k, none⟩ = some (.int .i64 l[k])) : ∀ j u, (ints l.tail)[j]? = some u → w.cell? ⟨b, (if m = 1 then o else o + 1) + j, none⟩ = some u := by
  intro j u hu
  have hj : j < l.tail.length := by have := (List.getElem?_eq_some_iff.1 hu).1; simpa using this
  rw [if_neg (by simp at hj; omega)]
  exact tail_rd (n := 0) h j u hu
theorem rot_one {l : List Int} (h : l.length = 1) : rot l = [] ++ [l.headD 0] := by
  cases l with
  | nil => simp at h
  | cons x t => cases t with
    | nil => rfl
    | cons y t => simp at h
theorem one_of {l : List Int} (h : l.length = 1) : l = [l.headD 0] := by
  cases l with
  | nil => simp at h
  | cons x t => cases t with
    | nil => rfl
    | cons y t => simp at h
theorem ScA.first {W wr : World} {G S k cA cD bD oD : Nat} {pv : Array Value} {o P : List Int} {every m : Int} {A : Option Addr} (h : ScA W wr G S pv o P every m k A cA (some ⟨bD, oD, none⟩) cD) (hr : restAt P k = (k : Int) :: restAt P (k + 1)) :
    wr.cell? ⟨bD, oD, none⟩ = some (.int .i64 k) ∧ Rd wr 1 (if cD = 1 then some ⟨bD, oD, none⟩ else some ⟨bD, oD + 1, none⟩) (restAt P (k + 1)).length (ints (restAt P (k + 1))) ∧ (restAt P (k + 1)).length ≤ cD - 1 ∧ cD - 1 ≤ maxLen ∧ 1 ≤ cD := by
  have h1 := h.pts
  have h2 := h.ptsc
  rw [hr] at h1 h2
  simp only [List.length_cons] at h1 h2
  obtain ⟨b, o', e, hb, hc⟩ := h1.at_ (by omega)
  cases e
  refine ⟨hc 0 (by simp), ?_, by omega, by omega, by omega⟩
  split
  · have : (restAt P (k + 1)).length = 0 := by omega
    rw [this, List.eq_nil_of_length_eq_zero this]
    exact Rd.nil _ _ _
  · refine ⟨by simp, fun hp => ⟨bD, oD + 1, rfl, hb, fun j u hu => ?_⟩⟩
    have hj : j < (restAt P (k + 1)).length := by have := (List.getElem?_eq_some_iff.1 hu).1; simpa using this
    rw [ints_get _ j hj] at hu
    have := hc (j + 1) (by simp; omega)
    rw [show oD + 1 + j = oD + (j + 1) by omega, this]
    simpa using hu
theorem head_at (l : List Int) (h : 0 < l.length) : l[0] = l.headD 0 := by
  cases l with
  | nil => simp at h
  | cons x t => rfl
theorem ScA.drewN {W wr : World} {G S k cA cD : Nat} {pv : Array Value} {o P : List Int} {every m : Int} {A D : Option Addr} (h : ScA W wr G S pv o P every m k A cA D cD) (q : Nat) : ScA W (wr.drewN q) G S pv o P every m k A cA D cD :=
  ⟨h.plan, h.ents, h.ord, h.ordc, h.pts, h.ptsc, h.nA, h.nD, belowN h.below q, h.hG⟩
theorem mod_q (i n : Int) (W : World) (hn : n ≤ 4611686018427387904) : Calls Try.prog 21 #[.int .i64 i, .int .i64 n] W fun e W' => e = .returned (.int .i64 (modOf i n)) ∧ W' = W := (mod_any i n W hn).mono fun _ _ h => ⟨h.1, h.2.symm⟩
def RoundSc (W : World) (G S : Nat) (pv : Array Value) (o P : List Int) (every m : Int) (od pt i : Value) (wr : World) : Prop :=
  ∃ (k : Nat) (A D : Option Addr) (cA cD : Nat), k ≤ S ∧ i = .int .i64 k ∧ od = .slice A o.length cA ∧ pt = .slice D (restAt P k).length cD ∧ ScA W wr G S pv o P every m k A cA D cD
theorem script_no (seed m s c e : Int) (W : World) (h : ¬ rightP m s c e) : Calls Try.prog 8 #[.agg #[.int .u64 seed, .int .i64 m, .int .i64 s, .int .i64 c, .int .i64 e]] W fun en W' => en = .returned (.tuple #[.slice none 0 0, .int .i64 1]) ∧ Below W.heap.size W W' := by
  go_enter Try.func8, Try.ntmps8
  go_wp2_with (go_at_call 12; refine (right_no seed m s c e _ h).mono ?_; rintro e w1 ⟨rfl, rfl⟩)
  go_ret2
  exact ⟨rfl, ((Below.refl _ _).alloc (Nat.le_refl _) _).alloc (by simp) _⟩
set_option maxRecDepth 100000 in
set_option maxHeartbeats 16000000 in
theorem script_yes (seed e : Int) (m S c : Nat) (W : World) (h : rightP m S c e) : Calls Try.prog 8 #[.agg #[.int .u64 seed, .int .i64 m, .int .i64 S, .int .i64 c, .int .i64 e]] W fun en W' => ∃ A d, en = .returned (.tuple #[.slice A S d, .int .i64 0]) ∧
    Rd W' 3 A S (kv (scr (orderOf seed m) (pointsOf (IntKind.u64.wrap (seed + 1)) S c) e m S)) ∧ (∀ g, blk A = some g → W.heap.size ≤ g) ∧ S ≤ d ∧ Below W.heap.size W W' := by
  have hR := right_yes seed m S c e
  have HR := Lib.hid (fun W => hR W h)
  obtain ⟨⟨m1, m2⟩, ⟨e1, e2⟩, ⟨s0, s1⟩, c0, c1⟩ := h
  have hO := fun W => order_yes seed m W (by omega)
  have hP := fun W => points_yes (IntKind.u64.wrap (seed + 1)) S c W s0 s1 (by omega)
  have hol := orderOf_len seed m
  have hpu := pointsOf_up (IntKind.u64.wrap (seed + 1)) S c
  have hpm : ∀ z ∈ pointsOf (IntKind.u64.wrap (seed + 1)) S c, 0 ≤ z := fun z hz => (thr_in ((S : Int) + 1) (by omega) (IntKind.u64.wrap (seed + 1)) c z ((pointsOf_mem (IntKind.u64.wrap (seed + 1)) S c z).1 hz)).1
  have hpl := pointsOf_le (IntKind.u64.wrap (seed + 1)) S c
  generalize orderOf seed m = o at *
  generalize pointsOf (IntKind.u64.wrap (seed + 1)) S c = P at *
  have HO := Lib.hid hO
  have HP := Lib.hid hP
  have HU := Lib.hid hpu
  have HM := Lib.hid hpm
  have hmk := Lib.hid (fun W => make_ents S (by omega) W)
  have ho0 : 0 < o.length := by omega
  obtain ⟨i0, hi, hz0, hz1, hz2⟩ := info_parts int_info
  have HI0 := Lib.hid (⟨hi, hz0, hz1, hz2⟩ : Try.prog.info? 3 = some i0 ∧ i0.zero = some (.int .i64 0) ∧ i0.size = 1 ∧ i0.bytes = 8)
  clear hi hz0 hz1 hz2
  obtain rfl : m = o.length := hol.symm
  clear hR hO hP hol hpu hpm
  have KW := Lib.hid (fun W => Blk.new W 24 #[.int .u64 seed, .int .i64 o.length, .int .i64 S, .int .i64 c, .int .i64 e])
  have KB := Lib.hid (fun (w3 : World) (hb : Below ((W.alloc (.cells #[.int .u64 seed, .int .i64 o.length, .int .i64 S, .int .i64 c, .int .i64 e] 24)).alloc (.cells #[.int .u64 seed, .int .i64 o.length, .int .i64 S, .int .i64 c, .int .i64 e] 24)).heap.size ((W.alloc (.cells #[.int .u64 seed, .int .i64 o.length, .int .i64 S, .int .i64 c, .int .i64 e] 24)).alloc (.cells #[.int .u64 seed, .int .i64 o.length, .int .i64 S, .int .i64 c, .int .i64 e] 24)) w3) =>
    show Blk w3 W.heap.size 24 #[.int .u64 seed, .int .i64 o.length, .int .i64 S, .int .i64 c, .int .i64 e] ∧ W.heap.size + 2 ≤ w3.heap.size ∧ Below W.heap.size W w3 from
    ⟨(hb.block W.heap.size (by simp; omega)).trans ((KW.out W).alloc _), by have := hb.size; simpa using this, (((Below.refl _ _).alloc (Nat.le_refl _) _).alloc (by simp) _).trans (hb.mono (by simp; omega))⟩)
  go_enter Try.func8, Try.ntmps8
  go_wp2_with (first
    | (go_at_call 12; refine (HR.out _).mono ?_; rintro e w1 ⟨rfl, rfl⟩)
    | (go_at_call 17; refine (HO.out _).mono ?_; rintro e w3 ⟨rfl, r3, g3⟩; obtain ⟨b3, z3, q3⟩ := KB.out w3 g3; obtain ⟨a0, a1, a2, a3, a4⟩ := plan_cells b3; have HR3 := Lib.hid r3; have HB3 := Lib.hid b3; have HQ3 := Lib.hid q3; clear r3 g3 b3 q3)
    | (go_at_call 19; refine (HP.out _).mono ?_; rintro e w4 ⟨A4, d4, rfl, r4, g4⟩; have b4 := (g4.block W.heap.size (by omega)).trans HB3.out; obtain ⟨a0, a1, a2, a3, a4⟩ := plan_cells b4; have HR4 := Lib.hid r4; have HB4 := Lib.hid (show Blk w4 W.heap.size 24 #[.int .u64 seed, .int .i64 o.length, .int .i64 S, .int .i64 c, .int .i64 e] from b4); have HR5 := Lib.hid (HR3.out.rd.below g4 (Nat.le_refl _)); have HQ4 := Lib.hid (HQ3.out.trans (g4.mono (by omega))); have z4 := g4.size; have hm4 := hmk.out w4; clear r4 g4 b4))
  have hG1 : W.heap.size < w4.heap.size := by omega
  have H0 : Hid (RoundSc W w4.heap.size S #[.int .u64 seed, .int .i64 o.length, .int .i64 S, .int .i64 c, .int .i64 e] o P e o.length (.slice (some ⟨W.heap.size + 1 + 1, 0, none⟩) o.length o.length) (.slice A4 P.length d4) (.int .i64 0) (w4.alloc (.cells (kv (List.replicate S [0, 0, 0])).toArray 45))) := by
    refine ⟨0, _, A4, o.length, d4, Nat.zero_le _, rfl, rfl, by rw [restAt_zero P HM.out], ⟨HB4.out.alloc _, ?_, ?_, ⟨Nat.le_refl _, by unfold maxLen; omega⟩, ?_, ?_, ?_, ?_, HQ4.out.alloc (by omega) _, hG1⟩⟩
    · rw [esAt_zero]; exact Blk.new _ _ _
    · have h := HR5.out.alloc (.cells (kv (List.replicate S [0, 0, 0])).toArray 45)
      rw [show ((W.alloc (.cells #[.int .u64 seed, .int .i64 o.length, .int .i64 S, .int .i64 c, .int .i64 e] 24)).alloc (.cells #[.int .u64 seed, .int .i64 o.length, .int .i64 S, .int .i64 c, .int .i64 e] 24)).heap.size = W.heap.size + 1 + 1 by simp] at h
      exact h
    · rw [restAt_zero P HM.out]; exact HR4.out.rd.alloc _
    · rw [restAt_zero P HM.out]; exact ⟨HR4.out.2.1, HR4.out.2.2.1⟩
    · intro g hg; cases hg; have h10 : ((W.alloc (.cells #[.int .u64 seed, .int .i64 o.length, .int .i64 S, .int .i64 c, .int .i64 e] 24)).alloc (.cells #[.int .u64 seed, .int .i64 o.length, .int .i64 S, .int .i64 c, .int .i64 e] 24)).heap.size = W.heap.size + 1 + 1 := by simp
      have h9 : W.heap.size + 1 + 1 < w3.heap.size := by have h := (HR3.out.blk_lt _ rfl).2; rw [h10] at h; exact h
      show W.heap.size + 1 + 1 ≠ w4.heap.size
      omega
    · intro g hg; have := (HR4.out.blk_lt g hg).2; omega
  have HH : Hid (W.heap.size ≤ w4.heap.size) := Lib.hid (by omega)
  generalize w4.heap.size = G at *
  obtain ⟨wz, hwz⟩ : ∃ wz, wz = w4.alloc (.cells (kv (List.replicate S [0, 0, 0])).toArray 45) := ⟨_, rfl⟩
  rw [← hwz] at H0 ⊢
  have hS2 : (S : Int) ≤ 65536 := s1
  have l1 : (o.length : Int) ≤ 64 := m2
  have l0 : (1 : Int) ≤ o.length := m1
  clear HR3 HB3 HQ3 HR4 HB4 HR5 HQ4 hm4 hmk HO HP HR KW KB hwz z3 z4 a0 a1 a2 a3 a4
  go_loopw [4, 5, 30] (fun od pt i wr => RoundSc W G S #[.int .u64 seed, .int .i64 o.length, .int .i64 S, .int .i64 c, .int .i64 e] o P e o.length od pt i wr) (fun _ _ i _ => S - (intOf i).toNat)
  case atStart => exact H0.out
  case round =>
    clear H0
    obtain ⟨k, A, D, cA, cD, hk, rfl, rfl, rfl, hA⟩ := hrel
    have k0 : (0 : Int) ≤ k := by omega
    have HA := Lib.hid hA
    by_cases hlt : k < S
    · have k1 : (k : Int) < S := by omega
      obtain ⟨a0, a1, a2, a3, a4⟩ := plan_cells hA.plan
      have hel : k < (esAt o P e o.length S k).length := by rw [esAt_len _ _ _ _ hk]; exact hlt
      have e0 := hA.ents.getk (esAt_uni o P e o.length S k) hel (show 0 < 3 by decide)
      have e1' := hA.ents.getk (esAt_uni o P e o.length S k) hel (show 1 < 3 by decide)
      have e2' := hA.ents.getk (esAt_uni o P e o.length S k) hel (show 2 < 3 by decide)
      generalize ((esAt o P e o.length S k)[k]).getD 0 0 = y0 at e0
      generalize ((esAt o P e o.length S k)[k]).getD 1 0 = y1 at e1'
      generalize ((esAt o P e o.length S k)[k]).getD 2 0 = y2 at e2'
      simp only [Nat.add_zero] at e0
      have f0 := hA.ents.frozen (k * 3)
      have f1 := hA.ents.frozen (k * 3 + 1)
      have f2 := hA.ents.frozen (k * 3 + 2)
      have hol := oAt_len o P ho0 k
      have hol1 := oAt_len o P ho0 (k + 1)
      obtain ⟨bA, oA, rfl, hbA, hcA⟩ := hA.ord.at_ ho0
      have x0 : wr.cell? ⟨bA, oA, none⟩ = some (.int .i64 ((oAt o P k).headD 0)) := by
        have h1 := hcA 0 (by omega)
        rw [Nat.add_zero] at h1
        rw [h1]
        congr 2
        exact head_at _ (by omega)
      have hk3 : ((k : Int) * 3).toNat = k * 3 := by omega
      have hmod8 := mod_any k 8
      have hk8 : modOf (k : Int) 8 = (k : Int) % 8 := modOf_pos (by omega)
      have hw1 : IntKind.i64.wrap ((k : Int) + 1) = (k : Int) + 1 := IntWalk.i64_in _ (by omega)
      have hq0 : 0 ≤ ((k : Int) + 1) / e := Int.ediv_nonneg (by omega) (by omega)
      have hq1 : ((k : Int) + 1) / e ≤ (k : Int) + 1 := Int.ediv_le_self _ (by omega)
      have hw2 : ((k : Int) + 1).tdiv e = ((k : Int) + 1) / e := Int.tdiv_eq_ediv_of_nonneg (by omega)
      have hw3 : IntKind.i64.wrap (((k : Int) + 1) / e) = ((k : Int) + 1) / e := IntWalk.i64_in _ (by omega)
      have hm0 := modOf_in (i := ((k : Int) + 1) / e) (n := o.length) (by omega)
      have HK8 := Lib.hid hk8
      have HDV := Lib.hid (fun (h : ((k : Int) + 1) % e = 0) => show pickAt o P e o.length k = modOf (((k : Int) + 1) / e) o.length by rw [pickAt, if_pos h, modOf_pos (by omega)])
      have HND := Lib.hid (fun (h : ¬ ((k : Int) + 1) % e = 0) => show pickAt o P e o.length k = (oAt o P (k + 1)).headD 0 by rw [pickAt, if_neg h])
      clear hk8
      by_cases hin : (k : Int) ∈ P
      · have hrest := restAt_in HU.out hin
        have hoe : oAt o P (k + 1) = rot (oAt o P k) := by rw [oAt, if_pos hin]
        obtain ⟨bD, oD, rfl⟩ : ∃ b o, D = some ⟨b, o, none⟩ := by
          obtain ⟨b, o, h, _⟩ := hA.pts.2 (by rw [hrest]; simp)
          exact ⟨b, o, h⟩
        obtain ⟨d0, d1, d2, d3, d4⟩ := hA.first hrest
        have hlen : (restAt P k).length = (restAt P (k + 1)).length + 1 := by rw [hrest]; rfl
        rw [hlen]
        obtain ⟨x, hx⟩ : ∃ x, x = (oAt o P k).headD 0 := ⟨_, rfl⟩
        rw [← hx] at x0
        have HX := Lib.hid hx
        clear hx
        have hre2 : (0 : Int) < (((restAt P (k + 1)).length + 1 : Nat) : Int) := by omega
        have hordc := hA.ordc
        have hptc : (((restAt P (k + 1)).length + 1 : Nat) : Int) ≤ cD := by omega
        have hnr : (restAt P (k + 1)).length ≤ 100 := Nat.le_trans (restAt_le _ _) (by omega)
        have hcm : (cD : Int) ≤ 9223372036854775807 := by have := hA.ptsc.2; unfold maxLen at this; omega
        have hcam : (o.length : Int) ≤ cA := by omega
        have hrl : 0 ≤ (restAt P (k + 1)).length := Nat.zero_le _
        by_cases hcd : cD = 1
        · have hxs : Hid (oAt o P (k + 1) = (oAt o P k).tail ++ [x]) := Lib.hid (by rw [hoe, rot, ← HX.out])
          have htl : Hid ((ints (oAt o P k).tail).length = (o.length - 1) * 1) := Lib.hid (by simp [hol])
          have htc := Lib.hid (tail_if hol hcA)
          have hca1 : (1 : Int) ≤ cA := by omega
          rw [if_pos hcd] at d1
          subst hcd
          have hz0 : (restAt P (k + 1)).length = 0 := by omega
          have HZ0 := Lib.hid hz0
          clear hz0
          go_wp2_with fail
          go_region_law (refine step_append_full _ rfl (.tmp 50) (.tmp 54) 37 rfl 3 i0 (.int .i64 0) 1 8 Try.underlying37 HI0.out.1 HI0.out.2.1 HI0.out.2.2.1 HI0.out.2.2.2 rfl (by decide) bA (if o.length = 1 then oA else oA + 1) (o.length - 1) (ints (oAt o P k).tail) (slice_if (o.length = 1) bA oA (oA + 1) (o.length - 1) (o.length - 1)) htl.out (fun j u hu => ((((Chg.refl (fun _ => False) wr).alloc _).drew.cell (p := ⟨bA, (if o.length = 1 then oA else oA + 1) + j, none⟩) hbA (fun h => h)).trans (htc.out j u hu))) _ 1 1 (ints [x]) rfl (Rd.litn _ _ _ _ rfl).drew (by omega) (by omega) ?_; intro c5 w5 r5 g5; have hc5 : Chg (fun _ => False) wr w5 := ((Chg.refl _ _).alloc _).drew.grown g5 (fun g hg => by cases hg); have R5 := Lib.hid r5; have C5 := Lib.hid hc5; clear r5 g5 hc5)
          generalize (if o.length = 1 then (some ⟨bA, oA, none⟩ : Option Addr) else some ⟨bA, oA + 1, none⟩) = sA
          have hr6 : Rd w5 1 (some ⟨wr.heap.size + 1, 0, none⟩) o.length (ints (oAt o P (k + 1))) := by
            have h := R5.out.rd
            rw [show ((wr.alloc (.cells #[.int .i64 x] 3)).drew).heap.size = wr.heap.size + 1 by simp, Nat.sub_add_cancel (show 1 ≤ o.length from ho0)] at h
            rw [hxs.out, ints_append]
            exact h
          have hr7 := R5.out.2.1
          have hr8 := R5.out.2.2.1
          rw [Nat.sub_add_cancel (show 1 ≤ o.length from ho0)] at hr7
          have HN := Lib.hid (hA.next hlt C5.out hr6 ⟨hr7, hr8⟩ (fun g hg => by cases hg; show wr.heap.size + 1 ≠ G; have := hA.ents.lt; omega) (d1.kept C5.out (fun _ _ h => h)) ⟨d2, d3⟩ (fun g hg => by cases hg; exact hA.nD bD rfl))
          obtain ⟨b6, o6, h6e, h6b, h6c⟩ := hr6.at_ ho0
          cases h6e
          have x6 : w5.cell? ⟨wr.heap.size + 1, 0, none⟩ = some (.int .i64 ((oAt o P (k + 1)).headD 0)) := by
            have h := h6c 0 (by omega)
            rw [Nat.add_zero] at h
            rw [h, head_at]
          obtain ⟨a0, a1, a2, a3, a4⟩ := plan_cells (hA.plan.kept C5.out (fun h => h))
          have hE5 := hA.ents.kept C5.out (fun h => h)
          have e0 := hE5.getk (esAt_uni o P e o.length S k) hel (show 0 < 3 by decide)
          have e1' := hE5.getk (esAt_uni o P e o.length S k) hel (show 1 < 3 by decide)
          have e2' := hE5.getk (esAt_uni o P e o.length S k) hel (show 2 < 3 by decide)
          generalize ((esAt o P e o.length S k)[k]).getD 0 0 = y0 at e0
          generalize ((esAt o P e o.length S k)[k]).getD 1 0 = y1 at e1'
          generalize ((esAt o P e o.length S k)[k]).getD 2 0 = y2 at e2'
          simp only [Nat.add_zero] at e0
          have f0 := hE5.frozen (k * 3)
          have f1 := hE5.frozen (k * 3 + 1)
          have f2 := hE5.frozen (k * 3 + 2)
          clear hA HA hcA hol hol1 hel hrest hoe hin hr6 hr7 hr8 h6c hE5 d1 d2 d3 d4 HX hxs hlen hordc
          generalize (oAt o P (k + 1)).headD 0 = xh at *
          by_cases hdiv : ((k : Int) + 1) % e = 0
          · go_wp2_with fail
            go_quiet ((go_at_call 21; exact Calls.quiet_of_same (mod_q _ _ _ (by omega))))
            go_wp2_with (go_at_call 21; refine (mod_any _ _ _ (by omega)).mono ?_; rintro e w1 ⟨rfl, rfl⟩)
            go_roundw
            case measure => simp [intOf]; omega
            case rel =>
              have h9 := HN.out
              rw [HDV.out hdiv] at h9
              rw [HK8.out]
              exact ⟨k + 1, _, _, _, _, by omega, by go_num, by rw [Nat.sub_add_cancel (show 1 ≤ o.length from ho0)], by rw [HZ0.out], h9.drewN _⟩
          · go_wp2_with (go_at_call 21; refine (mod_any _ _ _ (by omega)).mono ?_; rintro e w1 ⟨rfl, rfl⟩)
            go_roundw
            case measure => simp [intOf]; omega
            case rel =>
              have h9 := HN.out
              rw [HND.out hdiv] at h9
              rw [HK8.out]
              exact ⟨k + 1, _, _, _, _, by omega, by go_num, by rw [Nat.sub_add_cancel (show 1 ≤ o.length from ho0)], by rw [HZ0.out], h9⟩

        · have hxs : Hid (oAt o P (k + 1) = (oAt o P k).tail ++ [x]) := Lib.hid (by rw [hoe, rot, ← HX.out])
          have htl : Hid ((ints (oAt o P k).tail).length = (o.length - 1) * 1) := Lib.hid (by simp [hol])
          have htc := Lib.hid (tail_if hol hcA)
          have hca1 : (1 : Int) ≤ cA := by omega
          rw [if_neg hcd] at d1
          have hcd2 : (1 : Int) < cD := by omega
          go_wp2_with fail
          go_region_law (refine step_append_full _ rfl (.tmp 50) (.tmp 54) 37 rfl 3 i0 (.int .i64 0) 1 8 Try.underlying37 HI0.out.1 HI0.out.2.1 HI0.out.2.2.1 HI0.out.2.2.2 rfl (by decide) bA (if o.length = 1 then oA else oA + 1) (o.length - 1) (ints (oAt o P k).tail) (slice_if (o.length = 1) bA oA (oA + 1) (o.length - 1) (o.length - 1)) htl.out (fun j u hu => ((((Chg.refl (fun _ => False) wr).alloc _).drew.cell (p := ⟨bA, (if o.length = 1 then oA else oA + 1) + j, none⟩) hbA (fun h => h)).trans (htc.out j u hu))) _ 1 1 (ints [x]) rfl (Rd.litn _ _ _ _ rfl).drew (by omega) (by omega) ?_; intro c5 w5 r5 g5; have hc5 : Chg (fun _ => False) wr w5 := ((Chg.refl _ _).alloc _).drew.grown g5 (fun g hg => by cases hg); have R5 := Lib.hid r5; have C5 := Lib.hid hc5; clear r5 g5 hc5)
          generalize (if o.length = 1 then (some ⟨bA, oA, none⟩ : Option Addr) else some ⟨bA, oA + 1, none⟩) = sA
          have hr6 : Rd w5 1 (some ⟨wr.heap.size + 1, 0, none⟩) o.length (ints (oAt o P (k + 1))) := by
            have h := R5.out.rd
            rw [show ((wr.alloc (.cells #[.int .i64 x] 3)).drew).heap.size = wr.heap.size + 1 by simp, Nat.sub_add_cancel (show 1 ≤ o.length from ho0)] at h
            rw [hxs.out, ints_append]
            exact h
          have hr7 := R5.out.2.1
          have hr8 := R5.out.2.2.1
          rw [Nat.sub_add_cancel (show 1 ≤ o.length from ho0)] at hr7
          have HN := Lib.hid (hA.next hlt C5.out hr6 ⟨hr7, hr8⟩ (fun g hg => by cases hg; show wr.heap.size + 1 ≠ G; have := hA.ents.lt; omega) (d1.kept C5.out (fun _ _ h => h)) ⟨d2, d3⟩ (fun g hg => by cases hg; exact hA.nD bD rfl))
          obtain ⟨b6, o6, h6e, h6b, h6c⟩ := hr6.at_ ho0
          cases h6e
          have x6 : w5.cell? ⟨wr.heap.size + 1, 0, none⟩ = some (.int .i64 ((oAt o P (k + 1)).headD 0)) := by
            have h := h6c 0 (by omega)
            rw [Nat.add_zero] at h
            rw [h, head_at]
          obtain ⟨a0, a1, a2, a3, a4⟩ := plan_cells (hA.plan.kept C5.out (fun h => h))
          have hE5 := hA.ents.kept C5.out (fun h => h)
          have e0 := hE5.getk (esAt_uni o P e o.length S k) hel (show 0 < 3 by decide)
          have e1' := hE5.getk (esAt_uni o P e o.length S k) hel (show 1 < 3 by decide)
          have e2' := hE5.getk (esAt_uni o P e o.length S k) hel (show 2 < 3 by decide)
          generalize ((esAt o P e o.length S k)[k]).getD 0 0 = y0 at e0
          generalize ((esAt o P e o.length S k)[k]).getD 1 0 = y1 at e1'
          generalize ((esAt o P e o.length S k)[k]).getD 2 0 = y2 at e2'
          simp only [Nat.add_zero] at e0
          have f0 := hE5.frozen (k * 3)
          have f1 := hE5.frozen (k * 3 + 1)
          have f2 := hE5.frozen (k * 3 + 2)
          clear hA HA hcA hol hol1 hel hrest hoe hin hr6 hr7 hr8 h6c hE5 d1 d2 d3 d4 HX hxs hlen hordc
          generalize (oAt o P (k + 1)).headD 0 = xh at *
          by_cases hdiv : ((k : Int) + 1) % e = 0
          · go_wp2_with fail
            go_quiet ((go_at_call 21; exact Calls.quiet_of_same (mod_q _ _ _ (by omega))))
            go_wp2_with (go_at_call 21; refine (mod_any _ _ _ (by omega)).mono ?_; rintro e w1 ⟨rfl, rfl⟩)
            go_roundw
            case measure => simp [intOf]; omega
            case rel =>
              have h9 := HN.out
              rw [HDV.out hdiv] at h9
              rw [HK8.out]
              exact ⟨k + 1, _, _, _, _, by omega, by go_num, by rw [Nat.sub_add_cancel (show 1 ≤ o.length from ho0)], rfl, h9.drewN _⟩
          · go_wp2_with (go_at_call 21; refine (mod_any _ _ _ (by omega)).mono ?_; rintro e w1 ⟨rfl, rfl⟩)
            go_roundw
            case measure => simp [intOf]; omega
            case rel =>
              have h9 := HN.out
              rw [HND.out hdiv] at h9
              rw [HK8.out]
              exact ⟨k + 1, _, _, _, _, by omega, by go_num, by rw [Nat.sub_add_cancel (show 1 ≤ o.length from ho0)], rfl, h9⟩

      · have hrest := restAt_out hin
        have hoe : oAt o P (k + 1) = oAt o P k := by rw [oAt, if_neg hin]
        have HN := Lib.hid (hA.next hlt (w2 := wr) (Chg.refl _ _) (A' := some ⟨bA, oA, none⟩) (cA' := cA) (D' := D) (cD' := cD) (by rw [hoe]; exact hA.ord) hA.ordc hA.nA (by rw [hrest]; exact hA.pts) (by rw [hrest]; exact hA.ptsc) hA.nD)
        have HL := Lib.hid (show (restAt P (k + 1)).length = (restAt P k).length by rw [hrest])
        rw [hoe] at HND
        have hhead := Lib.hid (fun h => restAt_head hin h)
        by_cases hre : (restAt P k).length = 0
        · have hre2 : (((restAt P k).length : Int)) = 0 := by omega
          clear hA HA hcA hol hol1 hel hrest hoe hin hhead
          generalize (oAt o P k).headD 0 = x at *
          generalize (restAt P k).length = nr at *
          clear hre2
          subst hre
          by_cases hdiv : ((k : Int) + 1) % e = 0
          · go_wp2_with (go_at_call 21; refine (mod_any _ _ _ (by omega)).mono ?_; rintro e w1 ⟨rfl, rfl⟩)
            go_quiet ((go_at_call 21; exact Calls.quiet_of_same (mod_q _ _ _ (by omega))))
            go_wp2_with (go_at_call 21; refine (mod_any _ _ _ (by omega)).mono ?_; rintro e w1 ⟨rfl, rfl⟩)
            go_roundw
            case measure => simp [intOf]; omega
            case rel =>
              have h9 := HN.out
              rw [HDV.out hdiv] at h9
              rw [HK8.out]
              exact ⟨k + 1, _, _, _, _, by omega, by go_num, rfl, by rw [HL.out], h9.drewN _⟩
          · go_wp2_with (go_at_call 21; refine (mod_any _ _ _ (by omega)).mono ?_; rintro e w1 ⟨rfl, rfl⟩)
            go_roundw
            case measure => simp [intOf]; omega
            case rel =>
              have h9 := HN.out
              rw [HND.out hdiv] at h9
              rw [HK8.out]
              exact ⟨k + 1, _, _, _, _, by omega, by go_num, rfl, by rw [HL.out], h9⟩
        · obtain ⟨bD, oD, rfl, hbD, hcD⟩ := hA.pts.at_ (by omega)
          have d0 := hcD 0 (by omega)
          rw [Nat.add_zero] at d0
          have hne := hhead.out (by omega)
          generalize (restAt P k)[0]'(by omega) = z at d0 hne
          have hd : decide (z = (k : Int)) = false := by simpa using hne
          have hre2 : (0 : Int) < (((restAt P k).length : Int)) := by omega
          clear hcD
          clear hA HA hcA hol hol1 hel hrest hoe hin hhead
          generalize (oAt o P k).headD 0 = x at *
          generalize (restAt P k).length = nr at *
          by_cases hdiv : ((k : Int) + 1) % e = 0
          · go_wp2_with (go_at_call 21; refine (mod_any _ _ _ (by omega)).mono ?_; rintro e w1 ⟨rfl, rfl⟩)
            go_quiet ((go_at_call 21; exact Calls.quiet_of_same (mod_q _ _ _ (by omega))))
            go_wp2_with (go_at_call 21; refine (mod_any _ _ _ (by omega)).mono ?_; rintro e w1 ⟨rfl, rfl⟩)
            go_roundw
            case measure => simp [intOf]; omega
            case rel =>
              have h9 := HN.out
              rw [HDV.out hdiv] at h9
              rw [HK8.out]
              exact ⟨k + 1, _, _, _, _, by omega, by go_num, rfl, by rw [HL.out], h9.drewN _⟩
          · go_wp2_with (go_at_call 21; refine (mod_any _ _ _ (by omega)).mono ?_; rintro e w1 ⟨rfl, rfl⟩)
            go_roundw
            case measure => simp [intOf]; omega
            case rel =>
              have h9 := HN.out
              rw [HND.out hdiv] at h9
              rw [HK8.out]
              exact ⟨k + 1, _, _, _, _, by omega, by go_num, rfl, by rw [HL.out], h9⟩
    · obtain rfl : k = S := by omega
      have hE := hA.ents
      rw [esAt_all] at hE
      have hu := scr_uni o P e o.length k
      have HE := Lib.hid hE
      clear hA hE
      go_wp2
      go_ret2
      refine ⟨some ⟨G, 0, none⟩, k, rfl, ⟨by rw [kv_length hu, scr_len], fun _ => ⟨G, 0, rfl, HE.out.lt, fun j u hu2 => ?_⟩⟩, fun g hg => by cases hg; have := HA.out.hG; exact Nat.le_of_lt this, Nat.le_refl _, HA.out.below⟩
      rw [Nat.zero_add, HE.out.cell]
      simpa using hu2
end Go.Proofs.Ytfmjmhnbdceipaa
