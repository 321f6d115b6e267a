/- The reference's scripts. -/
import Derived.Test.YtfmjmhnbdceipaaPcI
namespace Go.Proofs.Ytfmjmhnbdceipaa
open Go.ChangeShapes Go.WideShapes Go.ChangeAt Go.RowKit Go.Deep
set_option linter.unusedVariables false

theorem entry_info : (Try.prog.info? 45).map (fun i => (i.zero, i.size, i.bytes)) = some (some (.agg #[.int .i64 0, .int .i64 0, .int .i64 0]), 3, 24) := by kernel_rfl
theorem entry_cells : (Value.agg #[.int .i64 0, .int .i64 0, .int .i64 0]).cells.size = 3 := by kernel_rfl
theorem entry_pos : 0 < 3 := by decide
theorem entry_by : 24 ≤ 256 := by decide
theorem heap_size_alloc_ (w : World) (o : Obj) : (w.alloc o).heap.size = w.heap.size + 1 := by simp
theorem le_alloc_ (w : World) (o : Obj) : w.heap.size ≤ (w.alloc o).heap.size := by rw [heap_size_alloc_]; omega
theorem Row.empty (w : World) (base : Nat) (E : TypeId) (h : base ≤ w.heap.size) : Row (w.alloc (.cells #[] E)) base E 1 (some ⟨w.heap.size, 0, none⟩) 0 0 (ints []) := by
  refine ⟨by simp [ints], Nat.le_refl _, Nat.zero_le _, .inr ⟨w.heap.size, #[], rfl, h, ?_, by simp, by simp [ints]⟩⟩
  exact Blk.new w E #[]
def RoundRs (W : World) (G S : Nat) (pv : Array Value) (o P : List Int) (e m : Int) (D : Option Addr) (ou od i : Value) (wr : World) : Prop :=
  ∃ (k : Nat) (A B : Option Addr) (cA cB : Nat), k ≤ S ∧ i = .int .i64 k ∧ od = .slice A o.length cA ∧ ou = .slice B k cB ∧ Rd wr 1 A o.length (ints (oAt o P k)) ∧ (o.length ≤ cA ∧ cA ≤ maxLen) ∧
    Row wr G 45 3 B k cB (kv (scr o P e m k)) ∧ Blk wr W.heap.size 31 pv ∧ Rd wr 1 D P.length (ints P) ∧ Below W.heap.size W wr ∧ G ≤ wr.heap.size ∧ ∀ g, blk A = some g → some g ≠ blk B
theorem RoundRs.step {W wr : World} {G S k cA cB : Nat} {pv : Array Value} {o P : List Int} {e m : Int} {D A B : Option Addr} (hk : k < S) (ho : 0 < o.length) (hA : Rd wr 1 A o.length (ints (oAt o P (k + 1)))) (hc : o.length ≤ cA ∧ cA ≤ maxLen)
    (hB : Row wr G 45 3 B k cB (kv (scr o P e m k))) (hp : Blk wr W.heap.size 31 pv) (hD : Rd wr 1 D P.length (ints P)) (hb : Below W.heap.size W wr) (hG : G ≤ wr.heap.size) (hWG : W.heap.size < G) (hDG : ∀ g, blk D = some g → g < G) (hAB : ∀ g, blk A = some g → some g ≠ blk B)
    (o1 o2 : Obj) (z : Nat) (w9 : World) (B' : Option Addr) (cB' : Nat) (x : Int) (hx : pickAt o P e m k = x) (h1 : Row w9 G 45 3 B' (k + 1) cB' (kv (scr o P e m k ++ [[x, (k : Int) % 8, (k : Int)]]))) (h2 : (((wr.alloc o1).alloc o2).drewN z).grownBy w9 (blk B)) (h3 : blk B' = blk B ∨ blk B' = some (((wr.alloc o1).alloc o2).drewN z).heap.size) :
    RoundRs W G S pv o P e m D (.slice B' (k + 1) cB') (.slice A o.length cA) (.int .i64 ((k : Int) + 1)) w9 := by
  have hsz := h2.size
  simp at hsz
  refine ⟨k + 1, A, B', cA, cB', by omega, by go_num, rfl, rfl, ?_, hc, ?_, ?_, ?_, ?_, by omega, ?_⟩
  · exact (((hA.alloc o1).alloc o2).drewN z).grown h2 hAB
  · rw [scr_snoc, entAt, hx]; exact h1
  · exact (((hp.alloc o1).alloc o2).drewN z).grown h2 (fun h => by have := (hB.blk_lt _ h.symm).1; omega)
  · exact (((hD.alloc o1).alloc o2).drewN z).grown h2 (fun g hg h => by have := (hB.blk_lt _ h.symm).1; have := hDG g hg; omega)
  · exact (belowN ((hb.alloc hb.size o1).alloc (by have := hb.size; simp; omega) o2) z).grown h2 (by have := hb.size; simp; omega) (fun g hg => by have := (hB.blk_lt g hg).1; omega)
  · intro g hg
    rcases h3 with h | h
    · rw [h]; exact hAB g hg
    · rw [h]
      intro h4
      obtain ⟨b, o3, h5, h6, _⟩ := hA.2 ho
      rw [h5] at hg
      have h7 : b = g := Option.some.inj hg
      have h8 := Option.some.inj h4
      simp at h8
      omega
theorem Rd.none_ {w : World} {A : Option Addr} {n : Nat} {l : List Int} (h : n = 0) (hl : l.length = n) : Rd w 1 A n (ints l) := by
  subst h
  rw [List.eq_nil_of_length_eq_zero hl]
  exact Rd.nil _ _ _
theorem ab_ne {B : Option Addr} {n b6 : Nat} (h1 : n ≤ b6) (h2 : ∀ g, blk B = some g → g < n) : ∀ g, blk (some ⟨b6, 0, none⟩) = some g → some g ≠ blk B := by
  intro g h h9
  have h3 : some b6 = some g := h
  have h4 := Option.some.inj h3
  have := h2 g h9.symm
  omega
theorem drop_one (l : List Int) : l.drop 1 = l.tail := by cases l <;> rfl
theorem tail_either {w : World} {b q n c : Nat} {o : List Int} (hl : o.length = n) (h : Rd w 1 (some ⟨b, q, none⟩) n (ints o)) (hc : n ≤ c) :
    (c = 1 → Rd w 1 (some ⟨b, q, none⟩) (n - 1) (ints o.tail)) ∧ (¬ c = 1 → Rd w 1 (some ⟨b, q + 1, none⟩) (n - 1) (ints o.tail)) := by
  constructor
  · intro h1
    exact Rd.none_ (by omega) (by simp [hl])
  · intro _
    rcases Nat.eq_zero_or_pos n with h0 | h0
    · exact Rd.none_ (by omega) (by simp [hl])
    · have h1 := h.drop_ (k := 1) (by omega)
      rw [drop_one] at h1
      exact h1
theorem rot_done {wr w1 w2 : World} {n k : Nat} {o P l : List Int} {x : Int} {A2 A3 : Option Addr} {c2 c3 : Nat} (hl : l.length = n) (hn : 0 < n) (hx : x = l.headD 0) (hoe : oAt o P (k + 1) = rot l)
    (h2 : (wr.alloc (.cells #[] 3)).grownBy w1 (some wr.heap.size)) (hA2 : ∀ g, blk A2 = some g → wr.heap.size ≤ g) (h1' : Row w2 wr.heap.size 3 1 A3 (n - 1 + 1) c3 (ints ([] ++ l.tail ++ [x]))) (h2' : (w1.alloc (.cells #[.int .i64 x] 3)).grownBy w2 (blk A2)) :
    ∃ b6, A3 = some ⟨b6, 0, none⟩ ∧ n - 1 + 1 = n ∧ Rd w2 1 (some ⟨b6, 0, none⟩) n (ints (oAt o P (k + 1))) ∧ (n ≤ c3 ∧ c3 ≤ maxLen) ∧ Chg (fun _ => False) wr w2 ∧ wr.heap.size ≤ b6 ∧ w2.cell? ⟨b6, 0, none⟩ = some (.int .i64 ((oAt o P (k + 1)).headD 0)) := by
  have e1 : n - 1 + 1 = n := by omega
  rw [e1] at h1'
  have e2 : [] ++ l.tail ++ [x] = oAt o P (k + 1) := by rw [hoe, rot, hx]; rfl
  rw [e2] at h1'
  rcases h1'.2.2.2 with ⟨_, h0, _⟩ | ⟨g, cur, rfl, hg, hh, _⟩
  · omega
  · have hrd := h1'.rd
    refine ⟨g, rfl, e1, hrd, ⟨h1'.2.1, h1'.2.2.1⟩, ?_, hg, ?_⟩
    · have c1 : Chg (fun _ => False) wr w1 := ((Chg.refl _ _).alloc _).grown h2 (fun g hg => .inr (by cases hg; exact Nat.le_refl _))
      exact (c1.alloc _).grown h2' (fun g hg => .inr (hA2 g hg))
    · obtain ⟨b, q, he, _, hc⟩ := hrd.at_ hn
      cases he
      have h := hc 0 (by rw [hrd.len]; exact hn)
      rw [h, head_at]
theorem rot_done1 {wr w2 : World} {n k : Nat} {o P l : List Int} {x : Int} {A3 : Option Addr} {c3 : Nat} (hl : l.length = n) (hn : n = 1) (hx : x = l.headD 0) (hoe : oAt o P (k + 1) = rot l)
    (h1' : Row w2 wr.heap.size 3 1 A3 (0 + 1) c3 (ints ([] ++ [x]))) (h2' : ((wr.alloc (.cells #[] 3)).alloc (.cells #[.int .i64 x] 3)).grownBy w2 (some wr.heap.size)) :
    ∃ b6, A3 = some ⟨b6, 0, none⟩ ∧ 0 + 1 = n ∧ Rd w2 1 (some ⟨b6, 0, none⟩) n (ints (oAt o P (k + 1))) ∧ (n ≤ c3 ∧ c3 ≤ maxLen) ∧ Chg (fun _ => False) wr w2 ∧ wr.heap.size ≤ b6 ∧ w2.cell? ⟨b6, 0, none⟩ = some (.int .i64 ((oAt o P (k + 1)).headD 0)) := by
  subst hn
  have e2 : [] ++ [x] = oAt o P (k + 1) := by
    rw [hoe, rot, hx]
    have : l.tail = [] := List.eq_nil_of_length_eq_zero (by simp [hl])
    rw [this]
  rw [e2] at h1'
  rcases h1'.2.2.2 with ⟨_, h0, _⟩ | ⟨g, cur, rfl, hg, hh, _⟩
  · omega
  · have hrd := h1'.rd
    refine ⟨g, rfl, rfl, hrd, ⟨h1'.2.1, h1'.2.2.1⟩, ?_, hg, ?_⟩
    · exact (((Chg.refl _ _).alloc _).alloc _).grown h2' (fun g hg => .inr (by cases hg; exact Nat.le_refl _))
    · obtain ⟨b, q, he, _, hc⟩ := hrd.at_ (by decide)
      cases he
      have h := hc 0 (by rw [hrd.len]; decide)
      rw [h, head_at]
set_option maxHeartbeats 4000000 in
theorem rscript_no (seed m s c e : Int) (W : World) (h : ¬ rightP m s c e) : Calls Try.prog 9 #[.agg #[.int .u64 seed, .int .i64 m, .int .i64 s, .int .i64 c, .int .i64 e]] W fun en W' => en = .returned (.tuple #[.slice none 0 0, .int .i64 1]) ∧ Below W.heap.size W W' := by
  go_enter Try.func9, Try.ntmps9
  go_wp2_with (go_at_call 13; refine (rright_no seed m s c e _ h).mono ?_; rintro e w1 ⟨rfl, rfl⟩)
  go_ret2
  exact ⟨rfl, ((Below.refl _ _).alloc (Nat.le_refl _) _).alloc (by simp) _⟩
set_option maxRecDepth 100000 in
set_option maxHeartbeats 16000000 in
theorem rscript_yes (seed e : Int) (m S c : Nat) (W : World) (h : rightP m S c e) : Calls Try.prog 9 #[.agg #[.int .u64 seed, .int .i64 m, .int .i64 S, .int .i64 c, .int .i64 e]] W fun en W' => ∃ A d, en = .returned (.tuple #[.slice A S d, .int .i64 0]) ∧
    Rd W' 3 A S (kv (scr (orderOf seed m) (pointsOf (IntKind.u64.wrap (seed + 1)) S c) e m S)) ∧ (∀ g, blk A = some g → W.heap.size ≤ g) ∧ Below W.heap.size W W' := by
  have hR := rright_yes seed m S c e
  have HR := Lib.hid (fun W => hR W h)
  obtain ⟨⟨m1, m2⟩, ⟨e1, e2⟩, ⟨s0, s1⟩, c0, c1⟩ := h
  have hO := fun W => rorder_yes seed m W (by omega)
  have hP := fun W => rpoints_yes (IntKind.u64.wrap (seed + 1)) S c W s0 s1 (by omega)
  have hol := orderOf_len seed m
  have hpl := pointsOf_le (IntKind.u64.wrap (seed + 1)) S c
  generalize orderOf seed m = o at *
  generalize pointsOf (IntKind.u64.wrap (seed + 1)) S c = P at *
  have HO := Lib.hid hO
  have HP := Lib.hid hP
  have ho0 : 0 < o.length := by omega
  obtain rfl : m = o.length := hol.symm
  clear hR hO hP hol
  have KB := Lib.hid (fun (w3 : World) (hb : Below ((W.alloc (.cells #[.int .u64 seed, .int .i64 o.length, .int .i64 S, .int .i64 c, .int .i64 e] 31)).alloc (.cells #[.int .u64 seed, .int .i64 o.length, .int .i64 S, .int .i64 c, .int .i64 e] 31)).heap.size ((W.alloc (.cells #[.int .u64 seed, .int .i64 o.length, .int .i64 S, .int .i64 c, .int .i64 e] 31)).alloc (.cells #[.int .u64 seed, .int .i64 o.length, .int .i64 S, .int .i64 c, .int .i64 e] 31)) w3) =>
    show Blk w3 W.heap.size 31 #[.int .u64 seed, .int .i64 o.length, .int .i64 S, .int .i64 c, .int .i64 e] ∧ W.heap.size + 2 ≤ w3.heap.size ∧ Below W.heap.size W w3 from
    ⟨(hb.block W.heap.size (by simp; omega)).trans ((Blk.new W 31 #[.int .u64 seed, .int .i64 o.length, .int .i64 S, .int .i64 c, .int .i64 e]).alloc _), by have := hb.size; simpa using this, (((Below.refl _ _).alloc (Nat.le_refl _) _).alloc (by simp) _).trans (hb.mono (by simp; omega))⟩)
  go_enter Try.func9, Try.ntmps9
  go_wp2_with (first
    | (go_at_call 13; refine (HR.out _).mono ?_; rintro e w1 ⟨rfl, rfl⟩)
    | (go_at_call 18; refine (HO.out _).mono ?_; rintro e w3 ⟨A3, d3, rfl, r3, g3⟩; obtain ⟨b3, z3, q3⟩ := KB.out w3 g3; obtain ⟨a0, a1, a2, a3, a4⟩ := plan_cells b3; have HR3 := Lib.hid r3; have HB3 := Lib.hid b3; have HQ3 := Lib.hid q3; clear r3 g3 b3 q3)
    | (go_at_call 20; refine (HP.out _).mono ?_; rintro e w4 ⟨A4, d4, rfl, r4, g4⟩; have b4 := (g4.block W.heap.size (by omega)).trans HB3.out; obtain ⟨a0, a1, a2, a3, a4⟩ := plan_cells b4; have HR4 := Lib.hid r4; have HB4 := Lib.hid (show Blk w4 W.heap.size 31 #[.int .u64 seed, .int .i64 o.length, .int .i64 S, .int .i64 c, .int .i64 e] from b4); have HR5 := Lib.hid (HR3.out.rd.below g4 (Nat.le_refl _)); have HQ4 := Lib.hid (HQ3.out.trans (g4.mono (by omega))); have z4 := g4.size; clear r4 g4 b4))
  have H0 : Hid (RoundRs W w4.heap.size S #[.int .u64 seed, .int .i64 o.length, .int .i64 S, .int .i64 c, .int .i64 e] o P e o.length A4 (.slice none 0 0) (.slice A3 o.length d3) (.int .i64 0) w4) := by
    refine ⟨0, _, none, d3, 0, Nat.zero_le _, rfl, rfl, rfl, HR5.out, ⟨HR3.out.2.1, HR3.out.2.2.1⟩, ?_, HB4.out, HR4.out.rd, HQ4.out, Nat.le_refl _, fun g _ h => by cases h⟩
    exact Row.nil _ _ _ _
  have HDG : Hid (∀ g, blk A4 = some g → g < w4.heap.size) := Lib.hid (fun g hg => (HR4.out.blk_lt g hg).2)
  have hWG : W.heap.size < w4.heap.size := by omega
  generalize w4.heap.size = G at *
  have hS2 : (S : Int) ≤ 65536 := s1
  have l1 : (o.length : Int) ≤ 64 := m2
  have l0 : (1 : Int) ≤ o.length := m1
  clear HR3 HB3 HQ3 HR4 HB4 HR5 HQ4 HO HP HR KB z3 z4 a0 a1 a2 a3 a4
  go_loopw [4, 5, 7] (fun ou od i wr => RoundRs W G S #[.int .u64 seed, .int .i64 o.length, .int .i64 S, .int .i64 c, .int .i64 e] o P e o.length A4 ou od i wr) (fun _ _ i _ => S - (intOf i).toNat)
  case atStart => exact H0.out
  case round =>
    clear H0
    obtain ⟨k, A, B, cA, cB, hk, rfl, rfl, rfl, hA, hcA, hB, hp, hD, hb, hG, hAB⟩ := hrel
    have k0 : (0 : Int) ≤ k := by omega
    obtain ⟨a0, a1, a2, a3, a4⟩ := plan_cells hp
    by_cases hlt : k < S
    · have k1 : (k : Int) < S := by omega
      have hol := oAt_len o P ho0 k
      have hol1 := oAt_len o P ho0 (k + 1)
      have HHas := Lib.hid (fun c => has_any A4 P.length c (k : Int) P wr hD (by omega))
      have hw1 : IntKind.i64.wrap ((k : Int) + 1) = (k : Int) + 1 := IntWalk.i64_in _ (by omega)
      have hq0 : 0 ≤ ((k : Int) + 1) / e := Int.ediv_nonneg (by omega) (by omega)
      have hq1 : ((k : Int) + 1) / e ≤ (k : Int) + 1 := Int.ediv_le_self _ (by omega)
      have hw2 : ((k : Int) + 1).tdiv e = ((k : Int) + 1) / e := Int.tdiv_eq_ediv_of_nonneg (by omega)
      have hw3 : IntKind.i64.wrap (((k : Int) + 1) / e) = ((k : Int) + 1) / e := IntWalk.i64_in _ (by omega)
      have hw4 : (((k : Int) + 1) / e).tmod o.length = ((k : Int) + 1) / e % o.length := Int.tmod_eq_emod_of_nonneg (by omega)
      have hw5 : ((k : Int) + 1).tmod e = ((k : Int) + 1) % e := Int.tmod_eq_emod_of_nonneg (by omega)
      have hw6 : (k : Int).tmod 8 = (k : Int) % 8 := Int.tmod_eq_emod_of_nonneg (by omega)
      have HDV := Lib.hid (fun (h : ((k : Int) + 1) % e = 0) => show pickAt o P e o.length k = ((k : Int) + 1) / e % o.length by rw [pickAt, if_pos h])
      have HND := Lib.hid (fun (h : ¬ ((k : Int) + 1) % e = 0) => show pickAt o P e o.length k = (oAt o P (k + 1)).headD 0 by rw [pickAt, if_neg h])
      by_cases hin : (k : Int) ∈ P
      · have hdy : decide ((k : Int) ∈ P) = true := by simpa using hin
        obtain ⟨bA, oA, rfl, hbA, hcc⟩ := hA.at_ ho0
        have x0 : wr.cell? ⟨bA, oA, none⟩ = some (.int .i64 ((oAt o P k).headD 0)) := by
          have h1 := hcc 0 (by omega)
          rw [Nat.add_zero] at h1
          rw [h1, head_at]
        have hcm : (cA : Int) ≤ 9223372036854775807 := by have := hcA.2; unfold maxLen at this; omega
        have hcam : (o.length : Int) ≤ cA := by omega
        obtain ⟨x, hx⟩ : ∃ x, x = (oAt o P k).headD 0 := ⟨_, rfl⟩
        rw [← hx] at x0
        have hoe : oAt o P (k + 1) = rot (oAt o P k) := by rw [oAt, if_pos hin]
        have HRot := Lib.hid (fun w1 w2 A2 A3 c2 c3 g1 g2 g3 g4 => rot_done (wr := wr) (w1 := w1) (w2 := w2) (A2 := A2) (A3 := A3) (c2 := c2) (c3 := c3) hol ho0 hx hoe g1 g2 g3 g4)
        have HRot1 := Lib.hid (fun w2 A3 c3 hn g1 g2 => rot_done1 (wr := wr) (w2 := w2) (A3 := A3) (c3 := c3) hol hn hx hoe g1 g2)
        obtain ⟨xh, hxh⟩ : ∃ xh, xh = (oAt o P (k + 1)).headD 0 := ⟨_, rfl⟩
        rw [← hxh] at HRot HRot1 HND
        have HTl : Hid ((oAt o P k).tail.length = o.length - 1) := Lib.hid (by simp [hol])
        have HK1 := Lib.hid (show k + 1 ≤ 1048576 by omega)
        have HKO := Lib.hid (show 0 + (o.length - 1) ≤ 1048576 by omega)
        have HKP := Lib.hid (show o.length - 1 + 1 ≤ 1048576 by omega)
        have HStep := Lib.hid (fun w5 A5 c5 (hc : Chg (fun _ => False) wr w5) (R5 : Rd w5 1 A5 o.length (ints (oAt o P (k + 1)))) hc5 hAB5 => RoundRs.step (A := A5) (cA := c5) hlt ho0 R5 hc5 (hB.kept hc (fun _ _ h => h)) (hp.kept hc (fun h => h)) (hD.kept hc (fun _ _ h => h)) (hb.trans (hc.below hb.size (fun _ _ h => h.elim))) (Nat.le_trans hG hc.size) hWG HDG.out hAB5)
        have HBk := Lib.hid (fun w5 (hc : Chg (fun _ => False) wr w5) => hB.kept hc (fun _ _ h => h))
        have HPk := Lib.hid (fun w5 (hc : Chg (fun _ => False) wr w5) => plan_cells (hp.kept hc (fun h => h)))
        have HPl := Lib.hid (fun w5 (hc : Chg (fun _ => False) wr w5) => (hp.kept hc (fun h => h)).lt)
        have HGk := Lib.hid (fun w5 (hc : Chg (fun _ => False) wr w5) o1 o2 => show G ≤ ((w5.alloc o1).alloc o2).heap.size by have := hc.size; rw [heap_size_alloc_, heap_size_alloc_]; omega)
        have HBl := Lib.hid (fun g (h : blk B = some g) => (hB.blk_lt g h).2)
        have HTd := Lib.hid (tail_either (o := oAt o P k) (c := cA) hol (hA.alloc (.cells #[] 3)) hcA.1)
        clear hoe hxh hx hcc hA hAB hB hp hD hb hin hol hol1
        by_cases hdiv : ((k : Int) + 1) % e = 0
        · have hpk := Lib.hid (HDV.out hdiv)
          clear HDV HND
          generalize ((k : Int) + 1) / e % o.length = xq at *
          by_cases hcd : cA = 1
          · subst hcd
            have HO1 : Hid (o.length = 1) := Lib.hid (by omega)
            clear HTd HRot
            go_wp2_with (first | (go_at_call 22; refine (HHas.out _).mono ?_; rw [hdy]; rintro e w1 ⟨rfl, rfl⟩) | (at_builtin; refine wpList_app rfl (.tmp 41) (.tmp 43) rfl wr.heap.size (some ⟨wr.heap.size, 0, none⟩) 0 0 [] ?_ ?_ (some ⟨wr.heap.size + 1, 0, none⟩) 1 1 [x] ?_ ?_ ?_ ?_ ?_; (next => rfl); (next => exact (Row.empty _ _ _ (Nat.le_refl _)).alloc _); (next => rfl); (next => exact Rd.litn _ _ _ _ (heap_size_alloc_ _ _).symm); (next => decide); (next => exact Nat.le_trans (le_alloc_ _ _) (le_alloc_ _ _)); intro A3 c3 w3 r3 g3 q3; obtain ⟨b6, rfl, hn6, R5, hc5, hch, hb6, x6⟩ := HRot1.out _ _ _ HO1.out r3 g3; rw [hn6]; obtain ⟨a0, a1, a2, a3, a4⟩ := HPk.out _ hch; have hlw3 := HPl.out _ hch; have HB5 := Lib.hid (HBk.out _ hch); have HSZ := Lib.hid (HGk.out _ hch); have HN := Lib.hid (HStep.out _ _ _ hch R5 hc5 (ab_ne hb6 HBl.out)); have hcc3 : (o.length : Int) ≤ c3 := (by omega); clear R5 hc5 hch hb6 r3 g3 q3 hn6))
            go_region
            go_wp2_with (at_builtin; refine wpList_appk (P := Try.prog) 26 45 3 24 (.agg #[.int .i64 0, .int .i64 0, .int .i64 0]) ?_ ?_ ?_ ?_ ?_ ?_ (.tmp 67) (.tmp 69) ?_ ?_ G B k cB (scr o P e o.length k) ?_ ?_ (some ⟨w3.heap.size + 1, 0, none⟩) 1 1 [[xq, (k : Int) % 8, (k : Int)]] ?_ ?_ ?_ ?_ ?_; (next => exact Try.underlying26); (next => exact entry_info); (next => exact entry_cells); (next => exact entry_pos); (next => exact entry_by); (next => rfl); (next => rfl); (next => rfl); (next => rfl); (next => exact ((HB5.out.alloc _).alloc _).drew); (next => rfl); (next => exact (Rd.litk _ [xq, (k : Int) % 8, (k : Int)] _ #[.int .i64 xq, .int .i64 ((k : Int) % 8), .int .i64 (k : Int)] rfl 3 rfl (w3.heap.size + 1) (heap_size_alloc_ _ _).symm).drew); (next => exact HK1.out); (next => exact HSZ.out _ _); intro B2 c9 w9 h1 h2 h3)
            go_roundw
            case measure => simp [intOf]; omega
            case rel => exact HN.out _ _ 1 _ _ _ _ hpk.out h1 h2 h3
          · have HTd2 := Lib.hid (HTd.out.2 hcd)
            clear HTd
            go_wp2_with (first | (go_at_call 22; refine (HHas.out _).mono ?_; rw [hdy]; rintro e w1 ⟨rfl, rfl⟩) | (at_builtin; refine wpList_app rfl (.tmp 38) (.tmp 40) rfl wr.heap.size (some ⟨wr.heap.size, 0, none⟩) 0 0 [] ?_ ?_ (some ⟨bA, oA + 1, none⟩) (o.length - 1) (cA - 1) (oAt o P k).tail ?_ ?_ ?_ ?_ ?_; (next => rfl); (next => exact Row.empty _ _ _ (Nat.le_refl _)); (next => rfl); (next => exact HTd2.out); (next => exact HKO.out); (next => exact le_alloc_ _ _); intro A2 c2 w2 r2 g2 q2; rw [Nat.zero_add] at r2; clear q2) | (at_builtin; refine wpList_app rfl (.tmp 41) (.tmp 43) rfl wr.heap.size A2 (o.length - 1) c2 ([] ++ (oAt o P k).tail) ?_ ?_ (some ⟨w2.heap.size, 0, none⟩) 1 1 [x] ?_ ?_ ?_ ?_ ?_; (next => rfl); (next => exact r2.alloc _); (next => rfl); (next => exact Rd.lit _ _ _); (next => exact HKP.out); (next => exact Nat.le_trans (le_alloc_ _ _) (Nat.le_trans g2.size (le_alloc_ _ _))); intro A3 c3 w3 r3 g3 q3; obtain ⟨b6, rfl, hn6, R5, hc5, hch, hb6, x6⟩ := HRot.out _ _ _ _ c2 _ g2 (fun g h => (r2.blk_lt g h).1) r3 g3; rw [hn6]; obtain ⟨a0, a1, a2, a3, a4⟩ := HPk.out _ hch; have hlw3 := HPl.out _ hch; have HB5 := Lib.hid (HBk.out _ hch); have HSZ := Lib.hid (HGk.out _ hch); have HN := Lib.hid (HStep.out _ _ _ hch R5 hc5 (ab_ne hb6 HBl.out)); have hcc3 : (o.length : Int) ≤ c3 := (by omega); clear R5 hc5 hch hb6 r2 g2 r3 g3 q3 hn6))
            go_region
            go_wp2_with (at_builtin; refine wpList_appk (P := Try.prog) 26 45 3 24 (.agg #[.int .i64 0, .int .i64 0, .int .i64 0]) ?_ ?_ ?_ ?_ ?_ ?_ (.tmp 67) (.tmp 69) ?_ ?_ G B k cB (scr o P e o.length k) ?_ ?_ (some ⟨w3.heap.size + 1, 0, none⟩) 1 1 [[xq, (k : Int) % 8, (k : Int)]] ?_ ?_ ?_ ?_ ?_; (next => exact Try.underlying26); (next => exact entry_info); (next => exact entry_cells); (next => exact entry_pos); (next => exact entry_by); (next => rfl); (next => rfl); (next => rfl); (next => rfl); (next => exact ((HB5.out.alloc _).alloc _).drew); (next => rfl); (next => exact (Rd.litk _ [xq, (k : Int) % 8, (k : Int)] _ #[.int .i64 xq, .int .i64 ((k : Int) % 8), .int .i64 (k : Int)] rfl 3 rfl (w3.heap.size + 1) (heap_size_alloc_ _ _).symm).drew); (next => exact HK1.out); (next => exact HSZ.out _ _); intro B2 c9 w9 h1 h2 h3)
            go_roundw
            case measure => simp [intOf]; omega
            case rel => exact HN.out _ _ 1 _ _ _ _ hpk.out h1 h2 h3
        · have hpk := Lib.hid (HND.out hdiv)
          clear HDV HND
          by_cases hcd : cA = 1
          · subst hcd
            have HO1 : Hid (o.length = 1) := Lib.hid (by omega)
            clear HTd HRot
            go_wp2_with (first | (go_at_call 22; refine (HHas.out _).mono ?_; rw [hdy]; rintro e w1 ⟨rfl, rfl⟩) | (at_builtin; refine wpList_app rfl (.tmp 41) (.tmp 43) rfl wr.heap.size (some ⟨wr.heap.size, 0, none⟩) 0 0 [] ?_ ?_ (some ⟨wr.heap.size + 1, 0, none⟩) 1 1 [x] ?_ ?_ ?_ ?_ ?_; (next => rfl); (next => exact (Row.empty _ _ _ (Nat.le_refl _)).alloc _); (next => rfl); (next => exact Rd.litn _ _ _ _ (heap_size_alloc_ _ _).symm); (next => decide); (next => exact Nat.le_trans (le_alloc_ _ _) (le_alloc_ _ _)); intro A3 c3 w3 r3 g3 q3; obtain ⟨b6, rfl, hn6, R5, hc5, hch, hb6, x6⟩ := HRot1.out _ _ _ HO1.out r3 g3; rw [hn6]; obtain ⟨a0, a1, a2, a3, a4⟩ := HPk.out _ hch; have hlw3 := HPl.out _ hch; have HB5 := Lib.hid (HBk.out _ hch); have HSZ := Lib.hid (HGk.out _ hch); have HN := Lib.hid (HStep.out _ _ _ hch R5 hc5 (ab_ne hb6 HBl.out)); have hcc3 : (o.length : Int) ≤ c3 := (by omega); clear R5 hc5 hch hb6 r3 g3 q3 hn6) | (at_builtin; refine wpList_appk (P := Try.prog) 26 45 3 24 (.agg #[.int .i64 0, .int .i64 0, .int .i64 0]) ?_ ?_ ?_ ?_ ?_ ?_ (.tmp 67) (.tmp 69) ?_ ?_ G B k cB (scr o P e o.length k) ?_ ?_ (some ⟨w3.heap.size + 1, 0, none⟩) 1 1 [[xh, (k : Int) % 8, (k : Int)]] ?_ ?_ ?_ ?_ ?_; (next => exact Try.underlying26); (next => exact entry_info); (next => exact entry_cells); (next => exact entry_pos); (next => exact entry_by); (next => rfl); (next => rfl); (next => rfl); (next => rfl); (next => exact ((HB5.out.alloc _).alloc _)); (next => rfl); (next => exact (Rd.litk _ [xh, (k : Int) % 8, (k : Int)] _ #[.int .i64 xh, .int .i64 ((k : Int) % 8), .int .i64 (k : Int)] rfl 3 rfl (w3.heap.size + 1) (heap_size_alloc_ _ _).symm)); (next => exact HK1.out); (next => exact HSZ.out _ _); intro B2 c9 w9 h1 h2 h3))
            go_roundw
            case measure => simp [intOf]; omega
            case rel => exact HN.out _ _ 0 _ _ _ _ hpk.out h1 h2 h3
          · have HTd2 := Lib.hid (HTd.out.2 hcd)
            clear HTd
            go_wp2_with (first | (go_at_call 22; refine (HHas.out _).mono ?_; rw [hdy]; rintro e w1 ⟨rfl, rfl⟩) | (at_builtin; refine wpList_app rfl (.tmp 38) (.tmp 40) rfl wr.heap.size (some ⟨wr.heap.size, 0, none⟩) 0 0 [] ?_ ?_ (some ⟨bA, oA + 1, none⟩) (o.length - 1) (cA - 1) (oAt o P k).tail ?_ ?_ ?_ ?_ ?_; (next => rfl); (next => exact Row.empty _ _ _ (Nat.le_refl _)); (next => rfl); (next => exact HTd2.out); (next => exact HKO.out); (next => exact le_alloc_ _ _); intro A2 c2 w2 r2 g2 q2; rw [Nat.zero_add] at r2; clear q2) | (at_builtin; refine wpList_app rfl (.tmp 41) (.tmp 43) rfl wr.heap.size A2 (o.length - 1) c2 ([] ++ (oAt o P k).tail) ?_ ?_ (some ⟨w2.heap.size, 0, none⟩) 1 1 [x] ?_ ?_ ?_ ?_ ?_; (next => rfl); (next => exact r2.alloc _); (next => rfl); (next => exact Rd.lit _ _ _); (next => exact HKP.out); (next => exact Nat.le_trans (le_alloc_ _ _) (Nat.le_trans g2.size (le_alloc_ _ _))); intro A3 c3 w3 r3 g3 q3; obtain ⟨b6, rfl, hn6, R5, hc5, hch, hb6, x6⟩ := HRot.out _ _ _ _ c2 _ g2 (fun g h => (r2.blk_lt g h).1) r3 g3; rw [hn6]; obtain ⟨a0, a1, a2, a3, a4⟩ := HPk.out _ hch; have hlw3 := HPl.out _ hch; have HB5 := Lib.hid (HBk.out _ hch); have HSZ := Lib.hid (HGk.out _ hch); have HN := Lib.hid (HStep.out _ _ _ hch R5 hc5 (ab_ne hb6 HBl.out)); have hcc3 : (o.length : Int) ≤ c3 := (by omega); clear R5 hc5 hch hb6 r2 g2 r3 g3 q3 hn6) | (at_builtin; refine wpList_appk (P := Try.prog) 26 45 3 24 (.agg #[.int .i64 0, .int .i64 0, .int .i64 0]) ?_ ?_ ?_ ?_ ?_ ?_ (.tmp 67) (.tmp 69) ?_ ?_ G B k cB (scr o P e o.length k) ?_ ?_ (some ⟨w3.heap.size + 1, 0, none⟩) 1 1 [[xh, (k : Int) % 8, (k : Int)]] ?_ ?_ ?_ ?_ ?_; (next => exact Try.underlying26); (next => exact entry_info); (next => exact entry_cells); (next => exact entry_pos); (next => exact entry_by); (next => rfl); (next => rfl); (next => rfl); (next => rfl); (next => exact ((HB5.out.alloc _).alloc _)); (next => rfl); (next => exact (Rd.litk _ [xh, (k : Int) % 8, (k : Int)] _ #[.int .i64 xh, .int .i64 ((k : Int) % 8), .int .i64 (k : Int)] rfl 3 rfl (w3.heap.size + 1) (heap_size_alloc_ _ _).symm)); (next => exact HK1.out); (next => exact HSZ.out _ _); intro B2 c9 w9 h1 h2 h3))
            go_roundw
            case measure => simp [intOf]; omega
            case rel => exact HN.out _ _ 0 _ _ _ _ hpk.out h1 h2 h3
      · have hdn : decide ((k : Int) ∈ P) = false := by simpa using hin
        have hoe : oAt o P (k + 1) = oAt o P k := by rw [oAt, if_neg hin]
        have R5 := Lib.hid (show Rd wr 1 A o.length (ints (oAt o P (k + 1))) by rw [hoe]; exact hA)
        have hc5 := Lib.hid hcA
        have HB5 := Lib.hid hB
        have hp5 := Lib.hid hp
        have HD5 := Lib.hid hD
        have hb5 := Lib.hid hb
        have hG5 := Lib.hid hG
        have HAB5 := Lib.hid hAB
        clear hoe hin hA hB hp hD hb hG hAB
        obtain ⟨w5, hw5e⟩ : ∃ w5, w5 = wr := ⟨_, rfl⟩
        subst hw5e
        have hlw5 : W.heap.size < w5.heap.size := hp5.out.lt
        obtain ⟨b6, o6, h6e, h6b, h6c⟩ := R5.out.at_ ho0
        cases h6e
        have x6 : w5.cell? ⟨b6, o6, none⟩ = some (.int .i64 ((oAt o P (k + 1)).headD 0)) := by
          have h := h6c 0 (by omega)
          rw [Nat.add_zero] at h
          rw [h, head_at]
        obtain ⟨a0, a1, a2, a3, a4⟩ := plan_cells hp5.out
        have HN := Lib.hid (fun o1 o2 z w9 B' cB' => RoundRs.step hlt ho0 R5.out hc5.out HB5.out hp5.out HD5.out hb5.out hG5.out hWG HDG.out HAB5.out o1 o2 z w9 B' cB')
        have HSZ := Lib.hid (fun o1 o2 => show G ≤ ((w5.alloc o1).alloc o2).heap.size by have := hG5.out; rw [heap_size_alloc_, heap_size_alloc_]; omega)
        have HK1 := Lib.hid (show k + 1 ≤ 1048576 by omega)
        clear h6c hol hol1 hcA
        generalize (oAt o P (k + 1)).headD 0 = xh at *
        by_cases hdiv : ((k : Int) + 1) % e = 0
        · have hpk := Lib.hid (HDV.out hdiv)
          clear HDV HND
          generalize ((k : Int) + 1) / e % o.length = xq at *
          go_wp2_with ((go_at_call 22; refine (HHas.out _).mono ?_; rw [hdn]; rintro e w1 ⟨rfl, rfl⟩))
          go_region
          go_wp2_with (at_builtin; refine wpList_appk (P := Try.prog) 26 45 3 24 (.agg #[.int .i64 0, .int .i64 0, .int .i64 0]) ?_ ?_ ?_ ?_ ?_ ?_ (.tmp 67) (.tmp 69) ?_ ?_ G B k cB (scr o P e o.length k) ?_ ?_ (some ⟨w5.heap.size + 1, 0, none⟩) 1 1 [[xq, (k : Int) % 8, (k : Int)]] ?_ ?_ ?_ ?_ ?_; (next => exact Try.underlying26); (next => exact entry_info); (next => exact entry_cells); (next => exact entry_pos); (next => exact entry_by); (next => rfl); (next => rfl); (next => rfl); (next => rfl); (next => exact ((HB5.out.alloc _).alloc _).drew); (next => rfl); (next => exact (Rd.litk _ [xq, (k : Int) % 8, (k : Int)] _ #[.int .i64 xq, .int .i64 ((k : Int) % 8), .int .i64 (k : Int)] rfl 3 rfl (w5.heap.size + 1) (heap_size_alloc_ _ _).symm).drew); (next => exact HK1.out); (next => exact HSZ.out _ _); intro B2 c2 w2 h1 h2 h3)
          go_roundw
          case measure => simp [intOf]; omega
          case rel => exact HN.out _ _ 1 _ _ _ _ hpk.out h1 h2 h3
        · have hpk := Lib.hid (HND.out hdiv)
          clear HDV HND
          go_wp2_with (first | (go_at_call 22; refine (HHas.out _).mono ?_; rw [hdn]; rintro e w1 ⟨rfl, rfl⟩) | (at_builtin; refine wpList_appk (P := Try.prog) 26 45 3 24 (.agg #[.int .i64 0, .int .i64 0, .int .i64 0]) ?_ ?_ ?_ ?_ ?_ ?_ (.tmp 67) (.tmp 69) ?_ ?_ G B k cB (scr o P e o.length k) ?_ ?_ (some ⟨w5.heap.size + 1, 0, none⟩) 1 1 [[xh, (k : Int) % 8, (k : Int)]] ?_ ?_ ?_ ?_ ?_; (next => exact Try.underlying26); (next => exact entry_info); (next => exact entry_cells); (next => exact entry_pos); (next => exact entry_by); (next => rfl); (next => rfl); (next => rfl); (next => rfl); (next => exact ((HB5.out.alloc _).alloc _)); (next => rfl); (next => exact (Rd.litk _ [xh, (k : Int) % 8, (k : Int)] _ #[.int .i64 xh, .int .i64 ((k : Int) % 8), .int .i64 (k : Int)] rfl 3 rfl (w5.heap.size + 1) (heap_size_alloc_ _ _).symm)); (next => exact HK1.out); (next => exact HSZ.out _ _); intro B2 c2 w2 h1 h2 h3))
          go_roundw
          case measure => simp [intOf]; omega
          case rel => exact HN.out _ _ 0 _ _ _ _ hpk.out h1 h2 h3
    · obtain rfl : k = S := by omega
      go_wp2
      go_ret2
      exact ⟨_, _, rfl, hB.rd, fun g hg => by have := (hB.blk_lt g hg).1; omega, hb⟩
end Go.Proofs.Ytfmjmhnbdceipaa
