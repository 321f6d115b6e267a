/- How many entries pick each machine. -/
import Derived.Test.YtfmjmhnbdceipaaPcG
namespace Go.Proofs.Ytfmjmhnbdceipaa
open Go.ChangeShapes Go.WideShapes Go.ChangeAt Go.RowKit Go.Deep
set_option linter.unusedVariables false

def bump (l : List Int) (j : Nat) : List Int := l.set j (l.getD j 0 + 1)
def shr (m : Nat) : List (List Int) → List Int
  | es => es.foldl (fun l e => bump l (modOf (e.getD 0 0) m).toNat) (List.replicate m 0)
theorem shr_snoc (m : Nat) (es : List (List Int)) (e : List Int) : shr m (es ++ [e]) = bump (shr m es) (modOf (e.getD 0 0) m).toNat := by simp [shr]
theorem bump_len (l : List Int) (j : Nat) : (bump l j).length = l.length := by simp [bump]
theorem fold_facts (m : Nat) : ∀ (es : List (List Int)) (l : List Int), l.length = m → (es.foldl (fun l e => bump l (modOf (e.getD 0 0) m).toNat) l).length = m
  | [], l, h => h
  | e :: es, l, h => fold_facts m es _ (by rw [bump_len]; exact h)
@[simp] theorem shr_len (m : Nat) (es : List (List Int)) : (shr m es).length = m := fold_facts m es _ (by simp)
theorem bump_bound {l : List Int} {q : Int} (h : ∀ j, 0 ≤ l.getD j 0 ∧ l.getD j 0 ≤ q) (hq : 0 ≤ q) (i : Nat) : ∀ j, 0 ≤ (bump l i).getD j 0 ∧ (bump l i).getD j 0 ≤ q + 1 := by
  intro j
  have hj := h j
  have hi := h i
  unfold bump
  simp only [List.getD, List.getElem?_set] at *
  split
  · rename_i e
    subst e
    split
    · simp at *; omega
    · simp; omega
  · omega
theorem shr_bound (m : Nat) : ∀ (n : Nat) (es : List (List Int)), es.length = n → ∀ j, 0 ≤ (shr m es).getD j 0 ∧ (shr m es).getD j 0 ≤ n
  | 0, es, h, j => by
    have : es = [] := List.eq_nil_of_length_eq_zero h
    subst this
    simp only [shr, List.foldl_nil, List.getD, List.getElem?_replicate]
    split <;> simp
  | n + 1, es, h, j => by
    have hne : es ≠ [] := by intro e; subst e; simp at h
    have e1 := List.dropLast_concat_getLast hne
    have h1 := shr_bound m n es.dropLast (by simp; omega)
    rw [← e1, shr_snoc]
    have := bump_bound h1 (by omega) (modOf ((es.getLast hne).getD 0 0) m).toNat j
    omega
def RoundSh (W : World) (S m : Nat) (es : List (List Int)) (i : Value) (wr : World) : Prop := ∃ k : Nat, k ≤ es.length ∧ i = .int .i64 k ∧ Blk wr S 3 (ints (shr m (es.take k))).toArray ∧ Chg (fun _ => False) W wr ∧ W.heap.size ≤ S
theorem RoundSh.step {W wr w2 : World} {S m k q : Nat} {es : List (List Int)} (hk : k < es.length) (hB : Blk wr S 3 (ints (shr m (es.take k))).toArray) (hc : Chg (fun _ => False) W wr) (hS : W.heap.size ≤ S) (hc2 : Chg (fun _ => False) wr w2) (hq : modOf ((es[k]).getD 0 0) m = q) :
    RoundSh W S m es (.int .i64 ((k : Int) + 1)) (w2.setCell ⟨S, q, none⟩ (.int .i64 ((shr m (es.take k)).getD q 0 + 1))) := by
  refine ⟨k + 1, by omega, by go_num, ?_, (hc.trans hc2 (fun _ _ h => h)).setCell (p := ⟨S, q, none⟩) (.inr hS) _, hS⟩
  rw [List.take_succ_eq_append_getElem hk, shr_snoc, hq, Int.toNat_natCast]
  exact blk_set (hB.kept hc2 (fun h => h)) q _
theorem RoundSh.alloc {W wr : World} {S m : Nat} {es : List (List Int)} {i : Value} (h : RoundSh W S m es i wr) (o : Obj) : RoundSh W S m es i (wr.alloc o) := by
  obtain ⟨k, h1, h2, h3, h4, h5⟩ := h
  exact ⟨k, h1, h2, h3.alloc o, h4.alloc o, h5⟩
theorem within_yes (n a b : Int) (W : World) (h1 : a ≤ n) (h2 : n ≤ b) : Calls Try.prog 23 #[.int .i64 n, .int .i64 a, .int .i64 b] W fun e W' => e = .returned (.bool true) ∧ W = W' := by
  go_enter Try.func23, Try.ntmps23
  go_wp2
  go_ret
  exact ⟨rfl, rfl⟩
set_option maxHeartbeats 4000000 in
theorem shares_yes (A : Option Addr) (n c m : Nat) (es : List (List Int)) (W : World) (hA : Rd W 3 A n (kv es)) (hu : Uni 3 es) (hn : n ≤ 65536) (m1 : 1 ≤ m) (m2 : m ≤ 64) :
    Calls Try.prog 15 #[.slice A n c, .int .i64 m] W fun e W' => e = .returned (.slice (some ⟨W.heap.size, 0, none⟩) m m) ∧ Blk W' W.heap.size 3 (ints (shr m es)).toArray ∧ Chg (fun _ => False) W W' := by
  have hl := hA.lenk hu (by decide)
  subst hl
  have hmk := run_make_row' (P := Try.prog) 37 3 (.int .i64 0) 8 Try.underlying37 int_info rfl .i64 .i64 m (by omega) (by omega)
  have m3 : (1 : Int) ≤ m := by omega
  have m4 : (m : Int) ≤ 64 := by omega
  go_enter Try.func15, Try.ntmps15
  go_wp2_with (go_at_call 23; refine (within_yes _ _ _ _ m3 m4).mono ?_; rintro e w1 ⟨rfl, rfl⟩)
  go_loopw [15] (fun i wr => RoundSh W W.heap.size m es i wr) (fun i _ => es.length - (intOf i).toNat)
  case atStart => exact ⟨0, Nat.zero_le _, rfl, by rw [made_zero]; have h := Blk.new W 3 (ints (iota 0 ++ List.replicate (m - 0) 0)).toArray; simpa [shr, iota] using h, (Chg.refl _ _).alloc _, Nat.le_refl _⟩
  case round =>
    clear hmk
    obtain ⟨k, hk, rfl, hB, hc, hS⟩ := hrel
    have k0 : (0 : Int) ≤ k := by omega
    by_cases hlt : k < es.length
    · have k1 : (k : Int) < es.length := by omega
      obtain ⟨_, b, o, rfl, hb, hcc⟩ := (hA.kept hc (fun _ _ h => h)).getk hu (by decide) (by omega)
      have e0 := hcc k hlt 0 (by decide)
      have e1 := hcc k hlt 1 (by decide)
      have e2 := hcc k hlt 2 (by decide)
      obtain ⟨q0, q1⟩ := modOf_in (i := (es[k]).getD 0 0) (n := m) m3
      obtain ⟨q, hq⟩ : ∃ q : Nat, modOf ((es[k]).getD 0 0) m = q := ⟨(modOf ((es[k]).getD 0 0) m).toNat, by omega⟩
      have H9 := Lib.hid (fun w2 hc2 => RoundSh.step hlt hB hc hS (w2 := w2) hc2 hq)
      have hmod := fun W => mod_any ((es[k]).getD 0 0) m W (by omega)
      rw [hq] at hmod q1
      have HMod := Lib.hid hmod
      have hbd := shr_bound m k (es.take k) (by rw [List.length_take]; omega) q
      have hcnt := blk_int hB q (by simp; omega)
      have f0 := hB.frozen q
      have hBl := hB.lt
      generalize (shr m (es.take k)).getD q 0 = cn at *
      generalize (es[k]).getD 0 0 = p0 at *
      generalize (es[k]).getD 1 0 = p1 at *
      generalize (es[k]).getD 2 0 = p2 at *
      simp only [Nat.add_zero] at e0
      rw [← Nat.add_assoc] at e1 e2
      obtain ⟨b0, b1⟩ := hbd
      have q2 : (0 : Int) ≤ q := by omega
      clear hq hmod q0 hcc hB hc hA
      go_wp2_with (go_at_call 21; refine (HMod.out _).mono ?_; rintro e w1 ⟨rfl, rfl⟩)
      go_roundw
      case measure => simp [intOf]; omega
      case rel => exact (H9.out wr (Chg.refl _ _)).alloc _
    · obtain rfl : k = es.length := by omega
      rw [List.take_length] at hB
      go_wp2
      go_ret
      exact ⟨rfl, hB, hc⟩
theorem shares_no (A : Option Addr) (n c : Nat) (m : Int) (W : World) (h : m < 1 ∨ 64 < m) : Calls Try.prog 15 #[.slice A n c, .int .i64 m] W fun e W' => e = .returned (.slice none 0 0) ∧ W' = W := by
  by_cases h0 : m < 1
  · have h1 : ¬ 1 ≤ m := by omega
    clear h
    go_enter Try.func15, Try.ntmps15
    go_wp2
    go_ret
    exact ⟨rfl, rfl⟩
  · have h1 : 1 ≤ m := by omega
    have h2 : ¬ m ≤ 64 := by omega
    clear h
    go_enter Try.func15, Try.ntmps15
    go_wp2
    go_ret
    exact ⟨rfl, rfl⟩
def RoundRh (W : World) (S m : Nat) (es : List (List Int)) (i : Value) (wr : World) : Prop := RoundSh W S m es i wr
set_option maxHeartbeats 4000000 in
theorem rshares_yes (A : Option Addr) (n c m : Nat) (es : List (List Int)) (W : World) (hA : Rd W 3 A n (kv es)) (hu : Uni 3 es) (hn : n ≤ 65536) (m1 : 1 ≤ m) (m2 : m ≤ 64) :
    Calls Try.prog 16 #[.slice A n c, .int .i64 m] W fun e W' => e = .returned (.slice (some ⟨W.heap.size, 0, none⟩) m m) ∧ Blk W' W.heap.size 3 (ints (shr m es)).toArray ∧ Chg (fun _ => False) W W' := by
  have hl := hA.lenk hu (by decide)
  subst hl
  have hmk := run_make_row' (P := Try.prog) 37 3 (.int .i64 0) 8 Try.underlying37 int_info rfl .i64 .i64 m (by omega) (by omega)
  have m3 : (1 : Int) ≤ m := by omega
  have m4 : (m : Int) ≤ 64 := by omega
  go_enter Try.func16, Try.ntmps16
  go_wp2
  go_loopw [6] (fun i wr => RoundSh W W.heap.size m es i wr) (fun i _ => es.length - (intOf i).toNat)
  case atStart => exact ⟨0, Nat.zero_le _, rfl, by rw [made_zero]; have h := Blk.new W 3 (ints (iota 0 ++ List.replicate (m - 0) 0)).toArray; simpa [shr, iota] using h, (Chg.refl _ _).alloc _, Nat.le_refl _⟩
  case round =>
    clear hmk
    obtain ⟨k, hk, rfl, hB, hc, hS⟩ := hrel
    have k0 : (0 : Int) ≤ k := by omega
    by_cases hlt : k < es.length
    · have k1 : (k : Int) < es.length := by omega
      obtain ⟨_, b, o, rfl, hb, hcc⟩ := (hA.kept hc (fun _ _ h => h)).getk hu (by decide) (by omega)
      have e0 := hcc k hlt 0 (by decide)
      obtain ⟨q0, q1⟩ := modOf_in (i := (es[k]).getD 0 0) (n := m) m3
      obtain ⟨q, hq⟩ : ∃ q : Nat, modOf ((es[k]).getD 0 0) m = q := ⟨(modOf ((es[k]).getD 0 0) m).toNat, by omega⟩
      have H9 := Lib.hid (fun w2 hc2 => RoundSh.step hlt hB hc hS (w2 := w2) hc2 hq)
      have hmod := fun W => rmod_any ((es[k]).getD 0 0) m W (by omega)
      rw [hq] at hmod q1
      have HMod := Lib.hid hmod
      have hbd := shr_bound m k (es.take k) (by rw [List.length_take]; omega) q
      have hcnt := blk_int hB q (by simp; omega)
      have f0 := hB.frozen q
      have hBl := hB.lt
      generalize (shr m (es.take k)).getD q 0 = cn at *
      generalize (es[k]).getD 0 0 = p0 at *
      simp only [Nat.add_zero] at e0
      obtain ⟨b0, b1⟩ := hbd
      have q2 : (0 : Int) ≤ q := by omega
      clear hq hmod q0 hcc hB hc hA
      go_wp2_with (go_at_call 25; refine (HMod.out _).mono ?_; rintro e w1 ⟨rfl, rfl⟩)
      go_roundw
      case measure => simp [intOf]; omega
      case rel => exact H9.out wr (Chg.refl _ _)
    · obtain rfl : k = es.length := by omega
      rw [List.take_length] at hB
      go_wp2
      go_ret
      exact ⟨rfl, hB, hc⟩
theorem rshares_no (A : Option Addr) (n c : Nat) (m : Int) (W : World) (h : m < 1 ∨ 64 < m) : Calls Try.prog 16 #[.slice A n c, .int .i64 m] W fun e W' => e = .returned (.slice none 0 0) ∧ W' = W := by
  by_cases h0 : m < 1
  · clear h
    go_enter Try.func16, Try.ntmps16
    go_wp2
    go_ret
    exact ⟨rfl, rfl⟩
  · have h2 : 64 < m := by omega
    clear h
    go_enter Try.func16, Try.ntmps16
    go_wp2
    go_ret
    exact ⟨rfl, rfl⟩
end Go.Proofs.Ytfmjmhnbdceipaa
