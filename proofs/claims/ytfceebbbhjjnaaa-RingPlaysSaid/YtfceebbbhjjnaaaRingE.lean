/- A ring as a list: push, cut, take. -/
import Derived.Test.YtfceebbbhjjnaaaRingD
import Derived.Test.YtfceebbbhjjnaaaRingNilsW
namespace Go.Proofs.Ytfceebbbhjjnaaa
open Go.ChangeShapes Go.WideShapes Go.ChangeAt Go.RowKit Go.Deep
set_option linter.unusedVariables false

theorem front_take {vs : List Int} {n f m k : Nat} (h : k ≤ m) : (front vs n f m).take k = front vs n f k := by
  simp [front, ← List.map_take, List.take_range, Nat.min_eq_left h]
theorem front_get {vs : List Int} {n f m i : Nat} (h : i < m) : (front vs n f m)[i]? = some (atr vs n f i) := by simp [front, h]
theorem front_drop {vs : List Int} {n f m k : Nat} (h : k ≤ m) (hn : 1 ≤ n) : (front vs n f m).drop k = front vs n ((f + k) % n) (m - k) := by
  apply List.ext_getElem?
  intro i
  rw [List.getElem?_drop]
  by_cases hi : k + i < m
  · rw [front_get hi, front_get (by omega)]
    simp [atr, Nat.add_assoc]
  · rw [List.getElem?_eq_none (by rw [front_len]; omega), List.getElem?_eq_none (by rw [front_len]; omega)]
theorem mod_ne {n f i m : Nat} (hn : 1 ≤ n) (hf : f < n) (hi : i < m) (hm : m < n) : (f + i) % n ≠ (f + m) % n := by
  have key : ∀ a, a < n → (f + a) % n = if f + a < n then f + a else f + a - n := fun a ha => by
    split
    · exact Nat.mod_eq_of_lt (by assumption)
    · rw [Nat.mod_eq_sub_mod (by omega)]
      exact Nat.mod_eq_of_lt (by omega)
  rw [key i (by omega), key m hm]
  split <;> split <;> omega
theorem front_push {vs : List Int} {n f m : Nat} {g : Int} (hn : 1 ≤ n) (hf : f < n) (hm : m < n) (hv : vs.length = n) : front (vs.set ((f + m) % n) g) n f (m + 1) = front vs n f m ++ [g] := by
  have ht : (f + m) % n < n := Nat.mod_lt _ (by omega)
  apply List.ext_getElem?
  intro i
  by_cases hi : i < m
  · rw [front_get (by omega), List.getElem?_append_left (by rw [front_len]; exact hi), front_get hi]
    simp only [atr, List.getD_eq_getElem?_getD, List.getElem?_set]
    rw [if_neg (fun h => mod_ne hn hf hi hm h.symm)]
  · by_cases e : i = m
    · subst e
      rw [front_get (by omega), List.getElem?_append_right (by rw [front_len]; omega), front_len, Nat.sub_self]
      simp [atr, List.getD_eq_getElem?_getD, hv, ht]
    · rw [List.getElem?_eq_none (by rw [front_len]; omega), List.getElem?_eq_none (by simp [front_len]; omega)]
theorem ints_set (vs : List Int) (t : Nat) (g : Int) : (ints vs).toArray.setIfInBounds t (.int .i64 g) = (ints (vs.set t g)).toArray := by
  simp [ints, List.map_set]
theorem made_ints (n : Nat) : madeCells #[Value.int .i64 0] n = (ints (List.replicate n 0)).toArray := by
  apply Array.ext'
  rw [toList_madeCells_one]
  simp [ints]
/-- The blocks of a ring. -/
def Fp1 (b : Nat) (A : Option Addr) (k : Nat) : Prop := k = b ∨ blk A = some k
/-- A ring: who is next, who waits in its row. -/
def RQ (W : World) (B b : Nat) (A : Option Addr) (n : Nat) (nx : Int) (xs : List Int) : Prop :=
  B ≤ b ∧ xs.length ≤ n ∧ ∃ f, f < n ∧ ((A = none ∧ xs = [] ∧ Rg W b nx n (.slice none 0 0) f 0) ∨ ∃ S vs, A = some ⟨S, 0, none⟩ ∧ B ≤ S ∧ Rg W b nx n (.slice (some ⟨S, 0, none⟩) n n) f xs.length ∧ Blk W S 3 (ints vs).toArray ∧ vs.length = n ∧ xs = front vs n f xs.length)
def RAft (W W' : World) (B b : Nat) (A : Option Addr) (n : Nat) (nx : Int) (xs : List Int) : Prop := ∃ A', RQ W' B b A' n nx xs ∧ Chg (Fp1 b A) W W' ∧ ∀ g, Fp1 b A' g → Fp1 b A g ∨ W.heap.size ≤ g
section
variable {S : Nat → Prop} {w w' W W' : World} {B b n : Nat} {A A' : Option Addr} {nx nx' : Int} {xs xs' : List Int}
theorem RQ.kept (h : RQ w B b A n nx xs) (hc : Chg S w w') (hn : ∀ k, Fp1 b A k → ¬ S k) : RQ w' B b A n nx xs := by
  obtain ⟨h0, h1, f, h2, h3⟩ := h
  refine ⟨h0, h1, f, h2, ?_⟩
  rcases h3 with ⟨e, e2, h4⟩ | ⟨S', vs, rfl, h4, h5, h6, h7⟩
  · exact .inl ⟨e, e2, Blk.kept h4 hc (hn _ (.inl rfl))⟩
  · exact .inr ⟨S', vs, rfl, h4, Blk.kept h5 hc (hn _ (.inl rfl)), Blk.kept h6 hc (hn _ (.inr rfl)), h7⟩
theorem RQ.same (h : RQ w B b A n nx xs) (hc : Chg (fun _ => False) w w') : RQ w' B b A n nx xs := h.kept hc (fun _ _ h => h)
theorem RQ.fp_lt (h : RQ w B b A n nx xs) : ∀ k, Fp1 b A k → B ≤ k ∧ k < w.heap.size := by
  obtain ⟨h0, h1, f, h2, h3⟩ := h
  rcases h3 with ⟨rfl, e2, h4⟩ | ⟨S', vs, rfl, h4, h5, h6, h7⟩
  · rintro k (rfl | h)
    · exact ⟨h0, Blk.lt h4⟩
    · cases h
  · rintro k (rfl | h)
    · exact ⟨h0, Blk.lt h5⟩
    · have := Option.some.inj (show some S' = some k from h)
      subst this
      exact ⟨h4, h6.lt⟩
theorem RQ.cells (h : RQ w B b A n nx xs) : w.cell? ⟨b, 0, none⟩ = some (.int .i64 nx) ∧ w.cell? ⟨b, 1, none⟩ = some (.int .i64 (n : Int)) ∧ w.cell? ⟨b, 4, none⟩ = some (.int .i64 (xs.length : Int)) ∧ w.frozen? ⟨b, 0, none⟩ = false ∧ b < w.heap.size := by
  obtain ⟨h0, h1, f, h2, h3⟩ := h
  rcases h3 with ⟨rfl, rfl, h4⟩ | ⟨S', vs, rfl, h4, h5, h6, h7⟩
  · exact ⟨h4.nxt, h4.size_, h4.many, Blk.frozen h4 0, Blk.lt h4⟩
  · exact ⟨h5.nxt, h5.size_, h5.many, Blk.frozen h5 0, Blk.lt h5⟩
theorem RQ.setnx (h : RQ w B b A n nx xs) (v : Int) : RQ (w.setCell ⟨b, 0, none⟩ (.int .i64 v)) B b A n v xs ∧ Chg (fun g => g = b) w (w.setCell ⟨b, 0, none⟩ (.int .i64 v)) := by
  obtain ⟨h0, h1, f, h2, h3⟩ := h
  refine ⟨⟨h0, h1, f, h2, ?_⟩, Chg.setCell (S := fun g => g = b) (Chg.refl _ _) (.inl rfl) _⟩
  rcases h3 with ⟨rfl, rfl, h4⟩ | ⟨S', vs, rfl, h4, h5, h6, h7⟩
  · exact .inl ⟨rfl, rfl, by simpa [Rg] using Blk.set_ h4 0 (.int .i64 v)⟩
  · refine .inr ⟨S', vs, rfl, h4, by simpa [Rg] using Blk.set_ h5 0 (.int .i64 v), Blk.far h6 (p := ⟨b, 0, none⟩) ?_ _, h7⟩
    intro e
    exact (Blk.ne_ h6 h5 (by decide)) e
theorem fp1_b {g : Nat} (h : g = b) : Fp1 b A g := .inl h
theorem RAft.ofb (hq : RQ W' B b A n nx xs) (hc : Chg (fun g => g = b) W W') : RAft W W' B b A n nx xs := ⟨A, hq, hc.mono (fun _ _ h => .inl h), fun _ h => .inl h⟩
theorem RAft.pre {W0 : World} (hc : Chg (fun g => g = b) W0 W) (h : RAft W W' B b A n nx xs) : RAft W0 W' B b A n nx xs := by
  obtain ⟨A', h1, h2, h3⟩ := h
  refine ⟨A', h1, (hc.mono (S' := Fp1 b A) (fun _ _ h => .inl h)).trans h2 (fun _ _ h => h), fun g hg => ?_⟩
  rcases h3 g hg with h | h
  · exact .inl h
  · have := hc.size; right; omega
end
theorem rq_new (W : World) (B n : Nat) (hB : B ≤ W.heap.size) (hn : 1 ≤ n) : RQ (W.alloc (.cells #[.int .i64 0, .int .i64 (n : Int), .slice none 0 0, .int .i64 0, .int .i64 0] 44)) B W.heap.size none n 0 [] :=
  ⟨hB, Nat.zero_le _, 0, by omega, .inl ⟨rfl, rfl, Blk.new _ _ _⟩⟩
section
variable {W : World} {B b n : Nat} {A : Option Addr} {nx : Int} {xs : List Int}
theorem push_q (g : Int) (h : RQ W B b A n nx xs) (h1 : 1 ≤ n) (h2 : n ≤ 1000) (hlt : xs.length < n) (hB : B ≤ W.heap.size) :
    Calls Try.prog 28 #[.pointer (some ⟨b, 0, none⟩), .int .i64 g] W fun e W' => e = .returned (.bool true) ∧ RAft W W' B b A n nx (xs ++ [g]) := by
  obtain ⟨h0, hxl, f, hf, h3⟩ := h
  rcases h3 with ⟨rfl, rfl, h4⟩ | ⟨S', vs, rfl, h4, h5, h6, h7, h8⟩
  · refine (push_none W b nx g n f 0 h1 h2 hf (by omega) h4).mono ?_
    rintro e W' ⟨rfl, r1, r2, r3⟩
    rw [made_ints, ints_set] at r2
    refine ⟨rfl, some ⟨W.heap.size, 0, none⟩, ⟨h0, by simp; omega, f, hf, .inr ⟨W.heap.size, _, rfl, hB, by simpa using r1, r2, by simp, ?_⟩⟩, r3.mono (fun _ _ h => .inl h), fun k hk => ?_⟩
    · have := front_push (vs := List.replicate n (0 : Int)) (m := 0) (g := g) h1 hf (by omega) (by simp)
      simpa [front] using this.symm
    · rcases hk with h | h
      · exact .inl (.inl h)
      · have := Option.some.inj (show some W.heap.size = some k from h); right; omega
  · refine (push_some W b S' nx g n f xs.length _ h1 h2 hf hlt h5 h6 (by simp [h7])).mono ?_
    rintro e W' ⟨rfl, r1, r2, r3⟩
    rw [ints_set] at r2
    refine ⟨rfl, some ⟨S', 0, none⟩, ⟨h0, by simp; omega, f, hf, .inr ⟨S', _, rfl, h4, by simpa using r1, r2, by simpa using h7, ?_⟩⟩, r3.mono (fun k _ h => by rcases h with h | h; exact .inl h; exact .inr (by rw [h]; rfl)), fun k hk => .inl hk⟩
    have := front_push (vs := vs) (m := xs.length) (g := g) h1 hf hlt h7
    rw [← h8] at this
    simpa using this.symm
set_option maxHeartbeats 4000000 in
theorem push_full (g : Int) (h : RQ W B b A n nx xs) (hlt : xs.length = n) :
    Calls Try.prog 28 #[.pointer (some ⟨b, 0, none⟩), .int .i64 g] W fun e W' => e = .returned (.bool false) ∧ ∃ q, W' = W.drewN q := by
  obtain ⟨c0, c1, c4, f0, kb⟩ := h.cells
  rw [hlt] at c4
  clear h
  go_enter Try.func28, Try.ntmps28
  go_wp2
  try go_quiet (fail)
  try go_wp2
  go_ret
  first | exact ⟨rfl, 0, rfl⟩ | exact ⟨rfl, _, rfl⟩
theorem cut_q (k : Nat) (h : RQ W B b A n nx xs) (h1 : 1 ≤ n) (h2 : n ≤ 1000) (hk : k ≤ xs.length) :
    Calls Try.prog 29 #[.pointer (some ⟨b, 0, none⟩), .int .i64 (k : Int)] W fun e W' => e = .returned (.slice (some ⟨W.heap.size, 0, none⟩) k k) ∧ Row W' W.heap.size 3 1 (some ⟨W.heap.size, 0, none⟩) k k (ints (xs.take k)) ∧ RQ W' B b A n nx (xs.drop k) ∧ Chg (fun g => g = b) W W' := by
  obtain ⟨h0, hxl, f, hf, h3⟩ := h
  rcases h3 with ⟨rfl, rfl, h4⟩ | ⟨S', vs, rfl, h4, h5, h6, h7, h8⟩
  · obtain rfl : k = 0 := by simpa using hk
    refine (cut_zero W b nx n f 0 _ h1 h2 hf (by omega) h4).mono ?_
    rintro e W' ⟨rfl, r1, r2, r3⟩
    exact ⟨rfl, by simpa using r2, ⟨h0, by simp, f, hf, .inl ⟨rfl, by simp, r1⟩⟩, r3⟩
  · refine (cut_row W b S' nx n f xs.length k vs h1 h2 hf hxl hk h5 h6 h7).mono ?_
    rintro e W' ⟨rfl, r1, r2, r3⟩
    have hbS : ¬ S' = b := fun e => (Blk.ne_ h6 h5 (by decide)) e
    refine ⟨rfl, ?_, ⟨h0, by simp; omega, (f + k) % n, Nat.mod_lt _ (by omega), .inr ⟨S', vs, rfl, h4, by simpa using r1, h6.kept r3 hbS, h7, ?_⟩⟩, r3⟩
    · rw [h8, front_take hk]; exact r2
    · have := front_drop (vs := vs) (n := n) (f := f) (m := xs.length) (k := k) hk h1
      rw [← h8] at this
      rw [this]; simp [front_len]
end
end Go.Proofs.Ytfceebbbhjjnaaa
