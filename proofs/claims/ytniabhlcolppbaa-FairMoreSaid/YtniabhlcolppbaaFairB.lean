/- A watch of steps: Step. -/
import Derived.Test.YtniabhlcolppbaaFairA
import Derived.Handy
namespace Go.Proofs.Ytniabhlcolppbaa
open Go.ChangeShapes Go.WideShapes Go.ChangeAt Go.RowKit Go.Deep
set_option linter.unusedVariables false

theorem make_ints (N : Nat) (hN : N ≤ 1000) (W : World) : (Instr.makeSlice 35 (.int .i64 (N : Int)) (.int .i64 (N : Int))).run Try.prog W = .ok (.slice (some ⟨W.heap.size, 0, none⟩) N N) (W.alloc (.cells (madeCells #[.int .i64 0] N) 3)) := by
  obtain ⟨i0, hi, hz0, hz1, hz2⟩ := info_parts int_info
  have hr := run_make (P := Try.prog) W 35 3 i0 (.int .i64 0) Try.underlying35 hi hz0 .i64 .i64 N N (by omega) (by omega) (by rw [hz2]; omega) (by omega)
  simp only [Int.toNat_natCast, hz1, Nat.mul_one] at hr
  exact hr
/-- Does a machine rest, or is it picked? -/
def rest (pk : Nat → Bool) (p : Int) (m : Nat) : Bool := pk m || decide ((m : Int) = p)
def gc (cnt : List Int) (m : Nat) : Int := cnt.getD m 0
def nxc (pk : Nat → Bool) (p : Int) (cnt : List Int) (m : Nat) : Int := if rest pk p m = true then 0 else gc cnt m + 1
/-- The counts when j machines have been gone through. -/
def rowAt (pk : Nat → Bool) (p : Int) (cnt : List Int) (n j : Nat) : List Int := (List.range n).map fun m => if m < j then nxc pk p cnt m else gc cnt m
def wAt (pk : Nat → Bool) (p : Int) (cnt : List Int) (wo d : Int) : Nat → Int
  | 0 => max wo d
  | j + 1 => if rest pk p j = true then wAt pk p cnt wo d j else max (wAt pk p cnt wo d j) (gc cnt j + 2)
def uAt (pk : Nat → Bool) (p : Int) (cnt : List Int) (k d : Int) (u : Bool) (n : Nat) : Nat → Bool
  | 0 => (u || decide (k < d)) || decide (n = 0)
  | j + 1 => if rest pk p j = true then uAt pk p cnt k d u n j else uAt pk p cnt k d u n j || decide (k < gc cnt j + 2)
theorem rowAt_len (pk : Nat → Bool) (p : Int) (cnt : List Int) (n j : Nat) : (rowAt pk p cnt n j).length = n := by simp [rowAt]
theorem rowAt_get {pk : Nat → Bool} {p : Int} {cnt : List Int} {n j m : Nat} (h : m < n) : (ints (rowAt pk p cnt n j))[m]? = some (.int .i64 (if m < j then nxc pk p cnt m else gc cnt m)) := by
  rw [ints_get _ _ (by rw [rowAt_len]; exact h)]
  simp [rowAt]
theorem rowAt_step {pk : Nat → Bool} {p : Int} {cnt : List Int} {n j : Nat} (h : j < n) : (ints (rowAt pk p cnt n j)).toArray.setIfInBounds j (.int .i64 (nxc pk p cnt j)) = (ints (rowAt pk p cnt n (j + 1))).toArray := by
  apply Array.ext'
  simp only [List.setIfInBounds_toArray]
  apply List.ext_getElem? 
  intro i
  rw [List.getElem?_set]
  by_cases e : j = i
  · subst e
    rw [if_pos rfl, if_pos (by rw [ints_length, rowAt_len]; exact h), rowAt_get h, if_pos (by omega)]
  · rw [if_neg e]
    by_cases hi : i < n
    · rw [rowAt_get hi, rowAt_get hi]
      by_cases h1 : i < j
      · rw [if_pos h1, if_pos (by omega)]
      · rw [if_neg h1, if_neg (by omega)]
    · rw [List.getElem?_eq_none (by rw [ints_length, rowAt_len]; omega), List.getElem?_eq_none (by rw [ints_length, rowAt_len]; omega)]
/-- Truths that came in. -/
def Pk (w : World) (A : Option Addr) (n : Nat) (pk : Nat → Bool) : Prop := 0 < n → ∃ b o, A = some ⟨b, o, none⟩ ∧ b < w.heap.size ∧ ∀ m, m < n → w.cell? ⟨b, o + m, none⟩ = some (.bool (pk m))
/-- A watch, with its counts. -/
def Wt (W : World) (B b : Nat) (k : Int) (u : Bool) (wo : Int) (cnt : List Int) : Prop := B ≤ b ∧ ∃ rv, Wb W b k rv u wo ∧ ((rv = .slice none 0 0 ∧ cnt = []) ∨ ∃ S, rv = .slice (some ⟨S, 0, none⟩) cnt.length cnt.length ∧ Blk W S 3 (ints cnt).toArray ∧ B ≤ S)
theorem Wt.kept {S : Nat → Prop} {W W' : World} {B b : Nat} {k wo : Int} {u : Bool} {cnt : List Int} (h : Wt W B b k u wo cnt) (hc : Chg S W W') (hn : ¬ S b) (hT : ∀ g cs, Blk W g 3 cs → ¬ S g) : Wt W' B b k u wo cnt := by
  obtain ⟨h0, rv, h1, h2⟩ := h
  refine ⟨h0, rv, Blk.kept h1 hc hn, ?_⟩
  rcases h2 with h2 | ⟨S', h3, h4, h5⟩
  · exact .inl h2
  · exact .inr ⟨S', h3, Blk.kept h4 hc (hT _ _ h4), h5⟩
def StepR (W : World) (b S n : Nat) (k wo d : Int) (u : Bool) (pk : Nat → Bool) (p : Int) (cnt : List Int) (i : Value) (wr : World) : Prop :=
  ∃ j : Nat, j ≤ n ∧ i = .int .i64 j ∧ Wb wr b k (.slice (some ⟨S, 0, none⟩) n n) (uAt pk p cnt k d u n j) (wAt pk p cnt wo d j) ∧ Blk wr S 3 (ints (rowAt pk p cnt n j)).toArray ∧ Chg (fun g => g = b ∨ g = S) W wr
theorem rowAt_zero (pk : Nat → Bool) (p : Int) (cnt : List Int) (n : Nat) : splice (List.replicate n (Value.int .i64 0)) 0 ((ints cnt).take n) = ints (rowAt pk p cnt n 0) := by
  apply List.ext_getElem?
  intro i
  unfold splice
  by_cases hi : i < n
  · rw [rowAt_get hi, if_neg (by omega)]
    simp only [List.take_zero, List.nil_append, Nat.zero_add]
    by_cases hc : i < cnt.length
    · rw [List.getElem?_append_left (by simp; omega), List.getElem?_take, if_pos hi, ints_get _ _ hc]
      simp [gc, List.getD, hc]
    · rw [List.getElem?_append_right (by simp; omega), List.getElem?_drop]
      simp only [List.length_take, ints_length]
      rw [show min n cnt.length + (i - min n cnt.length) = i by omega, List.getElem?_replicate, if_pos hi]
      simp [gc, List.getD, hc]
  · rw [List.getElem?_eq_none (by simp; omega), List.getElem?_eq_none (by rw [ints_length, rowAt_len]; omega)]
theorem make_zero (n : Nat) (hn : n ≤ 1000) (W : World) : (Instr.makeSlice 35 (.int .i64 (n : Int)) (.int .i64 (n : Int))).run Try.prog W = .ok (.slice (some ⟨W.heap.size, 0, none⟩) n n) (W.alloc (.cells (List.replicate n (Value.int .i64 0)).toArray 3)) := by
  have e : madeCells #[Value.int .i64 0] n = (List.replicate n (Value.int .i64 0)).toArray := by
    apply Array.ext'
    rw [toList_madeCells_one]
  rw [← e]
  exact make_ints n hn W
theorem StepR.start {W w1 w3 : World} {B b n : Nat} {k wo d pick p : Int} {u : Bool} {pk : Nat → Bool} {cnt : List Int} {rv : Value} {U : Bool} {O : Int} (hBb : B ≤ b) (hb0 : Wb W b k rv u wo) (h : Wb w1 b k rv U O ∧ Chg (fun g => g = b) W w1 ∧ w1.cell? ⟨W.heap.size, 0, none⟩ = some (.int .i64 pick)) (hb : Below w1.heap.size (w1.alloc (.cells (Array.replicate n (Value.int .i64 0)) 3)) w3)
    (hS : w3.heap[w1.heap.size]? = some (.cells (splice (List.replicate n (Value.int .i64 0)) 0 ((ints cnt).take n)).toArray 3 (0, 0))) :
    w3.cell? ⟨b, 0, none⟩ = some (.int .i64 k) ∧ w3.cell? ⟨b, 1, none⟩ = some rv ∧ w3.cell? ⟨b, 2, none⟩ = some (.bool U) ∧ w3.cell? ⟨b, 3, none⟩ = some (.int .i64 O) ∧ w3.frozen? ⟨b, 1, none⟩ = false ∧ w3.frozen? ⟨b, 2, none⟩ = false ∧ w3.frozen? ⟨b, 3, none⟩ = false ∧ b < w3.heap.size ∧ w3.cell? ⟨W.heap.size, 0, none⟩ = some (.int .i64 pick) ∧
      (Wb (w3.setCell ⟨b, 1, none⟩ (.slice (some ⟨w1.heap.size, 0, none⟩) n n)) b k (.slice (some ⟨w1.heap.size, 0, none⟩) n n) U O ∧ Blk (w3.setCell ⟨b, 1, none⟩ (.slice (some ⟨w1.heap.size, 0, none⟩) n n)) w1.heap.size 3 (ints (rowAt pk p cnt n 0)).toArray ∧ Chg (fun g => g = b ∨ g = w1.heap.size) W (w3.setCell ⟨b, 1, none⟩ (.slice (some ⟨w1.heap.size, 0, none⟩) n n)) ∧ W.heap.size < w1.heap.size ∧ (w3.setCell ⟨b, 1, none⟩ (.slice (some ⟨w1.heap.size, 0, none⟩) n n)).cell? ⟨W.heap.size, 0, none⟩ = some (.int .i64 pick)) := by
  obtain ⟨h1, hc, hpk⟩ := h
  rw [rowAt_zero pk p] at hS
  have hs := hc.size
  have kb := hb0.cells.2.2.2.2.2.2.2
  have kW : W.heap.size < w1.heap.size := World.block_lt_of_cell? w1 ⟨W.heap.size, 0, none⟩ hpk
  have h3 : Wb w3 b k rv U O := (hb.block b (by have := h1.cells.2.2.2.2.2.2.2; omega)).trans (Blk.alloc h1 _)
  obtain ⟨c0, c1, c2, c3, f1, f2, f3, k3⟩ := h3.cells
  have hp3 : w3.cell? ⟨W.heap.size, 0, none⟩ = some (.int .i64 pick) := by
    rw [hb.cell (p := ⟨W.heap.size, 0, none⟩) kW, World.cell?_alloc_past _ _ _ kW]; exact hpk
  have hne : w1.heap.size ≠ b := by omega
  have hwb : ¬ W.heap.size = b := by omega
  refine ⟨c0, c1, c2, c3, f1, f2, f3, k3, hp3, by simpa [Wb] using Blk.set_ h3 1 (.slice (some ⟨w1.heap.size, 0, none⟩) n n), Blk.far (show Blk w3 w1.heap.size 3 _ from hS) (p := ⟨b, 1, none⟩) hne _, ?_, kW, ?_⟩
  · refine Chg.setCell (S := fun g => g = b ∨ g = w1.heap.size) (p := ⟨b, 1, none⟩) ?_ (.inl (.inl rfl)) _
    exact (((hc.mono (S' := fun g => g = b ∨ g = w1.heap.size) (fun _ _ h => .inl h)).alloc _).addBelow hb hs)
  · rw [World.cell?_setCell_other _ _ _ _ (by simp [hwb])]; exact hp3
section
variable {W wr : World} {B b S n j : Nat} {k wo d p : Int} {u : Bool} {pk : Nat → Bool} {cnt : List Int}
theorem StepR.rests (hlt : j < n) (hSb : b ≠ S) (hb : Wb wr b k (.slice (some ⟨S, 0, none⟩) n n) (uAt pk p cnt k d u n j) (wAt pk p cnt wo d j)) (hS : Blk wr S 3 (ints (rowAt pk p cnt n j)).toArray) (hc : Chg (fun g => g = b ∨ g = S) W wr) (hr : rest pk p j = true) :
    StepR W b S n k wo d u pk p cnt (.int .i64 ((j : Int) + 1)) (wr.setCell ⟨S, j, none⟩ (.int .i64 0)) := by
  have h1 := hS.set_ j (.int .i64 0)
  have e : nxc pk p cnt j = 0 := by rw [nxc, if_pos hr]
  rw [show Value.int .i64 0 = Value.int .i64 (nxc pk p cnt j) by rw [e], rowAt_step hlt] at h1
  rw [e] at h1
  refine ⟨j + 1, by omega, by go_num, ?_, h1, Chg.setCell (S := fun g => g = b ∨ g = S) (p := ⟨S, j, none⟩) hc (.inl (.inr rfl)) _⟩
  have h2 : Wb (wr.setCell ⟨S, j, none⟩ (.int .i64 0)) b k (.slice (some ⟨S, 0, none⟩) n n) (uAt pk p cnt k d u n j) (wAt pk p cnt wo d j) := Blk.far hb (p := ⟨S, j, none⟩) hSb _
  simpa [uAt, wAt, hr] using h2
theorem StepR.counts (hlt : j < n) (hSb : b ≠ S) (hb : Wb wr b k (.slice (some ⟨S, 0, none⟩) n n) (uAt pk p cnt k d u n j) (wAt pk p cnt wo d j)) (hS : Blk wr S 3 (ints (rowAt pk p cnt n j)).toArray) (hc : Chg (fun g => g = b ∨ g = S) W wr) (hr : rest pk p j = false) :
    Wb (wr.setCell ⟨S, j, none⟩ (.int .i64 (gc cnt j + 1))) b k (.slice (some ⟨S, 0, none⟩) n n) (uAt pk p cnt k d u n j) (wAt pk p cnt wo d j) ∧ ∀ w4, Wb w4 b k (.slice (some ⟨S, 0, none⟩) n n) (uAt pk p cnt k d u n j || decide (k < gc cnt j + 1 + 1)) (max (wAt pk p cnt wo d j) (gc cnt j + 1 + 1)) → Chg (fun g => g = b) (wr.setCell ⟨S, j, none⟩ (.int .i64 (gc cnt j + 1))) w4 →
      StepR W b S n k wo d u pk p cnt (.int .i64 ((j : Int) + 1)) w4 := by
  have h2 : Wb (wr.setCell ⟨S, j, none⟩ (.int .i64 (gc cnt j + 1))) b k (.slice (some ⟨S, 0, none⟩) n n) (uAt pk p cnt k d u n j) (wAt pk p cnt wo d j) := Blk.far hb (p := ⟨S, j, none⟩) hSb _
  refine ⟨h2, fun w4 h4 hc4 => ?_⟩
  have h1 := hS.set_ j (.int .i64 (gc cnt j + 1))
  have e : nxc pk p cnt j = gc cnt j + 1 := by rw [nxc, if_neg (by simp [hr])]
  rw [show Value.int .i64 (gc cnt j + 1) = Value.int .i64 (nxc pk p cnt j) by rw [e], rowAt_step hlt] at h1
  rw [e] at h1
  refine ⟨j + 1, by omega, by go_num, ?_, h1.kept hc4 (fun h => hSb h.symm), (Chg.setCell (S := fun g => g = b ∨ g = S) (p := ⟨S, j, none⟩) hc (.inl (.inr rfl)) _).trans hc4 (fun _ _ h => .inl h)⟩
  have e2 : gc cnt j + 1 + 1 = gc cnt j + 2 := by omega
  rw [e2] at h4
  simpa [uAt, wAt, hr] using h4
theorem StepR.done (hSb : b ≠ S) (hBb : B ≤ b) (hB : B ≤ W.heap.size) (hWS : W.heap.size < S) (hb : Wb wr b k (.slice (some ⟨S, 0, none⟩) j j) (uAt pk p cnt k d u j j) (wAt pk p cnt wo d j)) (hS : Blk wr S 3 (ints (rowAt pk p cnt j j)).toArray) (hc : Chg (fun g => g = b ∨ g = S) W wr) :
    Wt wr B b k (uAt pk p cnt k d u j j) (wAt pk p cnt wo d j) (rowAt pk p cnt j j) ∧ Chg (fun g => g = b) W wr :=
  ⟨⟨hBb, _, hb, .inr ⟨S, by rw [rowAt_len], hS, by omega⟩⟩, hc.mono (fun g hg h => by rcases h with h | h; exact h; omega)⟩
end
theorem heap_rep (V : World) (n : Nat) : (V.alloc (.cells (Array.replicate n (Value.int .i64 0)) 3)).heap[V.heap.size]? = some (.cells (List.replicate n (Value.int .i64 0)).toArray 3 (0, 0)) := Blk.new V 3 (List.replicate n (Value.int .i64 0)).toArray
theorem int_size : (Try.prog.info? 3).map (·.size) = some 1 := by kernel_rfl
set_option maxRecDepth 100000 in
set_option maxHeartbeats 8000000 in
theorem step_any (W : World) (B b : Nat) (k wo pick delay draw : Int) (u : Bool) (cnt : List Int) (A : Option Addr) (n c : Nat) (pk : Nat → Bool) (hW : Wt W B b k u wo cnt) (hP : Pk W A n pk) (hn : n ≤ 20) (hfar : ∀ b' o, A = some ⟨b', o, none⟩ → 0 < n → b' ≠ b) (hg : ∀ m, 0 ≤ gc cnt m ∧ gc cnt m ≤ 1000) (hB : B ≤ W.heap.size) (hcl : cnt.length ≤ 1000) :
    Calls Try.prog 7 #[.pointer (some ⟨b, 0, none⟩), .slice A n c, .agg #[.int .i64 pick, .int .i64 delay, .int .i64 draw]] W fun e W' => e = .returned (.bool (!uAt pk (modOf pick n) cnt k (modOf delay 65) u n n)) ∧ Wt W' B b k (uAt pk (modOf pick n) cnt k (modOf delay 65) u n n) (wAt pk (modOf pick n) cnt wo (modOf delay 65) n) (rowAt pk (modOf pick n) cnt n n) ∧ Chg (fun g => g = b) W W' := by
  obtain ⟨hBb, rv, hb0, hrv⟩ := hW
  obtain ⟨sp, cap, hrve⟩ : ∃ sp cap, rv = .slice sp cnt.length cap := by
    rcases hrv with ⟨rfl, rfl⟩ | ⟨S, rfl, _⟩
    · exact ⟨_, _, rfl⟩
    · exact ⟨_, _, rfl⟩
  subst hrve
  have hmk := make_zero n (by omega)
  have hsz := int_size
  have hlen1 : ((ints cnt).take n).length = Nat.min cnt.length n := by simp [Nat.min_comm]
  have hfit1 : 0 + ((ints cnt).take n).length ≤ (List.replicate n (Value.int .i64 0)).length := by
    rw [List.length_take, List.length_replicate]
    omega
  have hone1 : ∀ v ∈ (ints cnt).take n, v.oneCell' = true := fun v hv => ints_one cnt v (List.mem_of_mem_take hv)
  obtain ⟨c0, c1, c2, c3, f1, f2, f3, kb⟩ := hb0.cells
  by_cases hn0 : n = 0
  · subst hn0
    have KE := Lib.hid (fun (w1 : World) (h1 : Wb w1 b k (.slice sp cnt.length cap) (u || decide (k < modOf delay 65)) (max wo (modOf delay 65))) (h2 : Chg (fun g => g = b) (W.alloc (.cells #[.int .i64 pick, .int .i64 delay, .int .i64 draw] 30)) w1) => show w1.cell? ⟨W.heap.size, 0, none⟩ = some (.int .i64 pick) ∧ W.heap.size < w1.heap.size ∧ (Wt (((w1.setCell ⟨b, 2, none⟩ (.bool true)).setCell ⟨b, 1, none⟩ (.slice (some ⟨w1.heap.size, 0, none⟩) 0 0)).alloc (.cells #[] 3)) B b k (uAt pk (modOf pick (0 : Nat)) cnt k (modOf delay 65) u 0 0) (wAt pk (modOf pick (0 : Nat)) cnt wo (modOf delay 65) 0) (rowAt pk (modOf pick (0 : Nat)) cnt 0 0) ∧ Chg (fun g => g = b) W (((w1.setCell ⟨b, 2, none⟩ (.bool true)).setCell ⟨b, 1, none⟩ (.slice (some ⟨w1.heap.size, 0, none⟩) 0 0)).alloc (.cells #[] 3))) from by
      have hsz := h2.size
      simp at hsz
      have hT := (Blk.new W 30 #[.int .i64 pick, .int .i64 delay, .int .i64 draw]).kept h2 (show ¬ W.heap.size = b by omega)
      refine ⟨hT.cell 0, hT.lt, ⟨hBb, .slice (some ⟨w1.heap.size, 0, none⟩) 0 0, ?_, .inr ⟨w1.heap.size, by rw [rowAt_len], ?_, by omega⟩⟩, ?_⟩
      · have h3 := Blk.alloc (Blk.set_ (Blk.set_ h1 2 (.bool true)) 1 (.slice (some ⟨w1.heap.size, 0, none⟩) 0 0)) (.cells #[] 3)
        simpa [Wb, uAt, wAt] using h3
      · have h4 := Blk.new ((w1.setCell ⟨b, 2, none⟩ (.bool true)).setCell ⟨b, 1, none⟩ (.slice (some ⟨w1.heap.size, 0, none⟩) 0 0)) 3 #[]
        simpa [rowAt, ints] using h4
      · exact (Chg.setCell (S := fun g => g = b) (p := ⟨b, 1, none⟩) (Chg.setCell (S := fun g => g = b) (p := ⟨b, 2, none⟩) (Chg.trans ((Chg.refl _ _).alloc _) h2 (fun _ _ h => h)) (.inl rfl) _) (.inl rfl) _).alloc _)
    have hmk0 : ∀ V : World, (Instr.makeSlice 35 (.int .i64 0) (.int .i64 0)).run Try.prog V = .ok (.slice (some ⟨V.heap.size, 0, none⟩) 0 0) (V.alloc (.cells #[] 3)) := fun V => hmk V
    clear hrv hlen1 hone1 hfit1 hg hfar hP hmk
    go_enter Try.func7, Try.ntmps7
    go_wp2
    try go_step3
    go_wp2_with (first
      | (go_at_call 11; ((with_reducible refine (mod_any delay 65 _ (by decide)).mono ?_)); rintro e m1 ⟨rfl, rfl⟩)
      | (go_at_call 11; ((with_reducible refine (mod_any pick 0 _ (by decide)).mono ?_)); rintro e m1 ⟨rfl, rfl⟩)
      | (go_at_call 10; refine (see_any _ b k wo _ _ u (Blk.alloc hb0 _)).mono ?_; rintro e w1 ⟨rfl, hb1, hc1⟩; obtain ⟨a0, a1, a2, a3, a4, a5, a6, a7⟩ := hb1.cells; obtain ⟨hp1, hp2, hKE⟩ := KE.out _ hb1 hc1; have HKE := Lib.hid hKE; clear hb1 hc1 hKE)
      | (refine wpList_copy_nothing rfl (.tmp 27) (.tmp 31) 35 35 rfl 3 Try.underlying35 hsz (some ⟨w1.heap.size, 0, none⟩) sp 0 0 cnt.length cap ?_ ?_ ?_ ?_; (next => rfl); (next => rfl); (next => exact Nat.min_zero _)))
    go_step3
    go_wp2
    refine wp_loop_rounds 1 ?_
    rw [rounds_succ]
    go_wp2_with (go_at_call 9; go_in)
    first | go_ret | (rw [Exit.noGoto_ret]; go_ret)
    refine ⟨?_, HKE.out⟩
    simp [uAt]
  · have hn1 : ((n : Int) == 0) = false := by simp; omega
    have KV := Lib.hid (fun (w1 : World) (h1 : Wb w1 b k (.slice sp cnt.length cap) (u || decide (k < modOf delay 65)) (max wo (modOf delay 65))) (h2 : Chg (fun g => g = b) (W.alloc (.cells #[.int .i64 pick, .int .i64 delay, .int .i64 draw] 30)) w1) => show Wb w1 b k (.slice sp cnt.length cap) (uAt pk (modOf pick n) cnt k (modOf delay 65) u n 0) (wAt pk (modOf pick n) cnt wo (modOf delay 65) 0) ∧ Chg (fun g => g = b) W w1 ∧ w1.cell? ⟨W.heap.size, 0, none⟩ = some (.int .i64 pick) from by
      refine ⟨by simpa [uAt, wAt, hn0] using h1, Chg.trans ((Chg.refl _ _).alloc _) h2 (fun _ _ h => h), ?_⟩
      have := (Blk.new W 30 #[.int .i64 pick, .int .i64 delay, .int .i64 draw]).kept h2 (show ¬ W.heap.size = b by omega)
      exact this.cell 0)
    have HS := Lib.hid (fun (w1 : World) (h : Wb w1 b k (.slice sp cnt.length cap) (uAt pk (modOf pick n) cnt k (modOf delay 65) u n 0) (wAt pk (modOf pick n) cnt wo (modOf delay 65) 0) ∧ Chg (fun g => g = b) W w1 ∧ w1.cell? ⟨W.heap.size, 0, none⟩ = some (.int .i64 pick)) => show 0 < ((ints cnt).take n).length → ∃ ad, sp = some ad ∧ ∀ j v, ((ints cnt).take n)[j]? = some v → (w1.alloc (.cells (Array.replicate n (Value.int .i64 0)) 3)).cell? (ad.add j) = some v from fun h0 => by
      rcases hrv with ⟨_, rfl⟩ | ⟨S, hse, hSB, _⟩
      · simp [ints] at h0
      · cases hse
        refine ⟨⟨S, 0, none⟩, rfl, fun j v hv => ?_⟩
        have h5 := (hSB.kept h.2.1 (show ¬ S = b from fun e => hSB.ne_ hb0 (by decide) e)).alloc (.cells (Array.replicate n (Value.int .i64 0)) 3)
        have e : (⟨S, 0, none⟩ : Addr).add j = ⟨S, j, none⟩ := by unfold Addr.add; split <;> simp_all
        rw [e, h5.cell]
        rw [List.getElem?_take] at hv
        split at hv
        · simpa using hv
        · cases hv)
    have HC := Lib.hid (fun (w1 w3 : World) (h : Wb w1 b k (.slice sp cnt.length cap) (uAt pk (modOf pick n) cnt k (modOf delay 65) u n 0) (wAt pk (modOf pick n) cnt wo (modOf delay 65) 0) ∧ Chg (fun g => g = b) W w1 ∧ w1.cell? ⟨W.heap.size, 0, none⟩ = some (.int .i64 pick)) (hb : Below w1.heap.size (w1.alloc (.cells (Array.replicate n (Value.int .i64 0)) 3)) w3) (hS : w3.heap[w1.heap.size]? = some (.cells (splice (List.replicate n (Value.int .i64 0)) 0 ((ints cnt).take n)).toArray 3 (0, 0))) => StepR.start (pk := pk) (p := modOf pick n) (d := modOf delay 65) hBb hb0 h hb hS)
    go_enter Try.func7, Try.ntmps7
    go_wp2
    try go_step3
    go_wp2_with (first
      | (go_at_call 11; ((with_reducible refine (mod_any delay 65 _ (by decide)).mono ?_)); rintro e m1 ⟨rfl, rfl⟩)
      | (go_at_call 11; ((with_reducible refine (mod_any pick (n : Int) _ (by omega)).mono ?_)); rintro e m1 ⟨rfl, rfl⟩)
      | (go_at_call 10; refine (see_any _ b k wo _ _ u (Blk.alloc hb0 _)).mono ?_; rintro e w1 ⟨rfl, hb1, hc1⟩; obtain ⟨a0, a1, a2, a3, a4, a5, a6, a7⟩ := hb1.cells; have HV := Lib.hid (KV.out _ hb1 hc1); clear hb1 hc1)
      | (refine wpList_copy_splice rfl (.tmp 27) (.tmp 31) 35 35 rfl 3 Try.underlying35 hsz (some ⟨w1.heap.size, 0, none⟩) sp n n cnt.length cap ?_ ?_ w1.heap.size 0 (List.replicate n (.int .i64 0)) 3 ?_ ((ints cnt).take n) ?_ ?_ ?_ ?_ w1.heap.size (w1.alloc (.cells (Array.replicate n (Value.int .i64 0)) 3)) ?_ ?_ ?_; (next => rfl); (next => rfl); (next => exact heap_rep _ _); (next => exact hlen1); (next => exact fun h0 => ⟨rfl, HS.out w1 HV.out h0⟩); (next => exact hfit1); (next => exact hone1); (next => exact Below.refl _ _); (next => exact Nat.le_refl _); intro w3 hg3 hb3; obtain ⟨g0, g1, g2, g3, g4, g5, g6, g7, gp, g8⟩ := HC.out _ w3 HV.out hb3 hg3.out; have G8 := Lib.hid g8; clear hb3 hg3 g8))
    obtain ⟨hst, hsS, hch, hWS, hpk0⟩ := G8.out
    have hSb : b ≠ w1.heap.size := by have := (Blk.lt hb0); omega
    have HP := Lib.hid hP
    have HFAR := Lib.hid hfar
    have HG := Lib.hid hg
    obtain ⟨V, hV⟩ : ∃ V, V = w3.setCell ⟨b, 1, none⟩ (.slice (some ⟨w1.heap.size, 0, none⟩) n n) := ⟨_, rfl⟩
    obtain ⟨S, hSe⟩ : ∃ S, S = w1.heap.size := ⟨_, rfl⟩
    rw [← hV, ← hSe] at hst hsS hch
    rw [← hSe] at hWS hSb
    have H0 : Hid (StepR W b S n k wo (modOf delay 65) u pk (modOf pick n) cnt (.int .i64 0) V) := Lib.hid ⟨0, Nat.zero_le _, rfl, hst, hsS, hch⟩
    rw [← hV, ← hSe]
    have HBb := Lib.hid hBb
    have HB := Lib.hid hB
    clear hV hSe G8 HV hst hsS hch hpk0 g0 g1 g2 g3 g4 g5 g6 g7 gp a0 a1 a2 a3 a4 a5 a6 a7 hP hfar hg hB hBb hrv hlen1 hone1 hfit1 hmk hsz KV HS HC hb0 c0 c1 c2 c3 f1 f2 f3
    go_step3
    go_wp2
    go_loopw [44] (fun i wr => StepR W b S n k wo (modOf delay 65) u pk (modOf pick n) cnt i wr) (fun i _ => n - (intOf i).toNat)
    case atStart => exact H0.out
    case round =>
      clear H0
      obtain ⟨j, hj, rfl, hb, hS, hc⟩ := hrel
      have j0 : (0 : Int) ≤ j := by omega
      by_cases hlt : j < n
      · have j1 : (j : Int) < n := by omega
        obtain ⟨ba, oa, rfl, hba, hcell⟩ := HP.out (by omega)
        have hb1 : ba ≠ b := HFAR.out _ _ rfl (by omega)
        have e0 : wr.cell? ⟨ba, oa + j, none⟩ = some (.bool (pk j)) := (World.cell?_of_block (w := W) (hc.block ba hba (fun h => by rcases h with h | h; exact hb1 h; omega))).trans (hcell j hlt)
        have s0 : wr.cell? ⟨S, j, none⟩ = some (.int .i64 (gc cnt j)) := by
          have := rowAt_get (pk := pk) (p := modOf pick n) (cnt := cnt) (j := j) hlt
          rw [if_neg (by omega)] at this
          rw [hS.cell]; simpa using this
        have s1 := hS.frozen j
        have s2 := hS.lt
        obtain ⟨y0, y1⟩ := HG.out j
        have HR := Lib.hid (StepR.rests hlt hSb hb hS hc)
        have HK := Lib.hid (StepR.counts hlt hSb hb hS hc)
        clear hcell hb hS hc
        generalize gc cnt j = y at *
        cases hpj : pk j with
        | true =>
          rw [hpj] at e0
          go_wp2_with fail
          go_roundw
          case rel => exact HR.out (by simp [rest, hpj])
          case measure => simp [intOf]; omega
        | false =>
          rw [hpj] at e0
          by_cases hjp : (j : Int) = modOf pick n
          · have hd1 : ((j : Int) == modOf pick n) = true := by simpa using hjp
            have HJ := Lib.hid hjp
            clear hjp
            go_wp2_with fail
            go_roundw
            case rel => exact HR.out (by simp [rest, hpj, HJ.out])
            case measure => simp [intOf]; omega
          · have hd1 : ((j : Int) == modOf pick n) = false := by simpa using hjp
            have hd2 : decide ((j : Int) = modOf pick n) = false := by simpa using hjp
            have HJ := Lib.hid (show rest pk (modOf pick n) j = false by simp [rest, hpj, hjp])
            obtain ⟨hb2, HKK⟩ := HK.out HJ.out
            have HK2 := Lib.hid HKK
            clear hjp HKK
            go_wp2_with (go_at_call 10; refine (see_any _ b k _ _ _ _ hb2).mono ?_; rintro e w4 ⟨rfl, hb4, hc4⟩; have H4 := Lib.hid (HK2.out w4 hb4 hc4); clear hb4 hc4)
            go_roundw
            case rel => exact H4.out
            case measure => simp [intOf]; omega
      · obtain rfl : j = n := by omega
        obtain ⟨z0, z1, z2, z3, z4, z5, z6, z7⟩ := hb.cells
        have HE := Lib.hid (StepR.done hSb HBb.out HB.out hWS hb hS hc)
        clear hb hS hc
        go_wp2_with (go_at_call 9; go_in)
        first | go_ret | (rw [Exit.noGoto_ret]; go_ret)
        refine ⟨?_, HE.out⟩
        rfl
end Go.Proofs.Ytniabhlcolppbaa
