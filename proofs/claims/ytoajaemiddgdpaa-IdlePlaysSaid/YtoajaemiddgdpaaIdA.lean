/- Who has nothing to do, as links: a new list, who is there, one more. -/
import Derived.Test.YtoajaemiddgdpaaRapp
import Derived.Handy
import Derived.BigRegion
import Derived.Deep.OwnRows
import Derived.Deep.QuietTactic
import Derived.BigQuiet
namespace Go.Proofs.Ytoajaemiddgdpaa
open Go.ChangeShapes Go.WideShapes Go.ChangeAt Go.RowKit Go.Deep
set_option linter.unusedVariables false

def lnk : List Nat → Int
  | [] => -2
  | x :: _ => (x : Int)
def ah : List Nat → Nat → Int
  | [], _ => -1
  | x :: t, i => if i = x then lnk t else ah t i
theorem lnk_ne (xs : List Nat) : lnk xs ≠ -1 := by
  cases xs with
  | nil => decide
  | cons x t => simp only [lnk]; omega
theorem ah_in : ∀ (xs : List Nat) (i : Nat), i ∈ xs → ah xs i ≠ -1
  | x :: t, i, h => by
    unfold ah
    by_cases hx : i = x
    · rw [if_pos hx]; exact lnk_ne t
    · rw [if_neg hx]
      exact ah_in t i (by simpa [hx] using h)
theorem ah_out : ∀ (xs : List Nat) (i : Nat), i ∉ xs → ah xs i = -1
  | [], i, h => rfl
  | x :: t, i, h => by
    unfold ah
    rw [if_neg (by intro e; exact h (by simp [e]))]
    exact ah_out t i (by intro e; exact h (by simp [e]))
def arow (xs : List Nat) (most : Nat) : List Int := (List.range most).map (ah xs)
@[simp] theorem arow_len (xs : List Nat) (most : Nat) : (arow xs most).length = most := by simp [arow]
theorem arow_at (xs : List Nat) (most k : Nat) (hk : k < most) : (arow xs most)[k]'(by simpa using hk) = ah xs k := by simp [arow]
theorem arow_nil (most : Nat) : arow [] most = List.replicate most (-1) := by
  apply List.ext_getElem (by simp)
  intro i h1 h2
  simp [arow, ah]
theorem arow_cons (xs : List Nat) (most id : Nat) (h : id < most) : (arow xs most).set id (lnk xs) = arow (id :: xs) most := by
  apply List.ext_getElem (by simp)
  intro i h1 h2
  rw [List.getElem_set]
  simp only [arow, List.getElem_map, List.getElem_range, ah]
  by_cases e : id = i
  · rw [if_pos e, if_pos e.symm]
  · rw [if_neg e, if_neg (fun h => e h.symm)]
/-- The list in block L, its row in block R: the ids xs, the one that came last first. -/
def Il (w : World) (L R most : Nat) (xs : List Nat) : Prop :=
  Blk w L 43 #[.slice (some ⟨R, 0, none⟩) most most, .int .i64 (lnk xs), .int .i64 xs.length] ∧ Blk w R 3 (ints (arow xs most)).toArray ∧ xs.Nodup ∧ (∀ x ∈ xs, x < most) ∧ xs.length ≤ 1024
section
variable {S : Nat → Prop} {w w' : World} {L R most : Nat} {xs : List Nat}
theorem Il.kept (h : Il w L R most xs) (hc : Chg S w w') (h1 : ¬ S L) (h2 : ¬ S R) : Il w' L R most xs := ⟨h.1.kept hc h1, h.2.1.kept hc h2, h.2.2⟩
theorem Il.row (h : Il w L R most xs) : w.cell? ⟨L, 0, none⟩ = some (.slice (some ⟨R, 0, none⟩) most most) := by rw [h.1.cell]; rfl
theorem Il.last (h : Il w L R most xs) : w.cell? ⟨L, 1, none⟩ = some (.int .i64 (lnk xs)) := by rw [h.1.cell]; rfl
theorem Il.many (h : Il w L R most xs) : w.cell? ⟨L, 2, none⟩ = some (.int .i64 xs.length) := by rw [h.1.cell]; rfl
theorem Il.at_ (h : Il w L R most xs) {k : Nat} (hk : k < most) : w.cell? ⟨R, k, none⟩ = some (.int .i64 (ah xs k)) := by
  rw [h.2.1.cell]
  simp [ints, arow, hk]
theorem Il.ne (h : Il w L R most xs) : L ≠ R := h.1.ne_ h.2.1 (by decide)
end
theorem len_at (L R most : Nat) (xs : List Nat) (W : World) (h : Il W L R most xs) : Calls Try.prog 12 #[.pointer (some ⟨L, 0, none⟩)] W fun e W' => e = .returned (.int .i64 xs.length) ∧ W' = W := by
  have hm := h.many
  go_enter Try.func12, Try.ntmps12
  go_wp2
  go_ret
  exact ⟨rfl, rfl⟩
theorem peek_none (L R most : Nat) (W : World) (h : Il W L R most []) : Calls Try.prog 9 #[.pointer (some ⟨L, 0, none⟩)] W fun e W' => e = .returned (.tuple #[.int .i64 0, .bool false]) ∧ W' = W := by
  have hm : W.cell? ⟨L, 2, none⟩ = some (.int .i64 0) := h.many
  go_enter Try.func9, Try.ntmps9
  go_wp2
  go_returns
  exact ⟨rfl, rfl⟩
theorem peek_some (L R most x : Nat) (t : List Nat) (W : World) (h : Il W L R most (x :: t)) : Calls Try.prog 9 #[.pointer (some ⟨L, 0, none⟩)] W fun e W' => e = .returned (.tuple #[.int .i64 x, .bool true]) ∧ W' = W := by
  have hm := h.many
  have hl : W.cell? ⟨L, 1, none⟩ = some (.int .i64 x) := h.last
  obtain ⟨q, hq⟩ : ∃ q, (x :: t).length = q := ⟨_, rfl⟩
  rw [hq] at hm
  have h0 : ((q : Int) == 0) = false := by
    rw [List.length_cons] at hq
    simp; omega
  go_enter Try.func9, Try.ntmps9
  go_wp2
  go_returns
  exact ⟨rfl, rfl⟩
theorem has_out (L R most : Nat) (i : Int) (xs : List Nat) (W : World) (h : Il W L R most xs) (hm : most ≤ 1024) (hi : i < 0 ∨ (most : Int) ≤ i) : Calls Try.prog 13 #[.pointer (some ⟨L, 0, none⟩), .int .i64 i] W fun e W' => e = .returned (.bool false) ∧ W' = W := by
  have h1 := h.row
  go_enter Try.func13, Try.ntmps13
  by_cases h0 : i < 0
  · go_wp2
    go_ret
    exact ⟨rfl, rfl⟩
  · have h2 : 0 ≤ i := by omega
    have h3 : decide (i < (most : Int)) = false := by simp; omega
    go_wp2
    go_ret
    exact ⟨rfl, rfl⟩
theorem has_at (L R most k : Nat) (xs : List Nat) (W : World) (h : Il W L R most xs) (hm : most ≤ 1024) (hk : k < most) : Calls Try.prog 13 #[.pointer (some ⟨L, 0, none⟩), .int .i64 k] W fun e W' => e = .returned (.bool (decide (k ∈ xs))) ∧ W' = W := by
  have h1 := h.row
  have h2 := h.at_ hk
  have k0 : (0 : Int) ≤ (k : Int) := by omega
  have k1 : (k : Int) < (most : Int) := by omega
  by_cases hx : k ∈ xs
  · have h3 := ah_in xs k hx
    generalize ah xs k = a at h2 h3
    have h4 : (a != -1) = true := by simpa using h3
    go_enter Try.func13, Try.ntmps13
    go_wp2
    go_ret
    exact ⟨ret_bool (a := true) (decide_eq_true hx).symm, rfl⟩
  · rw [ah_out xs k hx] at h2
    go_enter Try.func13, Try.ntmps13
    go_wp2
    go_ret
    exact ⟨ret_bool (a := false) (decide_eq_false hx).symm, rfl⟩
theorem made_ints (n : Nat) : madeCells #[.int .i64 0] n = (ints (List.replicate 0 (-1) ++ List.replicate (n - 0) 0)).toArray := by
  apply Array.ext'
  rw [toList_madeCells_one]
  simp [ints]
set_option maxHeartbeats 2000000 in
theorem inew_in (n : Nat) (W : World) (hn : n ≤ 1024) : Calls Try.prog 7 #[.int .i64 n] W fun e W' => e = .returned (.pointer (some ⟨W.heap.size + 1, 0, none⟩)) ∧ Il W' (W.heap.size + 1) W.heap.size n [] ∧ Below W.heap.size W W' := by
  have i0 : (0 : Int) ≤ n := by omega
  have i1 : (n : Int) ≤ 1024 := by omega
  have hmk := run_make_row' (P := Try.prog) 26 3 (.int .i64 0) 8 Try.underlying26 int_info rfl .i64 .i64 n (by omega) (by omega)
  go_enter Try.func7, Try.ntmps7
  go_wp2
  go_loopw [20] (fun i wr => ∃ k : Nat, k ≤ n ∧ i = .int .i64 k ∧ Hid (Blk wr W.heap.size 3 (ints (List.replicate k (-1) ++ List.replicate (n - k) 0)).toArray) ∧ Hid (Blk wr (W.heap.size + 1) 43 #[.slice (some ⟨W.heap.size, 0, none⟩) n n, .int .i64 (-2), .int .i64 0]) ∧ Hid (Below W.heap.size W wr)) (fun i _ => n - (intOf i).toNat)
  case atStart => exact ⟨0, Nat.zero_le _, rfl, by rw [← made_ints]; exact (Blk.new _ _ _).alloc _, Lib.hid (by simpa using Blk.new (W.alloc (.cells (madeCells #[.int .i64 0] n) 3)) 43 #[.slice (some ⟨W.heap.size, 0, none⟩) n n, .int .i64 (-2), .int .i64 0]), ((Below.refl _ _).alloc (Nat.le_refl _) _).alloc (by simp) _⟩
  case round =>
    obtain ⟨k, hk, rfl, HR, HL, HB⟩ := hrel
    clear hmk
    have k0 : (0 : Int) ≤ (k : Int) := by omega
    have hrow : wr.cell? ⟨W.heap.size + 1, 0, none⟩ = some (.slice (some ⟨W.heap.size, 0, none⟩) n n) := by rw [HL.out.cell]; rfl
    by_cases hlt : k < n
    · have k1 : (k : Int) < (n : Int) := by omega
      have f0 := HR.out.frozen k
      have hc0 : ∃ z, wr.cell? ⟨W.heap.size, k, none⟩ = some (.int .i64 z) := by
        rw [HR.out.cell]
        refine ⟨0, ?_⟩
        have e : (ints (List.replicate k (-1) ++ List.replicate (n - k) 0))[k]? = some (.int .i64 0) := by
          rw [ints_append, List.getElem?_append_right (by simp)]
          simp only [ints, List.map_replicate, List.length_replicate]
          rw [List.getElem?_replicate, if_pos (by omega)]
        simpa using e
      obtain ⟨z, c0⟩ := hc0
      have hst : Blk (wr.setCell ⟨W.heap.size, k, none⟩ (.int .i64 (-1))) W.heap.size 3 (ints (List.replicate (k + 1) (-1) ++ List.replicate (n - (k + 1)) 0)).toArray := by
        have := HR.out.set_ k (.int .i64 (-1))
        have e : (List.replicate k (-1 : Int) ++ List.replicate (n - k) 0).set k (-1) = List.replicate (k + 1) (-1) ++ List.replicate (n - (k + 1)) 0 := by
          rw [List.set_append_right _ _ (by simp), show n - k = (n - (k + 1)) + 1 by omega, List.replicate_succ, List.replicate_succ']
          simp
        rw [← e]
        simpa [ints, List.map_set] using this
      have HS := Lib.hid hst
      clear hst
      go_wp2
      exact ⟨⟨k + 1, by omega, by go_num, HS.out, HL.out.far (p := ⟨W.heap.size, k, none⟩) (by simp) _, HB.out.setCell (Nat.le_refl _) _⟩, by simp [intOf]; omega⟩
    · have hkn : k = n := by omega
      subst hkn
      go_wp2
      go_ret
      refine ⟨rfl, ⟨HL.out, ?_, List.nodup_nil, by simp, by simp⟩, HB.out⟩
      have := HR.out
      rw [arow_nil]
      simpa using this
theorem Il.put (L R most k : Nat) (xs : List Nat) (w : World) (h : Il w L R most xs) (hm : most ≤ 1024) (hk : k < most) (hx : k ∉ xs) (hl : xs.length < 1024) :
    Il (((w.setCell ⟨R, k, none⟩ (.int .i64 (lnk xs))).setCell ⟨L, 1, none⟩ (.int .i64 k)).setCell ⟨L, 2, none⟩ (.int .i64 ((xs.length : Int) + 1))) L R most (k :: xs) := by
  have hne := h.ne
  obtain ⟨h1, h2, h3, h4, h5⟩ := h
  refine ⟨?_, ?_, List.nodup_cons.2 ⟨hx, h3⟩, ?_, by simp; omega⟩
  · have := ((h1.far (p := ⟨R, k, none⟩) hne (.int .i64 (lnk xs))).set_ 1 (.int .i64 k)).set_ 2 (.int .i64 ((xs.length : Int) + 1))
    simpa [lnk] using this
  · have := ((h2.set_ k (.int .i64 (lnk xs))).far (p := ⟨L, 1, none⟩) (fun e => hne e.symm) (.int .i64 k)).far (p := ⟨L, 2, none⟩) (fun e => hne e.symm) (.int .i64 ((xs.length : Int) + 1))
    rw [← arow_cons xs most k hk]
    simpa [ints, List.map_set] using this
  · intro x hx
    rcases List.mem_cons.1 hx with rfl | hx
    · exact hk
    · exact h4 x hx
set_option maxHeartbeats 2000000 in
theorem put_old (L R most k : Nat) (xs : List Nat) (W : World) (h : Il W L R most xs) (hm : most ≤ 1024) (hk : k < most) (hx : k ∈ xs) : Calls Try.prog 15 #[.pointer (some ⟨L, 0, none⟩), .int .i64 k] W fun e W' => e = .returned (.bool false) ∧ W' = W := by
  have h1 := h.row
  have hh := has_at L R most k xs W h hm hk
  rw [decide_eq_true hx] at hh
  have k0 : (0 : Int) ≤ (k : Int) := by omega
  have k1 : (k : Int) < (most : Int) := by omega
  go_enter Try.func15, Try.ntmps15
  go_wp2_with (go_at_call 13; refine hh.mono ?_; rintro e w1 ⟨rfl, rfl⟩)
  go_ret
  exact ⟨rfl, rfl⟩
set_option maxHeartbeats 2000000 in
theorem put_out (L R most : Nat) (i : Int) (xs : List Nat) (W : World) (h : Il W L R most xs) (hm : most ≤ 1024) (hi : i < 0 ∨ (most : Int) ≤ i) : Calls Try.prog 15 #[.pointer (some ⟨L, 0, none⟩), .int .i64 i] W fun e W' => e = .returned (.bool false) ∧ W' = W := by
  have h1 := h.row
  go_enter Try.func15, Try.ntmps15
  by_cases h0 : i < 0
  · go_wp2
    go_ret
    exact ⟨rfl, rfl⟩
  · have h2 : 0 ≤ i := by omega
    have h3 : decide ((most : Int) ≤ i) = true := by simp; omega
    have h4 : (most : Int) ≤ i := by omega
    go_wp2
    go_ret
    exact ⟨rfl, rfl⟩
set_option maxRecDepth 100000 in
set_option maxHeartbeats 4000000 in
theorem put_new (L R most k : Nat) (xs : List Nat) (W : World) (h : Il W L R most xs) (hm : most ≤ 1024) (hk : k < most) (hx : k ∉ xs) (hl : xs.length < 1024) : Calls Try.prog 15 #[.pointer (some ⟨L, 0, none⟩), .int .i64 k] W fun e W' => e = .returned (.bool true) ∧ Il W' L R most (k :: xs) ∧ Chg (fun g => g = L ∨ g = R) W W' := by
  have h1 := h.row
  have h2 := h.last
  have h3 := h.many
  have h4 := h.at_ hk
  have hne := h.ne
  have f0 := h.2.1.frozen k
  have f1 := h.1.frozen 1
  have f2 := h.1.frozen 2
  have hh := has_at L R most k xs W h hm hk
  rw [decide_eq_false hx] at hh
  have HP := Lib.hid (Il.put L R most k xs W h hm hk hx hl)
  obtain ⟨q, hq⟩ : ∃ q, xs.length = q := ⟨_, rfl⟩
  rw [hq] at h3 HP
  have k0 : (0 : Int) ≤ (k : Int) := by omega
  have k1 : (k : Int) < (most : Int) := by omega
  have q0 : (0 : Int) ≤ (q : Int) := by omega
  have q1 : (q : Int) < 1024 := by omega
  go_enter Try.func15, Try.ntmps15
  go_wp2_with (go_at_call 13; refine hh.mono ?_; rintro e w1 ⟨rfl, rfl⟩)
  go_region
  go_wp2
  go_ret
  exact ⟨rfl, HP.out.kept (Chg.drew (Chg.refl (fun _ => False) _)) (fun h => h) (fun h => h), ((((Chg.refl (fun g => g = L ∨ g = R) w1).setCell (p := ⟨R, k, none⟩) (.inl (.inr rfl)) _).setCell (p := ⟨L, 1, none⟩) (.inl (.inl rfl)) _).setCell (p := ⟨L, 2, none⟩) (.inl (.inl rfl)) _).drew⟩
end Go.Proofs.Ytoajaemiddgdpaa
