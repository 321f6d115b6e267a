/- A lock by tickets over two shared cells: each call; the chapter's example. -/
import Derived.Test.YtiabmkhkmhjkpaaCellC4
namespace Go.Proofs.Ytiabmkhkmhjkpaa
open Go.ChangeShapes Go.WideShapes Go.ChangeAt Go.RowKit Go.Deep
set_option linter.unusedVariables false

theorem Chg.pre {S : Nat → Prop} {w w1 w' : World} (h : Chg (fun _ => False) w w1) (h' : Chg S w1 w') : Chg S w w' := (h.mono (fun _ _ hh => hh.elim)).trans h' (fun _ _ hh => hh)
/-- A lock in block K, of the cells at L (their row at R), from place at_ on: the next ticket, whose turn it is, how many accesses there were. -/
def Lk (W : World) (K L R at_ : Nat) (v0 v1 n : Int) : Prop :=
  ∃ xs : List Int, Blk W K 55 #[.pointer (some ⟨L, 0, none⟩), .int .i64 at_] ∧ Cels W L R xs n ∧ xs.length ≤ 100 ∧ xs[at_]? = some v0 ∧ xs[at_ + 1]? = some v1
theorem Lk.kept {S : Nat → Prop} {W W' : World} {K L R at_ : Nat} {v0 v1 n : Int} (h : Lk W K L R at_ v0 v1 n) (hc : Chg S W W') (h0 : ¬ S K) (h1 : ¬ S L) (h2 : ¬ S R) : Lk W' K L R at_ v0 v1 n := by
  obtain ⟨xs, a, b, c⟩ := h
  exact ⟨xs, a.kept hc h0, b.kept hc h1 h2, c⟩
theorem Lk.ne_ {W : World} {K L R at_ : Nat} {v0 v1 n : Int} (h : Lk W K L R at_ v0 v1 n) : K ≠ L ∧ K ≠ R := by
  obtain ⟨xs, a, b, c⟩ := h
  exact ⟨a.ne_ b.1 (by decide), a.ne_ b.2 (by decide)⟩
theorem Lk.lt_ {W : World} {K L R at_ : Nat} {v0 v1 n : Int} (h : Lk W K L R at_ v0 v1 n) : K < W.heap.size ∧ L < W.heap.size ∧ R < W.heap.size := by
  obtain ⟨xs, a, b, c⟩ := h
  exact ⟨a.lt, b.lt_.1, b.lt_.2⟩
theorem Lk.cells_ {W : World} {K L R at_ : Nat} {v0 v1 n : Int} (h : Lk W K L R at_ v0 v1 n) : W.cell? ⟨K, 0, none⟩ = some (.pointer (some ⟨L, 0, none⟩)) ∧ W.cell? ⟨K, 1, none⟩ = some (.int .i64 at_) ∧ at_ ≤ 100 := by
  obtain ⟨xs, a, b, c, d, e⟩ := h
  have := (List.getElem?_eq_some_iff.1 e).1
  exact ⟨by rw [a.cell]; rfl, by rw [a.cell]; rfl, by omega⟩
theorem Lk.next {W W' : World} {K L R at_ : Nat} {v0 v1 n : Int} {v0' v1' n' : Int} {xs ys : List Int} (hK : Blk W K 55 #[.pointer (some ⟨L, 0, none⟩), .int .i64 at_]) (hC : Cels W L R xs n) (hl : xs.length ≤ 100) (ha : Aft W W' L R ys n') (hl' : ys.length = xs.length) (h0 : ys[at_]? = some v0') (h1 : ys[at_ + 1]? = some v1') :
    Lk W' K L R at_ v0' v1' n' ∧ Chg (fun g => g = L ∨ g = R) W W' := by
  have hn1 : K ≠ L := hK.ne_ hC.1 (by decide)
  have hn2 : K ≠ R := hK.ne_ hC.2 (by decide)
  exact ⟨⟨ys, hK.kept ha.2 (by rintro (h | h); exact hn1 h; exact hn2 h), ha.1, by omega, h0, h1⟩, ha.2⟩

/-- The cells' own calls on a lock's two cells. -/
theorem lk_add (K L R at_ : Nat) (v0 v1 n x : Int) (W : World) (h : Lk W K L R at_ v0 v1 n) (hn0 : 0 ≤ n) (hn1 : n < 100000) :
    Calls Try.prog 27 #[.pointer (some ⟨L, 0, none⟩), .int .i64 at_, .int .i64 x] W fun e W' => e = .returned (.int .i64 (wadd v0 x)) ∧ Lk W' K L R at_ (wadd v0 x) v1 (n + 1) ∧ Chg (fun g => g = L ∨ g = R) W W' := by
  obtain ⟨xs, hK, hC, hl, h0, h1⟩ := h
  obtain ⟨k0, e0⟩ := List.getElem?_eq_some_iff.1 h0
  refine (add_at L R at_ xs _ n _ x v0 at_ W hC rfl k0 e0 rfl rfl (by omega) hn0 (by omega)).mono ?_
  rintro e W' ⟨rfl, ha⟩
  exact ⟨rfl, Lk.next (v0 := v0) (v1 := v1) hK hC hl ha (by simp) (by simp [k0]) (by rw [List.getElem?_set_ne (by omega)]; exact h1)⟩
theorem lk_load0 (K L R at_ : Nat) (v0 v1 n : Int) (W : World) (h : Lk W K L R at_ v0 v1 n) (hn0 : 0 ≤ n) (hn1 : n < 100000) :
    Calls Try.prog 13 #[.pointer (some ⟨L, 0, none⟩), .int .i64 at_] W fun e W' => e = .returned (.int .i64 v0) ∧ Lk W' K L R at_ v0 v1 (n + 1) ∧ Chg (fun g => g = L ∨ g = R) W W' := by
  obtain ⟨xs, hK, hC, hl, h0, h1⟩ := h
  obtain ⟨k0, e0⟩ := List.getElem?_eq_some_iff.1 h0
  refine (load_at L R at_ xs n _ v0 at_ W hC rfl k0 e0 rfl (by omega) hn0 (by omega)).mono ?_
  rintro e W' ⟨rfl, ha⟩
  exact ⟨rfl, Lk.next (v0 := v0) (v1 := v1) hK hC hl ha rfl h0 h1⟩
theorem lk_load1 (K L R at_ : Nat) (v0 v1 n : Int) (W : World) (h : Lk W K L R at_ v0 v1 n) (hn0 : 0 ≤ n) (hn1 : n < 100000) :
    Calls Try.prog 13 #[.pointer (some ⟨L, 0, none⟩), .int .i64 ((at_ : Int) + 1)] W fun e W' => e = .returned (.int .i64 v1) ∧ Lk W' K L R at_ v0 v1 (n + 1) ∧ Chg (fun g => g = L ∨ g = R) W W' := by
  obtain ⟨xs, hK, hC, hl, h0, h1⟩ := h
  obtain ⟨k1, e1⟩ := List.getElem?_eq_some_iff.1 h1
  refine (load_at L R (at_ + 1) xs n _ v1 ((at_ : Int) + 1) W hC (by omega) k1 e1 rfl (by omega) hn0 (by omega)).mono ?_
  rintro e W' ⟨rfl, ha⟩
  exact ⟨rfl, Lk.next (v0 := v0) (v1 := v1) hK hC hl ha rfl h0 h1⟩
theorem lk_store1 (K L R at_ : Nat) (v0 v1 n x : Int) (W : World) (h : Lk W K L R at_ v0 v1 n) (hn0 : 0 ≤ n) (hn1 : n < 100000) :
    Calls Try.prog 8 #[.pointer (some ⟨L, 0, none⟩), .int .i64 ((at_ : Int) + 1), .int .i64 x] W fun e W' => e = .returned (.tuple #[]) ∧ Lk W' K L R at_ v0 x (n + 1) ∧ Chg (fun g => g = L ∨ g = R) W W' := by
  obtain ⟨xs, hK, hC, hl, h0, h1⟩ := h
  obtain ⟨k1, e1⟩ := List.getElem?_eq_some_iff.1 h1
  refine (store_at L R (at_ + 1) xs _ n _ x v1 ((at_ : Int) + 1) W hC (by omega) k1 e1 rfl rfl (by omega) hn0 (by omega)).mono ?_
  rintro e W' ⟨rfl, ha⟩
  exact ⟨rfl, Lk.next (v0 := v0) (v1 := v1) hK hC hl ha (by simp) (by rw [List.getElem?_set_ne (by omega)]; exact h0) (by simp [k1])⟩

set_option maxHeartbeats 1000000 in
theorem take_any (K L R at_ : Nat) (v0 v1 n : Int) (W : World) (h : Lk W K L R at_ v0 v1 n) (hn0 : 0 ≤ n) (hn1 : n < 10000) :
    Calls Try.prog 14 #[.pointer (some ⟨K, 0, none⟩)] W fun e W' => e = .returned (.tuple #[.int .i64 (wrap64 (wadd v0 1 - 1)), .int .i64 0]) ∧ Lk W' K L R at_ (wadd v0 1) v1 (n + 1) ∧ Chg (fun g => g = L ∨ g = R) W W' := by
  have hmf : ∀ (fn : Fn) (first cap : Array Value) (W : World), (Instr.makeFunc fn first cap).run Try.prog W = .ok (.func fn first cap) W := fun _ _ _ _ => rfl
  obtain ⟨k0, k1, hat⟩ := h.cells_
  have H := Lib.hid h
  clear h
  go_enter Try.func14, Try.ntmps14
  go_wp2_with (first | (go_at_call 26; go_in) | (go_at_call 27; refine (lk_add K L R at_ v0 v1 n 1 _ H.out hn0 (by omega)).mono ?_; rintro e w1 ⟨rfl, ha, hc⟩))
  go_ret2
  exact ⟨rfl, ha, hc⟩
set_option maxHeartbeats 1000000 in
theorem mine_any (K L R at_ : Nat) (v0 v1 n x : Int) (W : World) (h : Lk W K L R at_ v0 v1 n) (hn0 : 0 ≤ n) (hn1 : n < 10000) :
    Calls Try.prog 15 #[.pointer (some ⟨K, 0, none⟩), .int .i64 x] W fun e W' => e = .returned (.tuple #[.bool (v1 == x), .int .i64 0]) ∧ Lk W' K L R at_ v0 v1 (n + 1) ∧ Chg (fun g => g = L ∨ g = R) W W' := by
  have hmf : ∀ (fn : Fn) (first cap : Array Value) (W : World), (Instr.makeFunc fn first cap).run Try.prog W = .ok (.func fn first cap) W := fun _ _ _ _ => rfl
  obtain ⟨k0, k1, hat⟩ := h.cells_
  have H := Lib.hid h
  clear h
  go_enter Try.func15, Try.ntmps15
  go_wp2_with (first | (go_at_call 26; go_in) | (go_at_call 13; refine (lk_load1 K L R at_ v0 v1 n _ H.out hn0 (by omega)).mono ?_; rintro e w1 ⟨rfl, ha, hc⟩))
  go_ret2
  exact ⟨rfl, ha, hc⟩
theorem lk_chg {L R : Nat} {a b c : World} (h : Chg (fun g => g = L ∨ g = R) a b) (k : Chg (fun g => g = L ∨ g = R) b c) : Chg (fun g => g = L ∨ g = R) a c := h.trans k (fun _ _ h => h)
set_option maxHeartbeats 1000000 in
theorem leave_yes (K L R at_ : Nat) (v0 x n : Int) (W : World) (h : Lk W K L R at_ v0 x n) (hn0 : 0 ≤ n) (hn1 : n < 9000) :
    Calls Try.prog 16 #[.pointer (some ⟨K, 0, none⟩), .int .i64 x] W fun e W' => e = .returned (.int .i64 0) ∧ Lk W' K L R at_ v0 (wrap64 (x + 1)) (n + 1 + 1) ∧ Chg (fun g => g = L ∨ g = R) W W' := by
  have hmf : ∀ (fn : Fn) (first cap : Array Value) (W : World), (Instr.makeFunc fn first cap).run Try.prog W = .ok (.func fn first cap) W := fun _ _ _ _ => rfl
  have H := Lib.hid h
  clear h
  go_enter Try.func16, Try.ntmps16
  go_wp2_with fail
  refine (mine_any K L R at_ v0 x n x W H.out hn0 (by omega)).mono ?_
  rintro e w1 ⟨rfl, ha1, hc1⟩
  obtain ⟨k0, k1, hat⟩ := ha1.cells_
  have H1 := Lib.hid ha1
  clear ha1
  go_wp2_with (go_at_call 8; refine (lk_store1 K L R at_ v0 x (n + 1) _ _ H1.out (by omega) (by omega)).mono ?_; rintro e w2 ⟨rfl, ha2, hc2⟩)
  go_ret
  exact ⟨rfl, ha2, lk_chg hc1 hc2⟩
set_option maxHeartbeats 1000000 in
theorem leave_no (K L R at_ : Nat) (v0 v1 x n : Int) (W : World) (h : Lk W K L R at_ v0 v1 n) (hvx : (v1 == x) = false) (hn0 : 0 ≤ n) (hn1 : n < 9000) :
    Calls Try.prog 16 #[.pointer (some ⟨K, 0, none⟩), .int .i64 x] W fun e W' => e = .returned (.int .i64 9) ∧ Lk W' K L R at_ v0 v1 (n + 1) ∧ Chg (fun g => g = L ∨ g = R) W W' := by
  have H := Lib.hid h
  clear h
  go_enter Try.func16, Try.ntmps16
  go_wp2_with fail
  refine (mine_any K L R at_ v0 v1 n x W H.out hn0 (by omega)).mono ?_
  rw [hvx]
  rintro e w1 ⟨rfl, ha1, hc1⟩
  go_wp2
  go_ret
  exact ⟨rfl, ha1, hc1⟩
set_option maxHeartbeats 1000000 in
theorem waits_any (K L R at_ : Nat) (v0 v1 n : Int) (W : World) (h : Lk W K L R at_ v0 v1 n) (hn0 : 0 ≤ n) (hn1 : n < 9000) :
    Calls Try.prog 17 #[.pointer (some ⟨K, 0, none⟩)] W fun e W' => e = .returned (.int .i64 (wrap64 (v0 - v1))) ∧ Lk W' K L R at_ v0 v1 (n + 1 + 1) ∧ Chg (fun g => g = L ∨ g = R) W W' := by
  have hmf : ∀ (fn : Fn) (first cap : Array Value) (W : World), (Instr.makeFunc fn first cap).run Try.prog W = .ok (.func fn first cap) W := fun _ _ _ _ => rfl
  obtain ⟨k0, k1, hat⟩ := h.cells_
  have H := Lib.hid h
  clear h
  go_enter Try.func17, Try.ntmps17
  go_wp2_with (go_at_call 26; go_in)
  refine (lk_load0 K L R at_ v0 v1 n W H.out hn0 (by omega)).mono ?_
  rintro e w1 ⟨rfl, ha1, hc1⟩
  obtain ⟨k2, k3, _⟩ := ha1.cells_
  have H1 := Lib.hid ha1
  clear ha1 k0 k1
  go_wp2_with fail
  refine (lk_load1 K L R at_ v0 v1 (n + 1) w1 H1.out (by omega) (by omega)).mono ?_
  rintro e w2 ⟨rfl, ha2, hc2⟩
  go_wp2
  go_ret
  exact ⟨rfl, ha2, lk_chg hc1 hc2⟩

set_option maxHeartbeats 1000000 in
theorem tnew_in (L R at_ : Nat) (xs : List Int) (n v0 v1 : Int) (W : World) (hC : Cels W L R xs n) (hl : xs.length ≤ 100) (h0 : xs[at_]? = some v0) (h1 : xs[at_ + 1]? = some v1) :
    Calls Try.prog 9 #[.pointer (some ⟨L, 0, none⟩), .int .i64 at_] W fun e W' => e = .returned (.pointer (some ⟨W.heap.size, 0, none⟩)) ∧ Lk W' W.heap.size L R at_ v0 v1 n ∧ Chg (fun _ => False) W W' := by
  have hrow := hC.row
  have k1 := (List.getElem?_eq_some_iff.1 h1).1
  have i0 : (0 : Int) ≤ (at_ : Int) := by omega
  have i1 : (at_ : Int) < (xs.length : Int) - 1 := by omega
  have fin : Lk (W.alloc (.cells #[.pointer (some ⟨L, 0, none⟩), .int .i64 at_] 55)) W.heap.size L R at_ v0 v1 n := ⟨xs, Blk.new _ _ _, hC.alloc _, hl, h0, h1⟩
  have FIN := Lib.hid fin
  clear fin h0 h1 hC
  go_enter Try.func9, Try.ntmps9
  go_wp2_with (go_at_call 20; go_in)
  go_ret
  exact ⟨rfl, FIN.out, (Chg.refl _ _).alloc _⟩
set_option maxHeartbeats 1000000 in
theorem tnew_out (L R : Nat) (i : Int) (xs : List Int) (n : Int) (W : World) (hC : Cels W L R xs n) (hl : xs.length ≤ 100) (hi : i < 0 ∨ (xs.length : Int) - 1 ≤ i) :
    Calls Try.prog 9 #[.pointer (some ⟨L, 0, none⟩), .int .i64 i] W fun e W' => e = .returned (.pointer none) ∧ W' = W := by
  have hrow := hC.row
  clear hC
  by_cases h : i < 0
  · go_enter Try.func9, Try.ntmps9
    go_wp2
    go_ret
    exact ⟨rfl, rfl⟩
  · have h0 : 0 ≤ i := by omega
    have h1 : (xs.length : Int) - 1 ≤ i := by omega
    clear hi
    go_enter Try.func9, Try.ntmps9
    go_wp2_with (go_at_call 20; go_in)
    go_ret
    exact ⟨rfl, rfl⟩

theorem take_v (K L R at_ : Nat) (v0 v0' r v1 n n' : Int) (W : World) (h : Lk W K L R at_ v0 v1 n) (hv : wadd v0 1 = v0') (hr : wrap64 (v0' - 1) = r) (hn : n + 1 = n') (hn0 : 0 ≤ n) (hn1 : n < 10000) :
    Calls Try.prog 14 #[.pointer (some ⟨K, 0, none⟩)] W fun e W' => e = .returned (.tuple #[.int .i64 r, .int .i64 0]) ∧ Lk W' K L R at_ v0' v1 n' ∧ Chg (fun g => g = L ∨ g = R) W W' := by
  subst hv hr hn; exact take_any K L R at_ v0 v1 n W h hn0 hn1
theorem mine_v (K L R at_ : Nat) (v0 v1 n n' x : Int) (b : Bool) (W : World) (h : Lk W K L R at_ v0 v1 n) (hb : (v1 == x) = b) (hn : n + 1 = n') (hn0 : 0 ≤ n) (hn1 : n < 10000) :
    Calls Try.prog 15 #[.pointer (some ⟨K, 0, none⟩), .int .i64 x] W fun e W' => e = .returned (.tuple #[.bool b, .int .i64 0]) ∧ Lk W' K L R at_ v0 v1 n' ∧ Chg (fun g => g = L ∨ g = R) W W' := by
  subst hb hn; exact mine_any K L R at_ v0 v1 n x W h hn0 hn1
theorem leave_v (K L R at_ : Nat) (v0 x x' n n' : Int) (W : World) (h : Lk W K L R at_ v0 x n) (hx : wrap64 (x + 1) = x') (hn : n + 1 + 1 = n') (hn0 : 0 ≤ n) (hn1 : n < 9000) :
    Calls Try.prog 16 #[.pointer (some ⟨K, 0, none⟩), .int .i64 x] W fun e W' => e = .returned (.int .i64 0) ∧ Lk W' K L R at_ v0 x' n' ∧ Chg (fun g => g = L ∨ g = R) W W' := by
  subst hx hn; exact leave_yes K L R at_ v0 x n W h hn0 hn1
theorem waits_v (K L R at_ : Nat) (v0 v1 d n n' : Int) (W : World) (h : Lk W K L R at_ v0 v1 n) (hd : wrap64 (v0 - v1) = d) (hn : n + 1 + 1 = n') (hn0 : 0 ≤ n) (hn1 : n < 9000) :
    Calls Try.prog 17 #[.pointer (some ⟨K, 0, none⟩)] W fun e W' => e = .returned (.int .i64 d) ∧ Lk W' K L R at_ v0 v1 n' ∧ Chg (fun g => g = L ∨ g = R) W W' := by
  subst hd hn; exact waits_any K L R at_ v0 v1 n W h hn0 hn1

set_option maxHeartbeats 2000000 in
theorem alive_any (w : World) : Calls Try.prog 6 #[] w fun e w' => e = .returned (.bool true) ∧ Below w.heap.size w w' := by
  go_enter Try.func6, Try.ntmps6
  go_wp2_with fail
  refine (show Calls Try.prog 7 #[.int .i64 2] w _ from cnew_in 2 w (by omega)).mono ?_
  rintro e w1 ⟨rfl, hC1, hb1⟩
  go_wp2_with fail
  refine (show Calls Try.prog 9 #[.pointer (some ⟨w.heap.size + 1, 0, none⟩), .int .i64 0] w1 _ from tnew_in (w.heap.size + 1) w.heap.size 0 _ 0 0 0 w1 hC1 (by simp) rfl rfl).mono ?_
  rintro e w2 ⟨rfl, h2, hc2⟩
  generalize w1.heap.size = K at h2
  have hb2 : Below w.heap.size w w2 := hb1.trans (hc2.below (by simpa using hb1.size) (fun _ _ h => h.elim))
  have HB2 := Lib.hid hb2
  clear hC1 hb1 hc2 hb2
  go_wp2_with fail
  refine (take_v K _ _ 0 0 1 0 0 0 1 w2 h2 (by decide +kernel) (by decide +kernel) rfl (by omega) (by omega)).mono ?_
  rintro e w3 ⟨rfl, h3, hc3⟩
  go_wp2_with fail
  refine (take_v K _ _ 0 1 2 1 0 1 2 w3 h3 (by decide +kernel) (by decide +kernel) rfl (by omega) (by omega)).mono ?_
  rintro e w4 ⟨rfl, h4, hc4⟩
  go_wp2_with fail
  refine (mine_v K _ _ 0 2 0 2 3 1 false w4 h4 (by decide) rfl (by omega) (by omega)).mono ?_
  rintro e w5 ⟨rfl, h5, hc5⟩
  go_wp2_with fail
  refine (leave_v K _ _ 0 2 0 1 3 5 w5 h5 (by decide +kernel) rfl (by omega) (by omega)).mono ?_
  rintro e w6 ⟨rfl, h6, hc6⟩
  go_wp2_with fail
  refine (mine_v K _ _ 0 2 1 5 6 1 true w6 h6 (by decide) rfl (by omega) (by omega)).mono ?_
  rintro e w7 ⟨rfl, h7, hc7⟩
  go_wp2_with fail
  refine (waits_v K _ _ 0 2 1 1 6 8 w7 h7 (by decide +kernel) rfl (by omega) (by omega)).mono ?_
  rintro e w8 ⟨rfl, h8, hc8⟩
  go_wp2
  go_ret
  have hc := lk_chg (lk_chg (lk_chg (lk_chg (lk_chg hc3 hc4) hc5) hc6) hc7) hc8
  exact ⟨rfl, HB2.out.trans (hc.below HB2.out.size (by rintro g _ (rfl | rfl) <;> omega))⟩
end Go.Proofs.Ytiabmkhkmhjkpaa
