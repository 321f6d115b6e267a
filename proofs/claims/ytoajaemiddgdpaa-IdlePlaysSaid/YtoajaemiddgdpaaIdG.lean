/- The document's answer for who has nothing to do: Put, Drop, on both at once. -/
import Derived.Test.YtoajaemiddgdpaaIdF
import Derived.Test.YtoajaemiddgdpaaRsame
import Derived.Test.YtoajaemiddgdpaaRhas
namespace Go.Proofs.Ytoajaemiddgdpaa
open Go.ChangeShapes Go.WideShapes Go.ChangeAt Go.RowKit Go.Deep
set_option linter.unusedVariables false

theorem idl_mem (xs : List Nat) (k : Nat) : decide ((k : Int) ∈ idl xs) = decide (k ∈ xs) := by
  by_cases h : k ∈ xs
  · rw [decide_eq_true h]; exact decide_eq_true (List.mem_map.2 ⟨k, h, rfl⟩)
  · rw [decide_eq_false h]
    refine decide_eq_false (fun e => h ?_)
    obtain ⟨j, hj, hjk⟩ := List.mem_map.1 e
    have h2 : (j : Int) = (k : Int) := hjk
    have : j = k := by omega
    exact this ▸ hj
theorem idl_out (xs : List Nat) (i : Int) (most : Nat) (hx : ∀ x ∈ xs, x < most) (hi : i < 0 ∨ (most : Int) ≤ i) : i ∉ idl xs := by
  intro e
  obtain ⟨j, hj, hjk⟩ := List.mem_map.1 e
  have := hx j hj
  have h2 : (j : Int) = i := hjk
  omega
theorem rput_no (A : Option Addr) (n c : Nat) (most i : Int) (xs : List Int) (W : World) (hA : Rd W 1 A n (ints xs)) (hn : n ≤ 1024) (h : i < 0 ∨ most ≤ i ∨ i ∈ xs) :
    Calls Try.prog 19 #[.slice A n c, .int .i64 most, .int .i64 i] W fun e W' => e = .returned (.tuple #[.slice A n c, .bool false]) ∧ W' = W := by
  have H := Lib.hid h
  by_cases h0 : i < 0
  · go_enter Try.func19, Try.ntmps19
    clear h
    go_wp2
    go_ret2
    exact ⟨rfl, rfl⟩
  · by_cases h1 : most ≤ i
    · go_enter Try.func19, Try.ntmps19
      clear h
      go_wp2
      go_ret2
      exact ⟨rfl, rfl⟩
    · have h2 : i ∈ xs := by rcases h with h | h | h; exact absurd h h0; exact absurd h h1; exact h
      have hh := has_any A n c i xs W hA (by omega)
      rw [decide_eq_true h2] at hh
      have h3 : i < most := by omega
      clear h h2
      go_enter Try.func19, Try.ntmps19
      go_wp2_with (go_at_call 14; refine hh.mono ?_; rintro e w1 ⟨rfl, rfl⟩)
      go_ret2
      exact ⟨rfl, rfl⟩
theorem rput_new (A : Option Addr) (n c : Nat) (most i : Int) (xs : List Int) (W : World) (hA : Rd W 1 A n (ints xs)) (hn : n ≤ 1024) (h0 : 0 ≤ i) (h1 : i < most) (h2 : i ∉ xs) :
    Calls Try.prog 19 #[.slice A n c, .int .i64 most, .int .i64 i] W fun e W' => ∃ A' c', e = .returned (.tuple #[.slice A' (1 + n) c', .bool true]) ∧ Row W' W.heap.size 3 1 A' (1 + n) c' (ints (i :: xs)) ∧ Chg (fun _ => False) W W' := by
  have hh := has_any A n c i xs W hA (by omega)
  rw [decide_eq_false h2] at hh
  have H2 := Lib.hid h2
  clear h2
  have hrow : Row (W.alloc (.cells #[.int .i64 i] 3)) W.heap.size 3 1 (some ⟨W.heap.size, 0, none⟩) 1 1 (ints [i]) := ⟨rfl, Nat.le_refl _, by decide, .inr ⟨W.heap.size, #[.int .i64 i], rfl, Nat.le_refl _, Blk.new _ _ _, by simp, rfl⟩⟩
  have HR := Lib.hid hrow
  clear hrow
  go_enter Try.func19, Try.ntmps19
  go_wp2_with (first
    | (go_at_call 14; refine hh.mono ?_; rintro e w1 ⟨rfl, rfl⟩)
    | (at_builtin; refine wpList_app rfl (.tmp 22) (.tmp 23) rfl W.heap.size _ 1 1 [i] rfl HR.out A n c xs rfl (hA.alloc _) (by omega) (by simp) ?_; intro A2 c2 w2 g1 g2 g3))
  go_ret2
  refine ⟨A2, c2, rfl, g1, ?_⟩
  exact ((Chg.refl _ _).alloc _).grown g2 (fun g hg => .inr (HR.out.blk_lt g hg).1)
def filt (i : Int) (xs : List Int) : List Int := xs.filter (fun x => x != i)
theorem filt_snoc (i : Int) (xs : List Int) (k : Nat) (hk : k < xs.length) : filt i (xs.take (k + 1)) = filt i (xs.take k) ++ if xs[k] = i then [] else [xs[k]] := by
  rw [List.take_succ_eq_append_getElem hk]
  unfold filt
  rw [List.filter_append]
  by_cases h : xs[k] = i <;> simp [h]
theorem filt_le (i : Int) (xs : List Int) : (filt i xs).length ≤ xs.length := List.length_filter_le _ _
theorem filt_lt (i : Int) (xs : List Int) : (filt i xs).length < xs.length ↔ i ∈ xs := by
  induction xs with
  | nil => simp [filt]
  | cons x t ih =>
    have hl := filt_le i t
    simp only [filt, List.filter_cons] at ih hl ⊢
    by_cases h : x = i
    · subst h
      simp; omega
    · have h' : i ≠ x := fun e => h e.symm
      simp [h, h', ih]
def DropR (i : Int) (W : World) (xs : List Int) (out j : Value) (wr : World) : Prop := ∃ (k : Nat) (A' : Option Addr) (c' : Nat), k ≤ xs.length ∧ j = .int .i64 k ∧ out = .slice A' (filt i (xs.take k)).length c' ∧ Row wr W.heap.size 3 1 A' (filt i (xs.take k)).length c' (ints (filt i (xs.take k))) ∧ Chg (fun _ => False) W wr
theorem DropR.skip {i : Int} {W wr : World} {xs : List Int} {k c : Nat} {A : Option Addr} (hk : k < xs.length) (he : xs[k] = i) (hrow : Row wr W.heap.size 3 1 A (filt i (xs.take k)).length c (ints (filt i (xs.take k)))) (hb : Chg (fun _ => False) W wr) :
    DropR i W xs (.slice A (filt i (xs.take k)).length c) (.int .i64 ((k : Int) + 1)) wr :=
  ⟨k + 1, A, c, by omega, by go_num, by rw [filt_snoc i xs k hk, if_pos he, List.append_nil], by rw [filt_snoc i xs k hk, if_pos he, List.append_nil]; exact hrow, hb⟩
theorem DropR.keep {i x : Int} {W wr w' : World} {xs : List Int} {k c c' : Nat} {A A' : Option Addr} {o : Obj} (hk : k < xs.length) (hx : x = xs[k]) (he : x ≠ i) (hrow : Row wr W.heap.size 3 1 A (filt i (xs.take k)).length c (ints (filt i (xs.take k)))) (hb : Chg (fun _ => False) W wr)
    (h1 : Row w' W.heap.size 3 1 A' ((filt i (xs.take k)).length + 1) c' (ints (filt i (xs.take k) ++ [x]))) (h2 : (wr.alloc o).grownBy w' (blk A)) : DropR i W xs (.slice A' ((filt i (xs.take k)).length + 1) c') (.int .i64 ((k : Int) + 1)) w' := by
  subst hx
  have e := filt_snoc i xs k hk
  rw [if_neg he] at e
  exact ⟨k + 1, A', c', by omega, by go_num, by rw [e, List.length_append]; rfl, by rw [e, List.length_append]; exact h1, (hb.alloc o).grown h2 (fun g hg => .inr (hrow.blk_lt g hg).1)⟩
set_option maxHeartbeats 1000000 in
theorem rdrop_any (A : Option Addr) (n c : Nat) (i : Int) (xs : List Int) (W : World) (hA : Rd W 1 A n (ints xs)) (hn : n ≤ 1024) :
    Calls Try.prog 20 #[.slice A n c, .int .i64 i] W fun e W' => ∃ A' c', e = .returned (.tuple #[.slice A' (filt i xs).length c', .bool (decide (i ∈ xs))]) ∧ Row W' W.heap.size 3 1 A' (filt i xs).length c' (ints (filt i xs)) ∧ Chg (fun _ => False) W W' := by
  have hl := hA.len
  subst hl
  go_enter Try.func20, Try.ntmps20
  go_wp2
  go_loopw [6, 7] (fun out j wr => DropR i W xs out j wr) (fun _ j _ => xs.length - (intOf j).toNat)
  case atStart => exact ⟨0, none, 0, Nat.zero_le _, rfl, rfl, Row.nil _ _ _ _, Chg.refl _ _⟩
  case round =>
    obtain ⟨k, A', c', hk, rfl, rfl, hrow, hb⟩ := hrel
    have hfl : (filt i (xs.take k)).length ≤ k := by have := filt_le i (xs.take k); rw [List.length_take] at this; omega
    by_cases hlt : k < xs.length
    · obtain ⟨b, o, rfl, hbl, hc⟩ := (hA.kept hb (fun _ _ h => h)).at_ (by omega)
      have e0 := hc k hlt
      obtain ⟨x, hx⟩ : ∃ x, x = xs[k] := ⟨_, rfl⟩
      rw [← hx] at e0
      have Hx := Lib.hid hx
      clear hc hx
      have hbs := hb.size
      by_cases hxi : x = i
      · have hd : decide (x = i) = true := by simpa using hxi
        have hd2 : (x != i) = false := by simpa using hxi
        go_wp2
        go_roundw
        case rel => exact DropR.skip hlt (Hx.out ▸ hxi) hrow hb
        case measure => simp [intOf]; omega
      · have hd : decide (x = i) = false := by simpa using hxi
        have hd2 : (x != i) = true := by simpa using hxi
        go_wp2_with (at_builtin; refine wpList_app rfl (.tmp 20) (.tmp 25) rfl W.heap.size A' _ c' (filt i (xs.take k)) rfl (hrow.alloc _) _ 1 1 [x] rfl (Rd.lit _ _ _) (by omega) (by simp; omega) ?_; intro A2 c2 w2 h1 h2 h3)
        go_roundw
        case rel => exact DropR.keep hlt Hx.out hxi hrow hb h1 h2
        case measure => simp [intOf]; omega
    · obtain rfl : k = xs.length := by omega
      rw [List.take_length] at hrow hfl ⊢
      have hl2 := Lib.hid (filt_lt i xs)
      by_cases hm : i ∈ xs
      · have h3 : ((filt i xs).length : Int) < (xs.length : Int) := by have := hl2.out.2 hm; omega
        have Hm := Lib.hid hm
        clear hm
        go_wp2
        go_ret2
        exact ⟨A', c', by rw [decide_eq_true Hm.out]; rfl, hrow, hb⟩
      · have h3 : ¬ ((filt i xs).length : Int) < (xs.length : Int) := by intro h; exact hm (hl2.out.1 (by omega))
        have Hm := Lib.hid hm
        clear hm
        go_wp2
        go_ret2
        exact ⟨A', c', by rw [decide_eq_false Hm.out]; rfl, hrow, hb⟩
end Go.Proofs.Ytoajaemiddgdpaa
