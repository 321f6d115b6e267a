/- Contract: All of the log, rising. -/
import Derived.Test.YtffhoddpmmlhkaaSusA
import Derived.Test.YtffhoddpmmlhkaaMrange
import Derived.Test.YtffhoddpmmlhkaaRapp
import Derived.Test.YtffhoddpmmlhkaaRsort1
namespace Go.Proofs.Ytffhoddpmmlhkaa
open Go.ChangeShapes Go.WideShapes Go.ChangeAt Go.RowKit Go.Deep Go.Maps
set_option linter.unusedVariables false

theorem srt_rise {xs : List Int} (h : xs.Nodup) : Up (srt xs) := by
  have h1 := srt_up xs
  have h2 : (srt xs).Nodup := (List.mergeSort_perm xs _).nodup_iff.2 h
  unfold Up
  rw [List.pairwise_iff_getElem]
  intro i j hi hj hij
  have a := List.pairwise_iff_getElem.1 h1 i j hi hj hij
  have b := List.pairwise_iff_getElem.1 (List.nodup_iff_pairwise_ne.1 h2) i j hi hj hij
  omega
def RoundAl (W : World) (B n r : Nat) (S : Int → Bool) (al : Value) (wr : World) : Prop :=
  ∃ (xs : List Int) (A : Option Addr) (c cnt : Nat) (L : Int → Prop), al = .slice A xs.length c ∧ Row wr (r + 1) 3 1 A xs.length c (ints xs) ∧ Mrng wr B r n (fun x => S x = true) L cnt ∧ xs.length + cnt ≤ n ∧ xs.Nodup ∧
    (∀ x : Int, (Lit.int .i64 x).wf = true → (x ∈ xs ↔ S x = true ∧ ¬ L x)) ∧ (∀ x ∈ xs, (Lit.int .i64 x).wf = true) ∧ (∀ x : Int, (Lit.int .i64 x).wf = true → L x → S x = true) ∧ Below W.heap.size W wr
theorem RoundAl.step {W wr w1 w2 : World} {B n r c cnt cnt' : Nat} {S : Int → Bool} {xs : List Int} {A A' : Option Addr} {c' : Nat} {L : Int → Prop} {x : Int} {o : Obj} (hBr : B < r) (hWr : W.heap.size ≤ r) (hrow : Row wr (r + 1) 3 1 A xs.length c (ints xs)) (hl : xs.length + cnt ≤ n) (hnd : xs.Nodup)
    (hm : ∀ x : Int, (Lit.int .i64 x).wf = true → (x ∈ xs ↔ S x = true ∧ ¬ L x)) (hw : ∀ x ∈ xs, (Lit.int .i64 x).wf = true) (hLS : ∀ x : Int, (Lit.int .i64 x).wf = true → L x → S x = true) (hb : Below W.heap.size W wr)
    (hx : (Lit.int .i64 x).wf = true) (hLx : L x) (hR : Mrng w1 B r n (fun x => S x = true) (fun y => L y ∧ y ≠ x) cnt') (hlt : cnt' < cnt) (hg1 : wr.grownBy w1 (some r))
    (h1 : Row w2 (r + 1) 3 1 A' (xs.length + 1) c' (ints (xs ++ [x]))) (h2 : (w1.alloc o).grownBy w2 (blk A)) : RoundAl W B n r S (.slice A' (xs.length + 1) c') w2 := by
  refine ⟨xs ++ [x], A', c', cnt', _, by simp, by simpa using h1, ((hR.alloc o).grown h2 ?_ ?_), by simp; omega, ?_, ?_, ?_, ?_, ?_⟩
  · intro h; have := (hrow.blk_lt B h.symm).1; omega
  · intro h; have := (hrow.blk_lt r h.symm).1; omega
  · rw [List.nodup_append]
    refine ⟨hnd, by simp, ?_⟩
    intro a ha b hb e
    have : b = x := by simpa using hb
    subst this
    subst e
    exact ((hm a hx).1 ha).2 hLx
  · intro y hy
    rw [List.mem_append, hm y hy, List.mem_singleton]
    constructor
    · rintro (⟨a, b⟩ | rfl)
      · exact ⟨a, fun h => b h.1⟩
      · exact ⟨hLS y hy hLx, fun h => h.2 rfl⟩
    · rintro ⟨a, b⟩
      by_cases e : y = x
      · exact .inr e
      · exact .inl ⟨a, fun h => b ⟨h, e⟩⟩
  · intro y hy
    rcases List.mem_append.1 hy with h | h
    · exact hw y h
    · rw [List.mem_singleton.1 h]; exact hx
  · intro y hy h; exact hLS y hy h.1
  · have b1 := hb.grown hg1 (Nat.le_trans hb.size (Nat.le_refl _)) (fun g hg => by cases hg; exact hWr)
    exact (b1.alloc b1.size o).grown h2 (by have := b1.size; simp; omega) (fun g hg => by have := (hrow.blk_lt g hg).1; omega)
theorem All_nil (W : World) : Calls Try.prog 15 #[.pointer none] W fun e W' => e = .returned (.slice none 0 0) ∧ W = W' := by
  go_enter Try.func15, Try.ntmps15
  go_wp2
  go_ret
  exact ⟨rfl, rfl⟩
set_option maxHeartbeats 4000000 in
theorem All_any {W : World} {G B gs n : Nat} {S : Int → Bool} (h : Lg W G B gs n S) (hn : n ≤ 1000) : Calls Try.prog 15 #[.pointer (some ⟨G, 0, none⟩)] W fun e W' =>
    ∃ (xs : List Int) (A : Option Addr) (c : Nat), e = .returned (.slice A xs.length c) ∧ Rd W' 1 A xs.length (ints xs) ∧ Up xs ∧ (∀ x : Int, (Lit.int .i64 x).wf = true → (x ∈ xs ↔ S x = true)) ∧ (∀ x ∈ xs, (Lit.int .i64 x).wf = true) ∧ xs.length ≤ n ∧ Below W.heap.size W W' := by
  obtain ⟨c0, c1⟩ := h.cells
  have HM := Lib.hid h.set
  have hBr := h.set.lt
  clear h
  go_enter Try.func15, Try.ntmps15
  go_wp2_with (at_range; refine wpList_set_range rfl (.tmp 10) rfl rfl HM.out ?_; intro w0 cnt hc hr hg hs)
  go_frame
  have H0 : Hid (RoundAl W B n W.heap.size S (.slice none 0 0) w0) := ⟨[], none, 0, cnt, _, rfl, Row.nil _ _ _ _, hr, by simpa using hc, by simp, fun x _ => by simp, by simp, fun x _ h => h, (Below.refl _ _).grown hg (Nat.le_refl _) (fun g hg => by cases hg)⟩
  clear hr hg hs hc
  go_loopw [3] (fun al wr => RoundAl W B n W.heap.size S al wr) (fun _ wr => wr.rangeLeft B W.heap.size)
  case atStart => exact H0.out
  case round =>
    clear H0
    obtain ⟨xs, A, c, cnt, L, rfl, hrow, hR, hl, hnd, hm, hw, hLS, hb⟩ := hrel
    have HR := Lib.hid hR
    go_wp2_with (at_next; refine wpList_set_next rfl (.tmp 11) rfl rfl HR.out ?_ ?_)
    · intro hd
      have hmem : Hid (∀ x : Int, (Lit.int .i64 x).wf = true → (x ∈ xs ↔ S x = true)) := Lib.hid (fun x hx => (hm x hx).trans ⟨fun h => h.1, fun h => ⟨h, hd x hx⟩⟩)
      have HW := Lib.hid hw
      have HL := Lib.hid (show xs.length ≤ n by omega)
      have HB := Lib.hid hb
      have HN := Lib.hid hnd
      clear hd hm hw hLS hR HR hb hnd hl
      by_cases h0 : xs = []
      · subst h0
        go_wp2_with (go_at_call 22; refine (Try.slices_Sort_int_none A c _).mono ?_; rintro e w1 ⟨rfl, hwe⟩; have HE := Lib.hid hwe; clear hwe)
        go_ret
        have hwe := HE.out
        subst hwe
        exact ⟨[], A, c, rfl, (show Rd _ 1 A 0 [] from Rd.nil _ _ _), List.Pairwise.nil, hmem.out, HW.out, HL.out, HB.out⟩
      · have hpos : 0 < xs.length := List.length_pos_iff.2 h0
        clear h0
        rcases hrow.2.2.2 with ⟨_, h1, _⟩ | ⟨g, cur, rfl, hg, _, _⟩
        · omega
        · have HS := Lib.hid (sort_any (W.heap.size + 1) xs.length c c g xs wr hrow (by have := HL.out; omega))
          have hg2 : Hid (W.heap.size ≤ g) := Lib.hid (by omega)
          clear hrow hg
          go_wp2_with (go_at_call 22; refine HS.out.mono ?_; rintro e w1 ⟨rfl, hr1, hc1⟩; have HR1 := Lib.hid hr1; have HC1 := Lib.hid hc1; clear hr1 hc1)
          go_ret
          exact ⟨srt xs, some ⟨g, 0, none⟩, c, by rw [srt_len]; rfl, by rw [srt_len]; exact HR1.out.rd, srt_rise HN.out, fun x hx => (srt_mem xs x).trans (hmem.out x hx), fun x hx => HW.out x ((srt_mem xs x).1 hx), by rw [srt_len]; exact HL.out, HB.out.trans (HC1.out.below HB.out.size (fun k hk h => by have := hg2.out; omega))⟩
    · intro x w1 cnt1 hx hLx hR1 hlt hg1 hs1 hen
      have hne : ∀ g, blk A = some g → ¬ g = W.heap.size := fun g hg e => by have := (hrow.blk_lt g hg).1; omega
      have HRow1 := Lib.hid (hrow.kept ((Chg.refl (fun g => g = W.heap.size) wr).grown hg1 (fun k hk => .inl (Option.some.inj hk).symm)) hne)
      have HBs := Lib.hid (fun o => show W.heap.size + 1 ≤ (w1.alloc o).heap.size by have := hR.lt; simp; omega)
      have HK := Lib.hid (show xs.length + 1 ≤ 1048576 by omega)
      have HSt := Lib.hid (fun w2 A' c' o h1 h2 => RoundAl.step (w2 := w2) (A' := A') (c' := c') (o := o) hBr (Nat.le_refl _) hrow hl hnd hm hw hLS hb hx hLx hR1 hlt hg1 h1 h2)
      have HE1 := Lib.hid (fun w2 o (h2 : (w1.alloc o).grownBy w2 (blk A)) => ((hR1.alloc o).grown h2 (fun h => by have := (hrow.blk_lt B h.symm).1; omega) (fun h => by have := (hrow.blk_lt _ h.symm).1; omega)).left_eq)
      have HE2 := Lib.hid hR.left_eq
      have HLt := Lib.hid hlt
      clear hrow hR HR hl hnd hm hw hLS hb hx hLx hR1 hlt hg1 hs1 hne
      go_wp2_with (at_builtin; refine wpList_app rfl (.tmp 16) (.tmp 18) rfl (W.heap.size + 1) A xs.length c xs ?_ ?_ (some ⟨w1.heap.size, 0, none⟩) 1 1 [x] ?_ ?_ ?_ ?_ ?_; (next => rfl); (next => exact HRow1.out.alloc _); (next => rfl); (next => exact Rd.lit _ _ _); (next => exact HK.out); (next => exact HBs.out _); intro A2 c2 w2 h1 h2 h3)
      go_roundw
      case measure => rw [HE1.out _ _ h2, HE2.out]; exact HLt.out
      case rel => exact HSt.out _ _ _ _ h1 h2
end Go.Proofs.Ytffhoddpmmlhkaa
