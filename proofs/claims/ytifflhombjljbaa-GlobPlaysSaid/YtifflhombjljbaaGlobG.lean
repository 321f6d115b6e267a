/- Contract: the queue's Remove. -/
import Derived.Test.YtifflhombjljbaaGlobOrderW
import Derived.Test.YtifflhombjljbaaGlobF
import Derived.Test.YtifflhombjljbaaRdel
import Derived.Lib.Slices
namespace Go.Proofs.Ytifflhombjljbaa
open Go.ChangeShapes Go.WideShapes Go.ChangeAt Go.RowKit Go.Deep
set_option linter.unusedVariables false

theorem index_row (b o n c : Nat) (xs : List Int) (g : Int) (W : World) (h : Rd W 1 (some ⟨b, o, none⟩) n (ints xs)) (hn : n ≤ 1048576) : Calls Try.prog 28 #[.slice (some ⟨b, o, none⟩) n c, .int .i64 g] W fun e W' => e = .returned (.int .i64 (Lib.idxOf xs g)) ∧ W = W' := by
  have hl := h.len
  subst hl
  have hc : ∀ j, j < xs.length → W.cell? ⟨b, o + j, none⟩ = some (.int .i64 (xs.getD j 0)) := fun j hj => by
    obtain ⟨b', o', he, _, hcc⟩ := h.at_ (by omega)
    cases he
    rw [hcc j hj]
    simp [List.getD, hj]
  have hs := Try.slices_Index_int b o xs.length c xs g W (Nat.le_refl _) (by omega) hc
  rw [List.take_length] at hs
  exact hs.mono fun _ _ h => ⟨h.1, h.2.symm⟩
theorem index_at {xs : List Int} {g : Int} (h : g ∈ xs) : ∃ i : Nat, i < xs.length ∧ xs.getD i 0 = g ∧ (∀ j, j < i → xs.getD j 0 ≠ g) ∧ Lib.idxOf xs g = i := by
  have ex : ∃ i, i < xs.length ∧ xs.getD i 0 = g := by
    obtain ⟨i, hi, e⟩ := List.getElem_of_mem h
    exact ⟨i, hi, by simp [List.getD, hi, e]⟩
  have key : ∀ n, (∃ i, i < n ∧ i < xs.length ∧ xs.getD i 0 = g) → ∃ i, i < xs.length ∧ xs.getD i 0 = g ∧ ∀ j, j < i → xs.getD j 0 ≠ g := by
    intro n
    induction n with
    | zero => rintro ⟨i, hi, _⟩; omega
    | succ n ih =>
      rintro ⟨i, hi, h1, h2⟩
      by_cases e : ∃ j, j < n ∧ j < xs.length ∧ xs.getD j 0 = g
      · exact ih e
      · exact ⟨i, h1, h2, fun j hj e2 => e ⟨j, by omega, by omega, e2⟩⟩
  obtain ⟨i, hi, e⟩ := ex
  obtain ⟨k, hk, h1, h2⟩ := key (i + 1) ⟨i, by omega, hi, e⟩
  refine ⟨k, hk, h1, h2, ?_⟩
  have h3 := Lib.idxOf_hit xs xs.length k g hk (Nat.le_refl _) h1 h2
  rwa [List.take_length] at h3
theorem index_not {xs : List Int} {g : Int} (h : g ∉ xs) : Lib.idxOf xs g = -1 := by
  have h3 := Lib.idxOf_miss xs xs.length g (fun j hj e => h (by
    have : xs[j] = g := by simpa [List.getD, hj] using e
    rw [← this]; exact List.getElem_mem hj))
  rwa [List.take_length] at h3
set_option maxHeartbeats 2000000 in
theorem qremove_no (B K : Nat) (A1 A2 : Option Addr) (L : List Int) (g : Int) (W : World) (hS : GQ W B K A1 A2 L) (hg : g ∉ L) (hm : L.length ≤ 50000) :
    Calls Try.prog 20 #[.pointer (some ⟨K, 0, none⟩), .int .i64 g] W fun e W' => e = .returned (.bool false) ∧ Chg (fun _ => False) W W' := by
  have HL := Lib.hid (list_any B K A1 A2 L W hS)
  have hi := index_not hg
  clear hS hg
  go_enter Try.func20, Try.ntmps20
  go_wp2_with (go_at_call 13; refine HL.out.mono ?_; rintro e u1 ⟨Al, cl, rfl, hr, hc⟩; have HR := Lib.hid hr; have HC := Lib.hid hc; clear hr hc; refine (show _ from ?_))
  by_cases h0 : L = []
  · subst h0
    go_wp2_with (go_at_call 28; refine (Try.slices_Index_int_empty Al cl g _).mono ?_; rintro e w1 ⟨rfl, hw⟩; have HE := Lib.hid hw; clear hw)
    go_ret
    rw [HE.out]
    exact ⟨rfl, HC.out⟩
  · rcases HR.out.2.2.2 with ⟨_, h1, _⟩ | ⟨G, cur, rfl, _, _, _⟩
    · exact absurd (List.eq_nil_of_length_eq_zero h1) h0
    · go_wp2_with (go_at_call 28; refine (index_row G 0 L.length cl L g _ HR.out.rd (by omega)).mono ?_; rw [hi]; rintro e w1 ⟨rfl, rfl⟩)
      go_ret
      exact ⟨rfl, HC.out⟩
theorem gq_clear {w : World} {B K : Nat} {A1 A2 : Option Addr} {L : List Int} (h : GQ w B K A1 A2 L) : GQ ((w.setCell ⟨K, 0, none⟩ (.slice none 0 0)).setCell ⟨K, 1, none⟩ (.slice none 0 0)) B K none none [] := by
  obtain ⟨c1, c2, f, b, ⟨h0, hK, h1, h2, hne⟩, _⟩ := h
  have h3 := (hK.set_ 0 (.slice none 0 0)).set_ 1 (.slice none 0 0)
  exact ⟨0, 0, [], [], ⟨h0, h3, Row.nil _ _ _ _, Row.nil _ _ _ _, fun g hg => by cases hg⟩, rfl, by simp⟩
theorem gq_cells {w : World} {B K : Nat} {A1 A2 : Option Addr} {L : List Int} (h : GQ w B K A1 A2 L) : ∃ v0 v1, w.cell? ⟨K, 0, none⟩ = some v0 ∧ w.cell? ⟨K, 1, none⟩ = some v1 ∧ w.frozen? ⟨K, 0, none⟩ = false ∧ w.frozen? ⟨K, 1, none⟩ = false := by
  obtain ⟨c1, c2, f, b, ⟨_, hK, _⟩, _⟩ := h
  exact ⟨_, _, hK.cell 0, hK.cell 1, hK.frozen 0, hK.frozen 1⟩
theorem gq_end {W u1 w3 w4 : World} {B K G : Nat} {A1 A2 : Option Addr} {L : List Int} {x y : Value} (h1 : Chg (fun _ => False) W u1) (hG : W.heap.size ≤ G) (h3 : Chg (fun g => g = G) ((u1.setCell ⟨K, 0, none⟩ x).setCell ⟨K, 1, none⟩ y) w3) (h4 : GAft w3 w4 B K none none ([] ++ L)) : GAft W w4 B K A1 A2 L := by
  obtain ⟨A1', A2', g1, g2, g3⟩ := h4
  have a1 : Chg (fun g => g = K) W u1 := ⟨h1.os, h1.tape, h1.output, h1.size, fun k hk _ => h1.block k hk (fun h => h)⟩
  have a2 := (a1.setCell (p := ⟨K, 0, none⟩) (.inl rfl) x).setCell (p := ⟨K, 1, none⟩) (.inl rfl) y
  have a3 : Chg (fun g => g = K) W w3 := a2.trans h3 (fun k hk h => absurd h (by omega))
  have a4 : Chg (fun g => g = K) W w4 := a3.trans g2 (fun k hk h => by rcases h with h | h | h; exact h; cases h; cases h)
  refine ⟨A1', A2', g1, ⟨a4.os, a4.tape, a4.output, a4.size, fun k hk hn => a4.block k hk (fun e => hn (.inl e))⟩, fun g hg => ?_⟩
  rcases g3 g hg with h | h
  · rcases h with h | h | h
    · exact .inl (.inl h)
    · cases h
    · cases h
  · have := a3.size
    right; omega
set_option maxHeartbeats 4000000 in
theorem qremove_yes (B K : Nat) (A1 A2 : Option Addr) (L : List Int) (g : Int) (W : World) (hS : GQ W B K A1 A2 L) (hg : g ∈ L) (hm : L.length ≤ 50000) (hB : B ≤ W.heap.size) :
    ∃ i : Nat, i < L.length ∧ L.getD i 0 = g ∧ (∀ j, j < i → L.getD j 0 ≠ g) ∧ Calls Try.prog 20 #[.pointer (some ⟨K, 0, none⟩), .int .i64 g] W fun e W' => e = .returned (.bool true) ∧ GAft W W' B K A1 A2 (right (L.eraseIdx i)) := by
  obtain ⟨i, hi, h1, h2, hx⟩ := index_at hg
  refine ⟨i, hi, h1, h2, ?_⟩
  have HL := Lib.hid (list_any B K A1 A2 L W hS)
  have hKl : K < W.heap.size := hS.fp_lt K (.inl rfl) |>.2
  have HS := Lib.hid hS
  have i0 : (0 : Int) ≤ i := by omega
  have i1 : (i : Int) ≤ 50000 := by omega
  clear hS hg h1 h2
  go_enter Try.func20, Try.ntmps20
  go_wp2_with (go_at_call 13; refine HL.out.mono ?_; rintro e u1 ⟨Al, cl, rfl, hr, hc⟩; have HR := Lib.hid hr; have HC := Lib.hid hc; clear hr hc; refine (show _ from ?_))
  rcases HR.out.2.2.2 with ⟨_, h1, _⟩ | ⟨G, cur, rfl, hGW, _, _⟩
  · omega
  · have HS1 := Lib.hid (HS.out.same HC.out)
    obtain ⟨v0, v1, q0, q1, f0, f1⟩ := gq_cells HS1.out
    have hKu : K < u1.heap.size := (HS1.out.fp_lt K (.inl rfl)).2
    have hGK : G ≠ K := by omega
    have HD := Lib.hid (delete_any W.heap.size L.length cl G i L _ ((HR.out.setCell (p := ⟨K, 0, none⟩) (fun h => hGK (Option.some.inj h)) (.slice none 0 0)).setCell (p := ⟨K, 1, none⟩) (fun h => hGK (Option.some.inj h)) (.slice none 0 0)) hi)
    have HP := Lib.hid (fun w3 (h3 : Chg (fun g => g = G) ((u1.setCell ⟨K, 0, none⟩ (.slice none 0 0)).setCell ⟨K, 1, none⟩ (.slice none 0 0)) w3) (hr : Row w3 W.heap.size 3 1 (some ⟨G, 0, none⟩) (L.length - 1) cl (ints (L.eraseIdx i))) =>
      put_any B K none none (some ⟨G, 0, none⟩) (L.length - 1) cl [] (L.eraseIdx i) w3 ((gq_clear HS1.out).kept h3 (fun k hk e => by rcases hk with h | h | h; exact hGK ((show k = G from e).symm.trans h); cases h; cases h)) hr.rd (fun g hg hf => by have h5 := Option.some.inj (show some G = some g from hg); rcases hf with h | h | h; exact hGK (h5.trans h); cases h; cases h) (by have := h3.size; simp at this; have := HC.out.size; omega) (by simp; omega))
    have HEnd := Lib.hid (fun w3 w4 (h3 : Chg (fun g => g = G) ((u1.setCell ⟨K, 0, none⟩ (.slice none 0 0)).setCell ⟨K, 1, none⟩ (.slice none 0 0)) w3) (h4 : GAft w3 w4 B K none none ([] ++ right (L.eraseIdx i))) => gq_end (A1 := A1) (A2 := A2) HC.out hGW h3 h4)
    go_wp2_with (first
      | (go_at_call 29; refine HD.out.mono ?_; rintro e w3 ⟨rfl, hr3, hc3⟩; have HP3 := Lib.hid (HP.out _ hc3 hr3); have HC3 := Lib.hid hc3; clear hr3 hc3)
      | (go_at_call 16; refine HP3.out.mono ?_; rintro e w4 ⟨rfl, h4⟩; have H4 := Lib.hid (HEnd.out _ _ HC3.out h4); clear h4)
      | (go_at_call 28; refine (index_row G 0 L.length cl L g _ HR.out.rd (by omega)).mono ?_; rw [hx]; rintro e w1 ⟨rfl, rfl⟩))
    go_ret
    exact ⟨rfl, H4.out⟩
end Go.Proofs.Ytifflhombjljbaa
