/- The document's ring: Get, Grab. -/
import Derived.Test.YtfceebbbhjjnaaaRingQ
namespace Go.Proofs.Ytfceebbbhjjnaaa
open Go.ChangeShapes Go.WideShapes Go.ChangeAt Go.RowKit Go.Deep
set_option linter.unusedVariables false

theorem get0 {xs : List Int} (h : 0 < xs.length) : getF 0 xs = (xs[0], true, 0, xs.drop 1) := by
  cases xs with
  | nil => simp at h
  | cons x t => rfl
section
variable {W : World} {r n c : Nat} {nx : Int} {A : Option Addr} {xs : List Int}
def RG (W : World) (r n : Nat) (A0 : Option Addr) (nx : Int) (xs : List Int) (W' : World) : Prop := ∃ A c, RR W' r n nx A c xs ∧ Chg (fun g => g = r) W W' ∧ ∀ g, blk A = some g → blk A0 = some g
set_option maxHeartbeats 2000000 in
theorem rget_any (h : RR W r n nx A c xs) (hnn : 0 ≤ nx) (hn : n ≤ 1000) (hx : xs.length ≤ n) :
    Calls Try.prog 23 #[.pointer (some ⟨r, 0, none⟩)] W fun e W' => e = .returned (.tuple #[.int .i64 (getF nx xs).1, .bool (getF nx xs).2.1]) ∧ RG W r n A (getF nx xs).2.2.1 (getF nx xs).2.2.2 W' := by
  obtain ⟨c0, c1, c2, f0, kr⟩ := h.cells
  have f1 := h.b.frozen 1
  have f2 := h.b.frozen 2
  have hxl : (xs.length : Int) ≤ 1000 := by omega
  by_cases hnx : nx = 0
  · subst hnx
    by_cases hl : 0 < xs.length
    · rw [get0 hl]
      have h10 : ((xs.length : Int) == 0) = false := beq_eq_false_iff_ne.2 (by omega)
      have l1 : (1 : Int) ≤ xs.length := by omega
      have l2 : (0 : Int) < xs.length := by omega
      have hcap := h.cap
      obtain ⟨b, o, rfl, hb, hcc⟩ := h.rd.at_ (by omega)
      have e0 := hcc 0 hl
      rw [Nat.add_zero] at e0
      have HR := Lib.hid h
      clear h hcc
      generalize xs[0] = x at *
      by_cases hc1 : c = 1
      · have HC1 := Lib.hid hc1
        subst hc1
        go_enter Try.func23, Try.ntmps23
        go_wp2
        go_ret2
        obtain ⟨q1, q2, q3⟩ := RR.tail (nx' := 0) HR.out (m := 1) (by omega) (some ⟨b, o, none⟩) ⟨fun _ => rfl, fun h => absurd rfl h⟩ W (Chg.refl _ _) HR.out.b
        have e1 : xs.length - 1 = 0 := by omega
        rw [e1] at q1 q2
        exact ⟨rfl, some ⟨b, o, none⟩, 0, by simpa using q1, by simpa using q2, fun g hg => by rw [q3 g hg]; rfl⟩
      · go_enter Try.func23, Try.ntmps23
        go_wp2
        go_ret2
        obtain ⟨q1, q2, q3⟩ := RR.tail (nx' := 0) HR.out (m := 1) (by omega) (some ⟨b, o + 1, none⟩) ⟨fun h => absurd h hc1, fun _ => rfl⟩ W (Chg.refl _ _) HR.out.b
        exact ⟨rfl, _, _, q1, q2, fun g hg => by rw [q3 g hg]; rfl⟩
    · have hxs : xs = [] := List.eq_nil_of_length_eq_zero (by omega)
      subst hxs
      have HE := Lib.hid (show RG W r n A (getF 0 []).2.2.1 (getF 0 []).2.2.2 W from ⟨A, c, h, Chg.refl _ _, fun _ h => h⟩)
      have e : getF 0 [] = (0, false, 0, []) := rfl
      rw [e] at HE ⊢
      clear h e
      go_enter Try.func23, Try.ntmps23
      go_wp2
      go_ret2
      exact ⟨rfl, HE.out⟩
  · have hp : 0 < nx := by omega
    have e : getF nx xs = (nx, true, 0, xs) := by simp [getF, hnx]
    rw [e]
    obtain ⟨hs, hcs⟩ := h.setnx 0
    have HE := Lib.hid (show RG W r n A 0 xs _ from ⟨A, c, hs, hcs, fun _ h => h⟩)
    clear h e hnx hs hcs
    go_enter Try.func23, Try.ntmps23
    go_wp2
    go_ret2
    exact ⟨rfl, HE.out⟩
set_option maxHeartbeats 2000000 in
theorem rgrab_any (h : RR W r n nx A c xs) (hn : n ≤ 1000) (hx : xs.length ≤ n) :
    Calls Try.prog 24 #[.pointer (some ⟨r, 0, none⟩)] W (RP W r n A (grabF nx xs).2.1 (grabF nx xs).2.2 (grabF nx xs).1) := by
  obtain ⟨c0, c1, c2, f0, kr⟩ := h.cells
  have f1 := h.b.frozen 1
  have f2 := h.b.frozen 2
  have hxl : (xs.length : Int) ≤ 1000 := by omega
  by_cases hl : 0 < xs.length
  · obtain ⟨m, hm⟩ : ∃ m, m = (xs.length + 1) / 2 := ⟨_, rfl⟩
    have e : grabF nx xs = (xs.take m, nx, xs.drop m) := by rw [grabF, if_neg (fun h => by rw [h] at hl; simp at hl), hm]
    rw [e]
    have h10 : ((xs.length : Int) == 0) = false := beq_eq_false_iff_ne.2 (by omega)
    have hcap := h.cap
    obtain ⟨b, o, rfl, hb, _⟩ := h.rd.2 hl
    have q1 : Int.tdiv (xs.length : Int) 2 = ((xs.length - m : Nat) : Int) := by rw [Int.tdiv_eq_ediv_of_nonneg (by omega)]; omega
    have q2 : IntKind.i64.wrap ((xs.length : Int) - ((xs.length - m : Nat) : Int)) = (m : Int) := by rw [IntWalk.i64_in _ (by omega)]; omega
    have q3 : (xs.length : Int) - ((xs.length - m : Nat) : Int) = (m : Int) := by omega
    have m0 : (0 : Int) ≤ (m : Int) := by omega
    have m1 : m ≤ xs.length := by omega
    have m2 : m ≤ c := by omega
    have m5 : 2 * m ≤ xs.length + 1 := by omega
    have hl1 : 1 ≤ xs.length := hl
    have HT := Lib.hid (h.rd.take_ m1)
    have hlt : (xs.take m).length = m := by simp; omega
    have HLT := Lib.hid hlt
    have HR := Lib.hid h
    have hrb : ¬ b = r := (h.ne b rfl).1
    clear h hm hlt e hl
    have HTL : Hid (∀ w' A' , ((c = m → A' = some ⟨b, o, none⟩) ∧ (¬ c = m → A' = some ⟨b, o + m, none⟩)) → Chg (fun g => g = r) W w' → Blk w' r 30 #[.int .i64 (n : Int), .int .i64 nx, .slice (some ⟨b, o, none⟩) xs.length c] → RR (w'.setCell ⟨r, 2, none⟩ (.slice A' (xs.length - m) (c - m))) r n nx A' (c - m) (xs.drop m) ∧ Chg (fun g => g = r) W (w'.setCell ⟨r, 2, none⟩ (.slice A' (xs.length - m) (c - m))) ∧ ∀ g, blk A' = some g → g = b) := Lib.hid (fun w' A' h1 h2 h3 => RR.tail (nx' := nx) HR.out m1 A' h1 w' h2 h3)
    generalize xs.take m = ys at *
    generalize xs.drop m = zs at *
    by_cases hcm : c = m
    · obtain ⟨x, rfl⟩ : ∃ x, xs = [x] := by
        have h1 : xs.length = 1 := by omega
        exact List.length_eq_one_iff.1 h1
      obtain rfl : m = 1 := by simp at m1 m5 hcap; omega
      subst hcm
      clear q1 q2 q3
      go_enter Try.func24, Try.ntmps24
      go_wp2
      go_quiet (fail)
      go_wp2_with (at_builtin; refine wpList_app rfl (.tmp 38) (.tmp 44) rfl W.heap.size _ 0 0 [] rfl ((Row.empty W _ _ (Nat.le_refl _)).drewN _) (some ⟨b, o, none⟩) 1 1 ys rfl ((HT.out.alloc _).drewN _) ?_ ?_ ?_; (next => omega); (next => simp); intro A3 c3 w3 s1 s2 s3; simp only [Nat.zero_add, List.nil_append] at s1; have HB3 := Lib.hid (((HR.out.b.alloc (.cells #[] 3)).drewN nq).grown s2 (fun e => by have := blk_one e.symm; omega)); have HC3 := Lib.hid (Chg.grown (((Chg.refl (fun _ => False) W).alloc (.cells #[] 3)).drewN nq) s2 (fun k hk => .inr (by have := blk_one hk; omega))); have HS1 := Lib.hid s1; have k0 := HB3.out.cell 2; have k1 := HB3.out.frozen 2; have k2 := HB3.out.lt; clear s1 s2 s3)
      go_ret
      obtain ⟨p1, p2, p3⟩ := HTL.out w3 (some ⟨b, o, none⟩) ⟨fun _ => rfl, fun h => by simp at h⟩ (HC3.out.mono (fun _ _ h => h.elim)) HB3.out
      have hO := HS1.out.rd.kept (Chg.setCell (S := fun g => g = r) (Chg.refl _ w3) (p := ⟨r, 2, none⟩) (.inl rfl) (.slice (some ⟨b, o, none⟩) 0 0)) (fun k hk => by have := (HS1.out.blk_lt k hk).1; show ¬ k = r; omega)
      refine ⟨A3, c3, by rw [HLT.out]; rfl, by rw [HLT.out]; exact hO, some ⟨b, o, none⟩, 0, by simpa using p1, by simpa using p2, fun g hg => .inl (by rw [p3 g hg]; rfl)⟩
    · go_enter Try.func24, Try.ntmps24
      go_wp2
      go_quiet (fail)
      go_wp2_with (at_builtin; refine wpList_app rfl (.tmp 38) (.tmp 44) rfl W.heap.size _ 0 0 [] rfl ((Row.empty W _ _ (Nat.le_refl _)).drewN _) (some ⟨b, o, none⟩) m c ys rfl ((HT.out.alloc _).drewN _) ?_ ?_ ?_; (next => omega); (next => simp); intro A3 c3 w3 s1 s2 s3; simp only [Nat.zero_add, List.nil_append] at s1; have HB3 := Lib.hid (((HR.out.b.alloc (.cells #[] 3)).drewN nq).grown s2 (fun e => by have := blk_one e.symm; omega)); have HC3 := Lib.hid (Chg.grown (((Chg.refl (fun _ => False) W).alloc (.cells #[] 3)).drewN nq) s2 (fun k hk => .inr (by have := blk_one hk; omega))); have HS1 := Lib.hid s1; have k0 := HB3.out.cell 2; have k1 := HB3.out.frozen 2; have k2 := HB3.out.lt; clear s1 s2 s3)
      go_ret
      obtain ⟨p1, p2, p3⟩ := HTL.out w3 (some ⟨b, o + m, none⟩) ⟨fun h => absurd h hcm, fun _ => rfl⟩ (HC3.out.mono (fun _ _ h => h.elim)) HB3.out
      have hO := HS1.out.rd.kept (Chg.setCell (S := fun g => g = r) (Chg.refl _ w3) (p := ⟨r, 2, none⟩) (.inl rfl) (.slice (some ⟨b, o + m, none⟩) (xs.length - m) (c - m))) (fun k hk => by have := (HS1.out.blk_lt k hk).1; show ¬ k = r; omega)
      refine ⟨A3, c3, by rw [HLT.out]; rfl, by rw [HLT.out]; exact hO, some ⟨b, o + m, none⟩, c - m, p1, p2, fun g hg => .inl (by rw [p3 g hg]; rfl)⟩
  · have hxs : xs = [] := List.eq_nil_of_length_eq_zero (by omega)
    subst hxs
    by_cases hnx : nx = 0
    · subst hnx
      have e : grabF 0 [] = ([], 0, []) := rfl
      rw [e]
      have HE := Lib.hid (RP.same h (Chg.refl _ _))
      clear h e
      go_enter Try.func24, Try.ntmps24
      go_wp2
      go_ret
      exact HE.out
    · have x0 : (nx == 0) = false := beq_eq_false_iff_ne.2 hnx
      have e : grabF nx [] = ([nx], 0, []) := by simp [grabF, hnx]
      rw [e]
      obtain ⟨hs, hcs⟩ := h.setnx 0
      have HS := Lib.hid hs
      have HC := Lib.hid hcs
      clear h e hnx hs hcs
      go_enter Try.func24, Try.ntmps24
      go_wp2
      go_ret
      have hl := Rd.lit (W.setCell ⟨r, 1, none⟩ (.int .i64 0)) nx 3
      refine ⟨some ⟨(W.setCell ⟨r, 1, none⟩ (.int .i64 0)).heap.size, 0, none⟩, 1, by simp, hl, A, c, HS.out.same ((Chg.refl _ _).alloc _), HC.out.alloc _, fun g hg => .inl hg⟩
end
end Go.Proofs.Ytfceebbbhjjnaaa
