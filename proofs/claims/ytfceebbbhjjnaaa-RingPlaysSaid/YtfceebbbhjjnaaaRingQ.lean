/- The document's ring: behind a full row, Put, Get, Grab. -/
import Derived.Test.YtfceebbbhjjnaaaRingP
namespace Go.Proofs.Ytfceebbbhjjnaaa
open Go.ChangeShapes Go.WideShapes Go.ChangeAt Go.RowKit Go.Deep
set_option linter.unusedVariables false

theorem blk_one {n g : Nat} (h : blk (some ⟨n, 0, none⟩) = some g) : g = n := (Option.some.inj (show some n = some g from h)).symm
section
variable {W : World} {r n c : Nat} {nx : Int} {A : Option Addr} {xs : List Int}
set_option maxHeartbeats 2000000 in
theorem behind_no (g : Int) (h : RR W r n nx A c xs) (hn : n ≤ 1000) (hn2 : 2 ≤ n) (hx : xs.length = n) :
    Calls Try.prog 34 #[.pointer (some ⟨r, 0, none⟩), .int .i64 g] W (RP W r n A nx (xs.drop (n / 2)) (xs.take (n / 2) ++ [g])) := by
  subst hx
  obtain ⟨m, hm⟩ : ∃ m, m = xs.length / 2 := ⟨_, rfl⟩
  rw [← hm]
  obtain ⟨c0, c1, c2, f0, kr⟩ := h.cells
  have hcap := h.cap
  obtain ⟨b, o, rfl, hb, _⟩ := h.rd.2 (by omega)
  have hd : decide ((xs.length : Int) < (xs.length : Int)) = false := decide_eq_false (by omega)
  have q1 : Int.tdiv (xs.length : Int) 2 = ((m : Nat) : Int) := by rw [Int.tdiv_eq_ediv_of_nonneg (by omega)]; omega
  have m0 : (0 : Int) ≤ (m : Int) := by omega
  have m1 : m ≤ xs.length := by omega
  have m2 : m ≤ c := by omega
  have m3 : m < c := by omega
  have m4 : ¬ c = m := by omega
  have HM := Lib.hid hm
  have HT := Lib.hid (h.rd.take_ m1)
  have HD := Lib.hid (h.rd.drop_ m1)
  have hlt : (xs.take m).length = m := by simp; omega
  have HLT := Lib.hid hlt
  have hdl : (xs.drop m).length = xs.length - m := by simp
  have HDL := Lib.hid hdl
  have HR := Lib.hid h
  have hrb : ¬ b = r := (h.ne b rfl).1
  have n1000 : xs.length ≤ 1000 := hn
  clear h hm hlt hdl hn hn2
  generalize xs.take m = ys at *
  generalize xs.drop m = zs at *
  go_enter Try.func34, Try.ntmps34
  go_wp2
  go_quiet (fail)
  go_wp2_with (first
    | (at_builtin; refine wpList_app rfl (.tmp 47) (.tmp 53) rfl W.heap.size _ 0 0 [] rfl (Row.empty w4 _ _ hz4) (some ⟨b, o + m, none⟩) (xs.length - m) (c - m) zs rfl (HD4.out.alloc _) ?_ ?_ ?_; (next => omega); (next => (simp; omega)); intro A5 c5 w5 u1 u2 u3; simp only [Nat.zero_add, List.nil_append] at u1; have HB5 := Lib.hid ((HB4.out.alloc (.cells #[] 3)).grown u2 (fun e => by have := blk_one e.symm; omega)); have HC5 := Lib.hid ((HC4.out.alloc (.cells #[] 3)).grown u2 (fun k hk => .inr (by have := blk_one hk; omega))); have HO5 := Lib.hid ((HT1.out.alloc (.cells #[] 3)).rd.grown u2 (fun k hk e => by have := blk_one e.symm; have := (HT1.out.blk_lt k hk).2; omega)); have HU1 := Lib.hid u1; have k0 := HB5.out.cell 2; have k1 := HB5.out.frozen 2; have k2 := HB5.out.lt; clear u1 u2 u3)
    | (at_builtin; refine wpList_app rfl (.tmp 42) (.tmp 44) rfl W.heap.size A3 m c3 ys rfl (HS1.out.alloc _) _ 1 1 [g] rfl (Rd.lit _ _ _) ?_ ?_ ?_; (next => omega); (next => (simp; omega)); intro A4 c4 w4 t1 t2 t3; have HB4 := Lib.hid ((HB3.out.alloc (.cells #[.int .i64 g] 3)).grown t2 (fun e => by have := (HS1.out.blk_lt r e.symm).1; omega)); have HC4 := Lib.hid ((HC3.out.alloc (.cells #[.int .i64 g] 3)).grown t2 (fun k hk => .inr (HS1.out.blk_lt k hk).1)); have HD4 := Lib.hid (HD.out.kept HC4.out (fun _ _ h => h)); have HT1 := Lib.hid t1; have hz4 := HC4.out.size; have j0 := HB4.out.cell 2; have j1 := HB4.out.lt; clear t1 t2 t3)
    | (at_builtin; refine wpList_app rfl (.tmp 35) (.tmp 41) rfl W.heap.size _ 0 0 [] rfl ((Row.empty W _ _ (Nat.le_refl _)).drewN _) (some ⟨b, o, none⟩) m c ys rfl ((HT.out.alloc _).drewN _) ?_ ?_ ?_; (next => omega); (next => simp); intro A3 c3 w3 s1 s2 s3; simp only [Nat.zero_add, List.nil_append] at s1; have HB3 := Lib.hid (((HR.out.b.alloc (.cells #[] 3)).drewN nq).grown s2 (fun e => by have := blk_one e.symm; omega)); have HC3 := Lib.hid (Chg.grown (((Chg.refl (fun _ => False) W).alloc (.cells #[] 3)).drewN nq) s2 (fun k hk => .inr (by have := blk_one hk; omega))); have hz3 := HC3.out.size; have HS1 := Lib.hid s1; clear s1 s2 s3))
  go_ret
  have hlen : xs.length - m = zs.length := HDL.out.symm
  have hl2 : m + 1 = (ys ++ [g]).length := by rw [List.length_append, HLT.out]; rfl
  have hU := HU1.out
  rw [hlen] at hU ⊢
  have hh := RR.setrow HB5.out (A' := A5) (c' := c5) (ys := zs) hU.2.1 hU.rd (fun k hk => ⟨by have := (hU.blk_lt k hk).1; omega, (hU.blk_lt k hk).2⟩)
  refine ⟨A4, c4, by rw [← hl2]; rfl, ?_, A5, c5, hh.1, (HC5.out.mono (fun _ _ h => h.elim)).trans hh.2 (fun _ _ h => h), fun k hk => .inr (hU.blk_lt k hk).1⟩
  have hO := HO5.out
  rw [hl2] at hO
  exact hO.kept hh.2 (fun k hk => by have := (HT1.out.blk_lt k hk).1; show ¬ k = r; omega)
theorem behind_any (g : Int) (h : RR W r n nx A c xs) (hn : n ≤ 1000) (hn2 : 2 ≤ n) (hx : xs.length ≤ n) :
    Calls Try.prog 34 #[.pointer (some ⟨r, 0, none⟩), .int .i64 g] W (RP W r n A nx (behF n xs g).2 (behF n xs g).1) := by
  unfold behF
  by_cases hl : xs.length < n
  · rw [if_pos hl]; exact behind_yes g h hn hl
  · rw [if_neg hl]; exact behind_no g h hn hn2 (by omega)
theorem RP.pre {W0 W' : World} {xs' o : List Int} {nx' : Int} {A0 : Option Addr} {e : Ending} (hc : Chg (fun g => g = r) W0 W) (h : RP W r n A0 nx' xs' o e W') : RP W0 r n A0 nx' xs' o e W' := by
  obtain ⟨Ao, co, h1, h2, A', c', h3, h4, h5⟩ := h
  refine ⟨Ao, co, h1, h2, A', c', h3, hc.trans h4 (fun _ _ h => h), fun g hg => ?_⟩
  rcases h5 g hg with h | h
  · exact .inl h
  · have := hc.size; right; omega
set_option maxHeartbeats 2000000 in
theorem rput_any (g : Int) (next : Bool) (h : RR W r n nx A c xs) (hn : n ≤ 1000) (hn2 : 2 ≤ n) (hx : xs.length ≤ n) :
    Calls Try.prog 22 #[.pointer (some ⟨r, 0, none⟩), .int .i64 g, .bool next] W (RP W r n A (putF n nx xs g next).2.1 (putF n nx xs g next).2.2 (putF n nx xs g next).1) := by
  obtain ⟨c0, c1, c2, f0, kr⟩ := h.cells
  have f1 := h.b.frozen 1
  by_cases hg : g < 1
  · have e : putF n nx xs g next = ([], nx, xs) := by rw [putF, if_pos hg]
    rw [e]
    have HE := Lib.hid (RP.same h (Chg.refl _ _))
    clear h e
    go_enter Try.func22, Try.ntmps22
    go_wp2
    go_ret
    exact HE.out
  · cases next with
    | false =>
      have e : putF n nx xs g false = ((behF n xs g).1, nx, (behF n xs g).2) := by rw [putF, if_neg hg, if_neg (by simp)]
      rw [e]
      have HB := Lib.hid (behind_any g h hn hn2 hx)
      clear h e
      go_enter Try.func22, Try.ntmps22
      go_wp2_with (go_at_call 34; refine HB.out.mono ?_; rintro e w1 ⟨Ao, co, rfl, hrest⟩; have HX := Lib.hid hrest; clear hrest)
      go_ret
      exact ⟨Ao, co, rfl, HX.out⟩
    | true =>
      obtain ⟨hs, hcs⟩ := h.setnx g
      by_cases hnx : nx = 0
      · have e : putF n nx xs g true = ([], g, xs) := by rw [putF, if_neg hg, if_pos rfl, if_pos hnx]
        rw [e]
        subst hnx
        have HE := Lib.hid (RP.same hs hcs)
        clear h e hs hcs
        go_enter Try.func22, Try.ntmps22
        go_wp2
        go_ret
        exact HE.out
      · have x0 : (nx == 0) = false := beq_eq_false_iff_ne.2 hnx
        have x1 : decide (nx = 0) = false := decide_eq_false hnx
        have e : putF n nx xs g true = ((behF n xs nx).1, g, (behF n xs nx).2) := by rw [putF, if_neg hg, if_pos rfl, if_neg hnx]
        rw [e]
        have HB := Lib.hid (behind_any nx hs hn hn2 hx)
        have HC := Lib.hid hcs
        clear h e hs hcs hnx
        go_enter Try.func22, Try.ntmps22
        go_wp2_with (go_at_call 34; refine HB.out.mono ?_; rintro e w1 ⟨Ao, co, rfl, hrest⟩; have HX := Lib.hid hrest; clear hrest)
        go_ret
        exact RP.pre HC.out ⟨Ao, co, rfl, HX.out⟩
/-- What is behind Get or Grab. -/
theorem RR.tail {b0 o0 : Nat} {nx' : Int} {m : Nat} (h : RR W r n nx (some ⟨b0, o0, none⟩) c xs) (hm : m ≤ xs.length) (A' : Option Addr) (hA : (c = m → A' = some ⟨b0, o0, none⟩) ∧ (¬ c = m → A' = some ⟨b0, o0 + m, none⟩)) (w' : World) (hc : Chg (fun g => g = r) W w') (hb : Blk w' r 30 #[.int .i64 (n : Int), .int .i64 nx', .slice (some ⟨b0, o0, none⟩) xs.length c]) :
    RR (w'.setCell ⟨r, 2, none⟩ (.slice A' (xs.length - m) (c - m))) r n nx' A' (c - m) (xs.drop m) ∧ Chg (fun g => g = r) W (w'.setCell ⟨r, 2, none⟩ (.slice A' (xs.length - m) (c - m))) ∧ ∀ g, blk A' = some g → g = b0 := by
  have hcap := h.cap
  have hl : (xs.drop m).length = xs.length - m := by simp
  have hb0 := h.ne b0 rfl
  have hk : ∀ g, blk A' = some g → g = b0 := by
    by_cases hcm : c = m
    · rw [hA.1 hcm]; intro g hg; exact (Option.some.inj (show some b0 = some g from hg)).symm
    · rw [hA.2 hcm]; intro g hg; exact (Option.some.inj (show some b0 = some g from hg)).symm
  have hrd : Rd w' 1 A' (xs.drop m).length (ints (xs.drop m)) := by
    rw [hl]
    have h1 := (h.rd.kept hc (fun g hg => (h.ne g hg).1))
    by_cases hcm : c = m
    · rw [hA.1 hcm]
      have h0 : xs.length - m = 0 := by omega
      have h2 : xs.drop m = [] := List.eq_nil_of_length_eq_zero (by omega)
      rw [h0, h2]; exact Rd.nil _ _ _
    · rw [hA.2 hcm]; exact h1.drop_ hm
  have hh := RR.setrow hb (A' := A') (c' := c - m) (ys := xs.drop m) (by omega) hrd (fun g hg => by rw [hk g hg]; exact ⟨hb0.1, Nat.lt_of_lt_of_le hb0.2 hc.size⟩)
  rw [hl] at hh
  exact ⟨hh.1, hc.trans hh.2 (fun _ _ h => h), hk⟩
end
end Go.Proofs.Ytfceebbbhjjnaaa
