/- A ring as a list: Get, Grab; New. -/
import Derived.Test.YtfceebbbhjjnaaaRingF
namespace Go.Proofs.Ytfceebbbhjjnaaa
open Go.ChangeShapes Go.WideShapes Go.ChangeAt Go.RowKit Go.Deep
set_option linter.unusedVariables false

theorem head_of {w : World} {base g c : Nat} {x : Int} {t : List Int} (h : Row w base 3 1 (some ⟨g, 0, none⟩) 1 c (ints ((x :: t).take 1))) : w.cell? ⟨g, 0, none⟩ = some (.int .i64 x) := by
  obtain ⟨b9, o9, he9, hb9, hcc⟩ := h.rd.2 (by decide)
  cases he9
  have := hcc 0 (.int .i64 x) (by simp [ints])
  simpa using this
theorem head_lt {w : World} {base g n c : Nat} {xs : List Value} (h : Row w base 3 1 (some ⟨g, 0, none⟩) n c xs) : g < w.heap.size := (h.blk_lt g rfl).2
/-- Who goes first, whether there is one, and who is left. -/
def getF (nx : Int) (xs : List Int) : Int × Bool × Int × List Int :=
  if nx = 0 then (match xs with
    | [] => (0, false, 0, [])
    | x :: t => (x, true, 0, t)) else (nx, true, 0, xs)
def grabF (nx : Int) (xs : List Int) : List Int × Int × List Int :=
  if xs = [] then ((if nx = 0 then [] else [nx]), 0, []) else (xs.take ((xs.length + 1) / 2), nx, xs.drop ((xs.length + 1) / 2))
section
variable {W : World} {B b n : Nat} {A : Option Addr} {nx : Int} {xs : List Int}
set_option maxHeartbeats 4000000 in
theorem get_q (h : RQ W B b A n nx xs) (h1 : 2 ≤ n) (h2 : n ≤ 1000) :
    Calls Try.prog 17 #[.pointer (some ⟨b, 0, none⟩)] W fun e W' => e = .returned (.tuple #[.int .i64 (getF nx xs).1, .bool (getF nx xs).2.1]) ∧ RQ W' B b A n (getF nx xs).2.2.1 (getF nx xs).2.2.2 ∧ Chg (fun g => g = b) W W' := by
  obtain ⟨c0, c1, c4, f0, kb⟩ := h.cells
  have n0 : ((n : Int) == 0) = false := by simp; omega
  by_cases hnx : nx = 0
  · subst hnx
    cases xs with
    | nil =>
      have e : getF 0 [] = (0, false, 0, []) := rfl
      rw [e]
      have HE := Lib.hid h
      clear h e
      go_enter Try.func17, Try.ntmps17
      go_wp2_with (go_at_call 26; go_in)
      go_ret2
      exact ⟨rfl, HE.out, Chg.refl _ _⟩
    | cons x t =>
      have e : getF 0 (x :: t) = (x, true, 0, t) := rfl
      rw [e]
      have hc := cut_q 1 h (by omega) h2 (by simp)
      rw [show ((1 : Nat) : Int) = 1 from rfl] at hc
      have HC := Lib.hid hc
      have hlen : ((t.length : Int) + 1 == 0) = false := by simp; omega
      clear h e hc
      go_enter Try.func17, Try.ntmps17
      go_wp2_with (first
        | (go_at_call 26; go_in)
        | (go_at_call 29; refine HC.out.mono ?_; rintro e w3 ⟨rfl, r3, hq3, hc3⟩; have e9 := head_of r3; have k9 := head_lt r3; have HQ3 := Lib.hid hq3; have HC3 := Lib.hid hc3; clear r3 hq3 hc3))
      go_ret2
      exact ⟨rfl, HQ3.out, HC3.out⟩
  · have x0 : (nx == 0) = false := beq_eq_false_iff_ne.2 hnx
    have x1 : decide (nx = 0) = false := decide_eq_false hnx
    have e : getF nx xs = (nx, true, 0, xs) := by simp [getF, hnx]
    rw [e]
    have HE := Lib.hid (h.setnx 0)
    clear h e hnx
    go_enter Try.func17, Try.ntmps17
    go_wp2_with (go_at_call 26; go_in)
    go_ret2
    exact ⟨rfl, HE.out⟩
set_option maxHeartbeats 4000000 in
theorem grab_q (h : RQ W B b A n nx xs) (h1 : 2 ≤ n) (h2 : n ≤ 1000) (hB : B ≤ W.heap.size) :
    Calls Try.prog 18 #[.pointer (some ⟨b, 0, none⟩)] W (OutP W B b A n (grabF nx xs).2.1 (grabF nx xs).2.2 (grabF nx xs).1) := by
  obtain ⟨c0, c1, c4, f0, kb⟩ := h.cells
  have n0 : ((n : Int) == 0) = false := by simp; omega
  have hxl := h.2.1
  have HF := Lib.hid (fun g hg => (h.fp_lt g hg).2)
  by_cases hx : xs = []
  · subst hx
    have hgt := get_q h h1 h2
    by_cases hnx : nx = 0
    · subst hnx
      have e : grabF 0 [] = ([], 0, []) := rfl
      have e2 : getF 0 [] = (0, false, 0, []) := rfl
      rw [e]
      rw [e2] at hgt
      have HG := Lib.hid hgt
      clear h e e2 hgt
      go_enter Try.func18, Try.ntmps18
      go_wp2_with (first
        | (go_at_call 26; go_in)
        | (go_at_call 17; refine HG.out.mono ?_; rintro e w3 ⟨rfl, hq3, hc3⟩; have HQ3 := Lib.hid hq3; have HC3 := Lib.hid hc3; clear hq3 hc3))
      go_ret
      exact OutP.nil (RAft.ofb HQ3.out HC3.out)
    · have e : grabF nx [] = ([nx], 0, []) := by simp [grabF, hnx]
      have e2 : getF nx [] = (nx, true, 0, []) := by simp [getF, hnx]
      rw [e]
      rw [e2] at hgt
      have HG := Lib.hid hgt
      clear h e e2 hgt hnx
      go_enter Try.func18, Try.ntmps18
      go_wp2_with (first
        | (go_at_call 26; go_in)
        | (go_at_call 17; refine HG.out.mono ?_; rintro e w3 ⟨rfl, hq3, hc3⟩; have hz3 := hc3.size; have HQ3 := Lib.hid hq3; have HC3 := Lib.hid hc3; clear hq3 hc3))
      go_ret
      have hr : Row (w3.alloc (.cells #[.int .i64 nx] 3)) W.heap.size 3 1 (some ⟨w3.heap.size, 0, none⟩) 1 1 (ints [nx]) :=
        ⟨rfl, Nat.le_refl _, by decide, .inr ⟨w3.heap.size, #[.int .i64 nx], rfl, hz3, Blk.new _ _ _, by simp, rfl⟩⟩
      exact OutP.row rfl HF.out hr (HQ3.out.same ((Chg.refl _ _).alloc _)) (HC3.out.alloc _)
  · have hpos : 0 < xs.length := List.length_pos_iff.2 hx
    have e : grabF nx xs = (xs.take ((xs.length + 1) / 2), nx, xs.drop ((xs.length + 1) / 2)) := by rw [grabF, if_neg hx]
    rw [e]
    have hc := cut_q ((xs.length + 1) / 2) h (by omega) h2 (by omega)
    have HC := Lib.hid hc
    have hxl2 : (xs.length : Int) ≤ 1000 := by omega
    have q1 : Int.tdiv ((xs.length : Int) + 1) 2 = (((xs.length + 1) / 2 : Nat) : Int) := by rw [Int.tdiv_eq_ediv_of_nonneg (by omega)]; omega
    have hp : (0 : Int) < (xs.length : Int) := by omega
    have HL := Lib.hid (show (xs.length + 1) / 2 = (xs.take ((xs.length + 1) / 2)).length by simp; omega)
    clear h e hc hx
    go_enter Try.func18, Try.ntmps18
    go_wp2_with (first
      | (go_at_call 26; go_in)
      | (go_at_call 29; refine HC.out.mono ?_; rintro e w3 ⟨rfl, r3, hq3, hc3⟩; have HR3 := Lib.hid r3; have HQ3 := Lib.hid hq3; have HC3 := Lib.hid hc3; clear r3 hq3 hc3))
    go_ret
    exact OutP.row HL.out HF.out HR3.out HQ3.out HC3.out
end
theorem newr_yes (n : Nat) (W : World) (h1 : 2 ≤ n) (h2 : n ≤ 256) (h3 : n % 2 = 0) : Calls Try.prog 8 #[.int .i64 (n : Int)] W fun e W' => e = .returned (.pointer (some ⟨W.heap.size, 0, none⟩)) ∧ W' = W.alloc (.cells #[.int .i64 0, .int .i64 (n : Int), .slice none 0 0, .int .i64 0, .int .i64 0] 44) := by
  have x1 : ¬ (n : Int) < 2 := by omega
  have x2 : ¬ (256 : Int) < n := by omega
  have x3 : Int.tmod (n : Int) 2 = 0 := by rw [Int.tmod_eq_emod_of_nonneg (by omega)]; omega
  go_enter Try.func8, Try.ntmps8
  go_wp2
  go_ret
  exact ⟨rfl, rfl⟩
theorem newr_no (n : Int) (W : World) (h : n < 2 ∨ 256 < n ∨ (2 ≤ n ∧ n ≤ 256 ∧ n % 2 = 1)) : Calls Try.prog 8 #[.int .i64 n] W fun e W' => e = .returned (.pointer none) ∧ W = W' := by
  have hc : n < 2 ∨ (¬ n < 2 ∧ 256 < n) ∨ (¬ n < 2 ∧ ¬ 256 < n ∧ Int.tmod n 2 = 1) := by
    rcases h with h | h | ⟨h, h', h2⟩
    · exact .inl h
    · by_cases h3 : n < 2
      · exact .inl h3
      · exact .inr (.inl ⟨h3, h⟩)
    · exact .inr (.inr ⟨by omega, by omega, by rw [Int.tmod_eq_emod_of_nonneg (by omega)]; exact h2⟩)
  clear h
  rcases hc with h1 | ⟨h1, h2⟩ | ⟨h1, h2, h3⟩
  all_goals
    go_enter Try.func8, Try.ntmps8
    go_wp2
    go_ret
    exact ⟨rfl, rfl⟩
end Go.Proofs.Ytfceebbbhjjnaaa
