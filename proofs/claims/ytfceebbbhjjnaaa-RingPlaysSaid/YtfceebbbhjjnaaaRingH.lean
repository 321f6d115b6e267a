/- Sorted lists; acts that came in. -/
import Derived.Test.YtfceebbbhjjnaaaRingG
import Derived.Test.YtfceebbbhjjnaaaRins
import Derived.Test.YtfceebbbhjjnaaaShape
namespace Go.Proofs.Ytfceebbbhjjnaaa
open Go.ChangeShapes Go.WideShapes Go.ChangeAt Go.RowKit Go.Deep
set_option linter.unusedVariables false

theorem i64_le {a : Int} (h : (Lit.int .i64 a).wf = true) : a ≤ 9223372036854775807 := by
  have h' : (decide (IntKind.i64.min ≤ a) && decide (a ≤ IntKind.i64.max)) = true := h
  rw [Bool.and_eq_true] at h'
  have h2 := of_decide_eq_true h'.2
  have e : IntKind.i64.max = 9223372036854775807 := by decide
  omega
theorem ins_cons (x : Int) (xs : List Int) (v : Int) : ins (x :: xs) v = if x < v then x :: ins xs v else v :: x :: xs := by
  by_cases h : x < v <;> simp [ins, h]
theorem ins_perm : ∀ (xs : List Int) (v : Int), (ins xs v).Perm (v :: xs)
  | [], v => List.Perm.refl _
  | x :: xs, v => by
    rw [ins_cons]
    split
    · exact ((ins_perm xs v).cons x).trans (List.Perm.swap v x xs)
    · exact List.Perm.refl _
theorem ins_sorted : ∀ {xs : List Int} {v : Int}, xs.Pairwise (· ≤ ·) → (ins xs v).Pairwise (· ≤ ·)
  | [], v, _ => by simp [ins]
  | x :: xs, v, h => by
    rw [ins_cons]
    obtain ⟨h1, h2⟩ := List.pairwise_cons.1 h
    split
    · refine List.pairwise_cons.2 ⟨fun y hy => ?_, ins_sorted h2⟩
      rcases List.mem_cons.1 ((ins_perm xs v).mem_iff.1 hy) with rfl | hy
      · omega
      · exact h1 y hy
    · refine List.pairwise_cons.2 ⟨fun y hy => ?_, h⟩
      rcases List.mem_cons.1 hy with rfl | hy
      · omega
      · have := h1 y hy; omega
/-- In order. -/
def isrt (l : List Int) : List Int := l.foldl ins []
theorem isrt_snoc (l : List Int) (x : Int) : isrt (l ++ [x]) = ins (isrt l) x := by simp [isrt]
theorem isrt_len (l : List Int) : (isrt l).length = l.length := by
  have key : ∀ (l acc : List Int), (l.foldl ins acc).length = acc.length + l.length := by
    intro l
    induction l with
    | nil => intro acc; simp
    | cons x l ih => intro acc; rw [List.foldl_cons, ih, ins_len, List.length_cons]; omega
  have := key l []
  simpa [isrt] using this
theorem isrt_perm (l : List Int) : (isrt l).Perm l := by
  have key : ∀ (l acc : List Int), (l.foldl ins acc).Perm (acc ++ l) := by
    intro l
    induction l with
    | nil => intro acc; simp
    | cons x l ih =>
      intro acc
      rw [List.foldl_cons]
      exact (ih _).trans (((ins_perm acc x).append_right l).trans (by simpa using (List.perm_middle (l₁ := acc) (l₂ := l) (a := x)).symm))
  simpa [isrt] using key l []
theorem isrt_sorted (l : List Int) : (isrt l).Pairwise (· ≤ ·) := by
  have key : ∀ (l acc : List Int), acc.Pairwise (· ≤ ·) → (l.foldl ins acc).Pairwise (· ≤ ·) := by
    intro l
    induction l with
    | nil => intro acc h; simpa using h
    | cons x l ih => intro acc h; rw [List.foldl_cons]; exact ih _ (ins_sorted h)
  exact key l [] List.Pairwise.nil
theorem isrt_eq {a b : List Int} (h : a.Perm b) : isrt a = isrt b :=
  List.Perm.eq_of_pairwise (le := (· ≤ ·)) (fun x y _ _ h1 h2 => Int.le_antisymm h1 h2) (isrt_sorted a) (isrt_sorted b) ((isrt_perm a).trans (h.trans (isrt_perm b).symm))
def RoundSo (W : World) (xs : List Int) (out i : Value) (wr : World) : Prop := ∃ (k : Nat) (A' : Option Addr) (c' : Nat), k ≤ xs.length ∧ i = .int .i64 k ∧ out = .slice A' k c' ∧ Row wr W.heap.size 3 1 A' k c' (ints (isrt (xs.take k))) ∧ (k = 0 → A' = none ∧ c' = 0) ∧ Chg (fun _ => False) W wr
theorem RoundSo.step {W wr w' : World} {xs : List Int} {k c' : Nat} {A' : Option Addr} (hk : k < xs.length) (hc0 : Chg (fun _ => False) W wr) (hr : Row w' wr.heap.size 3 1 A' (k + 1) c' (ints (ins (isrt (xs.take k)) xs[k]))) (hc : Chg (fun _ => False) wr w') : RoundSo W xs (.slice A' (k + 1) c') (.int .i64 ((k : Int) + 1)) w' := by
  refine ⟨k + 1, A', c', by omega, by go_num, rfl, ?_, fun h => by omega, hc0.trans hc (fun _ _ h => h)⟩
  rw [List.take_succ_eq_append_getElem hk, isrt_snoc]
  exact hr.lower hc0.size
set_option maxHeartbeats 4000000 in
theorem sorted_any (A : Option Addr) (n c : Nat) (xs : List Int) (W : World) (hA : Rd W 1 A n (ints xs)) (hn : n ≤ 10000) :
    Calls Try.prog 20 #[.slice A n c] W fun e W' => ∃ A' c', e = .returned (.slice A' n c') ∧ Row W' W.heap.size 3 1 A' n c' (ints (isrt xs)) ∧ Chg (fun _ => False) W W' := by
  have hl := hA.len
  subst hl
  go_enter Try.func20, Try.ntmps20
  go_wp2
  go_loopw [3, 4] (fun out i wr => RoundSo W xs out i wr) (fun _ i _ => xs.length - (intOf i).toNat)
  case atStart => exact ⟨0, none, 0, Nat.zero_le _, rfl, rfl, Row.nil _ _ _ _, fun _ => ⟨rfl, rfl⟩, Chg.refl _ _⟩
  case round =>
    obtain ⟨k, A', c', hk, rfl, rfl, hr, hnil, hc⟩ := hrel
    have k0 : (0 : Int) ≤ k := by omega
    by_cases hlt : k < xs.length
    · have k1 : (k : Int) < xs.length := by omega
      obtain ⟨b, o, rfl, hbl, hcc⟩ := (hA.kept hc (fun _ _ h => h)).at_ (by omega)
      have e0 := hcc k hlt
      have hz := hc.size
      have HI := Lib.hid (insert_any A' k c' (xs[k]) (isrt (xs.take k)) wr hr.rd (by omega) hr.2.1 hr.2.2.1 hnil)
      have HS := Lib.hid (fun w' A2 c2 h1 h2 => RoundSo.step (A' := A2) (c' := c2) (w' := w') hlt hc h1 h2)
      generalize xs[k] = z at *
      clear hcc hr hnil hc
      go_wp2_with (go_at_call 30; refine HI.out.mono ?_; rintro e w2 ⟨A2, c2, rfl, r2, h2⟩; have H := Lib.hid (HS.out _ _ _ r2 h2); clear r2 h2)
      go_roundw
      case rel => exact H.out
      case measure => simp [intOf]; omega
    · obtain rfl : k = xs.length := by omega
      rw [List.take_length] at hr
      have HR := Lib.hid hr
      have HC := Lib.hid hc
      clear hr hnil hc
      go_wp2
      go_ret
      exact ⟨_, _, rfl, HR.out, HC.out⟩
abbrev ShAct : Sh := .st (.cons (.int .i64) (.cons (.int .i64) (.cons (.sl (.int .i64)) .nil)))
/-- A row of ints that came in. -/
theorem Rd.of_lies {w : World} {cs : List Value} {d : List Int} (h : Lies w (.sl (.int .i64)) cs (show (Sh.sl (.int .i64)).Den from d)) : ∃ A c, cs = [.slice A d.length c] ∧ d.length ≤ c ∧ c ≤ maxLen ∧ Rd w 1 A d.length (ints d) ∧ (0 < d.length → ∀ g, blk A = some g → g < w.heap.size) := by
  obtain ⟨A, c, rfl, h1, h2, h3⟩ := h
  refine ⟨A, c, rfl, h1, h2, ⟨by simp, fun hn => ?_⟩, fun hn g hg => ?_⟩
  · obtain ⟨b, o, rfl, hb, hi⟩ := h3 hn
    refine ⟨b, o, rfl, hb, fun j u hu => ?_⟩
    have hj : j < d.length := by have := (List.getElem?_eq_some_iff.1 hu).1; simpa using this
    obtain ⟨cs', g1, g2, g3, _⟩ := hi j (show Int from d[j]) (List.getElem?_eq_getElem hj)
    have := g2 0 _ (by rw [g3]; rfl)
    rw [ints_get _ _ hj] at hu
    cases hu
    simpa [Sh.size] using this
  · obtain ⟨b, o, rfl, hb, _⟩ := h3 hn
    simp at hg; omega
structure Acts (w : World) (A : Option Addr) (n : Nat) (kd p : Nat → Int) (As : Nat → Option Addr) (ml cs : Nat → Nat) (xs : Nat → List Int) : Prop where
  cells : 0 < n → ∃ b o, A = some ⟨b, o, none⟩ ∧ b < w.heap.size ∧ ∀ i, i < n → w.cell? ⟨b, o + i * 3, none⟩ = some (.int .i64 (kd i)) ∧ w.cell? ⟨b, o + i * 3 + 1, none⟩ = some (.int .i64 (p i)) ∧ w.cell? ⟨b, o + i * 3 + 2, none⟩ = some (.slice (As i) (ml i) (cs i))
  row : ∀ i, i < n → Rd w 1 (As i) (ml i) (ints (xs i)) ∧ (0 < ml i → ∀ g, blk (As i) = some g → g < w.heap.size) ∧ p i ≤ 9223372036854775807 ∧ ml i ≤ cs i
theorem open_acts {w : World} {cs0 : List Value} {d0 : (Sh.sl ShAct).Den} (h : Lies w (.sl ShAct) cs0 d0) : ∃ A n c kd p As ml cs xs, Sh.val (.sl ShAct) cs0 = .slice A n c ∧ n ≤ maxLen ∧ Acts w A n kd p As ml cs xs := by
  obtain ⟨A, c, rfl, h1, h2, h3⟩ := h
  obtain ⟨n, hn⟩ : ∃ n, n = @List.length ShAct.Den d0 := ⟨_, rfl⟩
  rw [← hn] at h1 h3 ⊢
  have key : ∀ i, ∃ (t : Int × Int × Option Addr × Nat × Nat × List Int), i < n → (∀ b o, A = some ⟨b, o, none⟩ → w.cell? ⟨b, o + i * 3, none⟩ = some (.int .i64 t.1) ∧ w.cell? ⟨b, o + i * 3 + 1, none⟩ = some (.int .i64 t.2.1) ∧ w.cell? ⟨b, o + i * 3 + 2, none⟩ = some (.slice t.2.2.1 t.2.2.2.1 t.2.2.2.2.1)) ∧
      Rd w 1 t.2.2.1 t.2.2.2.1 (ints t.2.2.2.2.2) ∧ (0 < t.2.2.2.1 → ∀ g, blk t.2.2.1 = some g → g < w.heap.size) ∧ t.2.1 ≤ 9223372036854775807 ∧ t.2.2.2.1 ≤ t.2.2.2.2.1 := by
    intro i
    by_cases hi : i < n
    · obtain ⟨b, o, rfl, hb, hel⟩ := h3 (by omega)
      obtain ⟨e, he⟩ : ∃ e : ShAct.Den, (show List ShAct.Den from d0)[i]? = some e := ⟨_, List.getElem?_eq_getElem (by rw [← hn]; exact hi)⟩
      obtain ⟨cs', g1, g2, g3⟩ := hel i e he
      obtain ⟨z1, z2, z4, zu⟩ := e
      obtain ⟨c1, r1, rfl, _, ⟨rfl, _⟩, c2, r2, rfl, _, ⟨rfl, w2⟩, c4, r4, rfl, _, hsl, hnil⟩ := g3
      obtain ⟨A', c', rfl, e1, e2, e3, e4⟩ := Rd.of_lies (d := z4) hsl
      refine ⟨(z1, z2, A', List.length z4, c', z4), fun _ => ⟨fun b' o' he => ?_, e3, e4, i64_le w2, e1⟩⟩
      cases he
      exact ⟨g2 0 _ rfl, g2 1 _ rfl, g2 2 _ rfl⟩
    · exact ⟨(0, 0, none, 0, 0, []), fun h => absurd h hi⟩
  refine ⟨A, n, c, fun i => (key i).choose.1, fun i => (key i).choose.2.1, fun i => (key i).choose.2.2.1, fun i => (key i).choose.2.2.2.1, fun i => (key i).choose.2.2.2.2.1, fun i => (key i).choose.2.2.2.2.2, rfl, Nat.le_trans h1 h2, ⟨fun h0 => ?_, fun i hi => ((key i).choose_spec hi).2⟩⟩
  obtain ⟨b, o, rfl, hb, _⟩ := h3 h0
  exact ⟨b, o, rfl, hb, fun i hi => ((key i).choose_spec hi).1 b o rfl⟩
section
variable {w w' : World} {A : Option Addr} {n : Nat} {kd p : Nat → Int} {As : Nat → Option Addr} {ml cs : Nat → Nat} {xs : Nat → List Int}
theorem Acts.below (h : Acts w A n kd p As ml cs xs) (hb : Below w.heap.size w w') : Acts w' A n kd p As ml cs xs := by
  refine ⟨fun h0 => ?_, fun i hi => ?_⟩
  · obtain ⟨b, o, e, hlt, hc⟩ := h.cells h0
    exact ⟨b, o, e, Nat.lt_of_lt_of_le hlt hb.size, fun i hi => ⟨(hb.cell (p := ⟨b, _, none⟩) hlt).trans (hc i hi).1, (hb.cell (p := ⟨b, _, none⟩) hlt).trans (hc i hi).2.1, (hb.cell (p := ⟨b, _, none⟩) hlt).trans (hc i hi).2.2⟩⟩
  · obtain ⟨h1, h2, h3⟩ := h.row i hi
    exact ⟨h1.below hb (Nat.le_refl _), fun h0 g hg => Nat.lt_of_lt_of_le (h2 h0 g hg) hb.size, h3⟩
set_option maxHeartbeats 2000000 in
theorem light_yes (c : Nat) (h : Acts w A n kd p As ml cs xs) (h60 : n ≤ 100) (h20 : ∀ i, i < n → ml i ≤ 30) : Calls Try.prog 6 #[.slice A n c] w fun e W' => e = .returned (.bool true) ∧ w = W' := by
  have h1 : ¬ (100 : Int) < n := by omega
  go_enter Try.func6, Try.ntmps6
  go_wp2
  go_loop [3] (fun i => ∃ k : Nat, k ≤ n ∧ i = .int .i64 k) (fun i => n - (intOf i).toNat)
  case atStart => exact ⟨0, Nat.zero_le _, rfl⟩
  case round =>
    obtain ⟨k, hk, rfl⟩ := hrel
    have k0 : (0 : Int) ≤ k := by omega
    by_cases hlt : k < n
    · have k1 : (k : Int) < n := by omega
      obtain ⟨b, o, rfl, hb, hc⟩ := h.cells (by omega)
      have e3 := (hc k hlt).2.2
      have h2 : ¬ (30 : Int) < (ml k : Int) := by have := h20 k hlt; omega
      generalize ml k = mk at *
      clear hc h h20
      go_wp2
      go_round
      case rel => exact ⟨k + 1, by omega, by go_num⟩
      case measure => simp [intOf]; omega
    · clear h h20
      go_wp2
      go_ret
      exact ⟨rfl, rfl⟩
set_option maxHeartbeats 2000000 in
theorem light_no (c : Nat) (h : Acts w A n kd p As ml cs xs) (hm : n ≤ maxLen) (hno : ¬ (n ≤ 100 ∧ ∀ i, i < n → ml i ≤ 30)) : Calls Try.prog 6 #[.slice A n c] w fun e W' => e = .returned (.bool false) ∧ w = W' := by
  unfold maxLen at hm
  by_cases h60 : n ≤ 100
  · have h1 : ¬ (100 : Int) < n := by omega
    go_enter Try.func6, Try.ntmps6
    go_wp2
    go_loop [3] (fun i => ∃ k : Nat, k ≤ n ∧ i = .int .i64 k ∧ Hid (∀ j, j < k → ml j ≤ 30)) (fun i => n - (intOf i).toNat)
    case atStart => exact ⟨0, Nat.zero_le _, rfl, Lib.hid (fun j hj => absurd hj (by omega))⟩
    case round =>
      obtain ⟨k, hk, rfl, hall⟩ := hrel
      have k0 : (0 : Int) ≤ k := by omega
      by_cases hlt : k < n
      · have k1 : (k : Int) < n := by omega
        obtain ⟨b, o, rfl, hb, hc⟩ := h.cells (by omega)
        have e3 := (hc k hlt).2.2
        have HN := Lib.hid (fun (hk : ml k ≤ 30) j (hj : j < k + 1) => show ml j ≤ 30 from by
          rcases Nat.lt_or_ge j k with h1 | h1
          · exact hall.out j h1
          · obtain rfl : j = k := by omega
            exact hk)
        by_cases h2 : ml k ≤ 30
        · have h3 : ¬ (30 : Int) < (ml k : Int) := by omega
          clear hc h hno
          go_wp2
          go_round
          case rel => exact ⟨k + 1, by omega, by go_num, Lib.hid (HN.out h2)⟩
          case measure => simp [intOf]; omega
        · have h3 : (30 : Int) < (ml k : Int) := by omega
          clear hc h hno
          go_wp2
          go_ret
          exact ⟨rfl, rfl⟩
      · exact absurd ⟨h60, fun i hi => hall.out i (by omega)⟩ hno
  · have h1 : (100 : Int) < n := by omega
    clear h hno
    go_enter Try.func6, Try.ntmps6
    go_wp2
    go_ret
    exact ⟨rfl, rfl⟩
end
end Go.Proofs.Ytfceebbbhjjnaaa
