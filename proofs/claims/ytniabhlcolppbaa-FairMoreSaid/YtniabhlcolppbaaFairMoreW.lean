/- The walk of the law FairMore. -/
import Derived.Test.YtniabhlcolppbaaFairC
import Derived.Deep.RegionWith
import Derived.Deep.RegionHeld3
namespace Go.Proofs.Ytniabhlcolppbaa
open Go.ChangeShapes Go.WideShapes Go.ChangeAt Go.RowKit Go.Deep
set_option linter.unusedVariables false

theorem uAt_mono {pk : Nat → Bool} {p d k k' : Int} {cnt : List Int} {u u' : Bool} {n : Nat} (hk : k ≤ k') (hu : u' = true → u = true) : ∀ j, uAt pk p cnt k' d u' n j = true → uAt pk p cnt k d u n j = true
  | 0, h => by
    simp only [uAt, Bool.or_eq_true, decide_eq_true_eq] at h ⊢
    rcases h with (h | h) | h
    · exact .inl (.inl (hu h))
    · exact .inl (.inr (by omega))
    · exact .inr h
  | j + 1, h => by
    unfold uAt at h ⊢
    split at h
    · rename_i hr; rw [if_pos hr]; exact uAt_mono hk hu j h
    · rename_i hr
      rw [if_neg hr]
      simp only [Bool.or_eq_true, decide_eq_true_eq] at h ⊢
      rcases h with h | h
      · exact .inl (uAt_mono hk hu j h)
      · exact .inr (by omega)
theorem wAt_le {pk : Nat → Bool} {p d k wo : Int} {cnt : List Int} {u : Bool} {n : Nat} (hw : u = false → wo ≤ k) : ∀ j, uAt pk p cnt k d u n j = false → wAt pk p cnt wo d j ≤ k
  | 0, h => by
    simp only [uAt, Bool.or_eq_false_iff, decide_eq_false_iff_not] at h
    have := hw h.1.1
    simp only [wAt]
    omega
  | j + 1, h => by
    unfold uAt at h
    unfold wAt
    split at h
    · rename_i hr; rw [if_pos hr]; exact wAt_le hw j h
    · rename_i hr
      rw [if_neg hr]
      simp only [Bool.or_eq_false_iff, decide_eq_false_iff_not] at h
      have := wAt_le hw j h.1
      omega
theorem rowAt_bd {pk : Nat → Bool} {p : Int} {cnt : List Int} {n : Nat} {t : Int} (h : ∀ m, 0 ≤ gc cnt m ∧ gc cnt m ≤ t) (m : Nat) : 0 ≤ gc (rowAt pk p cnt n n) m ∧ gc (rowAt pk p cnt n n) m ≤ t + 1 := by
  obtain ⟨h0, h1⟩ := h m
  by_cases hm : m < n
  · have e : gc (rowAt pk p cnt n n) m = nxc pk p cnt m := by simp [gc, rowAt, List.getD, hm]
    rw [e, nxc]
    split <;> omega
  · have e : gc (rowAt pk p cnt n n) m = 0 := by simp [gc, rowAt, List.getD, hm]
    rw [e]; omega
abbrev ShStep : Sh := .st (.cons (.sl .bool) (.cons (.st (.cons (.int .i64) (.cons (.int .i64) (.cons (.int .i64) .nil)))) .nil))
theorem Pk.of_lies {w : World} {cs : List Value} {d : List Bool} (h : Lies w (.sl .bool) cs (show (Sh.sl .bool).Den from d)) : ∃ A c, cs = [.slice A d.length c] ∧ d.length ≤ c ∧ c ≤ maxLen ∧ Pk w A d.length (fun m => d.getD m false) := by
  obtain ⟨A, c, rfl, h1, h2, h3⟩ := h
  refine ⟨A, c, rfl, h1, h2, fun hn => ?_⟩
  obtain ⟨b, o, rfl, hb, hi⟩ := h3 hn
  refine ⟨b, o, rfl, hb, fun j hj => ?_⟩
  obtain ⟨cs', g1, g2, g3⟩ := hi j (show Bool from d[j]) (List.getElem?_eq_getElem hj)
  have g3 : cs' = [.bool d[j]] := g3
  have := g2 0 _ (by rw [g3]; rfl)
  simpa [Sh.size, List.getD, hj] using this
structure Stp (w : World) (A : Option Addr) (n : Nat) (As : Nat → Option Addr) (ml cs : Nat → Nat) (pk : Nat → Nat → Bool) (p d r : Nat → Int) : Prop where
  cells : 0 < n → ∃ b o, A = some ⟨b, o, none⟩ ∧ b < w.heap.size ∧ ∀ i, i < n → w.cell? ⟨b, o + i * 4, none⟩ = some (.slice (As i) (ml i) (cs i)) ∧ w.cell? ⟨b, o + i * 4 + 1, none⟩ = some (.int .i64 (p i)) ∧ w.cell? ⟨b, o + i * 4 + 1 + 1, none⟩ = some (.int .i64 (d i)) ∧ w.cell? ⟨b, o + i * 4 + 1 + 2, none⟩ = some (.int .i64 (r i))
  row : ∀ i, i < n → Pk w (As i) (ml i) (pk i)
theorem open_stp {w : World} {cs0 : List Value} {d0 : (Sh.sl ShStep).Den} (h : Lies w (.sl ShStep) cs0 d0) : ∃ A n c As ml cs pk p d r, Sh.val (.sl ShStep) cs0 = .slice A n c ∧ n ≤ maxLen ∧ Stp w A n As ml cs pk p d r := by
  obtain ⟨A, c, rfl, h1, h2, h3⟩ := h
  obtain ⟨n, hn⟩ : ∃ n, n = @List.length ShStep.Den d0 := ⟨_, rfl⟩
  rw [← hn] at h1 h3 ⊢
  have key : ∀ i, ∃ (t : Option Addr × Nat × Nat × (Nat → Bool) × Int × Int × Int), i < n → (∀ b o, A = some ⟨b, o, none⟩ → w.cell? ⟨b, o + i * 4, none⟩ = some (.slice t.1 t.2.1 t.2.2.1) ∧ w.cell? ⟨b, o + i * 4 + 1, none⟩ = some (.int .i64 t.2.2.2.2.1) ∧ w.cell? ⟨b, o + i * 4 + 1 + 1, none⟩ = some (.int .i64 t.2.2.2.2.2.1) ∧ w.cell? ⟨b, o + i * 4 + 1 + 2, none⟩ = some (.int .i64 t.2.2.2.2.2.2)) ∧ Pk w t.1 t.2.1 t.2.2.2.1 := by
    intro i
    by_cases hi : i < n
    · obtain ⟨b, o, rfl, hb, hel⟩ := h3 (by omega)
      obtain ⟨e, he⟩ : ∃ e : ShStep.Den, (show List ShStep.Den from d0)[i]? = some e := ⟨_, List.getElem?_eq_getElem (by rw [← hn]; exact hi)⟩
      obtain ⟨cs', g1, g2, g3⟩ := hel i e he
      obtain ⟨z1, ⟨z2, z3, z4, zu⟩, zv⟩ := e
      obtain ⟨c1, r1, rfl, _, hsl, c2, r2, rfl, hl2, hst, hnil⟩ := g3
      obtain ⟨c3, r3, rfl, _, ⟨rfl, w2⟩, c4, r4, rfl, _, ⟨rfl, w3⟩, c5, r5, rfl, _, ⟨rfl, w4⟩, hn5⟩ := hst
      obtain ⟨A', c', rfl, e1, e2, e3⟩ := Pk.of_lies (d := z1) hsl
      refine ⟨(A', List.length z1, c', fun m => List.getD z1 m false, z2, z3, z4), fun _ => ⟨fun b' o' he => ?_, e3⟩⟩
      cases he
      exact ⟨g2 0 _ rfl, g2 1 _ rfl, g2 2 _ rfl, g2 3 _ rfl⟩
    · exact ⟨(none, 0, 0, fun _ => false, 0, 0, 0), fun h => absurd h hi⟩
  refine ⟨A, n, c, fun i => (key i).choose.1, fun i => (key i).choose.2.1, fun i => (key i).choose.2.2.1, fun i => (key i).choose.2.2.2.1, fun i => (key i).choose.2.2.2.2.1, fun i => (key i).choose.2.2.2.2.2.1, fun i => (key i).choose.2.2.2.2.2.2, rfl, Nat.le_trans h1 h2, ⟨fun h0 => ?_, fun i hi => ((key i).choose_spec hi).2⟩⟩
  obtain ⟨b, o, rfl, hb, _⟩ := h3 h0
  exact ⟨b, o, rfl, hb, fun i hi => ((key i).choose_spec hi).1 b o rfl⟩
section
variable {w w' : World} {A : Option Addr} {n : Nat} {As : Nat → Option Addr} {ml cs : Nat → Nat} {pk : Nat → Nat → Bool} {p d r : Nat → Int}
theorem Pk.below {A : Option Addr} {n : Nat} {q : Nat → Bool} (h : Pk w A n q) (hb : Below w.heap.size w w') : Pk w' A n q := fun h0 => by
  obtain ⟨b, o, e, hlt, hc⟩ := h h0
  exact ⟨b, o, e, Nat.lt_of_lt_of_le hlt hb.size, fun m hm => (hb.cell (p := ⟨b, _, none⟩) hlt).trans (hc m hm)⟩
theorem Stp.below (h : Stp w A n As ml cs pk p d r) (hb : Below w.heap.size w w') : Stp w' A n As ml cs pk p d r := by
  refine ⟨fun h0 => ?_, fun i hi => (h.row i hi).below hb⟩
  obtain ⟨b, o, e, hlt, hc⟩ := h.cells h0
  exact ⟨b, o, e, Nat.lt_of_lt_of_le hlt hb.size, fun i hi => ⟨(hb.cell (p := ⟨b, _, none⟩) hlt).trans (hc i hi).1, (hb.cell (p := ⟨b, _, none⟩) hlt).trans (hc i hi).2.1, (hb.cell (p := ⟨b, _, none⟩) hlt).trans (hc i hi).2.2.1, (hb.cell (p := ⟨b, _, none⟩) hlt).trans (hc i hi).2.2.2⟩⟩
set_option maxHeartbeats 2000000 in
theorem light_yes (c : Nat) (h : Stp w A n As ml cs pk p d r) (h60 : n ≤ 60) (h20 : ∀ i, i < n → ml i ≤ 20) : Calls Try.prog 4 #[.slice A n c] w fun e W' => e = .returned (.bool true) ∧ w = W' := by
  have h1 : ¬ (60 : Int) < n := by omega
  go_enter Try.func4, Try.ntmps4
  go_wp2
  go_loop [3] (fun i => ∃ k : Nat, k ≤ n ∧ i = .int .i64 k) (fun i => n - (intOf i).toNat)
  case atStart => exact ⟨0, Nat.zero_le _, rfl⟩
  case round =>
    obtain ⟨k, hk, rfl⟩ := hrel
    have k0 : (0 : Int) ≤ k := by omega
    by_cases hlt : k < n
    · have k1 : (k : Int) < n := by omega
      obtain ⟨b, o, rfl, hb, hc⟩ := h.cells (by omega)
      have e3 := (hc k hlt).1
      have h2 : ¬ (20 : Int) < (ml k : Int) := by have := h20 k hlt; omega
      generalize ml k = mk at *
      clear hc h h20
      go_wp2
      go_round
      case rel => exact ⟨k + 1, by omega, by go_num⟩
      case measure => simp [intOf]; omega
    · clear h h20
      go_wp2
      go_ret
      exact ⟨rfl, rfl⟩
set_option maxHeartbeats 2000000 in
theorem light_no (c : Nat) (h : Stp w A n As ml cs pk p d r) (hm : n ≤ maxLen) (hno : ¬ (n ≤ 60 ∧ ∀ i, i < n → ml i ≤ 20)) : Calls Try.prog 4 #[.slice A n c] w fun e W' => e = .returned (.bool false) ∧ w = W' := by
  unfold maxLen at hm
  by_cases h60 : n ≤ 60
  · have h1 : ¬ (60 : Int) < n := by omega
    go_enter Try.func4, Try.ntmps4
    go_wp2
    go_loop [3] (fun i => ∃ k : Nat, k ≤ n ∧ i = .int .i64 k ∧ Hid (∀ j, j < k → ml j ≤ 20)) (fun i => n - (intOf i).toNat)
    case atStart => exact ⟨0, Nat.zero_le _, rfl, Lib.hid (fun j hj => absurd hj (by omega))⟩
    case round =>
      obtain ⟨k, hk, rfl, hall⟩ := hrel
      have k0 : (0 : Int) ≤ k := by omega
      by_cases hlt : k < n
      · have k1 : (k : Int) < n := by omega
        obtain ⟨b, o, rfl, hb, hc⟩ := h.cells (by omega)
        have e3 := (hc k hlt).1
        have HN := Lib.hid (fun (hk : ml k ≤ 20) j (hj : j < k + 1) => show ml j ≤ 20 from by
          rcases Nat.lt_or_ge j k with h1 | h1
          · exact hall.out j h1
          · obtain rfl : j = k := by omega
            exact hk)
        by_cases h2 : ml k ≤ 20
        · have h3 : ¬ (20 : Int) < (ml k : Int) := by omega
          clear hc h hno
          go_wp2
          go_round
          case rel => exact ⟨k + 1, by omega, by go_num, Lib.hid (HN.out h2)⟩
          case measure => simp [intOf]; omega
        · have h3 : (20 : Int) < (ml k : Int) := by omega
          clear hc h hno
          go_wp2
          go_ret
          exact ⟨rfl, rfl⟩
      · exact absurd ⟨h60, fun i hi => hall.out i (by omega)⟩ hno
  · have h1 : (60 : Int) < n := by omega
    clear h hno
    go_enter Try.func4, Try.ntmps4
    go_wp2
    go_ret
    exact ⟨rfl, rfl⟩
end
theorem i64_le {a : Int} (h : (Lit.int .i64 a).wf = true) : a ≤ 9223372036854775807 := by
  have h' : (decide (IntKind.i64.min ≤ a) && decide (a ≤ IntKind.i64.max)) = true := h
  rw [Bool.and_eq_true] at h'
  have h2 := of_decide_eq_true h'.2
  have e : IntKind.i64.max = 9223372036854775807 := by decide
  omega
theorem i64_ge {a : Int} (h : (Lit.int .i64 a).wf = true) : -9223372036854775808 ≤ a := by
  have h' : (decide (IntKind.i64.min ≤ a) && decide (a ≤ IntKind.i64.max)) = true := h
  rw [Bool.and_eq_true] at h'
  have h2 := of_decide_eq_true h'.1
  have e : IntKind.i64.min = -9223372036854775808 := by decide
  omega
/-- Two watches of the same steps, the second more patient. -/
def RoundFM (w : World) (k more : Int) (n : Nat) (i : Value) (wr : World) : Prop :=
  ∃ (j : Nat) (ua ub : Bool) (wo : Int) (cnt : List Int), j ≤ n ∧ i = .int .i64 j ∧ Wt wr w.heap.size w.heap.size k ua wo cnt ∧ Wt wr w.heap.size (w.heap.size + 1) (k + more) ub wo cnt ∧ (ub = true → ua = true) ∧ (ua = false → wo ≤ k) ∧ (∀ m, 0 ≤ gc cnt m ∧ gc cnt m ≤ (j : Int)) ∧ cnt.length ≤ 20 ∧ Below w.heap.size w wr
theorem Wt.other {W W' : World} {B b b' : Nat} {k k' wo wo' : Int} {u u' : Bool} {cnt cnt' : List Int} (h : Wt W B b k u wo cnt) (h' : Wt W B b' k' u' wo' cnt') (hc : Chg (fun g => g = b') W W') (hne : b ≠ b') : Wt W' B b k u wo cnt := by
  obtain ⟨_, rv, h1, _⟩ := h'
  exact h.kept hc hne (fun g cs hB e => Blk.ne_ hB h1 (by decide) e)
theorem RoundFM.step {w wr w1 w2 : World} {k more wo' : Int} {n j : Nat} {ua' ub' : Bool} {cnt' : List Int} (hj : j < n) (hb : Below w.heap.size w wr) (hA : Wt w1 w.heap.size w.heap.size k ua' wo' cnt') (hB : Wt w2 w.heap.size (w.heap.size + 1) (k + more) ub' wo' cnt') (hA2 : Wt w2 w.heap.size w.heap.size k ua' wo' cnt')
    (hc1 : Chg (fun g => g = w.heap.size) wr w1) (hc2 : Chg (fun g => g = w.heap.size + 1) w1 w2) (hu : ub' = true → ua' = true) (hw : ua' = false → wo' ≤ k) (hg : ∀ m, 0 ≤ gc cnt' m ∧ gc cnt' m ≤ (j : Int) + 1) (hl : cnt'.length ≤ 20) (q : Nat) : RoundFM w k more n (.int .i64 ((j : Int) + 1)) (w2.drewN q) := by
  refine ⟨j + 1, ua', ub', wo', cnt', by omega, by go_num, hA2.kept (S := fun _ => False) ((Chg.refl _ _).drewN q) (fun h => h) (fun _ _ _ h => h), hB.kept (S := fun _ => False) ((Chg.refl _ _).drewN q) (fun h => h) (fun _ _ _ h => h), hu, hw, fun m => ?_, hl, belowN ?_ q⟩
  · have := hg m; push_cast; exact this
  · have hs := hb.size
    have h1 := hc1.below (B := w.heap.size) hs (fun g _ h => by rw [h]; exact Nat.le_refl _)
    have h2 := hc2.below (B := w.heap.size) (by have := hc1.size; omega) (fun g _ h => by rw [h]; omega)
    exact (hb.trans h1).trans h2
set_option maxRecDepth 100000 in
set_option maxHeartbeats 8000000 in
theorem walk_fairMore' (k more : Int) (A : Option Addr) (n c : Nat) (As : Nat → Option Addr) (ml cs : Nat → Nat) (pk : Nat → Nat → Bool) (p d r : Nat → Int) (w : World) (hA : Stp w A n As ml cs pk p d r) (hmx : n ≤ maxLen) (hk0 : (Lit.int .i64 k).wf = true) (hm0 : (Lit.int .i64 more).wf = true) :
    Calls Try.prog 3 #[.int .i64 k, .int .i64 more, .slice A n c] w fun e w' => e = .returned (.bool true) ∧ Below w.heap.size w w' := by
  by_cases hlight : n ≤ 60 ∧ ∀ i, i < n → ml i ≤ 20
  · by_cases hr : 1 ≤ k ∧ k ≤ 1000 ∧ 0 ≤ more ∧ more ≤ 1000 - k
    · obtain ⟨h60, h20⟩ := hlight
      obtain ⟨k1, k2, m1, m2⟩ := hr
      have HLI := Lib.hid (light_yes c hA h60 h20)
      have HA := Lib.hid hA
      have H20 := Lib.hid h20
      have HN := Lib.hid (fun (W : World) (x : Int) (h1 : 1 ≤ x) (h2 : x ≤ 1000) => new_any x W h1 h2)
      have x1 : ¬ k < 1 := by omega
      have x2 : ¬ 1000 < k := by omega
      have x3 : ¬ more < 0 := by omega
      have x4 : ¬ 1000 - k < more := by omega
      clear hA h20 hk0 hm0
      go_enter Try.func3, Try.ntmps3
      go_wp2_with (first
        | (go_at_call 4; refine HLI.out.mono ?_; rintro e u1 ⟨rfl, rfl⟩)
        | (go_at_call 6; ((with_reducible refine (HN.out _ k k1 k2).mono ?_)); rintro e u1 ⟨rfl, rfl⟩)
        | (go_at_call 6; ((with_reducible refine (HN.out _ (k + more) (by omega) (by omega)).mono ?_)); rintro e u1 ⟨rfl, rfl⟩))
      go_loopw [9] (fun i wr => RoundFM w k more n i wr) (fun i _ => n - (intOf i).toNat)
      case atStart =>
        have h1 := wt_new w w.heap.size k (Nat.le_refl _)
        have h2 := wt_new (w.alloc (.cells #[.int .i64 k, .slice none 0 0, .bool false, .int .i64 0] 37)) w.heap.size (k + more) (by simp)
        exact ⟨0, false, false, 0, [], Nat.zero_le _, rfl, h1.kept (S := fun _ => False) ((Chg.refl _ _).alloc _) (fun h => h) (fun _ _ _ h => h), by simpa using h2, fun h => h, fun _ => by omega, fun m => by simp [gc], by simp, ((Below.refl _ _).alloc (Nat.le_refl _) _).alloc (by simp) _⟩
      case round =>
        obtain ⟨j, ua, ub, wo, cnt, hj, rfl, hWa, hWb, hu, hw, hgc, hcl, hb⟩ := hrel
        have j0 : (0 : Int) ≤ j := by omega
        have hsz := hb.size
        by_cases hlt : j < n
        · have j1 : (j : Int) < n := by omega
          have HA1 := HA.out.below hb
          obtain ⟨bA, oA, rfl, hbA, hcc⟩ := HA.out.cells (by omega)
          have hml := H20.out j hlt
          have hfar : ∀ b' o, As j = some ⟨b', o, none⟩ → 0 < ml j → b' < w.heap.size := fun b' o h h0 => by
            obtain ⟨b2, o2, h2, h3, _⟩ := HA.out.row j hlt h0
            rw [h2] at h; cases h; exact h3
          have hpk := HA1.row j hlt
          have kA : w.heap.size < wr.heap.size := by obtain ⟨_, rv, h1, _⟩ := hWa; exact Blk.lt h1
          have kB : w.heap.size + 1 < wr.heap.size := by obtain ⟨_, rv, h1, _⟩ := hWb; exact Blk.lt h1
          obtain ⟨ua', hua'⟩ : ∃ x, x = uAt (pk j) (modOf (p j) (ml j)) cnt k (modOf (d j) 65) ua (ml j) (ml j) := ⟨_, rfl⟩
          obtain ⟨ub', hub'⟩ : ∃ x, x = uAt (pk j) (modOf (p j) (ml j)) cnt (k + more) (modOf (d j) 65) ub (ml j) (ml j) := ⟨_, rfl⟩
          obtain ⟨wo', hwo'⟩ : ∃ x, x = wAt (pk j) (modOf (p j) (ml j)) cnt wo (modOf (d j) 65) (ml j) := ⟨_, rfl⟩
          obtain ⟨cnt', hcnt'⟩ : ∃ x, x = rowAt (pk j) (modOf (p j) (ml j)) cnt (ml j) (ml j) := ⟨_, rfl⟩
          have hu2 : ub' = true → ua' = true := by rw [hua', hub']; exact uAt_mono (by omega) hu _
          have hw2 : ua' = false → wo' ≤ k := by rw [hua', hwo']; exact wAt_le hw _
          have hg2 : ∀ m, 0 ≤ gc cnt' m ∧ gc cnt' m ≤ (j : Int) + 1 := by rw [hcnt']; exact rowAt_bd hgc
          have hcl2 : cnt'.length ≤ 20 := by rw [hcnt', rowAt_len]; exact hml
          have hgA : ∀ m, 0 ≤ gc cnt m ∧ gc cnt m ≤ 1000 := fun m => by have := hgc m; omega
          have hWad := hWa.kept (S := fun _ => False) (W' := wr.drew) ((Chg.refl _ _).drew) (fun h => h) (fun _ _ _ h => h)
          have hWbd := hWb.kept (S := fun _ => False) (W' := wr.drew) ((Chg.refl _ _).drew) (fun h => h) (fun _ _ _ h => h)
          have HSA := step_any wr.drew w.heap.size w.heap.size k wo (p j) (d j) (r j) ua cnt (As j) (ml j) (cs j) (pk j) hWad (hpk.below ((Below.refl _ _).drew)) hml (fun b' o h h0 => by have := hfar b' o h h0; omega) hgA hsz (by omega)
          rw [← hua', ← hwo', ← hcnt'] at HSA
          have HSB : ∀ w1, Wt w1 w.heap.size w.heap.size k ua' wo' cnt' → Chg (fun g => g = w.heap.size) wr.drew w1 → Calls Try.prog 7 #[.pointer (some ⟨w.heap.size + 1, 0, none⟩), .slice (As j) (ml j) (cs j), .agg #[.int .i64 (p j), .int .i64 (d j), .int .i64 (r j)]] w1 (fun e W' => e = .returned (.bool (!ub')) ∧ Wt W' w.heap.size (w.heap.size + 1) (k + more) ub' wo' cnt' ∧ Chg (fun g => g = w.heap.size + 1) w1 W') ∧
              w1.cell? ⟨bA, oA + j * 4, none⟩ = some (.slice (As j) (ml j) (cs j)) ∧ w1.cell? ⟨bA, oA + j * 4 + 1, none⟩ = some (.int .i64 (p j)) ∧ w1.cell? ⟨bA, oA + j * 4 + 1 + 1, none⟩ = some (.int .i64 (d j)) ∧ w1.cell? ⟨bA, oA + j * 4 + 1 + 2, none⟩ = some (.int .i64 (r j)) ∧
              ∀ w2, Wt w2 w.heap.size (w.heap.size + 1) (k + more) ub' wo' cnt' → Chg (fun g => g = w.heap.size + 1) w1 w2 → Wt w2 w.heap.size w.heap.size k ua' wo' cnt' ∧ (w2.cell? ⟨bA, oA + j * 4, none⟩ = some (.slice (As j) (ml j) (cs j)) ∧ w2.cell? ⟨bA, oA + j * 4 + 1, none⟩ = some (.int .i64 (p j)) ∧ w2.cell? ⟨bA, oA + j * 4 + 1 + 1, none⟩ = some (.int .i64 (d j)) ∧ w2.cell? ⟨bA, oA + j * 4 + 1 + 2, none⟩ = some (.int .i64 (r j))) ∧ bA < w2.heap.size ∧ ∀ q, RoundFM w k more n (.int .i64 ((j : Int) + 1)) (w2.drewN q) := fun w1 h1 hc1 => by
            have hc1' : Chg (fun g => g = w.heap.size) wr w1 := Chg.undrew hc1
            have hs1 := hc1'.size
            have hWb1 := hWb.other hWa hc1' (by omega)
            have hb1 : Below w.heap.size w w1 := hb.trans (hc1'.below hsz (fun g _ h => by rw [h]; exact Nat.le_refl _))
            have hp1 := HA.out.below hb1
            obtain ⟨b3, o3, he3, _, hcc1⟩ := hp1.cells (by omega)
            cases he3
            have hB2 := step_any w1 w.heap.size (w.heap.size + 1) (k + more) wo (p j) (d j) (r j) ub cnt (As j) (ml j) (cs j) (pk j) hWb1 (hp1.row j hlt) hml (fun b' o h h0 => by have := hfar b' o h h0; omega) hgA (by omega) (by omega)
            rw [← hub', ← hwo', ← hcnt'] at hB2
            refine ⟨hB2, (hcc1 j hlt).1, (hcc1 j hlt).2.1, (hcc1 j hlt).2.2.1, (hcc1 j hlt).2.2.2, fun w2 h2 hc2 => ?_⟩
            have h3 := h1.other (hWb1) hc2 (by omega)
            have hb2 : Below w.heap.size w w2 := hb1.trans (hc2.below hb1.size (fun g _ h => by rw [h]; omega))
            obtain ⟨b4, o4, he4, hlt4, hcc2⟩ := (HA.out.below hb2).cells (by omega)
            cases he4
            exact ⟨h3, hcc2 j hlt, hlt4, fun q => RoundFM.step hlt hb h1 h2 h3 hc1' hc2 hu2 hw2 hg2 hcl2 q⟩
          obtain ⟨e0, e1, e2, e3⟩ : wr.cell? ⟨bA, oA + j * 4, none⟩ = some (.slice (As j) (ml j) (cs j)) ∧ wr.cell? ⟨bA, oA + j * 4 + 1, none⟩ = some (.int .i64 (p j)) ∧ wr.cell? ⟨bA, oA + j * 4 + 1 + 1, none⟩ = some (.int .i64 (d j)) ∧ wr.cell? ⟨bA, oA + j * 4 + 1 + 2, none⟩ = some (.int .i64 (r j)) := by
            obtain ⟨b3, o3, he3, _, hcc1⟩ := HA1.cells (by omega)
            cases he3
            exact hcc1 j hlt
          have kbA : bA < wr.heap.size := by omega
          have HSA1 := Lib.hid HSA
          have HSB1 := Lib.hid HSB
          have HW2 := Lib.hid hw2
          clear HSA HSB hWa hWb hu hw hgc hcl hb HA1 hcc hml hfar hpk hua' hub' hwo' hcnt' hg2 hcl2 hgA hWad hWbd hw2
          generalize As j = As at *
          generalize ml j = ml at *
          generalize cs j = cs at *
          generalize p j = p at *
          generalize d j = d at *
          generalize r j = r at *
          have HC0 : Hid (wr.drew.cell? ⟨bA, oA + j * 4, none⟩ = some (.slice As ml cs) ∧ wr.drew.cell? ⟨bA, oA + j * 4 + 1, none⟩ = some (.int .i64 p) ∧ wr.drew.cell? ⟨bA, oA + j * 4 + 1 + 1, none⟩ = some (.int .i64 d) ∧ wr.drew.cell? ⟨bA, oA + j * 4 + 1 + 2, none⟩ = some (.int .i64 r)) := Lib.hid ⟨e0, e1, e2, e3⟩
          cases ua' with
          | true =>
            clear hu2
            go_wp2_with fail
            go_region_held3 (fun w' => w'.cell? ⟨bA, oA + j * 4, none⟩ = some (.slice As ml cs) ∧ w'.cell? ⟨bA, oA + j * 4 + 1, none⟩ = some (.int .i64 p) ∧ w'.cell? ⟨bA, oA + j * 4 + 1 + 1, none⟩ = some (.int .i64 d) ∧ w'.cell? ⟨bA, oA + j * 4 + 1 + 2, none⟩ = some (.int .i64 r)) (first | exact HC2.out | exact HC1.out | exact HC0.out)
              (first
                | (go_at_call 7; ((with_reducible refine HSA1.out.mono ?_)); rintro e w1 ⟨rfl, ha1, hc1⟩; obtain ⟨b1, b2, b3, b4, b5, b6⟩ := HSB1.out w1 ha1 hc1; have HB1 := Lib.hid b1; have HB6 := Lib.hid b6; have HC1 := Lib.hid (And.intro b2 (And.intro b3 (And.intro b4 b5))); clear ha1 hc1 b1 b2 b3 b4 b5 b6)
                | (go_at_call 7; ((with_reducible refine HB1.out.mono ?_)); rintro e w2 ⟨rfl, hb2, hc2⟩; obtain ⟨q1, q2, q3, q4⟩ := HB6.out w2 hb2 hc2; have HA2 := Lib.hid q1; have HB2 := Lib.hid hb2; have HC2 := Lib.hid q2; have HR := Lib.hid q4; clear q1 q2 q3 q4 hb2 hc2))
            all_goals
              go_wp2_with (first
                | (go_at_call 8; ((with_reducible refine (worst_any _ _ w.heap.size _ _ _ _ HA2.out).mono ?_)); rintro e x ⟨rfl, rfl⟩)
                | (go_at_call 8; ((with_reducible refine (worst_any _ _ (w.heap.size + 1) _ _ _ _ HB2.out).mono ?_)); rintro e x ⟨rfl, rfl⟩))
              go_roundw
              case rel => exact HR.out 0
              case measure => simp [intOf]; omega
          | false =>
            have hub2 : ub' = false := by
              cases ub' with
              | false => rfl
              | true => exact absurd (hu2 rfl) (by simp)
            subst hub2
            have hdec : decide (k < wst wo') = false := decide_eq_false (by have := HW2.out rfl; unfold wst; omega)
            clear hu2
            go_wp2_with fail
            go_region_held3 (fun w' => w'.cell? ⟨bA, oA + j * 4, none⟩ = some (.slice As ml cs) ∧ w'.cell? ⟨bA, oA + j * 4 + 1, none⟩ = some (.int .i64 p) ∧ w'.cell? ⟨bA, oA + j * 4 + 1 + 1, none⟩ = some (.int .i64 d) ∧ w'.cell? ⟨bA, oA + j * 4 + 1 + 2, none⟩ = some (.int .i64 r)) (first | exact HC2.out | exact HC1.out | exact HC0.out)
              (first
                | (go_at_call 7; ((with_reducible refine HSA1.out.mono ?_)); rintro e w1 ⟨rfl, ha1, hc1⟩; obtain ⟨b1, b2, b3, b4, b5, b6⟩ := HSB1.out w1 ha1 hc1; have HB1 := Lib.hid b1; have HB6 := Lib.hid b6; have HC1 := Lib.hid (And.intro b2 (And.intro b3 (And.intro b4 b5))); clear ha1 hc1 b1 b2 b3 b4 b5 b6)
                | (go_at_call 7; ((with_reducible refine HB1.out.mono ?_)); rintro e w2 ⟨rfl, hb2, hc2⟩; obtain ⟨q1, q2, q3, q4⟩ := HB6.out w2 hb2 hc2; have HA2 := Lib.hid q1; have HB2 := Lib.hid hb2; have HC2 := Lib.hid q2; have HR := Lib.hid q4; clear q1 q2 q3 q4 hb2 hc2))
            all_goals
              go_wp2_with (first
                | (go_at_call 8; ((with_reducible refine (worst_any _ _ w.heap.size _ _ _ _ HA2.out).mono ?_)); rintro e x ⟨rfl, rfl⟩)
                | (go_at_call 8; ((with_reducible refine (worst_any _ _ (w.heap.size + 1) _ _ _ _ HB2.out).mono ?_)); rintro e x ⟨rfl, rfl⟩))
              go_roundw
              case rel => exact HR.out 0
              case measure => simp [intOf]; omega
        · have HB := Lib.hid hb
          clear hWa hWb hu hw hgc hcl hb
          go_wp2_with (go_at_call 5; refine (alive_any _).mono ?_; rintro e w' ⟨rfl, hb2⟩)
          go_ret
          exact ⟨rfl, HB.out.trans (hb2.mono HB.out.size)⟩
    · have HLI := Lib.hid (light_yes c hA hlight.1 hlight.2)
      have hk1 := i64_le hk0
      have hk2 := i64_ge hk0
      have hc : k < 1 ∨ (¬ k < 1 ∧ 1000 < k) ∨ (¬ k < 1 ∧ ¬ 1000 < k ∧ more < 0) ∨ (¬ k < 1 ∧ ¬ 1000 < k ∧ ¬ more < 0 ∧ 1000 - k < more) := by omega
      clear hA hlight hr hk0 hm0
      rcases hc with h1 | ⟨h1, h2⟩ | ⟨h1, h2, h3⟩ | ⟨h1, h2, h3, h4⟩
      all_goals
        go_enter Try.func3, Try.ntmps3
        go_wp2_with (first
          | (go_at_call 4; refine HLI.out.mono ?_; rintro e u1 ⟨rfl, rfl⟩)
          | (go_at_call 5; refine (alive_any _).mono ?_; rintro e w' ⟨rfl, hb⟩))
        go_ret
        exact ⟨rfl, hb⟩
  · have HLI := Lib.hid (light_no c hA hmx hlight)
    clear hA hlight hmx hk0 hm0
    go_enter Try.func3, Try.ntmps3
    go_wp2_with (first
      | (go_at_call 4; refine HLI.out.mono ?_; rintro e u1 ⟨rfl, rfl⟩)
      | (go_at_call 5; refine (alive_any _).mono ?_; rintro e w' ⟨rfl, hb⟩))
    go_ret
    exact ⟨rfl, hb⟩
theorem walk_fairMore (a0 a1 : Int) (cs2 : List Value) (d2 : (Sh.sl ShStep).Den) (w : World) (w0 : (Lit.int .i64 a0).wf = true) (w1 : (Lit.int .i64 a1).wf = true) (hL2 : Lies w (.sl ShStep) cs2 d2) :
    Calls Try.prog 3 #[.int .i64 a0, .int .i64 a1, Sh.val (.sl ShStep) cs2] w fun e w' => e = .returned (.bool true) ∧ Below w.heap.size w w' := by
  obtain ⟨A, n, c, As, ml, cs, pk, p, d, r, h1, h2, h3⟩ := open_stp hL2
  rw [h1]
  exact walk_fairMore' a0 a1 A n c As ml cs pk p d r w h3 h2 w0 w1
end Go.Proofs.Ytniabhlcolppbaa
