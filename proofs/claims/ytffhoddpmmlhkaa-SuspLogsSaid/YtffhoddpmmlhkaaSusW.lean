/- The walk of the law SuspLogs. -/
import Derived.Test.YtffhoddpmmlhkaaSusB
import Derived.Test.YtffhoddpmmlhkaaBrow
import Derived.Test.YtffhoddpmmlhkaaModR
import Derived.Test.YtffhoddpmmlhkaaRsame
namespace Go.Proofs.Ytffhoddpmmlhkaa
open Go.ChangeShapes Go.WideShapes Go.ChangeAt Go.RowKit Go.Deep Go.Maps
set_option linter.unusedVariables false

set_option maxHeartbeats 2000000 in
theorem aliv (W : World) : Calls Try.prog 7 #[] W fun e W' => e = .returned (.bool true) ∧ W = W' := by
  go_enter Try.func7, Try.ntmps7
  go_wp2
  go_ret
  exact ⟨rfl, rfl⟩
def brw (n : Nat) (S : Int → Bool) : Array Value := ((List.range n).map fun (j : Nat) => Value.bool (S j)).toArray
theorem brw_none (n : Nat) : brow n [] = brw n (fun _ => false) := by simp [brow, brw]
theorem brw_at (n : Nat) (S : Int → Bool) (k : Nat) (hk : k < n) : (brw n S)[k]? = some (.bool (S k)) := by simp [brw, hk]
theorem brw_set (n : Nat) (S : Int → Bool) (k : Nat) (b : Bool) : (brw n S).setIfInBounds k (.bool b) = brw n (upd S k b) := by
  apply Array.ext'
  simp only [brw, List.setIfInBounds_toArray]
  apply List.ext_getElem (by simp)
  intro i h1 h2
  rw [List.getElem_set]
  simp only [List.getElem_map, List.getElem_range, upd]
  by_cases e : k = i
  · subst e; simp
  · rw [if_neg e, if_neg (fun h => e (by omega))]
theorem upd_at (S : Int → Bool) (t : Int) (b : Bool) : upd S t b t = b := by simp [upd]
def RoundLg (W : World) (G B R gs len : Nat) (i : Value) (wr : World) : Prop := ∃ (k n : Nat) (S : Int → Bool), k ≤ len ∧ i = .int .i64 k ∧ Lg wr G B gs n S ∧ Blk wr R 4 (brw (gs + 1) S) ∧ (∀ x, S x = true → 1 ≤ x ∧ x ≤ gs) ∧ n ≤ k ∧ Below W.heap.size W wr
theorem Flat.two {w : World} {A : Option Addr} {len : Nat} {z : Nat → Int} (h : Flat w A len 2 z) (hn : 0 < len) : ∃ b o, A = some ⟨b, o, none⟩ ∧ b < w.heap.size ∧ ∀ k, k < len → w.cell? ⟨b, o + k * 2, none⟩ = some (.int .i64 (z (k * 2))) ∧ w.cell? ⟨b, o + k * 2 + 1, none⟩ = some (.int .i64 (z (k * 2 + 1))) ∧ (Lit.int .i64 (z (k * 2 + 1))).wf = true := by
  obtain ⟨b, o, e, hl, hc⟩ := h.2 hn
  refine ⟨b, o, e, hl, fun k hk => ⟨(hc (k * 2) (by omega)).1, ?_, (hc (k * 2 + 1) (by omega)).2⟩⟩
  have := (hc (k * 2 + 1) (by omega)).1
  rw [← Nat.add_assoc] at this
  exact this
theorem RoundLg.at_ {wr w2 W : World} {G B R gs v : Nat} {S : Int → Bool} (hI : Blk wr R 4 (brw (gs + 1) S)) (h1 : W.heap.size ≤ B ∧ B < G) (h2 : G < R) (hv : v < gs + 1) (hc : Chg (fun g => g = B) wr w2) : w2.cell? ⟨R, v, none⟩ = some (.bool (S v)) := by
  rw [(hI.kept hc (by omega)).cell, brw_at _ _ _ hv]
/-- Behind the store: the cell may be written, and what lies there then, whatever else is new. -/
theorem RoundLg.set_ {wr w2 W : World} {G B R gs v : Nat} {S : Int → Bool} {x : Bool} (hI : Blk wr R 4 (brw (gs + 1) S)) (h1 : W.heap.size ≤ B ∧ B < G) (h2 : G < R) (hv : v < gs + 1) (hc : Chg (fun g => g = B) wr w2) : w2.frozen? ⟨R, v, none⟩ = false ∧ ∀ w4, Chg (fun _ => False) (w2.setCell ⟨R, v, none⟩ (.bool x)) w4 → w4.cell? ⟨R, v, none⟩ = some (.bool x) := by
  have hk := hI.kept hc (show ¬ R = B by omega)
  refine ⟨hk.frozen v, fun w4 h4 => ?_⟩
  have h := hk.set_ v (.bool x)
  rw [brw_set] at h
  rw [(h.kept h4 (fun h => h)).cell, brw_at _ _ _ hv, upd_at]
theorem RoundLg.step {w wr w2 w4 : World} {G B R gs len k n n' vn : Nat} {S : Int → Bool} {x : Bool} (hlt : k < len) (hI : Blk wr R 4 (brw (gs + 1) S)) (hS : ∀ x, S x = true → 1 ≤ x ∧ x ≤ gs) (hn : n ≤ k) (hb : Below w.heap.size w wr) (h1 : w.heap.size ≤ B ∧ B < G) (hGR : G < R) (v0 : (1 : Int) ≤ vn) (v1 : (vn : Int) ≤ gs)
    (h2 : Chg (fun g => g = B) wr w2) (hn' : n' ≤ n + 1) (hL4 : Lg w4 G B gs n' (upd S vn x)) (h4 : Chg (fun _ => False) (w2.setCell ⟨R, vn, none⟩ (.bool x)) w4) : RoundLg w G B R gs len (.int .i64 ((k : Int) + 1)) w4 := by
  refine ⟨k + 1, n', _, by omega, by go_num, hL4, ?_, ?_, by omega, ?_⟩
  · have h := (hI.kept h2 (show ¬ R = B by omega)).set_ vn (.bool x)
    rw [brw_set] at h
    exact h.kept h4 (fun h => h)
  · intro y hy
    unfold upd at hy
    split at hy
    · rename_i e; subst e; exact ⟨v0, v1⟩
    · exact hS y hy
  · have b2 := hb.trans (h2.below hb.size (fun _ _ h => by omega))
    have b3 := b2.setCell (p := ⟨R, vn, none⟩) (show w.heap.size ≤ R by omega) (.bool x)
    exact b3.trans (h4.below b3.size (fun _ _ h => h.elim))
theorem RoundLg.step0 {w wr w2 w4 : World} {G B R gs len k n n' : Nat} {S : Int → Bool} (hlt : k < len) (hI : Blk wr R 4 (brw (gs + 1) S)) (hS : ∀ x, S x = true → 1 ≤ x ∧ x ≤ gs) (hn : n ≤ k) (hb : Below w.heap.size w wr) (h1 : w.heap.size ≤ B ∧ B < G) (hGR : G < R)
    (h2 : Chg (fun g => g = B) wr w2) (hn' : n' ≤ n + 1) (hL4 : Lg w4 G B gs n' S) (h4 : Chg (fun _ => False) w2 w4) : RoundLg w G B R gs len (.int .i64 ((k : Int) + 1)) w4 := by
  refine ⟨k + 1, n', _, by omega, by go_num, hL4, (hI.kept h2 (show ¬ R = B by omega)).kept h4 (fun h => h), hS, by omega, ?_⟩
  have b2 := hb.trans (h2.below hb.size (fun _ _ h => by omega))
  exact b2.trans (h4.below b2.size (fun _ _ h => h.elim))
def RoundWt (W : World) (R gs b0 : Nat) (S : Int → Bool) (wt i : Value) (wr : World) : Prop := ∃ (k : Nat) (xs : List Int) (A : Option Addr) (c : Nat), 1 ≤ k ∧ k ≤ gs + 1 ∧ i = .int .i64 k ∧ wt = .slice A xs.length c ∧ Row wr b0 3 1 A xs.length c (ints xs) ∧ Up xs ∧ (∀ x ∈ xs, x < k) ∧ (∀ x : Int, x < k → (x ∈ xs ↔ 1 ≤ x ∧ S x = true)) ∧ xs.length < k ∧ Chg (fun _ => False) W wr
theorem heap_size_alloc_ (w : World) (o : Obj) : (w.alloc o).heap.size = w.heap.size + 1 := by simp
theorem small_wf {z : Int} (h0 : 1 ≤ z) (h1 : z ≤ 64) : (Lit.int .i64 z).wf = true := by
  obtain ⟨k, rfl⟩ : ∃ k : Nat, z = k := ⟨z.toNat, by omega⟩
  have e1 : IntKind.i64.min = -9223372036854775808 := by decide
  have e2 : IntKind.i64.max = 9223372036854775807 := by decide
  simp [Lit.wf]
  omega
theorem want_eq {gs : Nat} {S : Int → Bool} {xs ys : List Int} (hS : ∀ x, S x = true → 1 ≤ x ∧ x ≤ gs) (g1 : (gs : Int) ≤ 64) (hup : Up xs) (hlo : ∀ x ∈ xs, x < ((gs + 1 : Nat) : Int)) (hmem : ∀ x : Int, x < ((gs + 1 : Nat) : Int) → (x ∈ xs ↔ 1 ≤ x ∧ S x = true))
    (h1 : Up ys) (h2 : ∀ x : Int, (Lit.int .i64 x).wf = true → (x ∈ ys ↔ S x = true)) (h3 : ∀ x ∈ ys, (Lit.int .i64 x).wf = true) : ys = xs := by
  refine h1.same hup fun z => ⟨fun hz => ?_, fun hz => ?_⟩
  · have hs := (h2 z (h3 z hz)).1 hz
    have := hS z hs
    exact (hmem z (by omega)).2 ⟨this.1, hs⟩
  · have hs := (hmem z (hlo z hz)).1 hz
    have := hS z hs.2
    exact (h2 z (small_wf this.1 (by omega))).2 hs.2
theorem RoundWt.step {W wr w2 : World} {R gs b0 j c : Nat} {S : Int → Bool} {xs : List Int} {A A' : Option Addr} {c' : Nat} {o : Obj} (hb0 : b0 = W.heap.size) (hj : j ≤ gs) (j1 : 1 ≤ j) (hSj : S j = true) (hrow : Row wr b0 3 1 A xs.length c (ints xs)) (hup : Up xs) (hlo : ∀ x ∈ xs, x < j) (hmem : ∀ x : Int, x < j → (x ∈ xs ↔ 1 ≤ x ∧ S x = true)) (hlen : xs.length < j) (hc : Chg (fun _ => False) W wr)
    (h1 : Row w2 b0 3 1 A' (xs.length + 1) c' (ints (xs ++ [(j : Int)]))) (h2 : (wr.alloc o).grownBy w2 (blk A)) : RoundWt W R gs b0 S (.slice A' (xs.length + 1) c') (.int .i64 ((j : Int) + 1)) w2 := by
  refine ⟨j + 1, xs ++ [(j : Int)], A', c', by omega, by omega, by go_num, by simp, by simpa using h1, hup.snoc hlo, ?_, ?_, by simp; omega, ?_⟩
  · intro x hx
    rcases List.mem_append.1 hx with h | h
    · have := hlo x h; omega
    · have := List.mem_singleton.1 h; omega
  · intro x hx
    rw [List.mem_append, List.mem_singleton]
    by_cases e : x = j
    · subst e
      constructor
      · intro _; exact ⟨by omega, hSj⟩
      · intro _; exact .inr rfl
    · rw [hmem x (by omega)]
      constructor
      · rintro (h | h)
        · exact h
        · exact absurd h e
      · exact .inl
  · exact (hc.alloc o).grown h2 (fun g hg => .inr (by have := (hrow.blk_lt g hg).1; omega))
theorem RoundWt.skip_ {W wr : World} {R gs b0 j c : Nat} {S : Int → Bool} {xs : List Int} {A : Option Addr} (hj : j ≤ gs) (j1 : 1 ≤ j) (hSj : S j = false) (hrow : Row wr b0 3 1 A xs.length c (ints xs)) (hup : Up xs) (hlo : ∀ x ∈ xs, x < j) (hmem : ∀ x : Int, x < j → (x ∈ xs ↔ 1 ≤ x ∧ S x = true)) (hlen : xs.length < j) (hc : Chg (fun _ => False) W wr) : RoundWt W R gs b0 S (.slice A xs.length c) (.int .i64 ((j : Int) + 1)) wr := by
  refine ⟨j + 1, xs, A, c, by omega, by omega, by go_num, rfl, hrow, hup, fun x hx => by have := hlo x hx; omega, ?_, by omega, hc⟩
  intro x hx
  by_cases e : x = j
  · subst e
    constructor
    · intro h; exact absurd (hlo _ h) (by omega)
    · intro h; rw [hSj] at h; exact absurd h.2 (by simp)
  · exact hmem x (by omega)
set_option maxRecDepth 100000 in
set_option maxHeartbeats 16000000 in
theorem walk_suspLogs (a0 : Int) (a1 : Option Addr) (len1 cap1 : Nat) (z1 : Nat → Int) (a2 : Int) (w : World) (w0 : (Lit.int .i64 a0).wf = true) (w1 : Flat w a1 len1 2 z1) (w2 : (Lit.int .i64 a2).wf = true) :
    Calls Try.prog 4 #[.int .i64 a0, .slice a1 len1 cap1, .int .i64 a2] w fun e w' => e = .returned (.bool true) ∧ Below w.heap.size w w' := by
  have HF := Lib.hid w1
  clear w0 w1 w2
  by_cases hlen : 100 < len1
  · have h1 : (100 : Int) < len1 := by omega
    go_enter Try.func4, Try.ntmps4
    go_wp2_with (go_at_call 7; refine (aliv _).mono ?_; rintro e w' ⟨rfl, rfl⟩)
    go_ret
    exact ⟨rfl, Below.refl _ _⟩
  · have hlen2 : ¬ (100 : Int) < len1 := by omega
    by_cases hg : 0 ≤ a0 ∧ a0 ≤ 64
    · obtain ⟨gs, rfl⟩ : ∃ k : Nat, a0 = k := ⟨a0.toNat, by omega⟩
      obtain ⟨g0, g1⟩ := hg
      have HNew := Lib.hid (New_yes gs w (by omega))
      have hmk := fun W => make_brow (gs + 1) (by omega) W
      have e1 : ((gs + 1 : Nat) : Int) = (gs : Int) + 1 := by omega
      rw [e1] at hmk
      clear e1
      go_enter Try.func4, Try.ntmps4
      go_wp2_with (go_at_call 11; refine HNew.out.mono ?_; rintro e u1 ⟨rfl, hl, hb⟩; have HL := Lib.hid hl; have HB := Lib.hid hb; clear hl hb)
      obtain ⟨R, hR⟩ : ∃ R, R = u1.heap.size := ⟨_, rfl⟩
      have hGR : Hid (w.heap.size + 1 < R) := Lib.hid (by have := HL.out.log.lt; omega)
      have H0 : Hid (RoundLg w (w.heap.size + 1) w.heap.size R gs len1 (.int .i64 0) (u1.alloc (.cells (brow (gs + 1) []) 4))) := by
        have h1 := Blk.new u1 4 (brow (gs + 1) [])
        rw [← hR] at h1
        refine ⟨0, 0, fun _ => false, Nat.zero_le _, rfl, HL.out.kept (T := fun _ => False) ((Chg.refl _ _).alloc _) (fun h => h) (fun h => h), ?_, by simp, Nat.le_refl _, HB.out.alloc HB.out.size _⟩
        rw [← brw_none]
        exact h1
      rw [← hR]
      obtain ⟨wz, hwz⟩ : ∃ wz, wz = u1.alloc (.cells (brow (gs + 1) []) 4) := ⟨_, rfl⟩
      rw [← hwz] at H0 ⊢
      clear hwz hmk HL HB hR HNew
      obtain ⟨G, hG⟩ : ∃ G, G = w.heap.size + 1 := ⟨_, rfl⟩
      obtain ⟨B, hB⟩ : ∃ B, B = w.heap.size := ⟨_, rfl⟩
      rw [← hG] at H0 hGR ⊢
      have hBG : Hid (w.heap.size ≤ B ∧ B < G) := Lib.hid (by omega)
      rw [← hB] at H0
      clear hG hB
      go_loopw [9] (fun i wr => RoundLg w G B R gs len1 i wr) (fun i _ => len1 - (intOf i).toNat)
      case atStart => exact H0.out
      case round =>
        clear H0
        obtain ⟨k, n, S, hk, rfl, hL, hI, hS, hn, hb⟩ := hrel
        have k0 : (0 : Int) ≤ k := by omega
        by_cases hlt : k < len1
        · have k1 : (k : Int) < len1 := by omega
          obtain ⟨b, o, rfl, hbl, hcc⟩ := HF.out.two (by omega)
          obtain ⟨_, _, hwf⟩ := hcc k hlt
          have HCC := Lib.hid (fun w5 (h5 : Below w.heap.size w w5) => show w5.cell? ⟨b, o + k * 2, none⟩ = some (.int .i64 (z1 (k * 2))) ∧ w5.cell? ⟨b, o + k * 2 + 1, none⟩ = some (.int .i64 (z1 (k * 2 + 1))) from ⟨((h5.cell (p := ⟨b, _, none⟩) hbl).trans (hcc k hlt).1), ((h5.cell (p := ⟨b, _, none⟩) hbl).trans (hcc k hlt).2.1)⟩)
          clear hcc
          obtain ⟨e0, e1⟩ := HCC.out wr hb
          generalize z1 (k * 2) = kd at *
          generalize z1 (k * 2 + 1) = v at *
          have HW := Lib.hid hwf
          have hn1 : n ≤ 1000 := by omega
          clear hwf
          by_cases hth : 1 ≤ v ∧ v ≤ gs
          · obtain ⟨vn, rfl⟩ : ∃ k : Nat, v = k := ⟨v.toNat, by omega⟩
            obtain ⟨v0, v1⟩ := hth
            have vlt : vn < gs + 1 := by omega
            have HMod : Hid (∀ W, Calls Try.prog 16 #[.int .i64 vn, .int .i64 ((gs : Int) + 1)] W fun e W' => e = .returned (.int .i64 vn) ∧ W = W') := Lib.hid (fun W => by
              have h := rmod_any (vn : Int) ((gs : Int) + 1) W (by omega)
              rw [modOf_pos (by omega), Int.emod_eq_of_lt (by omega) (by omega)] at h
              exact h)
            have HN := Lib.hid (fun w2 w4 n' x (h2 : Chg (fun g => g = B) wr w2) (hn' : n' ≤ n + 1) (hL4 : Lg w4 G B gs n' (upd S vn x)) (h4 : Chg (fun _ => False) (w2.setCell ⟨R, vn, none⟩ (.bool x)) w4) =>
              RoundLg.step (len := len1) hlt hI hS hn hb hBG.out hGR.out v0 v1 h2 hn' hL4 h4)
            have HI2 := Lib.hid (fun w2 (h2 : Chg (fun g => g = B) wr w2) => RoundLg.at_ (v := vn) hI hBG.out hGR.out vlt h2)
            have HI4 := Lib.hid (fun w2 x (h2 : Chg (fun g => g = B) wr w2) => RoundLg.set_ (v := vn) (x := x) hI hBG.out hGR.out vlt h2)
            have HCC2 := Lib.hid (fun w2 (h2 : Chg (fun g => g = B) wr w2) => HCC.out w2 (hb.trans (h2.below hb.size (fun _ _ h => by have := hBG.out.1; omega))))
            have HLk := Lib.hid (fun w2 n' x S' (h2 : Lg w2 G B gs n' S') => h2.kept ((Chg.refl (fun g => g = R) w2).setCell (p := ⟨R, vn, none⟩) (.inl rfl) (.bool x)) (by have := hGR.out; omega) (by have := hGR.out; have := hBG.out; omega))
            by_cases hkd : kd = 0
            · subst hkd
              have hsus := Suspend_any hL (vn : Int) HW.out hn1
              rw [if_pos ⟨v0, v1⟩, show decide (1 ≤ (vn : Int) ∧ (vn : Int) ≤ gs) = true by simp; omega, Bool.true_and] at hsus
              have hsv := HI2.out wr (Chg.refl _ _)
              cases hbv : S vn with
              | true =>
                rw [hbv] at hsus HI2
                have HSus := Lib.hid hsus
                clear hsus hsv hL hI hS hn hb hbv
                go_wp2_with (first
                  | (go_at_call 13; refine HSus.out.mono ?_; rintro e w2 ⟨rfl, n2, hn2, hl2, hc2⟩; obtain ⟨q0, q1⟩ := HCC2.out _ hc2; have s2 := HI2.out _ hc2; have hc2f := (HI4.out _ true hc2).1; have HL3 := Lib.hid (HLk.out _ _ true _ hl2); have HC2 := Lib.hid hc2; have HN2 := Lib.hid hn2; clear hl2 hc2 hn2)
                  | (go_at_call 16; refine (HMod.out _).mono ?_; rintro e w3 ⟨rfl, rfl⟩)
                  | (go_at_call 12; refine (Has_lg (HL3.out) (vn : Int) HW.out).mono ?_; rintro e w4 ⟨he, hl4, hc4⟩; rw [upd_at] at he; subst he; have s4 := (HI4.out _ true HC2.out).2 _ hc4; have HL4 := Lib.hid hl4; have HC4 := Lib.hid hc4; clear hl4 hc4))
                go_roundw
                case measure => simp [intOf]; omega
                case rel => exact HN.out _ _ _ true HC2.out HN2.out HL4.out HC4.out
              | false =>
                rw [hbv] at hsus HI2
                have HSus := Lib.hid hsus
                clear hsus hsv hL hI hS hn hb hbv
                go_wp2_with (first
                  | (go_at_call 13; refine HSus.out.mono ?_; rintro e w2 ⟨rfl, n2, hn2, hl2, hc2⟩; obtain ⟨q0, q1⟩ := HCC2.out _ hc2; have s2 := HI2.out _ hc2; have hc2f := (HI4.out _ true hc2).1; have HL3 := Lib.hid (HLk.out _ _ true _ hl2); have HC2 := Lib.hid hc2; have HN2 := Lib.hid hn2; clear hl2 hc2 hn2)
                  | (go_at_call 16; refine (HMod.out _).mono ?_; rintro e w3 ⟨rfl, rfl⟩)
                  | (go_at_call 12; refine (Has_lg (HL3.out) (vn : Int) HW.out).mono ?_; rintro e w4 ⟨he, hl4, hc4⟩; rw [upd_at] at he; subst he; have s4 := (HI4.out _ true HC2.out).2 _ hc4; have HL4 := Lib.hid hl4; have HC4 := Lib.hid hc4; clear hl4 hc4))
                go_roundw
                case measure => simp [intOf]; omega
                case rel => exact HN.out _ _ _ true HC2.out HN2.out HL4.out HC4.out
            · have hres := Resume_any hL (vn : Int) HW.out
              cases hbv : S vn with
              | true =>
                rw [hbv] at hres HI2
                have HRes := Lib.hid hres
                clear hres hL hI hS hn hb hbv
                go_wp2_with (first
                  | (go_at_call 14; refine HRes.out.mono ?_; rintro e w2 ⟨rfl, hl2, hc2⟩; obtain ⟨q0, q1⟩ := HCC2.out _ hc2; have s2 := HI2.out _ hc2; have hc2f := (HI4.out _ false hc2).1; have HL3 := Lib.hid (HLk.out _ _ false _ hl2); have HC2 := Lib.hid hc2; clear hl2 hc2)
                  | (go_at_call 16; refine (HMod.out _).mono ?_; rintro e w3 ⟨rfl, rfl⟩)
                  | (go_at_call 12; refine (Has_lg (HL3.out) (vn : Int) HW.out).mono ?_; rintro e w4 ⟨he, hl4, hc4⟩; rw [upd_at] at he; subst he; have s4 := (HI4.out _ false HC2.out).2 _ hc4; have HL4 := Lib.hid hl4; have HC4 := Lib.hid hc4; clear hl4 hc4))
                go_roundw
                case measure => simp [intOf]; omega
                case rel => exact HN.out _ _ _ false HC2.out (Nat.le_succ _) HL4.out HC4.out
              | false =>
                rw [hbv] at hres HI2
                have HRes := Lib.hid hres
                clear hres hL hI hS hn hb hbv
                go_wp2_with (first
                  | (go_at_call 14; refine HRes.out.mono ?_; rintro e w2 ⟨rfl, hl2, hc2⟩; obtain ⟨q0, q1⟩ := HCC2.out _ hc2; have s2 := HI2.out _ hc2; have hc2f := (HI4.out _ false hc2).1; have HL3 := Lib.hid (HLk.out _ _ false _ hl2); have HC2 := Lib.hid hc2; clear hl2 hc2)
                  | (go_at_call 16; refine (HMod.out _).mono ?_; rintro e w3 ⟨rfl, rfl⟩)
                  | (go_at_call 12; refine (Has_lg (HL3.out) (vn : Int) HW.out).mono ?_; rintro e w4 ⟨he, hl4, hc4⟩; rw [upd_at] at he; subst he; have s4 := (HI4.out _ false HC2.out).2 _ hc4; have HL4 := Lib.hid hl4; have HC4 := Lib.hid hc4; clear hl4 hc4))
                go_roundw
                case measure => simp [intOf]; omega
                case rel => exact HN.out _ _ _ false HC2.out (Nat.le_succ _) HL4.out HC4.out
          · have hsv : S v = false := by
              cases h : S v with
              | true => exact absurd (hS v h) hth
              | false => rfl
            have HN := Lib.hid (fun w2 w4 n' (h2 : Chg (fun g => g = B) wr w2) (hn' : n' ≤ n + 1) (hL4 : Lg w4 G B gs n' S) (h4 : Chg (fun _ => False) w2 w4) => RoundLg.step0 (len := len1) hlt hI hS hn hb hBG.out hGR.out h2 hn' hL4 h4)
            have HBx := Lib.hid (fun w2 (h2 : Chg (fun g => g = B) wr w2) => hb.trans (h2.below hb.size (fun _ _ h => by have := hBG.out.1; omega)))
            by_cases hkd : kd = 0
            · subst hkd
              have hsus := Suspend_any hL v HW.out hn1
              rw [if_neg hth, show decide (1 ≤ v ∧ v ≤ (gs : Int)) = false by simpa using hth, Bool.false_and] at hsus
              have HSus := Lib.hid hsus
              have HV := Lib.hid hsv
              clear hsus hsv hL hI hS hn hb
              by_cases hv1 : v < 1
              · clear hth
                go_wp2_with (first
                  | (go_at_call 13; refine HSus.out.mono ?_; rintro e w2 ⟨rfl, n2, hn2, hl2, hc2⟩; obtain ⟨q0, q1⟩ := HCC.out w2 (HBx.out w2 hc2); have HL3 := Lib.hid hl2; have HC2 := Lib.hid hc2; have HN2 := Lib.hid hn2; clear hl2 hc2 hn2)
                  | (go_at_call 12; refine (Has_lg HL3.out v HW.out).mono ?_; rintro e w4 ⟨he, hl4, hc4⟩; rw [HV.out] at he; subst he; have HL4 := Lib.hid hl4; have HC4 := Lib.hid hc4; clear hl4 hc4))
                go_roundw
                case measure => simp [intOf]; omega
                case rel => exact HN.out _ _ _ HC2.out HN2.out HL4.out HC4.out
              · have hv2 : (gs : Int) < v := by omega
                clear hth
                go_wp2_with (first
                  | (go_at_call 13; refine HSus.out.mono ?_; rintro e w2 ⟨rfl, n2, hn2, hl2, hc2⟩; obtain ⟨q0, q1⟩ := HCC.out w2 (HBx.out w2 hc2); have HL3 := Lib.hid hl2; have HC2 := Lib.hid hc2; have HN2 := Lib.hid hn2; clear hl2 hc2 hn2)
                  | (go_at_call 12; refine (Has_lg HL3.out v HW.out).mono ?_; rintro e w4 ⟨he, hl4, hc4⟩; rw [HV.out] at he; subst he; have HL4 := Lib.hid hl4; have HC4 := Lib.hid hc4; clear hl4 hc4))
                go_roundw
                case measure => simp [intOf]; omega
                case rel => exact HN.out _ _ _ HC2.out HN2.out HL4.out HC4.out
            · have hres := Resume_any hL v HW.out
              rw [upd_same hsv, hsv] at hres
              have HRes := Lib.hid hres
              have HV := Lib.hid hsv
              clear hres hsv hL hI hS hn hb
              by_cases hv1 : v < 1
              · clear hth
                go_wp2_with (first
                  | (go_at_call 14; refine HRes.out.mono ?_; rintro e w2 ⟨rfl, hl2, hc2⟩; obtain ⟨q0, q1⟩ := HCC.out w2 (HBx.out w2 hc2); have HL3 := Lib.hid hl2; have HC2 := Lib.hid hc2; clear hl2 hc2)
                  | (go_at_call 12; refine (Has_lg HL3.out v HW.out).mono ?_; rintro e w4 ⟨he, hl4, hc4⟩; rw [HV.out] at he; subst he; have HL4 := Lib.hid hl4; have HC4 := Lib.hid hc4; clear hl4 hc4))
                go_roundw
                case measure => simp [intOf]; omega
                case rel => exact HN.out _ _ _ HC2.out (Nat.le_succ _) HL4.out HC4.out
              · have hv2 : (gs : Int) < v := by omega
                clear hth
                go_wp2_with (first
                  | (go_at_call 14; refine HRes.out.mono ?_; rintro e w2 ⟨rfl, hl2, hc2⟩; obtain ⟨q0, q1⟩ := HCC.out w2 (HBx.out w2 hc2); have HL3 := Lib.hid hl2; have HC2 := Lib.hid hc2; clear hl2 hc2)
                  | (go_at_call 12; refine (Has_lg HL3.out v HW.out).mono ?_; rintro e w4 ⟨he, hl4, hc4⟩; rw [HV.out] at he; subst he; have HL4 := Lib.hid hl4; have HC4 := Lib.hid hc4; clear hl4 hc4))
                go_roundw
                case measure => simp [intOf]; omega
                case rel => exact HN.out _ _ _ HC2.out (Nat.le_succ _) HL4.out HC4.out
        · have hn1 : n ≤ 1000 := by omega
          have HL := Lib.hid hL
          have HI := Lib.hid hI
          have HS := Lib.hid hS
          have HB := Lib.hid hb
          have hk3 : ¬ (k : Int) < len1 := by omega
          clear hL hI hS hb hn hlt hk k0
          obtain ⟨b0, hb0⟩ : ∃ b0, b0 = wr.heap.size := ⟨_, rfl⟩
          have HB0 := Lib.hid hb0
          go_wp2_with fail
          go_loopw [12, 13] (fun wt i w2 => RoundWt wr R gs b0 S wt i w2) (fun _ i _ => gs + 1 - (intOf i).toNat)
          case atStart => exact ⟨1, [], none, 0, Nat.le_refl _, by omega, rfl, rfl, Row.nil _ _ _ _, Up.nil, by simp, fun x hx => by simp; intro h; omega, by simp, Chg.refl _ _⟩
          case round =>
            obtain ⟨j, xs, A, c, j1, j2, rfl, rfl, hrow, hup, hlo, hmem, hlen, hc⟩ := hrel
            have j0 : (0 : Int) ≤ j := by omega
            by_cases hj : j ≤ gs
            · have j3 : (j : Int) ≤ gs := by omega
              have hs0 := (HI.out.kept hc (fun h => h)).cell j
              rw [brw_at _ _ _ (by omega)] at hs0
              have hRl := (HI.out.kept hc (fun h => h)).lt
              cases hSj : S j with
              | true =>
                rw [hSj] at hs0
                have HRow := Lib.hid hrow
                have HKs := Lib.hid (show xs.length + 1 ≤ 1048576 by omega)
                have HBs1 := Lib.hid (fun o => show b0 ≤ (wr.alloc o).heap.size by have := hc.size; have := HB0.out; rw [heap_size_alloc_]; omega)
                have HN := Lib.hid (fun w2 A' c' o h1 h2 => RoundWt.step (R := R) (A' := A') (c' := c') (w2 := w2) (o := o) HB0.out hj j1 hSj hrow hup hlo hmem hlen hc h1 h2)
                clear hrow hup hlo hmem hlen hc hSj
                go_wp2_with (at_builtin; refine wpList_app rfl (.tmp 144) (.tmp 146) rfl b0 A xs.length c xs ?_ ?_ (some ⟨wr.heap.size, 0, none⟩) 1 1 [(j : Int)] ?_ ?_ ?_ ?_ ?_; (next => rfl); (next => exact HRow.out.alloc _); (next => rfl); (next => exact Rd.lit _ _ _); (next => exact HKs.out); (next => exact HBs1.out _); intro A2 c2 w2 h1 h2 h3)
                go_roundw
                case measure => simp [intOf]; omega
                case rel => exact HN.out _ _ _ _ h1 h2
              | false =>
                rw [hSj] at hs0
                have HN := Lib.hid (RoundWt.skip_ (R := R) hj j1 hSj hrow hup hlo hmem hlen hc)
                clear hrow hup hlo hmem hlen hc hSj
                go_wp2_with fail
                go_roundw
                case measure => simp [intOf]; omega
                case rel => exact HN.out
            · obtain rfl : j = gs + 1 := by omega
              have hj4 : ¬ (((gs + 1 : Nat) : Int) ≤ gs) := by omega
              have HR := Lib.hid hrow.rd
              have HX := Lib.hid (fun ys (h1 : Up ys) (h2 : ∀ x : Int, (Lit.int .i64 x).wf = true → (x ∈ ys ↔ S x = true)) (h3 : ∀ x ∈ ys, (Lit.int .i64 x).wf = true) => want_eq HS.out g1 hup hlo hmem h1 h2 h3)
              have HLen := Lib.hid (show xs.length ≤ 100 by omega)
              have HAll := Lib.hid (All_any (HL.out.kept hc (fun h => h) (fun h => h)) hn1)
              have HB2 := Lib.hid (HB.out.trans (hc.below HB.out.size (fun _ _ h => h.elim)))
              clear hrow hup hlo hmem hlen hc
              go_wp2_with (first
                | (go_at_call 15; refine HAll.out.mono ?_; rintro e w5 ⟨ys, A5, c5, rfl, hr5, hu5, hm5, hw5, hl5, hb5⟩; obtain rfl := HX.out ys hu5 hm5 hw5; have HR5 := Lib.hid hr5; have HRx := Lib.hid (HR.out.below hb5 (Nat.le_refl _)); have HB5 := Lib.hid (HB2.out.trans (hb5.mono HB2.out.size)); clear hr5 hu5 hm5 hw5 hb5)
                | (go_at_call 17; refine (same_yes _ _ _ _ _ _ _ _ HR5.out HRx.out (by have := HLen.out; omega)).mono ?_; rintro e w6 ⟨rfl, q6, rfl⟩)
                | (go_at_call 7; refine (aliv _).mono ?_; rintro e w7 ⟨rfl, rfl⟩))
              go_ret
              exact ⟨rfl, belowN HB5.out q6⟩
    · have hcases : a0 < 0 ∨ 64 < a0 := by omega
      have HNo := Lib.hid (New_no a0 w hcases)
      clear hcases
      by_cases h0 : a0 < 0
      · clear hg
        go_enter Try.func4, Try.ntmps4
        go_wp2_with (first
          | (go_at_call 11; refine HNo.out.mono ?_; rintro e u1 ⟨rfl, rfl⟩)
          | (go_at_call 12; refine (Has_nil _ _).mono ?_; rintro e u1 ⟨rfl, rfl⟩)
          | (go_at_call 13; refine (Suspend_nil _ _).mono ?_; rintro e u1 ⟨rfl, rfl⟩)
          | (go_at_call 14; refine (Resume_nil _ _).mono ?_; rintro e u1 ⟨rfl, rfl⟩)
          | (go_at_call 15; refine (All_nil _).mono ?_; rintro e u1 ⟨rfl, rfl⟩)
          | (go_at_call 7; refine (aliv _).mono ?_; rintro e w' ⟨rfl, rfl⟩))
        go_ret
        exact ⟨rfl, Below.refl _ _⟩
      · have h1 : 64 < a0 := by omega
        clear hg
        go_enter Try.func4, Try.ntmps4
        go_wp2_with (first
          | (go_at_call 11; refine HNo.out.mono ?_; rintro e u1 ⟨rfl, rfl⟩)
          | (go_at_call 12; refine (Has_nil _ _).mono ?_; rintro e u1 ⟨rfl, rfl⟩)
          | (go_at_call 13; refine (Suspend_nil _ _).mono ?_; rintro e u1 ⟨rfl, rfl⟩)
          | (go_at_call 14; refine (Resume_nil _ _).mono ?_; rintro e u1 ⟨rfl, rfl⟩)
          | (go_at_call 15; refine (All_nil _).mono ?_; rintro e u1 ⟨rfl, rfl⟩)
          | (go_at_call 7; refine (aliv _).mono ?_; rintro e w' ⟨rfl, rfl⟩))
        go_ret
        exact ⟨rfl, Below.refl _ _⟩
end Go.Proofs.Ytffhoddpmmlhkaa
