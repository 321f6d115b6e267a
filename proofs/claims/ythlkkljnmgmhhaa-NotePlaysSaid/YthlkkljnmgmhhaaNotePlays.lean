/- The walk of the law NotePlays (P301 to P304). -/
import Derived.Test.YthlkkljnmgmhhaaNoteOnce
import Derived.Test.YthlkkljnmgmhhaaNoteDo
import Derived.Deep.RegionHeld3
import Derived.Deep.QuietTactic
import Derived.BigQuiet
namespace Go.Proofs.Ythlkkljnmgmhhaa
open Go.ChangeShapes Go.WideShapes Go.ChangeAt Go.RowKit

theorem bcell {W w1 : World} (hb : Below W.heap.size W w1) : (∀ b o, b < W.heap.size → w1.cell? ⟨b, o, none⟩ = W.cell? ⟨b, o, none⟩) ∧ (∀ b o, b < W.heap.size → w1.frozen? ⟨b, o, none⟩ = W.frozen? ⟨b, o, none⟩) :=
  ⟨fun b o h => hb.cell (p := ⟨b, o, none⟩) h, fun b o h => hb.frozen (p := ⟨b, o, none⟩) h⟩

/-- The note in block B, the answer's note in block B + 1. -/
def RelP (w wr : World) (s who : Int) (set : Bool) (rw : Int) : Prop :=
  wr.cell? ⟨w.heap.size, 0, none⟩ = some (.int .i64 s) ∧ wr.cell? ⟨w.heap.size, 1, none⟩ = some (.int .i64 who) ∧ wr.cell? ⟨w.heap.size + 1, 0, none⟩ = some (.bool set) ∧ wr.cell? ⟨w.heap.size + 1, 1, none⟩ = some (.int .i64 rw) ∧
  wr.frozen? ⟨w.heap.size, 0, none⟩ = false ∧ wr.frozen? ⟨w.heap.size, 1, none⟩ = false ∧ wr.frozen? ⟨w.heap.size + 1, 0, none⟩ = false ∧ wr.frozen? ⟨w.heap.size + 1, 1, none⟩ = false ∧ w.heap.size + 1 < wr.heap.size ∧ Below w.heap.size w wr

def okP (s who rw : Int) (set : Bool) : Prop := (s = 0 ∧ set = false ∧ rw = 0) ∨ (s = 1 ∧ set = true ∧ rw = 0) ∨ (s = 2 ∧ set = false ∧ rw = who + 1 ∧ 0 ≤ who ∧ who ≤ 1099511627776)
def RoundP (w : World) (len : Nat) (i : Value) (wr : World) : Prop :=
  ∃ (k : Nat) (s who : Int) (set : Bool) (rw : Int), k ≤ len ∧ i = .int .i64 k ∧ okP s who rw set ∧ RelP w wr s who set rw

theorem RelP.below {w wr w2 : World} {s who rw : Int} {set : Bool} (h : RelP w wr s who set rw) (hb2 : Below wr.heap.size wr w2) : RelP w w2 s who set rw := by
  obtain ⟨c0, c1, c2, c3, f0, f1, f2, f3, hz, hb⟩ := h
  have hz0 : w.heap.size < wr.heap.size := by omega
  exact ⟨(hb2.cell hz0).trans c0, (hb2.cell hz0).trans c1, (hb2.cell hz).trans c2, (hb2.cell hz).trans c3, (hb2.frozen hz0).trans f0, (hb2.frozen hz0).trans f1, (hb2.frozen hz).trans f2, (hb2.frozen hz).trans f3, Nat.lt_of_lt_of_le hz hb2.size, hb.trans (hb2.mono (by omega))⟩
theorem RelP.alloc {w wr : World} {s who rw : Int} {set : Bool} (h : RelP w wr s who set rw) (o : Obj) : RelP w (wr.alloc o) s who set rw := h.below ((Below.refl _ _).alloc (Nat.le_refl _) o)
theorem RelP.drew {w wr : World} {s who rw : Int} {set : Bool} (h : RelP w wr s who set rw) : RelP w wr.drew s who set rw := h.below (Below.refl _ _).drew
theorem RelP.far {w wr : World} {s who rw : Int} {set : Bool} (h : RelP w wr s who set rw) {p : Addr} (hp : w.heap.size + 1 < p.block) (u : Value) : RelP w (wr.setCell p u) s who set rw := by
  obtain ⟨c0, c1, c2, c3, f0, f1, f2, f3, hz, hb⟩ := h
  refine ⟨?_, ?_, ?_, ?_, by rw [World.frozen?_setCell]; exact f0, by rw [World.frozen?_setCell]; exact f1, by rw [World.frozen?_setCell]; exact f2, by rw [World.frozen?_setCell]; exact f3, by simpa [World.setCell] using hz, hb.setCell (by omega) _⟩
  all_goals rw [World.cell?_setCell_other _ _ _ _ (by intro e; subst e; simp at hp <;> omega)]; assumption
theorem RelP.set0 {w wr : World} {s who rw : Int} {set : Bool} (h : RelP w wr s who set rw) (n : Int) : RelP w (wr.setCell ⟨w.heap.size, 0, none⟩ (.int .i64 n)) n who set rw := by
  obtain ⟨c0, c1, c2, c3, f0, f1, f2, f3, hz, hb⟩ := h
  refine ⟨World.cell?_setCell_same' _ _ _ (by rw [c0]; rfl), ?_, ?_, ?_, by rw [World.frozen?_setCell]; exact f0, by rw [World.frozen?_setCell]; exact f1, by rw [World.frozen?_setCell]; exact f2, by rw [World.frozen?_setCell]; exact f3, by simpa [World.setCell] using hz, hb.setCell (by simp) _⟩
  all_goals rw [World.cell?_setCell_other _ _ _ _ (by simp)]; assumption
theorem RelP.set1 {w wr : World} {s who rw : Int} {set : Bool} (h : RelP w wr s who set rw) (n : Int) : RelP w (wr.setCell ⟨w.heap.size, 1, none⟩ (.int .i64 n)) s n set rw := by
  obtain ⟨c0, c1, c2, c3, f0, f1, f2, f3, hz, hb⟩ := h
  refine ⟨?_, World.cell?_setCell_same' _ _ _ (by rw [c1]; rfl), ?_, ?_, by rw [World.frozen?_setCell]; exact f0, by rw [World.frozen?_setCell]; exact f1, by rw [World.frozen?_setCell]; exact f2, by rw [World.frozen?_setCell]; exact f3, by simpa [World.setCell] using hz, hb.setCell (by simp) _⟩
  all_goals rw [World.cell?_setCell_other _ _ _ _ (by simp)]; assumption
theorem RelP.set2 {w wr : World} {s who rw : Int} {set : Bool} (h : RelP w wr s who set rw) (n : Bool) : RelP w (wr.setCell ⟨w.heap.size + 1, 0, none⟩ (.bool n)) s who n rw := by
  obtain ⟨c0, c1, c2, c3, f0, f1, f2, f3, hz, hb⟩ := h
  refine ⟨?_, ?_, World.cell?_setCell_same' _ _ _ (by rw [c2]; rfl), ?_, by rw [World.frozen?_setCell]; exact f0, by rw [World.frozen?_setCell]; exact f1, by rw [World.frozen?_setCell]; exact f2, by rw [World.frozen?_setCell]; exact f3, by simpa [World.setCell] using hz, hb.setCell (by simp) _⟩
  all_goals rw [World.cell?_setCell_other _ _ _ _ (by simp)]; assumption
theorem RelP.set3 {w wr : World} {s who rw : Int} {set : Bool} (h : RelP w wr s who set rw) (n : Int) : RelP w (wr.setCell ⟨w.heap.size + 1, 1, none⟩ (.int .i64 n)) s who set n := by
  obtain ⟨c0, c1, c2, c3, f0, f1, f2, f3, hz, hb⟩ := h
  refine ⟨?_, ?_, ?_, World.cell?_setCell_same' _ _ _ (by rw [c3]; rfl), by rw [World.frozen?_setCell]; exact f0, by rw [World.frozen?_setCell]; exact f1, by rw [World.frozen?_setCell]; exact f2, by rw [World.frozen?_setCell]; exact f3, by simpa [World.setCell] using hz, hb.setCell (by simp) _⟩
  all_goals rw [World.cell?_setCell_other _ _ _ _ (by simp)]; assumption

theorem keep4 {a b c d : Prop} (h1 : a) (h2 : b) (h3 : c) (h4 : d) : a ∧ b ∧ c ∧ d := ⟨h1, h2, h3, h4⟩
/-- Behind the answer's call: all that the round knew. -/
def After (w wr w2 : World) (s who rw : Int) (set : Bool) (b o : Nat) (kd x : Int) : Prop :=
  RelP w w2 s who set rw ∧ w2.cell? ⟨b, o, none⟩ = some (.int .i64 kd) ∧ w2.cell? ⟨b, o + 1, none⟩ = some (.int .i64 x) ∧ wr.heap.size ≤ w2.heap.size
theorem after {w wr w2 : World} {s who rw kd x : Int} {set : Bool} {b o : Nat} (h : RelP w wr s who set rw) (hb : b < w.heap.size) (e0 : wr.cell? ⟨b, o, none⟩ = some (.int .i64 kd)) (e1 : wr.cell? ⟨b, o + 1, none⟩ = some (.int .i64 x))
    (h2 : Below wr.heap.size wr w2) : After w wr w2 s who rw set b o kd x := by
  have hz := h.2.2.2.2.2.2.2.2.1
  exact ⟨h.below h2, (h2.cell (p := ⟨b, o, none⟩) (by omega : b < _)).trans e0, (h2.cell (p := ⟨b, o + 1, none⟩) (by omega : b < _)).trans e1, h2.size⟩
/-- .. where the next note's block was made first. -/
def AfterB (w wr w2 : World) (s who rw : Int) (set : Bool) (b o : Nat) (kd x : Int) (v0 v1 : Value) : Prop :=
  After w wr w2 s who rw set b o kd x ∧ wr.heap.size < w2.heap.size ∧ w2.cell? ⟨wr.heap.size, 0, none⟩ = some v0 ∧ w2.cell? ⟨wr.heap.size, 1, none⟩ = some v1 ∧ w2.frozen? ⟨wr.heap.size, 0, none⟩ = false ∧ w2.frozen? ⟨wr.heap.size, 1, none⟩ = false
theorem after_alloc {w wr w2 : World} {s who rw kd x : Int} {set : Bool} {b o : Nat} {v0 v1 : Value} {t : TypeId} (h : RelP w wr s who set rw) (hb : b < w.heap.size) (e0 : wr.cell? ⟨b, o, none⟩ = some (.int .i64 kd)) (e1 : wr.cell? ⟨b, o + 1, none⟩ = some (.int .i64 x))
    (h2 : Below (wr.alloc (.cells #[v0, v1] t)).heap.size (wr.alloc (.cells #[v0, v1] t)) w2) : AfterB w wr w2 s who rw set b o kd x v0 v1 := by
  have hs : (wr.alloc (.cells #[v0, v1] t)).heap.size = wr.heap.size + 1 := by simp
  have h3 : Below wr.heap.size wr w2 := ((Below.refl wr.heap.size wr).alloc (Nat.le_refl _) _).trans (h2.mono (by omega))
  have hl : wr.heap.size < (wr.alloc (.cells #[v0, v1] t)).heap.size := by omega
  refine ⟨after h hb e0 e1 h3, by have := h2.size; omega, (h2.cell (p := ⟨wr.heap.size, 0, none⟩) hl).trans (by simp [go_sem]), (h2.cell (p := ⟨wr.heap.size, 1, none⟩) hl).trans (by simp [go_sem]), (h2.frozen (p := ⟨wr.heap.size, 0, none⟩) hl).trans (by simp [go_sem]), (h2.frozen (p := ⟨wr.heap.size, 1, none⟩) hl).trans (by simp [go_sem])⟩

theorem set_0 (B : Nat) (W : World) (hc : W.cell? ⟨B, 0, none⟩ = some (.int .i64 0)) : Calls Try.prog 11 #[.pointer (some ⟨B, 0, none⟩)] W fun e w' => e = .returned (.bool false) ∧ w' = W := by
  go_enter Try.func11, Try.ntmps11
  go_wp2
  go_ret
  exact ⟨rfl, rfl⟩
theorem set_1 (B : Nat) (W : World) (hc : W.cell? ⟨B, 0, none⟩ = some (.int .i64 1)) : Calls Try.prog 11 #[.pointer (some ⟨B, 0, none⟩)] W fun e w' => e = .returned (.bool true) ∧ w' = W := by
  go_enter Try.func11, Try.ntmps11
  go_wp2
  go_ret
  exact ⟨rfl, rfl⟩
theorem set_2 (B : Nat) (W : World) (hc : W.cell? ⟨B, 0, none⟩ = some (.int .i64 2)) : Calls Try.prog 11 #[.pointer (some ⟨B, 0, none⟩)] W fun e w' => e = .returned (.bool false) ∧ w' = W := by
  go_enter Try.func11, Try.ntmps11
  go_wp2
  go_ret
  exact ⟨rfl, rfl⟩
theorem RelP.drewN {w wr : World} {s who rw : Int} {set : Bool} (h : RelP w wr s who set rw) (n : Nat) : RelP w (wr.drewN n) s who set rw := h.below ⟨rfl, rfl, rfl, Nat.le_refl _, fun _ _ => rfl⟩
theorem RelP.farR {w wr : World} {s who rw : Int} {set : Bool} {g : Nat} (h : RelP w wr s who set rw) (hp : w.heap.size + 1 < g) (i : Nat) (u : Value) : RelP w (wr.setCell ⟨g, i, none⟩ u) s who set rw := h.far hp u
theorem RelP.c0 {w wr : World} {s who rw : Int} {set : Bool} (h : RelP w wr s who set rw) : wr.cell? ⟨w.heap.size, 0, none⟩ = some (.int .i64 s) := h.1
theorem new_any (W : World) : Calls Try.prog 7 #[] W fun e w' => e = .returned (.pointer (some ⟨W.heap.size, 0, none⟩)) ∧ w' = W.alloc (.cells #[.int .i64 0, .int .i64 0] 44) := by
  go_enter Try.func7, Try.ntmps7
  go_wp2
  go_ret
  exact ⟨rfl, rfl⟩
theorem RoundP.step {w wr : World} {len k : Nat} {s who rw : Int} {set : Bool} (hk : k < len) (ho : okP s who rw set) (h : RelP w wr s who set rw) : RoundP w len (.int .i64 ((k : Int) + 1)) wr :=
  ⟨k + 1, s, who, set, rw, by omega, by go_num, ho, h⟩
set_option maxRecDepth 100000 in
set_option maxHeartbeats 40000000 in
theorem walk_notePlays (A : Option Addr) (len cap : Nat) (z : Nat → Int) (w : World) (hF : Flat w A len 2 z) :
    Calls Try.prog 3 #[.slice A len cap] w fun e w' => e = .returned (.bool true) ∧ Below w.heap.size w w' := by
  have hm := hF.1
  unfold maxLen at hm
  by_cases h100 : 100 < len
  · go_enter Try.func3, Try.ntmps3
    go_wp2_with (go_at_call 6; refine (alive_any _).mono ?_; rintro e w' ⟨rfl, hb⟩)
    go_ret
    exact ⟨rfl, hb⟩
  · go_enter Try.func3, Try.ntmps3
    go_wp2_with (go_at_call 7; refine (new_any _).mono ?_; rintro e w' ⟨rfl, rfl⟩)
    go_loopw [5] (fun i wr => RoundP w len i wr) (fun i _ => len - (intOf i).toNat)
    case atStart => exact ⟨0, 0, 0, false, 0, Nat.zero_le _, rfl, .inl ⟨rfl, rfl, rfl⟩, by simp [go_sem], by simp [go_sem], by simp [go_sem], by simp [go_sem], by simp [go_sem], by simp [go_sem], by simp [go_sem], by simp [go_sem], by simp, ((Below.refl _ _).alloc (Nat.le_refl _) _).alloc (by simp) _⟩
    case round =>
      obtain ⟨k, s, who, set, rw', hk, rfl, hs, hr⟩ := hrel
      have hr' := hr
      obtain ⟨c0, c1, c2, c3, f0, f1, f2, f3, hz, hb⟩ := hr'
      by_cases hlt : k < len
      · obtain ⟨b, o, rfl, hbl, hc⟩ := hF.2 (by omega)
        have e0 : wr.cell? ⟨b, o + k * 2, none⟩ = some (.int .i64 (z (k * 2))) := (hb.cell (p := ⟨b, o + k * 2, none⟩) hbl).trans (hc (k * 2) (by omega)).1
        have e1 : wr.cell? ⟨b, o + k * 2 + 1, none⟩ = some (.int .i64 (z (k * 2 + 1))) := (hb.cell (p := ⟨b, o + k * 2 + 1, none⟩) hbl).trans (hc (k * 2 + 1) (by omega)).1
        have hne : b ≠ w.heap.size := by omega
        have hbw : b < wr.heap.size := by omega
        have hbn : b ≠ wr.heap.size := by omega
        generalize z (k * 2) = kd at e0
        generalize z (k * 2 + 1) = x at e1
        clear hF hc
        have hkd := ways who kd x
        rcases hs with ⟨rfl, rfl, rfl⟩ | ⟨rfl, rfl, rfl⟩ | ⟨rfl, rfl, rfl, hw0, hw1⟩
        all_goals rcases hkd with rfl | ⟨rfl, hx⟩ | ⟨rfl, hx, hx2⟩ | ⟨rfl, hx, hx2, hw⟩ | ⟨rfl, hx, hx2, rfl⟩ | ⟨hk0, hk1⟩
        · have hlk : (0 : Int) ≤ (k : Int) := by omega
          have hlk2 : (k : Int) < (len : Int) := by omega
          have hz2 : w.heap.size < wr.heap.size := by omega
          have hn1 : w.heap.size ≠ wr.heap.size := by omega
          have hn2 : w.heap.size + 1 ≠ wr.heap.size := by omega
          try (have hd1 : decide (0 < who + 1) = true := decide_eq_true (by omega))
          try (have hd2 : decide (0 < x + 1) = true := decide_eq_true (by omega))
          go_wp2
          go_region_held3 (fun w' => w'.cell? ⟨w.heap.size + 1, 0, none⟩ = some (.bool false) ∧ w'.cell? ⟨w.heap.size + 1, 1, none⟩ = some (.int .i64 0) ∧ w'.cell? ⟨b, o + k * 2, none⟩ = some (.int .i64 0) ∧ w'.cell? ⟨b, o + k * 2 + 1, none⟩ = some (.int .i64 x)) (first | (refine keep4 ?_ ?_ ?_ ?_ <;> first | assumption | (rw [World.cell?_setCell_other, World.cell?_setCell_other]; assumption; (intro e; injection e; omega); (intro e; injection e; omega)) | go_keep) | go_keep)
            ((go_at_call 8; ((with_reducible refine (do_clearOk _ _ _).mono ?_)); rintro e w2 ⟨rfl, hb2⟩
              have hB : Below wr.heap.size wr w2 := (by
                refine Below.trans ?_ (hb2.mono ?_)
                · repeat (first | exact Below.refl _ _ | refine Below.drew ?_ | refine Below.alloc ?_ (Nat.le_refl _) _)
                · simp)
              have hA := after hr hbl e0 e1 hB
              obtain ⟨hr2, d0, d1, hs2⟩ := hA
              have hr2' := hr2
              obtain ⟨q0, q1, q2, q3, g0, g1, g2, g3, hz', hb'⟩ := hr2'
              have y0 := hb2.size
              (try simp at y0)
              have y1 : w.heap.size < w2.heap.size := (by omega)
              have y2 : w.heap.size ≠ w2.heap.size := (by omega)
              have y3 : w.heap.size + 1 ≠ w2.heap.size := (by omega)
              have y4 : b < w2.heap.size := (by omega)
              have y5 : b ≠ w2.heap.size := (by omega)
              have y6 : w.heap.size < w2.heap.size + 1 := (by omega)
              have y7 : w.heap.size + 1 < w2.heap.size + 1 := (by omega)
              have y8 : b < w2.heap.size + 1 := (by omega)
              have y9 : w.heap.size ≠ w2.heap.size + 1 := (by omega)
              have y10 : w.heap.size + 1 ≠ w2.heap.size + 1 := (by omega)
              have y11 : b ≠ w2.heap.size + 1 := (by omega)
              have t0 := (bcell hb2).1 wr.heap.size 0
              have t1 := (bcell hb2).1 wr.heap.size 1
              have t2 := (bcell hb2).2 wr.heap.size 0
              have t3 := (bcell hb2).2 wr.heap.size 1
              (try simp [go_sem] at t0)
              (try simp [go_sem] at t1)
              (try simp [go_sem] at t2)
              (try simp [go_sem] at t3)))
          all_goals try (have y12 : wr.heap.size < w2.heap.size := by omega)
          all_goals try (have y13 : wr.heap.size ≠ w2.heap.size := by omega)
          all_goals try (have y14 : wr.heap.size < w2.heap.size + 1 := by omega)
          all_goals try (have y15 : wr.heap.size ≠ w.heap.size := by omega)
          all_goals try (have y16 : wr.heap.size ≠ w.heap.size + 1 := by omega)
          all_goals go_wp2
          all_goals go_quiet ((first | (go_at_call 11; refine Calls.quiet_of_same (set_0 _ _ ?_); apply RelP.c0; (repeat (with_reducible (first | exact hr2 | apply RelP.alloc | apply RelP.drewN | apply RelP.drew | apply RelP.set0 | apply RelP.set1 | apply RelP.set2 | apply RelP.set3 | apply RelP.farR (hp := hz)))); done) | (go_at_call 11; refine Calls.quiet_of_same (set_1 _ _ ?_); apply RelP.c0; (repeat (with_reducible (first | exact hr2 | apply RelP.alloc | apply RelP.drewN | apply RelP.drew | apply RelP.set0 | apply RelP.set1 | apply RelP.set2 | apply RelP.set3 | apply RelP.farR (hp := hz)))); done) | (go_at_call 11; refine Calls.quiet_of_same (set_2 _ _ ?_); apply RelP.c0; (repeat (with_reducible (first | exact hr2 | apply RelP.alloc | apply RelP.drewN | apply RelP.drew | apply RelP.set0 | apply RelP.set1 | apply RelP.set2 | apply RelP.set3 | apply RelP.farR (hp := hz)))); done)))
          all_goals go_wp2
          all_goals go_roundw
          all_goals try (case measure => simp [intOf]; omega)
          all_goals
            apply RoundP.step hlt
            case h => (repeat (with_reducible (first | exact hr2 | apply RelP.alloc | apply RelP.drewN | apply RelP.drew | apply RelP.set0 | apply RelP.set1 | apply RelP.set2 | apply RelP.set3 | apply RelP.farR (hp := hz))))
            case ho => first | exact .inl ⟨rfl, rfl, rfl⟩ | exact .inr (.inl ⟨rfl, rfl, rfl⟩) | exact .inr (.inr ⟨rfl, rfl, rfl, by omega, by omega⟩)
        · have hlk : (0 : Int) ≤ (k : Int) := by omega
          have hlk2 : (k : Int) < (len : Int) := by omega
          have hz2 : w.heap.size < wr.heap.size := by omega
          have hn1 : w.heap.size ≠ wr.heap.size := by omega
          have hn2 : w.heap.size + 1 ≠ wr.heap.size := by omega
          try (have hd1 : decide (0 < who + 1) = true := decide_eq_true (by omega))
          try (have hd2 : decide (0 < x + 1) = true := decide_eq_true (by omega))
          go_wp2
          go_region_held3 (fun w' => w'.cell? ⟨w.heap.size + 1, 0, none⟩ = some (.bool false) ∧ w'.cell? ⟨w.heap.size + 1, 1, none⟩ = some (.int .i64 0) ∧ w'.cell? ⟨b, o + k * 2, none⟩ = some (.int .i64 1) ∧ w'.cell? ⟨b, o + k * 2 + 1, none⟩ = some (.int .i64 x)) (first | (refine keep4 ?_ ?_ ?_ ?_ <;> first | assumption | (rw [World.cell?_setCell_other, World.cell?_setCell_other]; assumption; (intro e; injection e; omega); (intro e; injection e; omega)) | go_keep) | go_keep)
            ((go_at_call 8; ((with_reducible refine (do_sleepNeg _ _ _ _ ?_).mono ?_); omega); rintro e w2 ⟨rfl, hb2⟩
              have hB : Below wr.heap.size wr w2 := (by
                refine Below.trans ?_ (hb2.mono ?_)
                · repeat (first | exact Below.refl _ _ | refine Below.drew ?_ | refine Below.alloc ?_ (Nat.le_refl _) _)
                · simp)
              have hA := after hr hbl e0 e1 hB
              obtain ⟨hr2, d0, d1, hs2⟩ := hA
              have hr2' := hr2
              obtain ⟨q0, q1, q2, q3, g0, g1, g2, g3, hz', hb'⟩ := hr2'
              have y0 := hb2.size
              (try simp at y0)
              have y1 : w.heap.size < w2.heap.size := (by omega)
              have y2 : w.heap.size ≠ w2.heap.size := (by omega)
              have y3 : w.heap.size + 1 ≠ w2.heap.size := (by omega)
              have y4 : b < w2.heap.size := (by omega)
              have y5 : b ≠ w2.heap.size := (by omega)
              have y6 : w.heap.size < w2.heap.size + 1 := (by omega)
              have y7 : w.heap.size + 1 < w2.heap.size + 1 := (by omega)
              have y8 : b < w2.heap.size + 1 := (by omega)
              have y9 : w.heap.size ≠ w2.heap.size + 1 := (by omega)
              have y10 : w.heap.size + 1 ≠ w2.heap.size + 1 := (by omega)
              have y11 : b ≠ w2.heap.size + 1 := (by omega)
              have t0 := (bcell hb2).1 wr.heap.size 0
              have t1 := (bcell hb2).1 wr.heap.size 1
              have t2 := (bcell hb2).2 wr.heap.size 0
              have t3 := (bcell hb2).2 wr.heap.size 1
              (try simp [go_sem] at t0)
              (try simp [go_sem] at t1)
              (try simp [go_sem] at t2)
              (try simp [go_sem] at t3)))
          all_goals try (have y12 : wr.heap.size < w2.heap.size := by omega)
          all_goals try (have y13 : wr.heap.size ≠ w2.heap.size := by omega)
          all_goals try (have y14 : wr.heap.size < w2.heap.size + 1 := by omega)
          all_goals try (have y15 : wr.heap.size ≠ w.heap.size := by omega)
          all_goals try (have y16 : wr.heap.size ≠ w.heap.size + 1 := by omega)
          all_goals go_wp2
          all_goals go_quiet ((first | (go_at_call 11; refine Calls.quiet_of_same (set_0 _ _ ?_); apply RelP.c0; (repeat (with_reducible (first | exact hr2 | apply RelP.alloc | apply RelP.drewN | apply RelP.drew | apply RelP.set0 | apply RelP.set1 | apply RelP.set2 | apply RelP.set3 | apply RelP.farR (hp := hz)))); done) | (go_at_call 11; refine Calls.quiet_of_same (set_1 _ _ ?_); apply RelP.c0; (repeat (with_reducible (first | exact hr2 | apply RelP.alloc | apply RelP.drewN | apply RelP.drew | apply RelP.set0 | apply RelP.set1 | apply RelP.set2 | apply RelP.set3 | apply RelP.farR (hp := hz)))); done) | (go_at_call 11; refine Calls.quiet_of_same (set_2 _ _ ?_); apply RelP.c0; (repeat (with_reducible (first | exact hr2 | apply RelP.alloc | apply RelP.drewN | apply RelP.drew | apply RelP.set0 | apply RelP.set1 | apply RelP.set2 | apply RelP.set3 | apply RelP.farR (hp := hz)))); done)))
          all_goals go_wp2
          all_goals go_roundw
          all_goals try (case measure => simp [intOf]; omega)
          all_goals
            apply RoundP.step hlt
            case h => (repeat (with_reducible (first | exact hr2 | apply RelP.alloc | apply RelP.drewN | apply RelP.drew | apply RelP.set0 | apply RelP.set1 | apply RelP.set2 | apply RelP.set3 | apply RelP.farR (hp := hz))))
            case ho => first | exact .inl ⟨rfl, rfl, rfl⟩ | exact .inr (.inl ⟨rfl, rfl, rfl⟩) | exact .inr (.inr ⟨rfl, rfl, rfl, by omega, by omega⟩)
        · have hlk : (0 : Int) ≤ (k : Int) := by omega
          have hlk2 : (k : Int) < (len : Int) := by omega
          have hz2 : w.heap.size < wr.heap.size := by omega
          have hn1 : w.heap.size ≠ wr.heap.size := by omega
          have hn2 : w.heap.size + 1 ≠ wr.heap.size := by omega
          try (have hd1 : decide (0 < who + 1) = true := decide_eq_true (by omega))
          try (have hd2 : decide (0 < x + 1) = true := decide_eq_true (by omega))
          go_wp2
          go_region_held3 (fun w' => w'.cell? ⟨w.heap.size + 1, 0, none⟩ = some (.bool false) ∧ w'.cell? ⟨w.heap.size + 1, 1, none⟩ = some (.int .i64 0) ∧ w'.cell? ⟨b, o + k * 2, none⟩ = some (.int .i64 1) ∧ w'.cell? ⟨b, o + k * 2 + 1, none⟩ = some (.int .i64 x)) (first | (refine keep4 ?_ ?_ ?_ ?_ <;> first | assumption | (rw [World.cell?_setCell_other, World.cell?_setCell_other]; assumption; (intro e; injection e; omega); (intro e; injection e; omega)) | go_keep) | go_keep)
            ((go_at_call 8; ((with_reducible refine (do_sleepBig _ _ _ _ ?_ ?_).mono ?_); omega; omega); rintro e w2 ⟨rfl, hb2⟩
              have hB : Below wr.heap.size wr w2 := (by
                refine Below.trans ?_ (hb2.mono ?_)
                · repeat (first | exact Below.refl _ _ | refine Below.drew ?_ | refine Below.alloc ?_ (Nat.le_refl _) _)
                · simp)
              have hA := after hr hbl e0 e1 hB
              obtain ⟨hr2, d0, d1, hs2⟩ := hA
              have hr2' := hr2
              obtain ⟨q0, q1, q2, q3, g0, g1, g2, g3, hz', hb'⟩ := hr2'
              have y0 := hb2.size
              (try simp at y0)
              have y1 : w.heap.size < w2.heap.size := (by omega)
              have y2 : w.heap.size ≠ w2.heap.size := (by omega)
              have y3 : w.heap.size + 1 ≠ w2.heap.size := (by omega)
              have y4 : b < w2.heap.size := (by omega)
              have y5 : b ≠ w2.heap.size := (by omega)
              have y6 : w.heap.size < w2.heap.size + 1 := (by omega)
              have y7 : w.heap.size + 1 < w2.heap.size + 1 := (by omega)
              have y8 : b < w2.heap.size + 1 := (by omega)
              have y9 : w.heap.size ≠ w2.heap.size + 1 := (by omega)
              have y10 : w.heap.size + 1 ≠ w2.heap.size + 1 := (by omega)
              have y11 : b ≠ w2.heap.size + 1 := (by omega)
              have t0 := (bcell hb2).1 wr.heap.size 0
              have t1 := (bcell hb2).1 wr.heap.size 1
              have t2 := (bcell hb2).2 wr.heap.size 0
              have t3 := (bcell hb2).2 wr.heap.size 1
              (try simp [go_sem] at t0)
              (try simp [go_sem] at t1)
              (try simp [go_sem] at t2)
              (try simp [go_sem] at t3)))
          all_goals try (have y12 : wr.heap.size < w2.heap.size := by omega)
          all_goals try (have y13 : wr.heap.size ≠ w2.heap.size := by omega)
          all_goals try (have y14 : wr.heap.size < w2.heap.size + 1 := by omega)
          all_goals try (have y15 : wr.heap.size ≠ w.heap.size := by omega)
          all_goals try (have y16 : wr.heap.size ≠ w.heap.size + 1 := by omega)
          all_goals go_wp2
          all_goals go_quiet ((first | (go_at_call 11; refine Calls.quiet_of_same (set_0 _ _ ?_); apply RelP.c0; (repeat (with_reducible (first | exact hr2 | apply RelP.alloc | apply RelP.drewN | apply RelP.drew | apply RelP.set0 | apply RelP.set1 | apply RelP.set2 | apply RelP.set3 | apply RelP.farR (hp := hz)))); done) | (go_at_call 11; refine Calls.quiet_of_same (set_1 _ _ ?_); apply RelP.c0; (repeat (with_reducible (first | exact hr2 | apply RelP.alloc | apply RelP.drewN | apply RelP.drew | apply RelP.set0 | apply RelP.set1 | apply RelP.set2 | apply RelP.set3 | apply RelP.farR (hp := hz)))); done) | (go_at_call 11; refine Calls.quiet_of_same (set_2 _ _ ?_); apply RelP.c0; (repeat (with_reducible (first | exact hr2 | apply RelP.alloc | apply RelP.drewN | apply RelP.drew | apply RelP.set0 | apply RelP.set1 | apply RelP.set2 | apply RelP.set3 | apply RelP.farR (hp := hz)))); done)))
          all_goals go_wp2
          all_goals go_roundw
          all_goals try (case measure => simp [intOf]; omega)
          all_goals
            apply RoundP.step hlt
            case h => (repeat (with_reducible (first | exact hr2 | apply RelP.alloc | apply RelP.drewN | apply RelP.drew | apply RelP.set0 | apply RelP.set1 | apply RelP.set2 | apply RelP.set3 | apply RelP.farR (hp := hz))))
            case ho => first | exact .inl ⟨rfl, rfl, rfl⟩ | exact .inr (.inl ⟨rfl, rfl, rfl⟩) | exact .inr (.inr ⟨rfl, rfl, rfl, by omega, by omega⟩)
        · have hlk : (0 : Int) ≤ (k : Int) := by omega
          have hlk2 : (k : Int) < (len : Int) := by omega
          have hz2 : w.heap.size < wr.heap.size := by omega
          have hn1 : w.heap.size ≠ wr.heap.size := by omega
          have hn2 : w.heap.size + 1 ≠ wr.heap.size := by omega
          try (have hd1 : decide (0 < who + 1) = true := decide_eq_true (by omega))
          try (have hd2 : decide (0 < x + 1) = true := decide_eq_true (by omega))
          go_wp2
          go_region_held3 (fun w' => w'.cell? ⟨w.heap.size + 1, 0, none⟩ = some (.bool false) ∧ w'.cell? ⟨w.heap.size + 1, 1, none⟩ = some (.int .i64 0) ∧ w'.cell? ⟨b, o + k * 2, none⟩ = some (.int .i64 1) ∧ w'.cell? ⟨b, o + k * 2 + 1, none⟩ = some (.int .i64 x)) (first | (refine keep4 ?_ ?_ ?_ ?_ <;> first | assumption | (rw [World.cell?_setCell_other, World.cell?_setCell_other]; assumption; (intro e; injection e; omega); (intro e; injection e; omega)) | go_keep) | go_keep)
            ((go_at_call 8; ((with_reducible refine (do_sleepNew _ _ ?_ ?_).mono ?_); omega; omega); rintro e w2 ⟨rfl, hb2⟩
              have hB : Below wr.heap.size wr w2 := (by
                refine Below.trans ?_ (hb2.mono ?_)
                · repeat (first | exact Below.refl _ _ | refine Below.drew ?_ | refine Below.alloc ?_ (Nat.le_refl _) _)
                · simp)
              have hA := after hr hbl e0 e1 hB
              obtain ⟨hr2, d0, d1, hs2⟩ := hA
              have hr2' := hr2
              obtain ⟨q0, q1, q2, q3, g0, g1, g2, g3, hz', hb'⟩ := hr2'
              have y0 := hb2.size
              (try simp at y0)
              have y1 : w.heap.size < w2.heap.size := (by omega)
              have y2 : w.heap.size ≠ w2.heap.size := (by omega)
              have y3 : w.heap.size + 1 ≠ w2.heap.size := (by omega)
              have y4 : b < w2.heap.size := (by omega)
              have y5 : b ≠ w2.heap.size := (by omega)
              have y6 : w.heap.size < w2.heap.size + 1 := (by omega)
              have y7 : w.heap.size + 1 < w2.heap.size + 1 := (by omega)
              have y8 : b < w2.heap.size + 1 := (by omega)
              have y9 : w.heap.size ≠ w2.heap.size + 1 := (by omega)
              have y10 : w.heap.size + 1 ≠ w2.heap.size + 1 := (by omega)
              have y11 : b ≠ w2.heap.size + 1 := (by omega)
              have t0 := (bcell hb2).1 wr.heap.size 0
              have t1 := (bcell hb2).1 wr.heap.size 1
              have t2 := (bcell hb2).2 wr.heap.size 0
              have t3 := (bcell hb2).2 wr.heap.size 1
              (try simp [go_sem] at t0)
              (try simp [go_sem] at t1)
              (try simp [go_sem] at t2)
              (try simp [go_sem] at t3)))
          all_goals try (have y12 : wr.heap.size < w2.heap.size := by omega)
          all_goals try (have y13 : wr.heap.size ≠ w2.heap.size := by omega)
          all_goals try (have y14 : wr.heap.size < w2.heap.size + 1 := by omega)
          all_goals try (have y15 : wr.heap.size ≠ w.heap.size := by omega)
          all_goals try (have y16 : wr.heap.size ≠ w.heap.size + 1 := by omega)
          all_goals go_wp2
          all_goals go_quiet ((first | (go_at_call 11; refine Calls.quiet_of_same (set_0 _ _ ?_); apply RelP.c0; (repeat (with_reducible (first | exact hr2 | apply RelP.alloc | apply RelP.drewN | apply RelP.drew | apply RelP.set0 | apply RelP.set1 | apply RelP.set2 | apply RelP.set3 | apply RelP.farR (hp := hz)))); done) | (go_at_call 11; refine Calls.quiet_of_same (set_1 _ _ ?_); apply RelP.c0; (repeat (with_reducible (first | exact hr2 | apply RelP.alloc | apply RelP.drewN | apply RelP.drew | apply RelP.set0 | apply RelP.set1 | apply RelP.set2 | apply RelP.set3 | apply RelP.farR (hp := hz)))); done) | (go_at_call 11; refine Calls.quiet_of_same (set_2 _ _ ?_); apply RelP.c0; (repeat (with_reducible (first | exact hr2 | apply RelP.alloc | apply RelP.drewN | apply RelP.drew | apply RelP.set0 | apply RelP.set1 | apply RelP.set2 | apply RelP.set3 | apply RelP.farR (hp := hz)))); done)))
          all_goals go_wp2
          all_goals go_roundw
          all_goals try (case measure => simp [intOf]; omega)
          all_goals
            apply RoundP.step hlt
            case h => (repeat (with_reducible (first | exact hr2 | apply RelP.alloc | apply RelP.drewN | apply RelP.drew | apply RelP.set0 | apply RelP.set1 | apply RelP.set2 | apply RelP.set3 | apply RelP.farR (hp := hz))))
            case ho => first | exact .inl ⟨rfl, rfl, rfl⟩ | exact .inr (.inl ⟨rfl, rfl, rfl⟩) | exact .inr (.inr ⟨rfl, rfl, rfl, by omega, by omega⟩)
        · have hlk : (0 : Int) ≤ (k : Int) := by omega
          have hlk2 : (k : Int) < (len : Int) := by omega
          have hz2 : w.heap.size < wr.heap.size := by omega
          have hn1 : w.heap.size ≠ wr.heap.size := by omega
          have hn2 : w.heap.size + 1 ≠ wr.heap.size := by omega
          try (have hd1 : decide (0 < who + 1) = true := decide_eq_true (by omega))
          try (have hd2 : decide (0 < x + 1) = true := decide_eq_true (by omega))
          go_wp2
          go_region_held3 (fun w' => w'.cell? ⟨w.heap.size + 1, 0, none⟩ = some (.bool false) ∧ w'.cell? ⟨w.heap.size + 1, 1, none⟩ = some (.int .i64 0) ∧ w'.cell? ⟨b, o + k * 2, none⟩ = some (.int .i64 1) ∧ w'.cell? ⟨b, o + k * 2 + 1, none⟩ = some (.int .i64 who)) (first | (refine keep4 ?_ ?_ ?_ ?_ <;> first | assumption | (rw [World.cell?_setCell_other, World.cell?_setCell_other]; assumption; (intro e; injection e; omega); (intro e; injection e; omega)) | go_keep) | go_keep)
            ((go_at_call 8; ((with_reducible refine (do_sleepNew _ _ ?_ ?_).mono ?_); omega; omega); rintro e w2 ⟨rfl, hb2⟩
              have hB : Below wr.heap.size wr w2 := (by
                refine Below.trans ?_ (hb2.mono ?_)
                · repeat (first | exact Below.refl _ _ | refine Below.drew ?_ | refine Below.alloc ?_ (Nat.le_refl _) _)
                · simp)
              have hA := after hr hbl e0 e1 hB
              obtain ⟨hr2, d0, d1, hs2⟩ := hA
              have hr2' := hr2
              obtain ⟨q0, q1, q2, q3, g0, g1, g2, g3, hz', hb'⟩ := hr2'
              have y0 := hb2.size
              (try simp at y0)
              have y1 : w.heap.size < w2.heap.size := (by omega)
              have y2 : w.heap.size ≠ w2.heap.size := (by omega)
              have y3 : w.heap.size + 1 ≠ w2.heap.size := (by omega)
              have y4 : b < w2.heap.size := (by omega)
              have y5 : b ≠ w2.heap.size := (by omega)
              have y6 : w.heap.size < w2.heap.size + 1 := (by omega)
              have y7 : w.heap.size + 1 < w2.heap.size + 1 := (by omega)
              have y8 : b < w2.heap.size + 1 := (by omega)
              have y9 : w.heap.size ≠ w2.heap.size + 1 := (by omega)
              have y10 : w.heap.size + 1 ≠ w2.heap.size + 1 := (by omega)
              have y11 : b ≠ w2.heap.size + 1 := (by omega)
              have t0 := (bcell hb2).1 wr.heap.size 0
              have t1 := (bcell hb2).1 wr.heap.size 1
              have t2 := (bcell hb2).2 wr.heap.size 0
              have t3 := (bcell hb2).2 wr.heap.size 1
              (try simp [go_sem] at t0)
              (try simp [go_sem] at t1)
              (try simp [go_sem] at t2)
              (try simp [go_sem] at t3)))
          all_goals try (have y12 : wr.heap.size < w2.heap.size := by omega)
          all_goals try (have y13 : wr.heap.size ≠ w2.heap.size := by omega)
          all_goals try (have y14 : wr.heap.size < w2.heap.size + 1 := by omega)
          all_goals try (have y15 : wr.heap.size ≠ w.heap.size := by omega)
          all_goals try (have y16 : wr.heap.size ≠ w.heap.size + 1 := by omega)
          all_goals go_wp2
          all_goals go_quiet ((first | (go_at_call 11; refine Calls.quiet_of_same (set_0 _ _ ?_); apply RelP.c0; (repeat (with_reducible (first | exact hr2 | apply RelP.alloc | apply RelP.drewN | apply RelP.drew | apply RelP.set0 | apply RelP.set1 | apply RelP.set2 | apply RelP.set3 | apply RelP.farR (hp := hz)))); done) | (go_at_call 11; refine Calls.quiet_of_same (set_1 _ _ ?_); apply RelP.c0; (repeat (with_reducible (first | exact hr2 | apply RelP.alloc | apply RelP.drewN | apply RelP.drew | apply RelP.set0 | apply RelP.set1 | apply RelP.set2 | apply RelP.set3 | apply RelP.farR (hp := hz)))); done) | (go_at_call 11; refine Calls.quiet_of_same (set_2 _ _ ?_); apply RelP.c0; (repeat (with_reducible (first | exact hr2 | apply RelP.alloc | apply RelP.drewN | apply RelP.drew | apply RelP.set0 | apply RelP.set1 | apply RelP.set2 | apply RelP.set3 | apply RelP.farR (hp := hz)))); done)))
          all_goals go_wp2
          all_goals go_roundw
          all_goals try (case measure => simp [intOf]; omega)
          all_goals
            apply RoundP.step hlt
            case h => (repeat (with_reducible (first | exact hr2 | apply RelP.alloc | apply RelP.drewN | apply RelP.drew | apply RelP.set0 | apply RelP.set1 | apply RelP.set2 | apply RelP.set3 | apply RelP.farR (hp := hz))))
            case ho => first | exact .inl ⟨rfl, rfl, rfl⟩ | exact .inr (.inl ⟨rfl, rfl, rfl⟩) | exact .inr (.inr ⟨rfl, rfl, rfl, by omega, by omega⟩)
        · have hlk : (0 : Int) ≤ (k : Int) := by omega
          have hlk2 : (k : Int) < (len : Int) := by omega
          have hz2 : w.heap.size < wr.heap.size := by omega
          have hn1 : w.heap.size ≠ wr.heap.size := by omega
          have hn2 : w.heap.size + 1 ≠ wr.heap.size := by omega
          try (have hd1 : decide (0 < who + 1) = true := decide_eq_true (by omega))
          try (have hd2 : decide (0 < x + 1) = true := decide_eq_true (by omega))
          go_wp2
          go_region_held3 (fun w' => w'.cell? ⟨w.heap.size + 1, 0, none⟩ = some (.bool false) ∧ w'.cell? ⟨w.heap.size + 1, 1, none⟩ = some (.int .i64 0) ∧ w'.cell? ⟨b, o + k * 2, none⟩ = some (.int .i64 kd) ∧ w'.cell? ⟨b, o + k * 2 + 1, none⟩ = some (.int .i64 x)) (first | (refine keep4 ?_ ?_ ?_ ?_ <;> first | assumption | (rw [World.cell?_setCell_other, World.cell?_setCell_other]; assumption; (intro e; injection e; omega); (intro e; injection e; omega)) | go_keep) | go_keep)
            ((go_at_call 8; ((with_reducible refine (do_wakeOk _ _ _ _ hk0 hk1 ?_ ?_).mono ?_); omega; omega); rintro e w2 ⟨rfl, hb2⟩
              have hB : Below wr.heap.size wr w2 := (by
                refine Below.trans ?_ (hb2.mono ?_)
                · repeat (first | exact Below.refl _ _ | refine Below.drew ?_ | refine Below.alloc ?_ (Nat.le_refl _) _)
                · simp)
              have hA := after hr hbl e0 e1 hB
              obtain ⟨hr2, d0, d1, hs2⟩ := hA
              have hr2' := hr2
              obtain ⟨q0, q1, q2, q3, g0, g1, g2, g3, hz', hb'⟩ := hr2'
              have y0 := hb2.size
              (try simp at y0)
              have y1 : w.heap.size < w2.heap.size := (by omega)
              have y2 : w.heap.size ≠ w2.heap.size := (by omega)
              have y3 : w.heap.size + 1 ≠ w2.heap.size := (by omega)
              have y4 : b < w2.heap.size := (by omega)
              have y5 : b ≠ w2.heap.size := (by omega)
              have y6 : w.heap.size < w2.heap.size + 1 := (by omega)
              have y7 : w.heap.size + 1 < w2.heap.size + 1 := (by omega)
              have y8 : b < w2.heap.size + 1 := (by omega)
              have y9 : w.heap.size ≠ w2.heap.size + 1 := (by omega)
              have y10 : w.heap.size + 1 ≠ w2.heap.size + 1 := (by omega)
              have y11 : b ≠ w2.heap.size + 1 := (by omega)
              have t0 := (bcell hb2).1 wr.heap.size 0
              have t1 := (bcell hb2).1 wr.heap.size 1
              have t2 := (bcell hb2).2 wr.heap.size 0
              have t3 := (bcell hb2).2 wr.heap.size 1
              (try simp [go_sem] at t0)
              (try simp [go_sem] at t1)
              (try simp [go_sem] at t2)
              (try simp [go_sem] at t3)))
          all_goals try (have y12 : wr.heap.size < w2.heap.size := by omega)
          all_goals try (have y13 : wr.heap.size ≠ w2.heap.size := by omega)
          all_goals try (have y14 : wr.heap.size < w2.heap.size + 1 := by omega)
          all_goals try (have y15 : wr.heap.size ≠ w.heap.size := by omega)
          all_goals try (have y16 : wr.heap.size ≠ w.heap.size + 1 := by omega)
          all_goals go_wp2
          all_goals go_quiet ((first | (go_at_call 11; refine Calls.quiet_of_same (set_0 _ _ ?_); apply RelP.c0; (repeat (with_reducible (first | exact hr2 | apply RelP.alloc | apply RelP.drewN | apply RelP.drew | apply RelP.set0 | apply RelP.set1 | apply RelP.set2 | apply RelP.set3 | apply RelP.farR (hp := hz)))); done) | (go_at_call 11; refine Calls.quiet_of_same (set_1 _ _ ?_); apply RelP.c0; (repeat (with_reducible (first | exact hr2 | apply RelP.alloc | apply RelP.drewN | apply RelP.drew | apply RelP.set0 | apply RelP.set1 | apply RelP.set2 | apply RelP.set3 | apply RelP.farR (hp := hz)))); done) | (go_at_call 11; refine Calls.quiet_of_same (set_2 _ _ ?_); apply RelP.c0; (repeat (with_reducible (first | exact hr2 | apply RelP.alloc | apply RelP.drewN | apply RelP.drew | apply RelP.set0 | apply RelP.set1 | apply RelP.set2 | apply RelP.set3 | apply RelP.farR (hp := hz)))); done)))
          all_goals go_wp2
          all_goals go_roundw
          all_goals try (case measure => simp [intOf]; omega)
          all_goals
            apply RoundP.step hlt
            case h => (repeat (with_reducible (first | exact hr2 | apply RelP.alloc | apply RelP.drewN | apply RelP.drew | apply RelP.set0 | apply RelP.set1 | apply RelP.set2 | apply RelP.set3 | apply RelP.farR (hp := hz))))
            case ho => first | exact .inl ⟨rfl, rfl, rfl⟩ | exact .inr (.inl ⟨rfl, rfl, rfl⟩) | exact .inr (.inr ⟨rfl, rfl, rfl, by omega, by omega⟩)
        · have hlk : (0 : Int) ≤ (k : Int) := by omega
          have hlk2 : (k : Int) < (len : Int) := by omega
          have hz2 : w.heap.size < wr.heap.size := by omega
          have hn1 : w.heap.size ≠ wr.heap.size := by omega
          have hn2 : w.heap.size + 1 ≠ wr.heap.size := by omega
          try (have hd1 : decide (0 < who + 1) = true := decide_eq_true (by omega))
          try (have hd2 : decide (0 < x + 1) = true := decide_eq_true (by omega))
          go_wp2
          go_region_held3 (fun w' => w'.cell? ⟨w.heap.size + 1, 0, none⟩ = some (.bool true) ∧ w'.cell? ⟨w.heap.size + 1, 1, none⟩ = some (.int .i64 0) ∧ w'.cell? ⟨b, o + k * 2, none⟩ = some (.int .i64 0) ∧ w'.cell? ⟨b, o + k * 2 + 1, none⟩ = some (.int .i64 x)) (first | (refine keep4 ?_ ?_ ?_ ?_ <;> first | assumption | (rw [World.cell?_setCell_other, World.cell?_setCell_other]; assumption; (intro e; injection e; omega); (intro e; injection e; omega)) | go_keep) | go_keep)
            ((go_at_call 8; ((with_reducible refine (do_clearOk _ _ _).mono ?_)); rintro e w2 ⟨rfl, hb2⟩
              have hB : Below wr.heap.size wr w2 := (by
                refine Below.trans ?_ (hb2.mono ?_)
                · repeat (first | exact Below.refl _ _ | refine Below.drew ?_ | refine Below.alloc ?_ (Nat.le_refl _) _)
                · simp)
              have hA := after hr hbl e0 e1 hB
              obtain ⟨hr2, d0, d1, hs2⟩ := hA
              have hr2' := hr2
              obtain ⟨q0, q1, q2, q3, g0, g1, g2, g3, hz', hb'⟩ := hr2'
              have y0 := hb2.size
              (try simp at y0)
              have y1 : w.heap.size < w2.heap.size := (by omega)
              have y2 : w.heap.size ≠ w2.heap.size := (by omega)
              have y3 : w.heap.size + 1 ≠ w2.heap.size := (by omega)
              have y4 : b < w2.heap.size := (by omega)
              have y5 : b ≠ w2.heap.size := (by omega)
              have y6 : w.heap.size < w2.heap.size + 1 := (by omega)
              have y7 : w.heap.size + 1 < w2.heap.size + 1 := (by omega)
              have y8 : b < w2.heap.size + 1 := (by omega)
              have y9 : w.heap.size ≠ w2.heap.size + 1 := (by omega)
              have y10 : w.heap.size + 1 ≠ w2.heap.size + 1 := (by omega)
              have y11 : b ≠ w2.heap.size + 1 := (by omega)
              have t0 := (bcell hb2).1 wr.heap.size 0
              have t1 := (bcell hb2).1 wr.heap.size 1
              have t2 := (bcell hb2).2 wr.heap.size 0
              have t3 := (bcell hb2).2 wr.heap.size 1
              (try simp [go_sem] at t0)
              (try simp [go_sem] at t1)
              (try simp [go_sem] at t2)
              (try simp [go_sem] at t3)))
          all_goals try (have y12 : wr.heap.size < w2.heap.size := by omega)
          all_goals try (have y13 : wr.heap.size ≠ w2.heap.size := by omega)
          all_goals try (have y14 : wr.heap.size < w2.heap.size + 1 := by omega)
          all_goals try (have y15 : wr.heap.size ≠ w.heap.size := by omega)
          all_goals try (have y16 : wr.heap.size ≠ w.heap.size + 1 := by omega)
          all_goals go_wp2
          all_goals go_quiet ((first | (go_at_call 11; refine Calls.quiet_of_same (set_0 _ _ ?_); apply RelP.c0; (repeat (with_reducible (first | exact hr2 | apply RelP.alloc | apply RelP.drewN | apply RelP.drew | apply RelP.set0 | apply RelP.set1 | apply RelP.set2 | apply RelP.set3 | apply RelP.farR (hp := hz)))); done) | (go_at_call 11; refine Calls.quiet_of_same (set_1 _ _ ?_); apply RelP.c0; (repeat (with_reducible (first | exact hr2 | apply RelP.alloc | apply RelP.drewN | apply RelP.drew | apply RelP.set0 | apply RelP.set1 | apply RelP.set2 | apply RelP.set3 | apply RelP.farR (hp := hz)))); done) | (go_at_call 11; refine Calls.quiet_of_same (set_2 _ _ ?_); apply RelP.c0; (repeat (with_reducible (first | exact hr2 | apply RelP.alloc | apply RelP.drewN | apply RelP.drew | apply RelP.set0 | apply RelP.set1 | apply RelP.set2 | apply RelP.set3 | apply RelP.farR (hp := hz)))); done)))
          all_goals go_wp2
          all_goals go_roundw
          all_goals try (case measure => simp [intOf]; omega)
          all_goals
            apply RoundP.step hlt
            case h => (repeat (with_reducible (first | exact hr2 | apply RelP.alloc | apply RelP.drewN | apply RelP.drew | apply RelP.set0 | apply RelP.set1 | apply RelP.set2 | apply RelP.set3 | apply RelP.farR (hp := hz))))
            case ho => first | exact .inl ⟨rfl, rfl, rfl⟩ | exact .inr (.inl ⟨rfl, rfl, rfl⟩) | exact .inr (.inr ⟨rfl, rfl, rfl, by omega, by omega⟩)
        · have hlk : (0 : Int) ≤ (k : Int) := by omega
          have hlk2 : (k : Int) < (len : Int) := by omega
          have hz2 : w.heap.size < wr.heap.size := by omega
          have hn1 : w.heap.size ≠ wr.heap.size := by omega
          have hn2 : w.heap.size + 1 ≠ wr.heap.size := by omega
          try (have hd1 : decide (0 < who + 1) = true := decide_eq_true (by omega))
          try (have hd2 : decide (0 < x + 1) = true := decide_eq_true (by omega))
          go_wp2
          go_region_held3 (fun w' => w'.cell? ⟨w.heap.size + 1, 0, none⟩ = some (.bool true) ∧ w'.cell? ⟨w.heap.size + 1, 1, none⟩ = some (.int .i64 0) ∧ w'.cell? ⟨b, o + k * 2, none⟩ = some (.int .i64 1) ∧ w'.cell? ⟨b, o + k * 2 + 1, none⟩ = some (.int .i64 x)) (first | (refine keep4 ?_ ?_ ?_ ?_ <;> first | assumption | (rw [World.cell?_setCell_other, World.cell?_setCell_other]; assumption; (intro e; injection e; omega); (intro e; injection e; omega)) | go_keep) | go_keep)
            ((go_at_call 8; ((with_reducible refine (do_sleepNeg _ _ _ _ ?_).mono ?_); omega); rintro e w2 ⟨rfl, hb2⟩
              have hB : Below wr.heap.size wr w2 := (by
                refine Below.trans ?_ (hb2.mono ?_)
                · repeat (first | exact Below.refl _ _ | refine Below.drew ?_ | refine Below.alloc ?_ (Nat.le_refl _) _)
                · simp)
              have hA := after hr hbl e0 e1 hB
              obtain ⟨hr2, d0, d1, hs2⟩ := hA
              have hr2' := hr2
              obtain ⟨q0, q1, q2, q3, g0, g1, g2, g3, hz', hb'⟩ := hr2'
              have y0 := hb2.size
              (try simp at y0)
              have y1 : w.heap.size < w2.heap.size := (by omega)
              have y2 : w.heap.size ≠ w2.heap.size := (by omega)
              have y3 : w.heap.size + 1 ≠ w2.heap.size := (by omega)
              have y4 : b < w2.heap.size := (by omega)
              have y5 : b ≠ w2.heap.size := (by omega)
              have y6 : w.heap.size < w2.heap.size + 1 := (by omega)
              have y7 : w.heap.size + 1 < w2.heap.size + 1 := (by omega)
              have y8 : b < w2.heap.size + 1 := (by omega)
              have y9 : w.heap.size ≠ w2.heap.size + 1 := (by omega)
              have y10 : w.heap.size + 1 ≠ w2.heap.size + 1 := (by omega)
              have y11 : b ≠ w2.heap.size + 1 := (by omega)
              have t0 := (bcell hb2).1 wr.heap.size 0
              have t1 := (bcell hb2).1 wr.heap.size 1
              have t2 := (bcell hb2).2 wr.heap.size 0
              have t3 := (bcell hb2).2 wr.heap.size 1
              (try simp [go_sem] at t0)
              (try simp [go_sem] at t1)
              (try simp [go_sem] at t2)
              (try simp [go_sem] at t3)))
          all_goals try (have y12 : wr.heap.size < w2.heap.size := by omega)
          all_goals try (have y13 : wr.heap.size ≠ w2.heap.size := by omega)
          all_goals try (have y14 : wr.heap.size < w2.heap.size + 1 := by omega)
          all_goals try (have y15 : wr.heap.size ≠ w.heap.size := by omega)
          all_goals try (have y16 : wr.heap.size ≠ w.heap.size + 1 := by omega)
          all_goals go_wp2
          all_goals go_quiet ((first | (go_at_call 11; refine Calls.quiet_of_same (set_0 _ _ ?_); apply RelP.c0; (repeat (with_reducible (first | exact hr2 | apply RelP.alloc | apply RelP.drewN | apply RelP.drew | apply RelP.set0 | apply RelP.set1 | apply RelP.set2 | apply RelP.set3 | apply RelP.farR (hp := hz)))); done) | (go_at_call 11; refine Calls.quiet_of_same (set_1 _ _ ?_); apply RelP.c0; (repeat (with_reducible (first | exact hr2 | apply RelP.alloc | apply RelP.drewN | apply RelP.drew | apply RelP.set0 | apply RelP.set1 | apply RelP.set2 | apply RelP.set3 | apply RelP.farR (hp := hz)))); done) | (go_at_call 11; refine Calls.quiet_of_same (set_2 _ _ ?_); apply RelP.c0; (repeat (with_reducible (first | exact hr2 | apply RelP.alloc | apply RelP.drewN | apply RelP.drew | apply RelP.set0 | apply RelP.set1 | apply RelP.set2 | apply RelP.set3 | apply RelP.farR (hp := hz)))); done)))
          all_goals go_wp2
          all_goals go_roundw
          all_goals try (case measure => simp [intOf]; omega)
          all_goals
            apply RoundP.step hlt
            case h => (repeat (with_reducible (first | exact hr2 | apply RelP.alloc | apply RelP.drewN | apply RelP.drew | apply RelP.set0 | apply RelP.set1 | apply RelP.set2 | apply RelP.set3 | apply RelP.farR (hp := hz))))
            case ho => first | exact .inl ⟨rfl, rfl, rfl⟩ | exact .inr (.inl ⟨rfl, rfl, rfl⟩) | exact .inr (.inr ⟨rfl, rfl, rfl, by omega, by omega⟩)
        · have hlk : (0 : Int) ≤ (k : Int) := by omega
          have hlk2 : (k : Int) < (len : Int) := by omega
          have hz2 : w.heap.size < wr.heap.size := by omega
          have hn1 : w.heap.size ≠ wr.heap.size := by omega
          have hn2 : w.heap.size + 1 ≠ wr.heap.size := by omega
          try (have hd1 : decide (0 < who + 1) = true := decide_eq_true (by omega))
          try (have hd2 : decide (0 < x + 1) = true := decide_eq_true (by omega))
          go_wp2
          go_region_held3 (fun w' => w'.cell? ⟨w.heap.size + 1, 0, none⟩ = some (.bool true) ∧ w'.cell? ⟨w.heap.size + 1, 1, none⟩ = some (.int .i64 0) ∧ w'.cell? ⟨b, o + k * 2, none⟩ = some (.int .i64 1) ∧ w'.cell? ⟨b, o + k * 2 + 1, none⟩ = some (.int .i64 x)) (first | (refine keep4 ?_ ?_ ?_ ?_ <;> first | assumption | (rw [World.cell?_setCell_other, World.cell?_setCell_other]; assumption; (intro e; injection e; omega); (intro e; injection e; omega)) | go_keep) | go_keep)
            ((go_at_call 8; ((with_reducible refine (do_sleepBig _ _ _ _ ?_ ?_).mono ?_); omega; omega); rintro e w2 ⟨rfl, hb2⟩
              have hB : Below wr.heap.size wr w2 := (by
                refine Below.trans ?_ (hb2.mono ?_)
                · repeat (first | exact Below.refl _ _ | refine Below.drew ?_ | refine Below.alloc ?_ (Nat.le_refl _) _)
                · simp)
              have hA := after hr hbl e0 e1 hB
              obtain ⟨hr2, d0, d1, hs2⟩ := hA
              have hr2' := hr2
              obtain ⟨q0, q1, q2, q3, g0, g1, g2, g3, hz', hb'⟩ := hr2'
              have y0 := hb2.size
              (try simp at y0)
              have y1 : w.heap.size < w2.heap.size := (by omega)
              have y2 : w.heap.size ≠ w2.heap.size := (by omega)
              have y3 : w.heap.size + 1 ≠ w2.heap.size := (by omega)
              have y4 : b < w2.heap.size := (by omega)
              have y5 : b ≠ w2.heap.size := (by omega)
              have y6 : w.heap.size < w2.heap.size + 1 := (by omega)
              have y7 : w.heap.size + 1 < w2.heap.size + 1 := (by omega)
              have y8 : b < w2.heap.size + 1 := (by omega)
              have y9 : w.heap.size ≠ w2.heap.size + 1 := (by omega)
              have y10 : w.heap.size + 1 ≠ w2.heap.size + 1 := (by omega)
              have y11 : b ≠ w2.heap.size + 1 := (by omega)
              have t0 := (bcell hb2).1 wr.heap.size 0
              have t1 := (bcell hb2).1 wr.heap.size 1
              have t2 := (bcell hb2).2 wr.heap.size 0
              have t3 := (bcell hb2).2 wr.heap.size 1
              (try simp [go_sem] at t0)
              (try simp [go_sem] at t1)
              (try simp [go_sem] at t2)
              (try simp [go_sem] at t3)))
          all_goals try (have y12 : wr.heap.size < w2.heap.size := by omega)
          all_goals try (have y13 : wr.heap.size ≠ w2.heap.size := by omega)
          all_goals try (have y14 : wr.heap.size < w2.heap.size + 1 := by omega)
          all_goals try (have y15 : wr.heap.size ≠ w.heap.size := by omega)
          all_goals try (have y16 : wr.heap.size ≠ w.heap.size + 1 := by omega)
          all_goals go_wp2
          all_goals go_quiet ((first | (go_at_call 11; refine Calls.quiet_of_same (set_0 _ _ ?_); apply RelP.c0; (repeat (with_reducible (first | exact hr2 | apply RelP.alloc | apply RelP.drewN | apply RelP.drew | apply RelP.set0 | apply RelP.set1 | apply RelP.set2 | apply RelP.set3 | apply RelP.farR (hp := hz)))); done) | (go_at_call 11; refine Calls.quiet_of_same (set_1 _ _ ?_); apply RelP.c0; (repeat (with_reducible (first | exact hr2 | apply RelP.alloc | apply RelP.drewN | apply RelP.drew | apply RelP.set0 | apply RelP.set1 | apply RelP.set2 | apply RelP.set3 | apply RelP.farR (hp := hz)))); done) | (go_at_call 11; refine Calls.quiet_of_same (set_2 _ _ ?_); apply RelP.c0; (repeat (with_reducible (first | exact hr2 | apply RelP.alloc | apply RelP.drewN | apply RelP.drew | apply RelP.set0 | apply RelP.set1 | apply RelP.set2 | apply RelP.set3 | apply RelP.farR (hp := hz)))); done)))
          all_goals go_wp2
          all_goals go_roundw
          all_goals try (case measure => simp [intOf]; omega)
          all_goals
            apply RoundP.step hlt
            case h => (repeat (with_reducible (first | exact hr2 | apply RelP.alloc | apply RelP.drewN | apply RelP.drew | apply RelP.set0 | apply RelP.set1 | apply RelP.set2 | apply RelP.set3 | apply RelP.farR (hp := hz))))
            case ho => first | exact .inl ⟨rfl, rfl, rfl⟩ | exact .inr (.inl ⟨rfl, rfl, rfl⟩) | exact .inr (.inr ⟨rfl, rfl, rfl, by omega, by omega⟩)
        · have hlk : (0 : Int) ≤ (k : Int) := by omega
          have hlk2 : (k : Int) < (len : Int) := by omega
          have hz2 : w.heap.size < wr.heap.size := by omega
          have hn1 : w.heap.size ≠ wr.heap.size := by omega
          have hn2 : w.heap.size + 1 ≠ wr.heap.size := by omega
          try (have hd1 : decide (0 < who + 1) = true := decide_eq_true (by omega))
          try (have hd2 : decide (0 < x + 1) = true := decide_eq_true (by omega))
          go_wp2
          go_region_held3 (fun w' => w'.cell? ⟨w.heap.size + 1, 0, none⟩ = some (.bool true) ∧ w'.cell? ⟨w.heap.size + 1, 1, none⟩ = some (.int .i64 0) ∧ w'.cell? ⟨b, o + k * 2, none⟩ = some (.int .i64 1) ∧ w'.cell? ⟨b, o + k * 2 + 1, none⟩ = some (.int .i64 x)) (first | (refine keep4 ?_ ?_ ?_ ?_ <;> first | assumption | (rw [World.cell?_setCell_other, World.cell?_setCell_other]; assumption; (intro e; injection e; omega); (intro e; injection e; omega)) | go_keep) | go_keep)
            ((go_at_call 8; ((with_reducible refine (do_sleepSet _ _ ?_ ?_).mono ?_); omega; omega); rintro e w2 ⟨rfl, hb2⟩
              have hB : Below wr.heap.size wr w2 := (by
                refine Below.trans ?_ (hb2.mono ?_)
                · repeat (first | exact Below.refl _ _ | refine Below.drew ?_ | refine Below.alloc ?_ (Nat.le_refl _) _)
                · simp)
              have hA := after hr hbl e0 e1 hB
              obtain ⟨hr2, d0, d1, hs2⟩ := hA
              have hr2' := hr2
              obtain ⟨q0, q1, q2, q3, g0, g1, g2, g3, hz', hb'⟩ := hr2'
              have y0 := hb2.size
              (try simp at y0)
              have y1 : w.heap.size < w2.heap.size := (by omega)
              have y2 : w.heap.size ≠ w2.heap.size := (by omega)
              have y3 : w.heap.size + 1 ≠ w2.heap.size := (by omega)
              have y4 : b < w2.heap.size := (by omega)
              have y5 : b ≠ w2.heap.size := (by omega)
              have y6 : w.heap.size < w2.heap.size + 1 := (by omega)
              have y7 : w.heap.size + 1 < w2.heap.size + 1 := (by omega)
              have y8 : b < w2.heap.size + 1 := (by omega)
              have y9 : w.heap.size ≠ w2.heap.size + 1 := (by omega)
              have y10 : w.heap.size + 1 ≠ w2.heap.size + 1 := (by omega)
              have y11 : b ≠ w2.heap.size + 1 := (by omega)
              have t0 := (bcell hb2).1 wr.heap.size 0
              have t1 := (bcell hb2).1 wr.heap.size 1
              have t2 := (bcell hb2).2 wr.heap.size 0
              have t3 := (bcell hb2).2 wr.heap.size 1
              (try simp [go_sem] at t0)
              (try simp [go_sem] at t1)
              (try simp [go_sem] at t2)
              (try simp [go_sem] at t3)))
          all_goals try (have y12 : wr.heap.size < w2.heap.size := by omega)
          all_goals try (have y13 : wr.heap.size ≠ w2.heap.size := by omega)
          all_goals try (have y14 : wr.heap.size < w2.heap.size + 1 := by omega)
          all_goals try (have y15 : wr.heap.size ≠ w.heap.size := by omega)
          all_goals try (have y16 : wr.heap.size ≠ w.heap.size + 1 := by omega)
          all_goals go_wp2
          all_goals go_quiet ((first | (go_at_call 11; refine Calls.quiet_of_same (set_0 _ _ ?_); apply RelP.c0; (repeat (with_reducible (first | exact hr2 | apply RelP.alloc | apply RelP.drewN | apply RelP.drew | apply RelP.set0 | apply RelP.set1 | apply RelP.set2 | apply RelP.set3 | apply RelP.farR (hp := hz)))); done) | (go_at_call 11; refine Calls.quiet_of_same (set_1 _ _ ?_); apply RelP.c0; (repeat (with_reducible (first | exact hr2 | apply RelP.alloc | apply RelP.drewN | apply RelP.drew | apply RelP.set0 | apply RelP.set1 | apply RelP.set2 | apply RelP.set3 | apply RelP.farR (hp := hz)))); done) | (go_at_call 11; refine Calls.quiet_of_same (set_2 _ _ ?_); apply RelP.c0; (repeat (with_reducible (first | exact hr2 | apply RelP.alloc | apply RelP.drewN | apply RelP.drew | apply RelP.set0 | apply RelP.set1 | apply RelP.set2 | apply RelP.set3 | apply RelP.farR (hp := hz)))); done)))
          all_goals go_wp2
          all_goals go_roundw
          all_goals try (case measure => simp [intOf]; omega)
          all_goals
            apply RoundP.step hlt
            case h => (repeat (with_reducible (first | exact hr2 | apply RelP.alloc | apply RelP.drewN | apply RelP.drew | apply RelP.set0 | apply RelP.set1 | apply RelP.set2 | apply RelP.set3 | apply RelP.farR (hp := hz))))
            case ho => first | exact .inl ⟨rfl, rfl, rfl⟩ | exact .inr (.inl ⟨rfl, rfl, rfl⟩) | exact .inr (.inr ⟨rfl, rfl, rfl, by omega, by omega⟩)
        · have hlk : (0 : Int) ≤ (k : Int) := by omega
          have hlk2 : (k : Int) < (len : Int) := by omega
          have hz2 : w.heap.size < wr.heap.size := by omega
          have hn1 : w.heap.size ≠ wr.heap.size := by omega
          have hn2 : w.heap.size + 1 ≠ wr.heap.size := by omega
          try (have hd1 : decide (0 < who + 1) = true := decide_eq_true (by omega))
          try (have hd2 : decide (0 < x + 1) = true := decide_eq_true (by omega))
          go_wp2
          go_region_held3 (fun w' => w'.cell? ⟨w.heap.size + 1, 0, none⟩ = some (.bool true) ∧ w'.cell? ⟨w.heap.size + 1, 1, none⟩ = some (.int .i64 0) ∧ w'.cell? ⟨b, o + k * 2, none⟩ = some (.int .i64 1) ∧ w'.cell? ⟨b, o + k * 2 + 1, none⟩ = some (.int .i64 who)) (first | (refine keep4 ?_ ?_ ?_ ?_ <;> first | assumption | (rw [World.cell?_setCell_other, World.cell?_setCell_other]; assumption; (intro e; injection e; omega); (intro e; injection e; omega)) | go_keep) | go_keep)
            ((go_at_call 8; ((with_reducible refine (do_sleepSet _ _ ?_ ?_).mono ?_); omega; omega); rintro e w2 ⟨rfl, hb2⟩
              have hB : Below wr.heap.size wr w2 := (by
                refine Below.trans ?_ (hb2.mono ?_)
                · repeat (first | exact Below.refl _ _ | refine Below.drew ?_ | refine Below.alloc ?_ (Nat.le_refl _) _)
                · simp)
              have hA := after hr hbl e0 e1 hB
              obtain ⟨hr2, d0, d1, hs2⟩ := hA
              have hr2' := hr2
              obtain ⟨q0, q1, q2, q3, g0, g1, g2, g3, hz', hb'⟩ := hr2'
              have y0 := hb2.size
              (try simp at y0)
              have y1 : w.heap.size < w2.heap.size := (by omega)
              have y2 : w.heap.size ≠ w2.heap.size := (by omega)
              have y3 : w.heap.size + 1 ≠ w2.heap.size := (by omega)
              have y4 : b < w2.heap.size := (by omega)
              have y5 : b ≠ w2.heap.size := (by omega)
              have y6 : w.heap.size < w2.heap.size + 1 := (by omega)
              have y7 : w.heap.size + 1 < w2.heap.size + 1 := (by omega)
              have y8 : b < w2.heap.size + 1 := (by omega)
              have y9 : w.heap.size ≠ w2.heap.size + 1 := (by omega)
              have y10 : w.heap.size + 1 ≠ w2.heap.size + 1 := (by omega)
              have y11 : b ≠ w2.heap.size + 1 := (by omega)
              have t0 := (bcell hb2).1 wr.heap.size 0
              have t1 := (bcell hb2).1 wr.heap.size 1
              have t2 := (bcell hb2).2 wr.heap.size 0
              have t3 := (bcell hb2).2 wr.heap.size 1
              (try simp [go_sem] at t0)
              (try simp [go_sem] at t1)
              (try simp [go_sem] at t2)
              (try simp [go_sem] at t3)))
          all_goals try (have y12 : wr.heap.size < w2.heap.size := by omega)
          all_goals try (have y13 : wr.heap.size ≠ w2.heap.size := by omega)
          all_goals try (have y14 : wr.heap.size < w2.heap.size + 1 := by omega)
          all_goals try (have y15 : wr.heap.size ≠ w.heap.size := by omega)
          all_goals try (have y16 : wr.heap.size ≠ w.heap.size + 1 := by omega)
          all_goals go_wp2
          all_goals go_quiet ((first | (go_at_call 11; refine Calls.quiet_of_same (set_0 _ _ ?_); apply RelP.c0; (repeat (with_reducible (first | exact hr2 | apply RelP.alloc | apply RelP.drewN | apply RelP.drew | apply RelP.set0 | apply RelP.set1 | apply RelP.set2 | apply RelP.set3 | apply RelP.farR (hp := hz)))); done) | (go_at_call 11; refine Calls.quiet_of_same (set_1 _ _ ?_); apply RelP.c0; (repeat (with_reducible (first | exact hr2 | apply RelP.alloc | apply RelP.drewN | apply RelP.drew | apply RelP.set0 | apply RelP.set1 | apply RelP.set2 | apply RelP.set3 | apply RelP.farR (hp := hz)))); done) | (go_at_call 11; refine Calls.quiet_of_same (set_2 _ _ ?_); apply RelP.c0; (repeat (with_reducible (first | exact hr2 | apply RelP.alloc | apply RelP.drewN | apply RelP.drew | apply RelP.set0 | apply RelP.set1 | apply RelP.set2 | apply RelP.set3 | apply RelP.farR (hp := hz)))); done)))
          all_goals go_wp2
          all_goals go_roundw
          all_goals try (case measure => simp [intOf]; omega)
          all_goals
            apply RoundP.step hlt
            case h => (repeat (with_reducible (first | exact hr2 | apply RelP.alloc | apply RelP.drewN | apply RelP.drew | apply RelP.set0 | apply RelP.set1 | apply RelP.set2 | apply RelP.set3 | apply RelP.farR (hp := hz))))
            case ho => first | exact .inl ⟨rfl, rfl, rfl⟩ | exact .inr (.inl ⟨rfl, rfl, rfl⟩) | exact .inr (.inr ⟨rfl, rfl, rfl, by omega, by omega⟩)
        · have hlk : (0 : Int) ≤ (k : Int) := by omega
          have hlk2 : (k : Int) < (len : Int) := by omega
          have hz2 : w.heap.size < wr.heap.size := by omega
          have hn1 : w.heap.size ≠ wr.heap.size := by omega
          have hn2 : w.heap.size + 1 ≠ wr.heap.size := by omega
          try (have hd1 : decide (0 < who + 1) = true := decide_eq_true (by omega))
          try (have hd2 : decide (0 < x + 1) = true := decide_eq_true (by omega))
          go_wp2
          go_region_held3 (fun w' => w'.cell? ⟨w.heap.size + 1, 0, none⟩ = some (.bool true) ∧ w'.cell? ⟨w.heap.size + 1, 1, none⟩ = some (.int .i64 0) ∧ w'.cell? ⟨b, o + k * 2, none⟩ = some (.int .i64 kd) ∧ w'.cell? ⟨b, o + k * 2 + 1, none⟩ = some (.int .i64 x)) (first | (refine keep4 ?_ ?_ ?_ ?_ <;> first | assumption | (rw [World.cell?_setCell_other, World.cell?_setCell_other]; assumption; (intro e; injection e; omega); (intro e; injection e; omega)) | go_keep) | go_keep)
            ((go_at_call 8; ((with_reducible refine (do_wakeSet _ _ _ _ hk0 hk1).mono ?_)); rintro e w2 ⟨rfl, hb2⟩
              have hB : Below wr.heap.size wr w2 := (by
                refine Below.trans ?_ (hb2.mono ?_)
                · repeat (first | exact Below.refl _ _ | refine Below.drew ?_ | refine Below.alloc ?_ (Nat.le_refl _) _)
                · simp)
              have hA := after hr hbl e0 e1 hB
              obtain ⟨hr2, d0, d1, hs2⟩ := hA
              have hr2' := hr2
              obtain ⟨q0, q1, q2, q3, g0, g1, g2, g3, hz', hb'⟩ := hr2'
              have y0 := hb2.size
              (try simp at y0)
              have y1 : w.heap.size < w2.heap.size := (by omega)
              have y2 : w.heap.size ≠ w2.heap.size := (by omega)
              have y3 : w.heap.size + 1 ≠ w2.heap.size := (by omega)
              have y4 : b < w2.heap.size := (by omega)
              have y5 : b ≠ w2.heap.size := (by omega)
              have y6 : w.heap.size < w2.heap.size + 1 := (by omega)
              have y7 : w.heap.size + 1 < w2.heap.size + 1 := (by omega)
              have y8 : b < w2.heap.size + 1 := (by omega)
              have y9 : w.heap.size ≠ w2.heap.size + 1 := (by omega)
              have y10 : w.heap.size + 1 ≠ w2.heap.size + 1 := (by omega)
              have y11 : b ≠ w2.heap.size + 1 := (by omega)
              have t0 := (bcell hb2).1 wr.heap.size 0
              have t1 := (bcell hb2).1 wr.heap.size 1
              have t2 := (bcell hb2).2 wr.heap.size 0
              have t3 := (bcell hb2).2 wr.heap.size 1
              (try simp [go_sem] at t0)
              (try simp [go_sem] at t1)
              (try simp [go_sem] at t2)
              (try simp [go_sem] at t3)))
          all_goals try (have y12 : wr.heap.size < w2.heap.size := by omega)
          all_goals try (have y13 : wr.heap.size ≠ w2.heap.size := by omega)
          all_goals try (have y14 : wr.heap.size < w2.heap.size + 1 := by omega)
          all_goals try (have y15 : wr.heap.size ≠ w.heap.size := by omega)
          all_goals try (have y16 : wr.heap.size ≠ w.heap.size + 1 := by omega)
          all_goals go_wp2
          all_goals go_quiet ((first | (go_at_call 11; refine Calls.quiet_of_same (set_0 _ _ ?_); apply RelP.c0; (repeat (with_reducible (first | exact hr2 | apply RelP.alloc | apply RelP.drewN | apply RelP.drew | apply RelP.set0 | apply RelP.set1 | apply RelP.set2 | apply RelP.set3 | apply RelP.farR (hp := hz)))); done) | (go_at_call 11; refine Calls.quiet_of_same (set_1 _ _ ?_); apply RelP.c0; (repeat (with_reducible (first | exact hr2 | apply RelP.alloc | apply RelP.drewN | apply RelP.drew | apply RelP.set0 | apply RelP.set1 | apply RelP.set2 | apply RelP.set3 | apply RelP.farR (hp := hz)))); done) | (go_at_call 11; refine Calls.quiet_of_same (set_2 _ _ ?_); apply RelP.c0; (repeat (with_reducible (first | exact hr2 | apply RelP.alloc | apply RelP.drewN | apply RelP.drew | apply RelP.set0 | apply RelP.set1 | apply RelP.set2 | apply RelP.set3 | apply RelP.farR (hp := hz)))); done)))
          all_goals go_wp2
          all_goals go_roundw
          all_goals try (case measure => simp [intOf]; omega)
          all_goals
            apply RoundP.step hlt
            case h => (repeat (with_reducible (first | exact hr2 | apply RelP.alloc | apply RelP.drewN | apply RelP.drew | apply RelP.set0 | apply RelP.set1 | apply RelP.set2 | apply RelP.set3 | apply RelP.farR (hp := hz))))
            case ho => first | exact .inl ⟨rfl, rfl, rfl⟩ | exact .inr (.inl ⟨rfl, rfl, rfl⟩) | exact .inr (.inr ⟨rfl, rfl, rfl, by omega, by omega⟩)
        · have hlk : (0 : Int) ≤ (k : Int) := by omega
          have hlk2 : (k : Int) < (len : Int) := by omega
          have hz2 : w.heap.size < wr.heap.size := by omega
          have hn1 : w.heap.size ≠ wr.heap.size := by omega
          have hn2 : w.heap.size + 1 ≠ wr.heap.size := by omega
          try (have hd1 : decide (0 < who + 1) = true := decide_eq_true (by omega))
          try (have hd2 : decide (0 < x + 1) = true := decide_eq_true (by omega))
          go_wp2
          go_region_held3 (fun w' => w'.cell? ⟨w.heap.size + 1, 0, none⟩ = some (.bool false) ∧ w'.cell? ⟨w.heap.size + 1, 1, none⟩ = some (.int .i64 (who + 1)) ∧ w'.cell? ⟨b, o + k * 2, none⟩ = some (.int .i64 0) ∧ w'.cell? ⟨b, o + k * 2 + 1, none⟩ = some (.int .i64 x)) (first | (refine keep4 ?_ ?_ ?_ ?_ <;> first | assumption | (rw [World.cell?_setCell_other, World.cell?_setCell_other]; assumption; (intro e; injection e; omega); (intro e; injection e; omega)) | go_keep) | go_keep)
            ((go_at_call 8; ((with_reducible refine (do_clearHeld _ _ _ _ ?_).mono ?_); omega); rintro e w2 ⟨rfl, hb2⟩
              have hB : Below wr.heap.size wr w2 := (by
                refine Below.trans ?_ (hb2.mono ?_)
                · repeat (first | exact Below.refl _ _ | refine Below.drew ?_ | refine Below.alloc ?_ (Nat.le_refl _) _)
                · simp)
              have hA := after hr hbl e0 e1 hB
              obtain ⟨hr2, d0, d1, hs2⟩ := hA
              have hr2' := hr2
              obtain ⟨q0, q1, q2, q3, g0, g1, g2, g3, hz', hb'⟩ := hr2'
              have y0 := hb2.size
              (try simp at y0)
              have y1 : w.heap.size < w2.heap.size := (by omega)
              have y2 : w.heap.size ≠ w2.heap.size := (by omega)
              have y3 : w.heap.size + 1 ≠ w2.heap.size := (by omega)
              have y4 : b < w2.heap.size := (by omega)
              have y5 : b ≠ w2.heap.size := (by omega)
              have y6 : w.heap.size < w2.heap.size + 1 := (by omega)
              have y7 : w.heap.size + 1 < w2.heap.size + 1 := (by omega)
              have y8 : b < w2.heap.size + 1 := (by omega)
              have y9 : w.heap.size ≠ w2.heap.size + 1 := (by omega)
              have y10 : w.heap.size + 1 ≠ w2.heap.size + 1 := (by omega)
              have y11 : b ≠ w2.heap.size + 1 := (by omega)
              have t0 := (bcell hb2).1 wr.heap.size 0
              have t1 := (bcell hb2).1 wr.heap.size 1
              have t2 := (bcell hb2).2 wr.heap.size 0
              have t3 := (bcell hb2).2 wr.heap.size 1
              (try simp [go_sem] at t0)
              (try simp [go_sem] at t1)
              (try simp [go_sem] at t2)
              (try simp [go_sem] at t3)))
          all_goals try (have y12 : wr.heap.size < w2.heap.size := by omega)
          all_goals try (have y13 : wr.heap.size ≠ w2.heap.size := by omega)
          all_goals try (have y14 : wr.heap.size < w2.heap.size + 1 := by omega)
          all_goals try (have y15 : wr.heap.size ≠ w.heap.size := by omega)
          all_goals try (have y16 : wr.heap.size ≠ w.heap.size + 1 := by omega)
          all_goals go_wp2
          all_goals go_quiet ((first | (go_at_call 11; refine Calls.quiet_of_same (set_0 _ _ ?_); apply RelP.c0; (repeat (with_reducible (first | exact hr2 | apply RelP.alloc | apply RelP.drewN | apply RelP.drew | apply RelP.set0 | apply RelP.set1 | apply RelP.set2 | apply RelP.set3 | apply RelP.farR (hp := hz)))); done) | (go_at_call 11; refine Calls.quiet_of_same (set_1 _ _ ?_); apply RelP.c0; (repeat (with_reducible (first | exact hr2 | apply RelP.alloc | apply RelP.drewN | apply RelP.drew | apply RelP.set0 | apply RelP.set1 | apply RelP.set2 | apply RelP.set3 | apply RelP.farR (hp := hz)))); done) | (go_at_call 11; refine Calls.quiet_of_same (set_2 _ _ ?_); apply RelP.c0; (repeat (with_reducible (first | exact hr2 | apply RelP.alloc | apply RelP.drewN | apply RelP.drew | apply RelP.set0 | apply RelP.set1 | apply RelP.set2 | apply RelP.set3 | apply RelP.farR (hp := hz)))); done)))
          all_goals go_wp2
          all_goals go_roundw
          all_goals try (case measure => simp [intOf]; omega)
          all_goals
            apply RoundP.step hlt
            case h => (repeat (with_reducible (first | exact hr2 | apply RelP.alloc | apply RelP.drewN | apply RelP.drew | apply RelP.set0 | apply RelP.set1 | apply RelP.set2 | apply RelP.set3 | apply RelP.farR (hp := hz))))
            case ho => first | exact .inl ⟨rfl, rfl, rfl⟩ | exact .inr (.inl ⟨rfl, rfl, rfl⟩) | exact .inr (.inr ⟨rfl, rfl, rfl, by omega, by omega⟩)
        · have hlk : (0 : Int) ≤ (k : Int) := by omega
          have hlk2 : (k : Int) < (len : Int) := by omega
          have hz2 : w.heap.size < wr.heap.size := by omega
          have hn1 : w.heap.size ≠ wr.heap.size := by omega
          have hn2 : w.heap.size + 1 ≠ wr.heap.size := by omega
          try (have hd1 : decide (0 < who + 1) = true := decide_eq_true (by omega))
          try (have hd2 : decide (0 < x + 1) = true := decide_eq_true (by omega))
          go_wp2
          go_region_held3 (fun w' => w'.cell? ⟨w.heap.size + 1, 0, none⟩ = some (.bool false) ∧ w'.cell? ⟨w.heap.size + 1, 1, none⟩ = some (.int .i64 (who + 1)) ∧ w'.cell? ⟨b, o + k * 2, none⟩ = some (.int .i64 1) ∧ w'.cell? ⟨b, o + k * 2 + 1, none⟩ = some (.int .i64 x)) (first | (refine keep4 ?_ ?_ ?_ ?_ <;> first | assumption | (rw [World.cell?_setCell_other, World.cell?_setCell_other]; assumption; (intro e; injection e; omega); (intro e; injection e; omega)) | go_keep) | go_keep)
            ((go_at_call 8; ((with_reducible refine (do_sleepNeg _ _ _ _ ?_).mono ?_); omega); rintro e w2 ⟨rfl, hb2⟩
              have hB : Below wr.heap.size wr w2 := (by
                refine Below.trans ?_ (hb2.mono ?_)
                · repeat (first | exact Below.refl _ _ | refine Below.drew ?_ | refine Below.alloc ?_ (Nat.le_refl _) _)
                · simp)
              have hA := after hr hbl e0 e1 hB
              obtain ⟨hr2, d0, d1, hs2⟩ := hA
              have hr2' := hr2
              obtain ⟨q0, q1, q2, q3, g0, g1, g2, g3, hz', hb'⟩ := hr2'
              have y0 := hb2.size
              (try simp at y0)
              have y1 : w.heap.size < w2.heap.size := (by omega)
              have y2 : w.heap.size ≠ w2.heap.size := (by omega)
              have y3 : w.heap.size + 1 ≠ w2.heap.size := (by omega)
              have y4 : b < w2.heap.size := (by omega)
              have y5 : b ≠ w2.heap.size := (by omega)
              have y6 : w.heap.size < w2.heap.size + 1 := (by omega)
              have y7 : w.heap.size + 1 < w2.heap.size + 1 := (by omega)
              have y8 : b < w2.heap.size + 1 := (by omega)
              have y9 : w.heap.size ≠ w2.heap.size + 1 := (by omega)
              have y10 : w.heap.size + 1 ≠ w2.heap.size + 1 := (by omega)
              have y11 : b ≠ w2.heap.size + 1 := (by omega)
              have t0 := (bcell hb2).1 wr.heap.size 0
              have t1 := (bcell hb2).1 wr.heap.size 1
              have t2 := (bcell hb2).2 wr.heap.size 0
              have t3 := (bcell hb2).2 wr.heap.size 1
              (try simp [go_sem] at t0)
              (try simp [go_sem] at t1)
              (try simp [go_sem] at t2)
              (try simp [go_sem] at t3)))
          all_goals try (have y12 : wr.heap.size < w2.heap.size := by omega)
          all_goals try (have y13 : wr.heap.size ≠ w2.heap.size := by omega)
          all_goals try (have y14 : wr.heap.size < w2.heap.size + 1 := by omega)
          all_goals try (have y15 : wr.heap.size ≠ w.heap.size := by omega)
          all_goals try (have y16 : wr.heap.size ≠ w.heap.size + 1 := by omega)
          all_goals go_wp2
          all_goals go_quiet ((first | (go_at_call 11; refine Calls.quiet_of_same (set_0 _ _ ?_); apply RelP.c0; (repeat (with_reducible (first | exact hr2 | apply RelP.alloc | apply RelP.drewN | apply RelP.drew | apply RelP.set0 | apply RelP.set1 | apply RelP.set2 | apply RelP.set3 | apply RelP.farR (hp := hz)))); done) | (go_at_call 11; refine Calls.quiet_of_same (set_1 _ _ ?_); apply RelP.c0; (repeat (with_reducible (first | exact hr2 | apply RelP.alloc | apply RelP.drewN | apply RelP.drew | apply RelP.set0 | apply RelP.set1 | apply RelP.set2 | apply RelP.set3 | apply RelP.farR (hp := hz)))); done) | (go_at_call 11; refine Calls.quiet_of_same (set_2 _ _ ?_); apply RelP.c0; (repeat (with_reducible (first | exact hr2 | apply RelP.alloc | apply RelP.drewN | apply RelP.drew | apply RelP.set0 | apply RelP.set1 | apply RelP.set2 | apply RelP.set3 | apply RelP.farR (hp := hz)))); done)))
          all_goals go_wp2
          all_goals go_roundw
          all_goals try (case measure => simp [intOf]; omega)
          all_goals
            apply RoundP.step hlt
            case h => (repeat (with_reducible (first | exact hr2 | apply RelP.alloc | apply RelP.drewN | apply RelP.drew | apply RelP.set0 | apply RelP.set1 | apply RelP.set2 | apply RelP.set3 | apply RelP.farR (hp := hz))))
            case ho => first | exact .inl ⟨rfl, rfl, rfl⟩ | exact .inr (.inl ⟨rfl, rfl, rfl⟩) | exact .inr (.inr ⟨rfl, rfl, rfl, by omega, by omega⟩)
        · have hlk : (0 : Int) ≤ (k : Int) := by omega
          have hlk2 : (k : Int) < (len : Int) := by omega
          have hz2 : w.heap.size < wr.heap.size := by omega
          have hn1 : w.heap.size ≠ wr.heap.size := by omega
          have hn2 : w.heap.size + 1 ≠ wr.heap.size := by omega
          try (have hd1 : decide (0 < who + 1) = true := decide_eq_true (by omega))
          try (have hd2 : decide (0 < x + 1) = true := decide_eq_true (by omega))
          go_wp2
          go_region_held3 (fun w' => w'.cell? ⟨w.heap.size + 1, 0, none⟩ = some (.bool false) ∧ w'.cell? ⟨w.heap.size + 1, 1, none⟩ = some (.int .i64 (who + 1)) ∧ w'.cell? ⟨b, o + k * 2, none⟩ = some (.int .i64 1) ∧ w'.cell? ⟨b, o + k * 2 + 1, none⟩ = some (.int .i64 x)) (first | (refine keep4 ?_ ?_ ?_ ?_ <;> first | assumption | (rw [World.cell?_setCell_other, World.cell?_setCell_other]; assumption; (intro e; injection e; omega); (intro e; injection e; omega)) | go_keep) | go_keep)
            ((go_at_call 8; ((with_reducible refine (do_sleepBig _ _ _ _ ?_ ?_).mono ?_); omega; omega); rintro e w2 ⟨rfl, hb2⟩
              have hB : Below wr.heap.size wr w2 := (by
                refine Below.trans ?_ (hb2.mono ?_)
                · repeat (first | exact Below.refl _ _ | refine Below.drew ?_ | refine Below.alloc ?_ (Nat.le_refl _) _)
                · simp)
              have hA := after hr hbl e0 e1 hB
              obtain ⟨hr2, d0, d1, hs2⟩ := hA
              have hr2' := hr2
              obtain ⟨q0, q1, q2, q3, g0, g1, g2, g3, hz', hb'⟩ := hr2'
              have y0 := hb2.size
              (try simp at y0)
              have y1 : w.heap.size < w2.heap.size := (by omega)
              have y2 : w.heap.size ≠ w2.heap.size := (by omega)
              have y3 : w.heap.size + 1 ≠ w2.heap.size := (by omega)
              have y4 : b < w2.heap.size := (by omega)
              have y5 : b ≠ w2.heap.size := (by omega)
              have y6 : w.heap.size < w2.heap.size + 1 := (by omega)
              have y7 : w.heap.size + 1 < w2.heap.size + 1 := (by omega)
              have y8 : b < w2.heap.size + 1 := (by omega)
              have y9 : w.heap.size ≠ w2.heap.size + 1 := (by omega)
              have y10 : w.heap.size + 1 ≠ w2.heap.size + 1 := (by omega)
              have y11 : b ≠ w2.heap.size + 1 := (by omega)
              have t0 := (bcell hb2).1 wr.heap.size 0
              have t1 := (bcell hb2).1 wr.heap.size 1
              have t2 := (bcell hb2).2 wr.heap.size 0
              have t3 := (bcell hb2).2 wr.heap.size 1
              (try simp [go_sem] at t0)
              (try simp [go_sem] at t1)
              (try simp [go_sem] at t2)
              (try simp [go_sem] at t3)))
          all_goals try (have y12 : wr.heap.size < w2.heap.size := by omega)
          all_goals try (have y13 : wr.heap.size ≠ w2.heap.size := by omega)
          all_goals try (have y14 : wr.heap.size < w2.heap.size + 1 := by omega)
          all_goals try (have y15 : wr.heap.size ≠ w.heap.size := by omega)
          all_goals try (have y16 : wr.heap.size ≠ w.heap.size + 1 := by omega)
          all_goals go_wp2
          all_goals go_quiet ((first | (go_at_call 11; refine Calls.quiet_of_same (set_0 _ _ ?_); apply RelP.c0; (repeat (with_reducible (first | exact hr2 | apply RelP.alloc | apply RelP.drewN | apply RelP.drew | apply RelP.set0 | apply RelP.set1 | apply RelP.set2 | apply RelP.set3 | apply RelP.farR (hp := hz)))); done) | (go_at_call 11; refine Calls.quiet_of_same (set_1 _ _ ?_); apply RelP.c0; (repeat (with_reducible (first | exact hr2 | apply RelP.alloc | apply RelP.drewN | apply RelP.drew | apply RelP.set0 | apply RelP.set1 | apply RelP.set2 | apply RelP.set3 | apply RelP.farR (hp := hz)))); done) | (go_at_call 11; refine Calls.quiet_of_same (set_2 _ _ ?_); apply RelP.c0; (repeat (with_reducible (first | exact hr2 | apply RelP.alloc | apply RelP.drewN | apply RelP.drew | apply RelP.set0 | apply RelP.set1 | apply RelP.set2 | apply RelP.set3 | apply RelP.farR (hp := hz)))); done)))
          all_goals go_wp2
          all_goals go_roundw
          all_goals try (case measure => simp [intOf]; omega)
          all_goals
            apply RoundP.step hlt
            case h => (repeat (with_reducible (first | exact hr2 | apply RelP.alloc | apply RelP.drewN | apply RelP.drew | apply RelP.set0 | apply RelP.set1 | apply RelP.set2 | apply RelP.set3 | apply RelP.farR (hp := hz))))
            case ho => first | exact .inl ⟨rfl, rfl, rfl⟩ | exact .inr (.inl ⟨rfl, rfl, rfl⟩) | exact .inr (.inr ⟨rfl, rfl, rfl, by omega, by omega⟩)
        · have hlk : (0 : Int) ≤ (k : Int) := by omega
          have hlk2 : (k : Int) < (len : Int) := by omega
          have hz2 : w.heap.size < wr.heap.size := by omega
          have hn1 : w.heap.size ≠ wr.heap.size := by omega
          have hn2 : w.heap.size + 1 ≠ wr.heap.size := by omega
          try (have hd1 : decide (0 < who + 1) = true := decide_eq_true (by omega))
          try (have hd2 : decide (0 < x + 1) = true := decide_eq_true (by omega))
          go_wp2
          go_region_held3 (fun w' => w'.cell? ⟨w.heap.size + 1, 0, none⟩ = some (.bool false) ∧ w'.cell? ⟨w.heap.size + 1, 1, none⟩ = some (.int .i64 (who + 1)) ∧ w'.cell? ⟨b, o + k * 2, none⟩ = some (.int .i64 1) ∧ w'.cell? ⟨b, o + k * 2 + 1, none⟩ = some (.int .i64 x)) (first | (refine keep4 ?_ ?_ ?_ ?_ <;> first | assumption | (rw [World.cell?_setCell_other, World.cell?_setCell_other]; assumption; (intro e; injection e; omega); (intro e; injection e; omega)) | go_keep) | go_keep)
            ((go_at_call 8; ((with_reducible refine (do_sleepOther _ _ _ _ ?_ ?_ ?_ ?_).mono ?_); omega; omega; omega; (simp at hw; simp; omega)); rintro e w2 ⟨rfl, hb2⟩
              have hB : Below wr.heap.size wr w2 := (by
                refine Below.trans ?_ (hb2.mono ?_)
                · repeat (first | exact Below.refl _ _ | refine Below.drew ?_ | refine Below.alloc ?_ (Nat.le_refl _) _)
                · simp)
              have hA := after hr hbl e0 e1 hB
              obtain ⟨hr2, d0, d1, hs2⟩ := hA
              have hr2' := hr2
              obtain ⟨q0, q1, q2, q3, g0, g1, g2, g3, hz', hb'⟩ := hr2'
              have y0 := hb2.size
              (try simp at y0)
              have y1 : w.heap.size < w2.heap.size := (by omega)
              have y2 : w.heap.size ≠ w2.heap.size := (by omega)
              have y3 : w.heap.size + 1 ≠ w2.heap.size := (by omega)
              have y4 : b < w2.heap.size := (by omega)
              have y5 : b ≠ w2.heap.size := (by omega)
              have y6 : w.heap.size < w2.heap.size + 1 := (by omega)
              have y7 : w.heap.size + 1 < w2.heap.size + 1 := (by omega)
              have y8 : b < w2.heap.size + 1 := (by omega)
              have y9 : w.heap.size ≠ w2.heap.size + 1 := (by omega)
              have y10 : w.heap.size + 1 ≠ w2.heap.size + 1 := (by omega)
              have y11 : b ≠ w2.heap.size + 1 := (by omega)
              have t0 := (bcell hb2).1 wr.heap.size 0
              have t1 := (bcell hb2).1 wr.heap.size 1
              have t2 := (bcell hb2).2 wr.heap.size 0
              have t3 := (bcell hb2).2 wr.heap.size 1
              (try simp [go_sem] at t0)
              (try simp [go_sem] at t1)
              (try simp [go_sem] at t2)
              (try simp [go_sem] at t3)))
          all_goals try (have y12 : wr.heap.size < w2.heap.size := by omega)
          all_goals try (have y13 : wr.heap.size ≠ w2.heap.size := by omega)
          all_goals try (have y14 : wr.heap.size < w2.heap.size + 1 := by omega)
          all_goals try (have y15 : wr.heap.size ≠ w.heap.size := by omega)
          all_goals try (have y16 : wr.heap.size ≠ w.heap.size + 1 := by omega)
          all_goals go_wp2
          all_goals go_quiet ((first | (go_at_call 11; refine Calls.quiet_of_same (set_0 _ _ ?_); apply RelP.c0; (repeat (with_reducible (first | exact hr2 | apply RelP.alloc | apply RelP.drewN | apply RelP.drew | apply RelP.set0 | apply RelP.set1 | apply RelP.set2 | apply RelP.set3 | apply RelP.farR (hp := hz)))); done) | (go_at_call 11; refine Calls.quiet_of_same (set_1 _ _ ?_); apply RelP.c0; (repeat (with_reducible (first | exact hr2 | apply RelP.alloc | apply RelP.drewN | apply RelP.drew | apply RelP.set0 | apply RelP.set1 | apply RelP.set2 | apply RelP.set3 | apply RelP.farR (hp := hz)))); done) | (go_at_call 11; refine Calls.quiet_of_same (set_2 _ _ ?_); apply RelP.c0; (repeat (with_reducible (first | exact hr2 | apply RelP.alloc | apply RelP.drewN | apply RelP.drew | apply RelP.set0 | apply RelP.set1 | apply RelP.set2 | apply RelP.set3 | apply RelP.farR (hp := hz)))); done)))
          all_goals go_wp2
          all_goals go_roundw
          all_goals try (case measure => simp [intOf]; omega)
          all_goals
            apply RoundP.step hlt
            case h => (repeat (with_reducible (first | exact hr2 | apply RelP.alloc | apply RelP.drewN | apply RelP.drew | apply RelP.set0 | apply RelP.set1 | apply RelP.set2 | apply RelP.set3 | apply RelP.farR (hp := hz))))
            case ho => first | exact .inl ⟨rfl, rfl, rfl⟩ | exact .inr (.inl ⟨rfl, rfl, rfl⟩) | exact .inr (.inr ⟨rfl, rfl, rfl, by omega, by omega⟩)
        · have hlk : (0 : Int) ≤ (k : Int) := by omega
          have hlk2 : (k : Int) < (len : Int) := by omega
          have hz2 : w.heap.size < wr.heap.size := by omega
          have hn1 : w.heap.size ≠ wr.heap.size := by omega
          have hn2 : w.heap.size + 1 ≠ wr.heap.size := by omega
          try (have hd1 : decide (0 < who + 1) = true := decide_eq_true (by omega))
          try (have hd2 : decide (0 < x + 1) = true := decide_eq_true (by omega))
          go_wp2
          go_region_held3 (fun w' => w'.cell? ⟨w.heap.size + 1, 0, none⟩ = some (.bool false) ∧ w'.cell? ⟨w.heap.size + 1, 1, none⟩ = some (.int .i64 (who + 1)) ∧ w'.cell? ⟨b, o + k * 2, none⟩ = some (.int .i64 1) ∧ w'.cell? ⟨b, o + k * 2 + 1, none⟩ = some (.int .i64 who)) (first | (refine keep4 ?_ ?_ ?_ ?_ <;> first | assumption | (rw [World.cell?_setCell_other, World.cell?_setCell_other]; assumption; (intro e; injection e; omega); (intro e; injection e; omega)) | go_keep) | go_keep)
            ((go_at_call 8; ((with_reducible refine (do_sleepSame _ _ ?_ ?_).mono ?_); omega; omega); rintro e w2 ⟨rfl, hb2⟩
              have hB : Below wr.heap.size wr w2 := (by
                refine Below.trans ?_ (hb2.mono ?_)
                · repeat (first | exact Below.refl _ _ | refine Below.drew ?_ | refine Below.alloc ?_ (Nat.le_refl _) _)
                · simp)
              have hA := after hr hbl e0 e1 hB
              obtain ⟨hr2, d0, d1, hs2⟩ := hA
              have hr2' := hr2
              obtain ⟨q0, q1, q2, q3, g0, g1, g2, g3, hz', hb'⟩ := hr2'
              have y0 := hb2.size
              (try simp at y0)
              have y1 : w.heap.size < w2.heap.size := (by omega)
              have y2 : w.heap.size ≠ w2.heap.size := (by omega)
              have y3 : w.heap.size + 1 ≠ w2.heap.size := (by omega)
              have y4 : b < w2.heap.size := (by omega)
              have y5 : b ≠ w2.heap.size := (by omega)
              have y6 : w.heap.size < w2.heap.size + 1 := (by omega)
              have y7 : w.heap.size + 1 < w2.heap.size + 1 := (by omega)
              have y8 : b < w2.heap.size + 1 := (by omega)
              have y9 : w.heap.size ≠ w2.heap.size + 1 := (by omega)
              have y10 : w.heap.size + 1 ≠ w2.heap.size + 1 := (by omega)
              have y11 : b ≠ w2.heap.size + 1 := (by omega)
              have t0 := (bcell hb2).1 wr.heap.size 0
              have t1 := (bcell hb2).1 wr.heap.size 1
              have t2 := (bcell hb2).2 wr.heap.size 0
              have t3 := (bcell hb2).2 wr.heap.size 1
              (try simp [go_sem] at t0)
              (try simp [go_sem] at t1)
              (try simp [go_sem] at t2)
              (try simp [go_sem] at t3)))
          all_goals try (have y12 : wr.heap.size < w2.heap.size := by omega)
          all_goals try (have y13 : wr.heap.size ≠ w2.heap.size := by omega)
          all_goals try (have y14 : wr.heap.size < w2.heap.size + 1 := by omega)
          all_goals try (have y15 : wr.heap.size ≠ w.heap.size := by omega)
          all_goals try (have y16 : wr.heap.size ≠ w.heap.size + 1 := by omega)
          all_goals go_wp2
          all_goals go_quiet ((first | (go_at_call 11; refine Calls.quiet_of_same (set_0 _ _ ?_); apply RelP.c0; (repeat (with_reducible (first | exact hr2 | apply RelP.alloc | apply RelP.drewN | apply RelP.drew | apply RelP.set0 | apply RelP.set1 | apply RelP.set2 | apply RelP.set3 | apply RelP.farR (hp := hz)))); done) | (go_at_call 11; refine Calls.quiet_of_same (set_1 _ _ ?_); apply RelP.c0; (repeat (with_reducible (first | exact hr2 | apply RelP.alloc | apply RelP.drewN | apply RelP.drew | apply RelP.set0 | apply RelP.set1 | apply RelP.set2 | apply RelP.set3 | apply RelP.farR (hp := hz)))); done) | (go_at_call 11; refine Calls.quiet_of_same (set_2 _ _ ?_); apply RelP.c0; (repeat (with_reducible (first | exact hr2 | apply RelP.alloc | apply RelP.drewN | apply RelP.drew | apply RelP.set0 | apply RelP.set1 | apply RelP.set2 | apply RelP.set3 | apply RelP.farR (hp := hz)))); done)))
          all_goals go_wp2
          all_goals go_roundw
          all_goals try (case measure => simp [intOf]; omega)
          all_goals
            apply RoundP.step hlt
            case h => (repeat (with_reducible (first | exact hr2 | apply RelP.alloc | apply RelP.drewN | apply RelP.drew | apply RelP.set0 | apply RelP.set1 | apply RelP.set2 | apply RelP.set3 | apply RelP.farR (hp := hz))))
            case ho => first | exact .inl ⟨rfl, rfl, rfl⟩ | exact .inr (.inl ⟨rfl, rfl, rfl⟩) | exact .inr (.inr ⟨rfl, rfl, rfl, by omega, by omega⟩)
        · have hlk : (0 : Int) ≤ (k : Int) := by omega
          have hlk2 : (k : Int) < (len : Int) := by omega
          have hz2 : w.heap.size < wr.heap.size := by omega
          have hn1 : w.heap.size ≠ wr.heap.size := by omega
          have hn2 : w.heap.size + 1 ≠ wr.heap.size := by omega
          try (have hd1 : decide (0 < who + 1) = true := decide_eq_true (by omega))
          try (have hd2 : decide (0 < x + 1) = true := decide_eq_true (by omega))
          go_wp2
          go_region_held3 (fun w' => w'.cell? ⟨w.heap.size + 1, 0, none⟩ = some (.bool false) ∧ w'.cell? ⟨w.heap.size + 1, 1, none⟩ = some (.int .i64 (who + 1)) ∧ w'.cell? ⟨b, o + k * 2, none⟩ = some (.int .i64 kd) ∧ w'.cell? ⟨b, o + k * 2 + 1, none⟩ = some (.int .i64 x)) (first | (refine keep4 ?_ ?_ ?_ ?_ <;> first | assumption | (rw [World.cell?_setCell_other, World.cell?_setCell_other]; assumption; (intro e; injection e; omega); (intro e; injection e; omega)) | go_keep) | go_keep)
            ((go_at_call 8; ((with_reducible refine (do_wakeOk _ _ _ _ hk0 hk1 ?_ ?_).mono ?_); omega; omega); rintro e w2 ⟨rfl, hb2⟩
              have hB : Below wr.heap.size wr w2 := (by
                refine Below.trans ?_ (hb2.mono ?_)
                · repeat (first | exact Below.refl _ _ | refine Below.drew ?_ | refine Below.alloc ?_ (Nat.le_refl _) _)
                · simp)
              have hA := after hr hbl e0 e1 hB
              obtain ⟨hr2, d0, d1, hs2⟩ := hA
              have hr2' := hr2
              obtain ⟨q0, q1, q2, q3, g0, g1, g2, g3, hz', hb'⟩ := hr2'
              have y0 := hb2.size
              (try simp at y0)
              have y1 : w.heap.size < w2.heap.size := (by omega)
              have y2 : w.heap.size ≠ w2.heap.size := (by omega)
              have y3 : w.heap.size + 1 ≠ w2.heap.size := (by omega)
              have y4 : b < w2.heap.size := (by omega)
              have y5 : b ≠ w2.heap.size := (by omega)
              have y6 : w.heap.size < w2.heap.size + 1 := (by omega)
              have y7 : w.heap.size + 1 < w2.heap.size + 1 := (by omega)
              have y8 : b < w2.heap.size + 1 := (by omega)
              have y9 : w.heap.size ≠ w2.heap.size + 1 := (by omega)
              have y10 : w.heap.size + 1 ≠ w2.heap.size + 1 := (by omega)
              have y11 : b ≠ w2.heap.size + 1 := (by omega)
              have t0 := (bcell hb2).1 wr.heap.size 0
              have t1 := (bcell hb2).1 wr.heap.size 1
              have t2 := (bcell hb2).2 wr.heap.size 0
              have t3 := (bcell hb2).2 wr.heap.size 1
              (try simp [go_sem] at t0)
              (try simp [go_sem] at t1)
              (try simp [go_sem] at t2)
              (try simp [go_sem] at t3)))
          all_goals try (have y12 : wr.heap.size < w2.heap.size := by omega)
          all_goals try (have y13 : wr.heap.size ≠ w2.heap.size := by omega)
          all_goals try (have y14 : wr.heap.size < w2.heap.size + 1 := by omega)
          all_goals try (have y15 : wr.heap.size ≠ w.heap.size := by omega)
          all_goals try (have y16 : wr.heap.size ≠ w.heap.size + 1 := by omega)
          all_goals go_wp2
          all_goals go_quiet ((first | (go_at_call 11; refine Calls.quiet_of_same (set_0 _ _ ?_); apply RelP.c0; (repeat (with_reducible (first | exact hr2 | apply RelP.alloc | apply RelP.drewN | apply RelP.drew | apply RelP.set0 | apply RelP.set1 | apply RelP.set2 | apply RelP.set3 | apply RelP.farR (hp := hz)))); done) | (go_at_call 11; refine Calls.quiet_of_same (set_1 _ _ ?_); apply RelP.c0; (repeat (with_reducible (first | exact hr2 | apply RelP.alloc | apply RelP.drewN | apply RelP.drew | apply RelP.set0 | apply RelP.set1 | apply RelP.set2 | apply RelP.set3 | apply RelP.farR (hp := hz)))); done) | (go_at_call 11; refine Calls.quiet_of_same (set_2 _ _ ?_); apply RelP.c0; (repeat (with_reducible (first | exact hr2 | apply RelP.alloc | apply RelP.drewN | apply RelP.drew | apply RelP.set0 | apply RelP.set1 | apply RelP.set2 | apply RelP.set3 | apply RelP.farR (hp := hz)))); done)))
          all_goals go_wp2
          all_goals go_roundw
          all_goals try (case measure => simp [intOf]; omega)
          all_goals
            apply RoundP.step hlt
            case h => (repeat (with_reducible (first | exact hr2 | apply RelP.alloc | apply RelP.drewN | apply RelP.drew | apply RelP.set0 | apply RelP.set1 | apply RelP.set2 | apply RelP.set3 | apply RelP.farR (hp := hz))))
            case ho => first | exact .inl ⟨rfl, rfl, rfl⟩ | exact .inr (.inl ⟨rfl, rfl, rfl⟩) | exact .inr (.inr ⟨rfl, rfl, rfl, by omega, by omega⟩)
      · go_wp2_with (go_at_call 6; refine (alive_any _).mono ?_; rintro e w' ⟨rfl, hb2⟩)
        go_ret
        exact ⟨rfl, hb.trans (hb2.mono (by omega))⟩
end Go.Proofs.Ythlkkljnmgmhhaa
