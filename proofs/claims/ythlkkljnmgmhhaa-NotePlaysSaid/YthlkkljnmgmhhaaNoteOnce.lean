/- The walk of the law NoteOnce (P305). -/
import Derived.Test.YthlkkljnmgmhhaaBase
import Derived.Test.YthlkkljnmgmhhaaAlive
namespace Go.Proofs.Ythlkkljnmgmhhaa
open Go.ChangeShapes Go.WideShapes Go.ChangeAt Go.RowKit

theorem ways (who kd x : Int) : kd = 0 ∨ (kd = 1 ∧ x < 0) ∨ (kd = 1 ∧ 0 ≤ x ∧ 1099511627776 < x) ∨ (kd = 1 ∧ 0 ≤ x ∧ x ≤ 1099511627776 ∧ (who != x) = true) ∨ (kd = 1 ∧ 0 ≤ x ∧ x ≤ 1099511627776 ∧ who = x) ∨ ((kd == 0) = false ∧ (kd == 1) = false) := by
  by_cases h0 : kd = 0
  · exact .inl h0
  by_cases h1 : kd = 1
  · by_cases hx : x < 0
    · exact .inr (.inl ⟨h1, hx⟩)
    by_cases hx2 : 1099511627776 < x
    · exact .inr (.inr (.inl ⟨h1, by omega, hx2⟩))
    by_cases hw : who = x
    · exact .inr (.inr (.inr (.inr (.inl ⟨h1, by omega, by omega, hw⟩))))
    · exact .inr (.inr (.inr (.inl ⟨h1, by omega, by omega, by simpa using hw⟩)))
  · exact .inr (.inr (.inr (.inr (.inr ⟨by simpa using h0, by simpa using h1⟩))))

/-- The note lies in block B = w.heap.size: its state and who sleeps; the world has only grown. -/
def Rel (w wr : World) (s who : Int) : Prop :=
  wr.cell? ⟨w.heap.size, 0, none⟩ = some (.int .i64 s) ∧ wr.cell? ⟨w.heap.size, 1, none⟩ = some (.int .i64 who) ∧ wr.frozen? ⟨w.heap.size, 0, none⟩ = false ∧ wr.frozen? ⟨w.heap.size, 1, none⟩ = false ∧ w.heap.size < wr.heap.size ∧ Below w.heap.size w wr

theorem Rel.alloc {w wr : World} {s who : Int} (h : Rel w wr s who) (o : Obj) : Rel w (wr.alloc o) s who := by
  obtain ⟨c0, c1, f0, f1, hz, hb⟩ := h
  refine ⟨?_, ?_, ?_, ?_, ?_, hb.alloc (by omega) o⟩
  · rw [World.cell?_alloc_lt wr o _ hz]; exact c0
  · rw [World.cell?_alloc_lt wr o _ hz]; exact c1
  · rw [← f0]; exact World.frozen?_of_block (Below.heap_alloc wr o _ hz)
  · rw [← f1]; exact World.frozen?_of_block (Below.heap_alloc wr o _ hz)
  · simp; omega
theorem Rel.set0 {w wr : World} {s who : Int} (h : Rel w wr s who) (n : Int) : Rel w (wr.setCell ⟨w.heap.size, 0, none⟩ (.int .i64 n)) n who := by
  obtain ⟨c0, c1, f0, f1, hz, hb⟩ := h
  refine ⟨World.cell?_setCell_same' _ _ _ (by rw [c0]; rfl), ?_, by rw [World.frozen?_setCell]; exact f0, by rw [World.frozen?_setCell]; exact f1, by simpa [World.setCell] using hz, hb.setCell (Nat.le_refl _) _⟩
  rw [World.cell?_setCell_other _ _ _ _ (by simp)]; exact c1
theorem Rel.set1 {w wr : World} {s who : Int} (h : Rel w wr s who) (n : Int) : Rel w (wr.setCell ⟨w.heap.size, 1, none⟩ (.int .i64 n)) s n := by
  obtain ⟨c0, c1, f0, f1, hz, hb⟩ := h
  refine ⟨?_, World.cell?_setCell_same' _ _ _ (by rw [c1]; rfl), by rw [World.frozen?_setCell]; exact f0, by rw [World.frozen?_setCell]; exact f1, by simpa [World.setCell] using hz, hb.setCell (Nat.le_refl _) _⟩
  rw [World.cell?_setCell_other _ _ _ _ (by simp)]; exact c0

/-- What holds at the head of a round: number k, the note's state, and how many were waked. -/
def Round (w : World) (len : Nat) (wk i : Value) (wr : World) : Prop :=
  ∃ (k : Nat) (s who m : Int), k ≤ len ∧ i = .int .i64 k ∧ wk = .int .i64 m ∧ (s = 0 ∧ m = 0 ∨ s = 1 ∧ m = 1 ∨ s = 2 ∧ m = 0) ∧ Rel w wr s who
def okS (s m : Int) : Bool := (s == 0 && m == 0) || (s == 1 && m == 1) || (s == 2 && m == 0)
theorem Round.step {w wr : World} {len k : Nat} {s who m : Int} (hk : k < len) (h : Rel w wr s who) (ho : okS s m = true) : Round w len (.int .i64 m) (.int .i64 ((k : Int) + 1)) wr :=
  ⟨k + 1, s, who, m, by omega, by go_num, rfl, by simpa [okS, or_assoc] using ho, h⟩

set_option maxHeartbeats 4000000 in
theorem walk_noteOnce (A : Option Addr) (len cap : Nat) (z : Nat → Int) (w : World) (hF : Flat w A len 2 z) :
    Calls Try.prog 4 #[.slice A len cap] w fun e w' => e = .returned (.bool true) ∧ Below w.heap.size w w' := by
  have hm := hF.1
  unfold maxLen at hm
  by_cases h100 : 100 < len
  · go_enter Try.func4, Try.ntmps4
    go_wp2_with (go_at_call 6; refine (alive_any _).mono ?_; rintro e w' ⟨rfl, hb⟩)
    go_ret
    exact ⟨rfl, hb⟩
  · go_enter Try.func4, Try.ntmps4
    go_wp2
    go_loopw [4, 5] (fun wk i wr => Round w len wk i wr) (fun _ i _ => len - (intOf i).toNat)
    case atStart => exact ⟨0, 0, 0, 0, Nat.zero_le _, rfl, rfl, .inl ⟨rfl, rfl⟩, by simp [go_sem], by simp [go_sem], by simp [go_sem], by simp [go_sem], by simp, (Below.refl _ _).alloc (Nat.le_refl _) _⟩
    case round =>
      obtain ⟨k, s, who, m, hk, rfl, rfl, hs, hr⟩ := hrel
      have hr' := hr
      obtain ⟨c0, c1, f0, f1, hz, hb⟩ := hr'
      by_cases hlt : k < len
      · obtain ⟨b, o, rfl, hbl, hc⟩ := hF.2 (by omega)
        have e0 : wr.cell? ⟨b, o + k * 2, none⟩ = some (.int .i64 (z (k * 2))) := (hb.cell (p := ⟨b, o + k * 2, none⟩) hbl).trans (hc (k * 2) (by omega)).1
        have e1 : wr.cell? ⟨b, o + k * 2 + 1, none⟩ = some (.int .i64 (z (k * 2 + 1))) := (hb.cell (p := ⟨b, o + k * 2 + 1, none⟩) hbl).trans (hc (k * 2 + 1) (by omega)).1
        have hne : b ≠ w.heap.size := by omega
        have hbw : b < wr.heap.size := by omega
        have hbn : b ≠ wr.heap.size := by omega
        generalize z (k * 2) = kd at e0
        generalize z (k * 2 + 1) = x at e1
        clear hF hc
        have hkd := ways who kd x
        rcases hs with ⟨rfl, rfl⟩ | ⟨rfl, rfl⟩ | ⟨rfl, rfl⟩
        all_goals rcases hkd with rfl | ⟨rfl, hx⟩ | ⟨rfl, hx, hx2⟩ | ⟨rfl, hx, hx2, hw⟩ | ⟨rfl, hx, hx2, rfl⟩ | ⟨hk0, hk1⟩
        all_goals go_wp2
        all_goals go_roundw
        all_goals try (case measure => simp [intOf]; omega)
        all_goals with_reducible first
          | exact Round.step hlt (hr.alloc _) rfl
          | exact Round.step hlt ((hr.set0 _).alloc _) rfl
          | exact Round.step hlt (((hr.set0 _).set1 _).alloc _) rfl
      · go_wp2_with (go_at_call 6; refine (alive_any _).mono ?_; rintro e w' ⟨rfl, hb2⟩)
        go_ret
        exact ⟨rfl, hb.trans (hb2.mono (by omega))⟩
end Go.Proofs.Ythlkkljnmgmhhaa
