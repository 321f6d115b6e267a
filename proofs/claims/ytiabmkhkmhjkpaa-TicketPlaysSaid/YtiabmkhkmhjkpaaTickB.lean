/- The document's lock; an act on both; the walk of the law TicketPlays. -/
import Derived.Test.YtiabmkhkmhjkpaaTickA
import Derived.Deep.RegionHeld3
namespace Go.Proofs.Ytiabmkhkmhjkpaa
open Go.ChangeShapes Go.WideShapes Go.ChangeAt Go.RowKit Go.Deep
set_option linter.unusedVariables false

def RL (W : World) (Q : Nat) (v0 v1 n : Int) : Prop := Blk W Q 32 #[.int .i64 v0, .int .i64 v1, .int .i64 n]
theorem RL.cells_ {W : World} {Q : Nat} {v0 v1 n : Int} (h : RL W Q v0 v1 n) : W.cell? ⟨Q, 0, none⟩ = some (.int .i64 v0) ∧ W.cell? ⟨Q, 1, none⟩ = some (.int .i64 v1) ∧ W.cell? ⟨Q, 2, none⟩ = some (.int .i64 n) ∧ W.frozen? ⟨Q, 0, none⟩ = false ∧ W.frozen? ⟨Q, 1, none⟩ = false ∧ W.frozen? ⟨Q, 2, none⟩ = false := by
  have h' : Blk W Q _ _ := h
  exact ⟨by rw [h'.cell]; rfl, by rw [h'.cell]; rfl, by rw [h'.cell]; rfl, h'.frozen 0, h'.frozen 1, h'.frozen 2⟩
theorem RL.s0 {W : World} {Q : Nat} {v0 v1 n : Int} (h : RL W Q v0 v1 n) (x : Int) : RL (W.setCell ⟨Q, 0, none⟩ (.int .i64 x)) Q x v1 n := by
  have h' : Blk W Q _ _ := h
  have := h'.set_ 0 (.int .i64 x)
  simpa [RL] using this
theorem RL.s1 {W : World} {Q : Nat} {v0 v1 n : Int} (h : RL W Q v0 v1 n) (x : Int) : RL (W.setCell ⟨Q, 1, none⟩ (.int .i64 x)) Q v0 x n := by
  have h' : Blk W Q _ _ := h
  have := h'.set_ 1 (.int .i64 x)
  simpa [RL] using this
theorem RL.s2 {W : World} {Q : Nat} {v0 v1 n : Int} (h : RL W Q v0 v1 n) (x : Int) : RL (W.setCell ⟨Q, 2, none⟩ (.int .i64 x)) Q v0 v1 x := by
  have h' : Blk W Q _ _ := h
  have := h'.set_ 2 (.int .i64 x)
  simpa [RL] using this
theorem RL.kept {S : Nat → Prop} {W W' : World} {Q : Nat} {v0 v1 n : Int} (h : RL W Q v0 v1 n) (hc : Chg S W W') (hn : ¬ S Q) : RL W' Q v0 v1 n := Blk.kept h hc hn
theorem chgQ (W : World) (Q i : Nat) (u : Value) : Chg (fun g => g = Q) W (W.setCell ⟨Q, i, none⟩ u) := (Chg.refl (fun g => g = Q) _).setCell (.inl rfl) _
theorem chgQ2 {W W' : World} {Q : Nat} (h : Chg (fun g => g = Q) W W') (i : Nat) (u : Value) : Chg (fun g => g = Q) W (W'.setCell ⟨Q, i, none⟩ u) := h.setCell (.inl rfl) _

set_option maxHeartbeats 1000000 in
theorem rtake_any (Q : Nat) (v0 v1 n : Int) (W : World) (h : RL W Q v0 v1 n) (hn0 : 0 ≤ n) (hn1 : n < 10000) :
    Calls Try.prog 21 #[.pointer (some ⟨Q, 0, none⟩)] W fun e W' => e = .returned (.int .i64 (wrap64 (wadd v0 1 - 1))) ∧ RL W' Q (wadd v0 1) v1 (n + 1) ∧ Chg (fun g => g = Q) W W' := by
  obtain ⟨q0, q1, q2, f0, f1, f2⟩ := h.cells_
  have H := Lib.hid h
  clear h
  go_enter Try.func21, Try.ntmps21
  go_wp2
  go_ret
  exact ⟨rfl, (H.out.s2 _).s0 _, chgQ2 (chgQ _ _ _ _) _ _⟩
set_option maxHeartbeats 1000000 in
theorem rmine_any (Q : Nat) (v0 v1 n x : Int) (W : World) (h : RL W Q v0 v1 n) (hn0 : 0 ≤ n) (hn1 : n < 10000) :
    Calls Try.prog 22 #[.pointer (some ⟨Q, 0, none⟩), .int .i64 x] W fun e W' => e = .returned (.bool (v1 == x)) ∧ RL W' Q v0 v1 (n + 1) ∧ Chg (fun g => g = Q) W W' := by
  obtain ⟨q0, q1, q2, f0, f1, f2⟩ := h.cells_
  have H := Lib.hid h
  clear h
  go_enter Try.func22, Try.ntmps22
  go_wp2
  go_ret
  exact ⟨rfl, H.out.s2 _, chgQ _ _ _ _⟩
set_option maxHeartbeats 1000000 in
theorem rleave_yes (Q : Nat) (v0 x n : Int) (W : World) (h : RL W Q v0 x n) (hn0 : 0 ≤ n) (hn1 : n < 10000) :
    Calls Try.prog 23 #[.pointer (some ⟨Q, 0, none⟩), .int .i64 x] W fun e W' => e = .returned (.int .i64 0) ∧ RL W' Q v0 (wrap64 (x + 1)) (n + 1 + 1) ∧ Chg (fun g => g = Q) W W' := by
  obtain ⟨q0, q1, q2, f0, f1, f2⟩ := h.cells_
  have H := Lib.hid h
  clear h
  go_enter Try.func23, Try.ntmps23
  go_wp2
  go_ret
  exact ⟨rfl, ((H.out.s2 _).s2 _).s1 _, chgQ2 (chgQ2 (chgQ _ _ _ _) _ _) _ _⟩
set_option maxHeartbeats 1000000 in
theorem rleave_no (Q : Nat) (v0 v1 x n : Int) (W : World) (h : RL W Q v0 v1 n) (hvx : (v1 == x) = false) (hn0 : 0 ≤ n) (hn1 : n < 10000) :
    Calls Try.prog 23 #[.pointer (some ⟨Q, 0, none⟩), .int .i64 x] W fun e W' => e = .returned (.int .i64 9) ∧ RL W' Q v0 v1 (n + 1) ∧ Chg (fun g => g = Q) W W' := by
  obtain ⟨q0, q1, q2, f0, f1, f2⟩ := h.cells_
  have H := Lib.hid h
  have hvx' : (v1 != x) = true := by simp [bne, hvx]
  clear h
  go_enter Try.func23, Try.ntmps23
  go_wp2
  go_ret
  exact ⟨rfl, H.out.s2 _, chgQ _ _ _ _⟩
set_option maxHeartbeats 1000000 in
theorem rwaits_any (Q : Nat) (v0 v1 n : Int) (W : World) (h : RL W Q v0 v1 n) (hn0 : 0 ≤ n) (hn1 : n < 10000) :
    Calls Try.prog 24 #[.pointer (some ⟨Q, 0, none⟩)] W fun e W' => e = .returned (.int .i64 (wrap64 (v0 - v1))) ∧ RL W' Q v0 v1 (n + 1 + 1) ∧ Chg (fun g => g = Q) W W' := by
  obtain ⟨q0, q1, q2, f0, f1, f2⟩ := h.cells_
  have H := Lib.hid h
  clear h
  go_enter Try.func24, Try.ntmps24
  go_wp2
  try go_region
  all_goals try go_wp2
  all_goals go_ret
  all_goals exact ⟨rfl, by rw [show n + 1 + 1 = n + 2 by omega]; exact H.out.s2 _, (by first | exact chgQ _ _ _ _ | exact (chgQ _ _ _ _).drew)⟩

/-- Both locks say the same. -/
def Two (W : World) (K L R at_ Q : Nat) (v0 v1 n : Int) : Prop := Lk W K L R at_ v0 v1 n ∧ RL W Q v0 v1 n ∧ Q ≠ L ∧ Q ≠ R ∧ Q ≠ K
theorem Two.first {W W1 W2 : World} {K L R at_ Q : Nat} {v0 v1 n v0' v1' n' : Int} (h : Two W K L R at_ Q v0 v1 n) (hc : Chg (fun g => g = L ∨ g = R) W W1) : RL W1 Q v0 v1 n := h.2.1.kept hc (by rintro (hh | hh); exact h.2.2.1 hh; exact h.2.2.2.1 hh)
theorem Two.both {W W1 W2 : World} {K L R at_ Q : Nat} {v0 v1 n v0' v1' n' : Int} (h : Two W K L R at_ Q v0 v1 n) (h1 : Lk W1 K L R at_ v0' v1' n') (hc : Chg (fun g => g = L ∨ g = R) W W1) (h2 : RL W2 Q v0' v1' n') (hc2 : Chg (fun g => g = Q) W1 W2) :
    Two W2 K L R at_ Q v0' v1' n' ∧ Chg (fun g => g = L ∨ g = R ∨ g = Q) W W2 :=
  ⟨⟨h1.kept hc2 (fun e => h.2.2.2.2 e.symm) (fun e => h.2.2.1 e.symm) (fun e => h.2.2.2.1 e.symm), h2, h.2.2⟩, (hc.mono (S' := fun g => g = L ∨ g = R ∨ g = Q) (fun _ _ hh => by rcases hh with hh | hh; exact .inl hh; exact .inr (.inl hh))).trans hc2 (fun _ _ hh => .inr (.inr hh))⟩
def ActOk (W : World) (K L R at_ Q : Nat) (n : Int) (e : Ending) (W' : World) : Prop :=
  e = .returned (.bool true) ∧ ∃ v0 v1 n', n ≤ n' ∧ n' ≤ n + 2 ∧ Two W' K L R at_ Q v0 v1 n' ∧ Chg (fun g => g = L ∨ g = R ∨ g = Q) W W'
theorem Two.alloc {W : World} {K L R at_ Q : Nat} {v0 v1 n : Int} (h : Two W K L R at_ Q v0 v1 n) (o : Obj) : Two (W.alloc o) K L R at_ Q v0 v1 n :=
  ⟨h.1.kept (S := fun _ => False) ((Chg.refl _ _).alloc o) (fun h => h) (fun h => h) (fun h => h), h.2.1.kept (S := fun _ => False) ((Chg.refl _ _).alloc o) (fun h => h), h.2.2⟩
theorem Two.drew {W : World} {K L R at_ Q : Nat} {v0 v1 n : Int} (h : Two W K L R at_ Q v0 v1 n) : Two W.drew K L R at_ Q v0 v1 n := h
theorem both_undrew {W W2 : World} {P : Prop} {S : Nat → Prop} (h : P ∧ Chg S W.drew W2) : P ∧ Chg S W W2 := ⟨h.1, h.2.undrew⟩
theorem Two.lt_ {W : World} {K L R at_ Q : Nat} {v0 v1 n : Int} (h : Two W K L R at_ Q v0 v1 n) : K < W.heap.size ∧ L < W.heap.size ∧ R < W.heap.size ∧ Q < W.heap.size := ⟨h.1.lt_.1, h.1.lt_.2.1, h.1.lt_.2.2, Blk.lt h.2.1⟩

set_option maxHeartbeats 4000000 in
theorem act_any (K L R at_ Q : Nat) (v0 v1 n kd x : Int) (W : World) (h : Two W K L R at_ Q v0 v1 n) (hn0 : 0 ≤ n) (hn1 : n < 5000) :
    Calls Try.prog 11 #[.pointer (some ⟨K, 0, none⟩), .pointer (some ⟨Q, 0, none⟩), .agg #[.int .i64 kd, .int .i64 x]] W (ActOk W K L R at_ Q n) := by
  have hlt := h.lt_
  have hB : Blk (W.alloc (.cells #[.int .i64 kd, .int .i64 x] 35)) W.heap.size 35 #[.int .i64 kd, .int .i64 x] := Blk.new _ _ _
  have H := Lib.hid (h.alloc (.cells #[.int .i64 kd, .int .i64 x] 35))
  have fin : ∀ W' v0' v1' n', n ≤ n' → n' ≤ n + 2 → (Two W' K L R at_ Q v0' v1' n' ∧ Chg (fun g => g = L ∨ g = R ∨ g = Q) (W.alloc (.cells #[.int .i64 kd, .int .i64 x] 35)) W') → ActOk W K L R at_ Q n (.returned (.bool true)) W' :=
    fun W' v0' v1' n' h1 h2 h3 => ⟨rfl, v0', v1', n', h1, h2, h3.1, Chg.pre ((Chg.refl _ _).alloc _) h3.2⟩
  have FIN := Lib.hid fin
  have HB := Lib.hid hB
  clear h hB fin
  by_cases h0 : kd = 0
  · subst h0
    go_enter Try.func11, Try.ntmps11
    go_wp2_with (first | (go_at_call 14; refine (take_any K L R at_ v0 v1 n _ H.out.1 hn0 (by omega)).mono ?_; rintro e w1 ⟨rfl, ha, hc⟩) | (go_at_call 21; refine (rtake_any Q v0 v1 n _ (H.out.first (W2 := w1) (v0' := v0) (v1' := v1) (n' := n) hc) hn0 (by omega)).mono ?_; rintro e w2 ⟨rfl, ha2, hc2⟩))
    go_ret
    exact FIN.out _ _ _ _ (by omega) (by omega) (H.out.both ha hc ha2 hc2)
  · by_cases h1 : kd = 1
    · subst h1
      go_enter Try.func11, Try.ntmps11
      go_wp2_with (first | (go_at_call 15; refine (mine_any K L R at_ v0 v1 n x _ H.out.1 hn0 (by omega)).mono ?_; rintro e w1 ⟨rfl, ha, hc⟩; have q1 := (HB.out.kept hc (by omega)).cell 1; simp at q1) | (go_at_call 22; refine (rmine_any Q v0 v1 n x _ (H.out.first (W2 := w1) (v0' := v0) (v1' := v1) (n' := n) hc) hn0 (by omega)).mono ?_; rintro e w2 ⟨rfl, ha2, hc2⟩))
      go_ret
      exact FIN.out _ _ _ _ (by omega) (by omega) (H.out.both ha hc ha2 hc2)
    · by_cases h2 : kd = 2
      · subst h2
        have hs0 : (W.alloc (.cells #[.int .i64 2, .int .i64 x] 35)).drew.cell? ⟨W.heap.size, 1, none⟩ = some (.int .i64 x) := by simp [go_sem]
        by_cases hvx : v1 = x
        · subst hvx
          go_enter Try.func11, Try.ntmps11
          go_wp2_with fail
          go_region_held3 (fun w' => w'.cell? ⟨W.heap.size, 1, none⟩ = some (.int .i64 v1)) (first | assumption)
            ((first
              | (go_at_call 16; refine (leave_yes K L R at_ v0 v1 n _ H.out.drew.1 hn0 (by omega)).mono ?_; rintro e w1 ⟨rfl, ha, hc⟩; have q1 := (HB.out.drew.kept hc (by omega)).cell 1; simp at q1)
              | (go_at_call 23; refine (rleave_yes Q v0 v1 n _ (H.out.drew.first (W2 := w1) (v0' := v0) (v1' := v1) (n' := n) hc) hn0 (by omega)).mono ?_; rintro e w2 ⟨rfl, ha2, hc2⟩; have q2 := (Blk.kept (HB.out.drew.kept hc (by omega)) hc2 (by omega)).cell 1; simp at q2)))
          all_goals go_simp
          all_goals go_wp2
          all_goals go_ret
          all_goals exact FIN.out _ _ _ (n + 1 + 1) (by omega) (by omega) (both_undrew (H.out.drew.both ha hc ha2 hc2))
        · have hvx' : (v1 == x) = false := by simpa using hvx
          have HV := Lib.hid hvx'
          clear hvx hvx'
          go_enter Try.func11, Try.ntmps11
          go_wp2_with fail
          go_region_held3 (fun w' => w'.cell? ⟨W.heap.size, 1, none⟩ = some (.int .i64 x)) (first | assumption)
            ((first
              | (go_at_call 16; refine (leave_no K L R at_ v0 v1 x n _ H.out.drew.1 HV.out hn0 (by omega)).mono ?_; rintro e w1 ⟨rfl, ha, hc⟩; have q1 := (HB.out.drew.kept hc (by omega)).cell 1; simp at q1)
              | (go_at_call 23; refine (rleave_no Q v0 v1 x n _ (H.out.drew.first (W2 := w1) (v0' := v0) (v1' := v1) (n' := n) hc) HV.out hn0 (by omega)).mono ?_; rintro e w2 ⟨rfl, ha2, hc2⟩; have q2 := (Blk.kept (HB.out.drew.kept hc (by omega)) hc2 (by omega)).cell 1; simp at q2)))
          all_goals go_simp
          all_goals go_wp2
          all_goals go_ret
          all_goals exact FIN.out _ _ _ (n + 1) (by omega) (by omega) (both_undrew (H.out.drew.both ha hc ha2 hc2))
      · have d0 : (kd == 0) = false := by simpa using h0
        have d1 : (kd == 1) = false := by simpa using h1
        have d2 : (kd == 2) = false := by simpa using h2
        clear h0 h1 h2
        go_enter Try.func11, Try.ntmps11
        go_wp2_with (first | (go_at_call 17; refine (waits_any K L R at_ v0 v1 n _ H.out.1 hn0 (by omega)).mono ?_; rintro e w1 ⟨rfl, ha, hc⟩) | (go_at_call 24; refine (rwaits_any Q v0 v1 n _ (H.out.first (W2 := w1) (v0' := v0) (v1' := v1) (n' := n) hc) hn0 (by omega)).mono ?_; rintro e w2 ⟨rfl, ha2, hc2⟩))
        go_ret
        exact FIN.out _ _ _ _ (by omega) (by omega) (H.out.both ha hc ha2 hc2)
end Go.Proofs.Ytiabmkhkmhjkpaa
