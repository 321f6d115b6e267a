/- Contracts: the log of who is suspended: New, Has, Suspend, Resume. -/
import Derived.Test.YtffhoddpmmlhkaaRowz
import Derived.Test.YtffhoddpmmlhkaaMset
import Derived.WalkMore
import Derived.Deep.QuietTactic
import Derived.BigQuiet
namespace Go.Proofs.Ytffhoddpmmlhkaa
open Go.ChangeShapes Go.WideShapes Go.ChangeAt Go.RowKit Go.Deep Go.Maps
set_option linter.unusedVariables false

/-- The log in block G, its map in block B. -/
structure Lg (w : World) (G B gs n : Nat) (S : Int → Bool) : Prop where
  log : Blk w G 44 #[.int .i64 gs, .map (some B)]
  set : Mset w B n (fun x => S x = true)
  ne : G ≠ B
section
variable {w w' : World} {G B gs n : Nat} {S : Int → Bool}
theorem Lg.kept {T : Nat → Prop} (h : Lg w G B gs n S) (hc : Chg T w w') (h1 : ¬ T G) (h2 : ¬ T B) : Lg w' G B gs n S := ⟨h.log.kept hc h1, h.set.kept hc h2, h.ne⟩
theorem Lg.cells (h : Lg w G B gs n S) : w.cell? ⟨G, 0, none⟩ = some (.int .i64 gs) ∧ w.cell? ⟨G, 1, none⟩ = some (.map (some B)) := ⟨h.log.cell 0, h.log.cell 1⟩
theorem Lg.turn {w1 : World} {S' : Int → Bool} {n' : Nat} (h : Lg w G B gs n S) (hc : Chg (fun _ => False) w w1) (hm : Mset w' B n' (fun x => S' x = true)) (hg : w1.grownBy w' (some B)) : Lg w' G B gs n' S' ∧ Chg (fun g => g = B) w w' := by
  have h1 := h.log.kept hc (fun h => h)
  exact ⟨⟨h1.grown hg (fun e => h.ne (Option.some.inj e)), hm, h.ne⟩, Chg.grown (S := fun g => g = B) (⟨hc.os, hc.tape, hc.output, hc.size, fun k hk _ => hc.block k hk (fun h => h)⟩) hg (fun k hk => .inl (Option.some.inj hk).symm)⟩
end
theorem New_yes (gs : Nat) (W : World) (h : gs ≤ 64) : Calls Try.prog 11 #[.int .i64 gs] W fun e W' => e = .returned (.pointer (some ⟨W.heap.size + 1, 0, none⟩)) ∧ Lg W' (W.heap.size + 1) W.heap.size gs 0 (fun _ => false) ∧ Below W.heap.size W W' := by
  have h0 : (0 : Int) ≤ gs := by omega
  have h1 : (gs : Int) ≤ 64 := by omega
  have hs : (W.alloc (.map #[] 0)).heap.size = W.heap.size + 1 := by simp
  have hB := Blk.new (W.alloc (.map #[] 0)) 44 #[.int .i64 gs, .map (some W.heap.size)]
  rw [hs] at hB
  have hM := ((Mset.made W).kept (T := fun _ => False) ((Chg.refl _ _).alloc (.cells #[.int .i64 gs, .map (some W.heap.size)] 44)) (fun h => h)).iff (S' := fun x => (fun _ : Int => false) x = true) (by simp)
  have HB := Lib.hid hB
  have HM := Lib.hid hM
  have hmm := @run_makeMap Try.prog
  clear hB hM hs
  go_enter Try.func11, Try.ntmps11
  go_wp2
  go_ret
  exact ⟨rfl, ⟨HB.out, HM.out, by omega⟩, ((Below.refl _ _).alloc (Nat.le_refl _) _).alloc (by simp) _⟩
theorem New_no (gs : Int) (W : World) (h : gs < 0 ∨ 64 < gs) : Calls Try.prog 11 #[.int .i64 gs] W fun e W' => e = .returned (.pointer none) ∧ W = W' := by
  by_cases h0 : gs < 0
  · clear h
    go_enter Try.func11, Try.ntmps11
    go_wp2
    go_ret
    exact ⟨rfl, rfl⟩
  · have h1 : 64 < gs := by omega
    clear h
    go_enter Try.func11, Try.ntmps11
    go_wp2
    go_ret
    exact ⟨rfl, rfl⟩
theorem Has_nil (t : Int) (W : World) : Calls Try.prog 12 #[.pointer none, .int .i64 t] W fun e W' => e = .returned (.bool false) ∧ W = W' := by
  go_enter Try.func12, Try.ntmps12
  go_wp2
  go_ret
  exact ⟨rfl, rfl⟩
theorem Has_any {W : World} {G B gs n : Nat} {S : Int → Bool} (h : Lg W G B gs n S) (t : Int) (ht : (Lit.int .i64 t).wf = true) : Calls Try.prog 12 #[.pointer (some ⟨G, 0, none⟩), .int .i64 t] W fun e W' => e = .returned (.bool (S t)) ∧ Chg (fun _ => False) W W' := by
  obtain ⟨c0, c1⟩ := h.cells
  have HM := Lib.hid h.set
  have HT := Lib.hid ht
  clear h ht
  go_enter Try.func12, Try.ntmps12
  go_wp2_with (at_lookup; refine wpList_set_has rfl (.tmp 13) (.tmp 14) rfl rfl HM.out t rfl HT.out (S t) Iff.rfl ?_)
  go_ret
  exact ⟨rfl, (Chg.refl _ _).alloc _⟩
theorem Has_lg {W : World} {G B gs n : Nat} {S : Int → Bool} (h : Lg W G B gs n S) (t : Int) (ht : (Lit.int .i64 t).wf = true) : Calls Try.prog 12 #[.pointer (some ⟨G, 0, none⟩), .int .i64 t] W fun e W' => e = .returned (.bool (S t)) ∧ Lg W' G B gs n S ∧ Chg (fun _ => False) W W' :=
  (Has_any h t ht).mono fun e W' ⟨h1, h2⟩ => ⟨h1, h.kept h2 (fun h => h) (fun h => h), h2⟩
def upd (S : Int → Bool) (t : Int) (b : Bool) : Int → Bool := fun x => if x = t then b else S x
theorem upd_same {S : Int → Bool} {t : Int} {b : Bool} (h : S t = b) : upd S t b = S := by
  funext x
  unfold upd
  split
  · rename_i e; rw [e, h]
  · rfl
theorem Suspend_nil (t : Int) (W : World) : Calls Try.prog 13 #[.pointer none, .int .i64 t] W fun e W' => e = .returned (.bool false) ∧ W = W' := by
  go_enter Try.func13, Try.ntmps13
  go_wp2
  go_ret
  exact ⟨rfl, rfl⟩
theorem Resume_nil (t : Int) (W : World) : Calls Try.prog 14 #[.pointer none, .int .i64 t] W fun e W' => e = .returned (.bool false) ∧ W = W' := by
  go_enter Try.func14, Try.ntmps14
  go_wp2_with (go_at_call 12; refine (Has_nil _ _).mono ?_; rintro e w1 ⟨rfl, rfl⟩)
  go_ret
  exact ⟨rfl, rfl⟩
set_option maxHeartbeats 2000000 in
theorem Suspend_any {W : World} {G B gs n : Nat} {S : Int → Bool} (h : Lg W G B gs n S) (t : Int) (ht : (Lit.int .i64 t).wf = true) (hn : n ≤ 1000) : Calls Try.prog 13 #[.pointer (some ⟨G, 0, none⟩), .int .i64 t] W fun e W' =>
    e = .returned (.bool (decide (1 ≤ t ∧ t ≤ gs) && !S t)) ∧ ∃ n', n' ≤ n + 1 ∧ Lg W' G B gs n' (if 1 ≤ t ∧ t ≤ gs then upd S t true else S) ∧ Chg (fun g => g = B) W W' := by
  obtain ⟨c0, c1⟩ := h.cells
  by_cases hin : 1 ≤ t ∧ t ≤ gs
  · obtain ⟨t0, t1⟩ := hin
    have HC := Lib.hid (Has_lg h t ht)
    have HT := Lib.hid ht
    rw [if_pos ⟨t0, t1⟩]
    have hd : decide (1 ≤ t ∧ t ≤ (gs : Int)) = true := by simp [t0, t1]
    rw [hd]
    cases hst : S t with
    | true =>
      rw [hst] at HC
      have HE : Hid (upd S t true = S) := Lib.hid (upd_same hst)
      clear h ht hd hst
      go_enter Try.func13, Try.ntmps13
      go_wp2_with (go_at_call 12; refine HC.out.mono ?_; rintro e w1 ⟨rfl, hl, hc⟩; have HL := Lib.hid hl; have HCh := Lib.hid hc; clear hl hc)
      go_ret
      exact ⟨rfl, n, by omega, by rw [HE.out]; exact HL.out, ⟨HCh.out.os, HCh.out.tape, HCh.out.output, HCh.out.size, fun k hk _ => HCh.out.block k hk (fun h => h)⟩⟩
    | false =>
      rw [hst] at HC
      clear h ht hd hst
      go_enter Try.func13, Try.ntmps13
      go_wp2_with (first
        | (go_at_call 12; refine HC.out.mono ?_; rintro e w1 ⟨rfl, hl, hc⟩; have HL := Lib.hid hl; have HCh := Lib.hid hc; obtain ⟨c0, c1⟩ := hl.cells; clear hl hc)
        | (at_mapUpdate; refine wpList_set_put rfl (.tmp 27) (.tmp 28) (.tmp 29) rfl rfl HL.out.set (by omega) t rfl HT.out rfl ?_; intro w3 r1 r2; have HT3 := Lib.hid (HL.out.turn (Chg.refl _ _) (r1.iff (S' := fun x => upd S t true x = true) (by intro x; unfold upd; split <;> simp_all)) r2); clear r1 r2))
      go_ret
      obtain ⟨h1, h2⟩ := HT3.out
      exact ⟨rfl, n + 1, Nat.le_refl _, h1, (show Chg (fun g => g = B) W w1 from ⟨HCh.out.os, HCh.out.tape, HCh.out.output, HCh.out.size, fun k hk _ => HCh.out.block k hk (fun h => h)⟩).trans h2 (fun _ _ h => h)⟩
  · have hd : decide (1 ≤ t ∧ t ≤ (gs : Int)) = false := by simpa using hin
    rw [hd, if_neg hin]
    have HL := Lib.hid h
    clear hd h ht
    by_cases h1 : t < 1
    · clear hin
      go_enter Try.func13, Try.ntmps13
      go_wp2
      go_ret
      exact ⟨rfl, n, by omega, HL.out, Chg.refl _ _⟩
    · have h2 : (gs : Int) < t := by omega
      clear hin
      go_enter Try.func13, Try.ntmps13
      go_wp2
      go_ret
      exact ⟨rfl, n, by omega, HL.out, Chg.refl _ _⟩
set_option maxHeartbeats 2000000 in
theorem Resume_any {W : World} {G B gs n : Nat} {S : Int → Bool} (h : Lg W G B gs n S) (t : Int) (ht : (Lit.int .i64 t).wf = true) : Calls Try.prog 14 #[.pointer (some ⟨G, 0, none⟩), .int .i64 t] W fun e W' =>
    e = .returned (.bool (S t)) ∧ Lg W' G B gs n (upd S t false) ∧ Chg (fun g => g = B) W W' := by
  obtain ⟨c0, c1⟩ := h.cells
  have HC := Lib.hid (Has_lg h t ht)
  have HT := Lib.hid ht
  cases hst : S t with
  | true =>
    rw [hst] at HC
    clear h ht hst
    go_enter Try.func14, Try.ntmps14
    go_wp2_with (first
      | (go_at_call 12; refine HC.out.mono ?_; rintro e w1 ⟨rfl, hl, hc⟩; have HL := Lib.hid hl; have HCh := Lib.hid hc; obtain ⟨c0, c1⟩ := hl.cells; clear hl hc)
      | (at_delete; refine wpList_set_del rfl (.tmp 12) (.tmp 13) rfl rfl HL.out.set t rfl HT.out ?_; intro w3 r1 r2; have HT3 := Lib.hid (HL.out.turn (Chg.refl _ _) (r1.iff (S' := fun x => upd S t false x = true) (by intro x; unfold upd; split <;> simp_all)) r2); clear r1 r2))
    go_ret
    obtain ⟨h1, h2⟩ := HT3.out
    exact ⟨rfl, h1, (show Chg (fun g => g = B) W w1 from ⟨HCh.out.os, HCh.out.tape, HCh.out.output, HCh.out.size, fun k hk _ => HCh.out.block k hk (fun h => h)⟩).trans h2 (fun _ _ h => h)⟩
  | false =>
    rw [hst] at HC
    have HE : Hid (upd S t false = S) := Lib.hid (upd_same hst)
    clear h ht hst
    go_enter Try.func14, Try.ntmps14
    go_wp2_with (go_at_call 12; refine HC.out.mono ?_; rintro e w1 ⟨rfl, hl, hc⟩; have HL := Lib.hid hl; have HCh := Lib.hid hc; clear hl hc)
    go_ret
    exact ⟨rfl, by rw [HE.out]; exact HL.out, ⟨HCh.out.os, HCh.out.tape, HCh.out.output, HCh.out.size, fun k hk _ => HCh.out.block k hk (fun h => h)⟩⟩
end Go.Proofs.Ytffhoddpmmlhkaa
