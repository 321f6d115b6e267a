/- The document's ring: List, behind, Put. -/
import Derived.Test.YtfceebbbhjjnaaaRingH
import Derived.Deep.RegionLaw
namespace Go.Proofs.Ytfceebbbhjjnaaa
open Go.ChangeShapes Go.WideShapes Go.ChangeAt Go.RowKit Go.Deep
set_option linter.unusedVariables false

theorem Row.empty (w : World) (base : Nat) (E : TypeId) (h : base ≤ w.heap.size) : Row (w.alloc (.cells #[] E)) base E 1 (some ⟨w.heap.size, 0, none⟩) 0 0 (ints []) := by
  refine ⟨by simp [ints], Nat.le_refl _, Nat.zero_le _, .inr ⟨w.heap.size, #[], rfl, h, ?_, by simp, by simp [ints]⟩⟩
  exact Blk.new w E #[]
/-- The document's ring: block r, its row. -/
structure RR (W : World) (r n : Nat) (nx : Int) (A : Option Addr) (c : Nat) (xs : List Int) : Prop where
  b : Blk W r 30 #[.int .i64 (n : Int), .int .i64 nx, .slice A xs.length c]
  rd : Rd W 1 A xs.length (ints xs)
  cap : xs.length ≤ c
  ne : ∀ g, blk A = some g → ¬ g = r ∧ g < W.heap.size
section
variable {S : Nat → Prop} {W W' : World} {r n c : Nat} {nx : Int} {A : Option Addr} {xs : List Int}
theorem RR.cells (h : RR W r n nx A c xs) : W.cell? ⟨r, 0, none⟩ = some (.int .i64 (n : Int)) ∧ W.cell? ⟨r, 1, none⟩ = some (.int .i64 nx) ∧ W.cell? ⟨r, 2, none⟩ = some (.slice A xs.length c) ∧ W.frozen? ⟨r, 0, none⟩ = false ∧ r < W.heap.size :=
  ⟨h.b.cell 0, h.b.cell 1, h.b.cell 2, h.b.frozen 0, h.b.lt⟩
theorem RR.kept (h : RR W r n nx A c xs) (hc : Chg S W W') (hr : ¬ S r) (hA : ∀ g, blk A = some g → ¬ S g) : RR W' r n nx A c xs :=
  ⟨h.b.kept hc hr, h.rd.kept hc hA, h.cap, fun g hg => ⟨(h.ne g hg).1, Nat.lt_of_lt_of_le (h.ne g hg).2 hc.size⟩⟩
theorem RR.same (h : RR W r n nx A c xs) (hc : Chg (fun _ => False) W W') : RR W' r n nx A c xs := h.kept hc (fun h => h) (fun _ _ h => h)
theorem RR.setnx (h : RR W r n nx A c xs) (v : Int) : RR (W.setCell ⟨r, 1, none⟩ (.int .i64 v)) r n v A c xs ∧ Chg (fun g => g = r) W (W.setCell ⟨r, 1, none⟩ (.int .i64 v)) := by
  have hc := Chg.setCell (S := fun g => g = r) (Chg.refl _ W) (p := ⟨r, 1, none⟩) (.inl rfl) (.int .i64 v)
  exact ⟨⟨by simpa using h.b.set_ 1 (.int .i64 v), h.rd.kept hc (fun g hg => (h.ne g hg).1), h.cap, fun g hg => ⟨(h.ne g hg).1, by simpa [World.setCell] using (h.ne g hg).2⟩⟩, hc⟩
/-- Another row stands in it. -/
theorem RR.setrow {A' : Option Addr} {c' m : Nat} {ys : List Int} (h : Blk W r 30 #[.int .i64 (n : Int), .int .i64 nx, .slice A m c]) (hm : ys.length ≤ c') (hr : Rd W 1 A' ys.length (ints ys)) (hne : ∀ g, blk A' = some g → ¬ g = r ∧ g < W.heap.size) :
    RR (W.setCell ⟨r, 2, none⟩ (.slice A' ys.length c')) r n nx A' c' ys ∧ Chg (fun g => g = r) W (W.setCell ⟨r, 2, none⟩ (.slice A' ys.length c')) := by
  have hc := Chg.setCell (S := fun g => g = r) (Chg.refl _ W) (p := ⟨r, 2, none⟩) (.inl rfl) (.slice A' ys.length c')
  exact ⟨⟨by simpa using h.set_ 2 (.slice A' ys.length c'), hr.kept hc (fun g hg => (hne g hg).1), hm, fun g hg => ⟨(hne g hg).1, by simpa [World.setCell] using (hne g hg).2⟩⟩, hc⟩
end
/-- What the document's act hands back, and what it leaves. -/
def RP (W : World) (r n : Nat) (A0 : Option Addr) (nx : Int) (xs o : List Int) (e : Ending) (W' : World) : Prop :=
  ∃ Ao co, e = .returned (.slice Ao o.length co) ∧ Rd W' 1 Ao o.length (ints o) ∧ ∃ A c, RR W' r n nx A c xs ∧ Chg (fun g => g = r) W W' ∧ ∀ g, blk A = some g → blk A0 = some g ∨ W.heap.size ≤ g
theorem RP.same {W W' : World} {r n c : Nat} {A : Option Addr} {nx : Int} {xs : List Int} (h : RR W' r n nx A c xs) (hc : Chg (fun g => g = r) W W') : RP W r n A nx xs [] (.returned (.slice none 0 0)) W' :=
  ⟨none, 0, rfl, Rd.nil _ _ _, A, c, h, hc, fun g hg => .inl hg⟩
section
variable {W : World} {r n c : Nat} {nx : Int} {A : Option Addr} {xs : List Int}
set_option maxHeartbeats 2000000 in
theorem rlist_any (h : RR W r n nx A c xs) (hn : n ≤ 1000) (hx : xs.length ≤ n) :
    Calls Try.prog 12 #[.pointer (some ⟨r, 0, none⟩)] W fun e W' => ∃ A' c', e = .returned (.slice A' (nxl nx ++ xs).length c') ∧ Row W' W.heap.size 3 1 A' (nxl nx ++ xs).length c' (ints (nxl nx ++ xs)) ∧ Chg (fun _ => False) W W' := by
  obtain ⟨c0, c1, c2, f0, kr⟩ := h.cells
  have HR := Lib.hid h
  clear h
  by_cases hnx : nx = 0
  · subst hnx
    have e0 : nxl 0 ++ xs = xs := rfl
    rw [e0]
    clear e0
    go_enter Try.func12, Try.ntmps12
    go_wp2_with (at_builtin; refine wpList_app rfl (.tmp 8) (.tmp 12) rfl W.heap.size _ 0 0 [] rfl (Row.empty W _ _ (Nat.le_refl _)) A xs.length c xs rfl (HR.out.rd.alloc _) ?_ ?_ ?_; (next => omega); (next => simp); intro A3 c3 w3 s1 s2 s3)
    go_ret
    exact ⟨A3, c3, by simp, by simpa using s1, ((Chg.refl _ _).alloc _).grown s2 (fun k hk => .inr (by have := Option.some.inj (show some W.heap.size = some k from hk); omega))⟩
  · have x0 : (nx == 0) = false := beq_eq_false_iff_ne.2 hnx
    have x1 : decide (nx = 0) = false := decide_eq_false hnx
    have e0 : nxl nx ++ xs = nx :: xs := by simp [nxl, hnx]
    rw [e0]
    have HL : Hid (Rd (W.alloc (.cells #[.int .i64 nx] 3)) 1 (some ⟨W.heap.size, 0, none⟩) 1 (ints [nx])) := Lib.hid (Rd.lit W nx _)
    have hrow : Row (W.alloc (.cells #[.int .i64 nx] 3)) W.heap.size 3 1 (some ⟨W.heap.size, 0, none⟩) 1 1 (ints [nx]) := ⟨rfl, Nat.le_refl _, by decide, .inr ⟨W.heap.size, #[.int .i64 nx], rfl, Nat.le_refl _, Blk.new _ _ _, by simp, rfl⟩⟩
    have HW := Lib.hid hrow
    have HB1 := Lib.hid (show 1 + xs.length ≤ 1048576 by omega)
    have HB2 := Lib.hid (show W.heap.size ≤ (W.alloc (.cells #[.int .i64 nx] 3)).drew.heap.size by simp)
    clear e0 hnx hrow
    go_enter Try.func12, Try.ntmps12
    go_wp2
    go_region_law (refine step_app rfl (.tmp 18) (.tmp 22) rfl W.heap.size _ 1 1 [nx] rfl HW.out.drew A xs.length c xs rfl (HR.out.rd.alloc _).drew HB1.out HB2.out ?_; intro A3 c3 w3 s1 s2 s3)
    all_goals (have HS1 := Lib.hid s1; have HS2 := Lib.hid s2; clear s1 s2 s3)
    all_goals go_wp2
    all_goals go_ret
    all_goals exact ⟨A3, c3, by rw [Nat.add_comm]; rfl, by simpa [Nat.add_comm] using HS1.out, (((Chg.refl _ _).alloc _).drew).grown HS2.out (fun k hk => .inr (by have := Option.some.inj (show some W.heap.size = some k from hk); omega))⟩
set_option maxHeartbeats 2000000 in
theorem behind_yes (g : Int) (h : RR W r n nx A c xs) (hn : n ≤ 1000) (hx : xs.length < n) :
    Calls Try.prog 34 #[.pointer (some ⟨r, 0, none⟩), .int .i64 g] W (RP W r n A nx (xs ++ [g]) []) := by
  obtain ⟨c0, c1, c2, f0, kr⟩ := h.cells
  have hd : decide ((xs.length : Int) < n) = true := decide_eq_true (by omega)
  have HR := Lib.hid h
  clear h
  go_enter Try.func34, Try.ntmps34
  go_wp2
  go_quiet (fail)
  go_wp2_with (first
    | (at_builtin; refine wpList_app rfl (.tmp 23) (.tmp 25) rfl W.heap.size A3 xs.length c3 xs rfl (HS1.out.alloc _) _ 1 1 [g] rfl (Rd.lit _ _ _) ?_ ?_ ?_; (next => omega); (next => (simp; omega)); intro A4 c4 w4 t1 t2 t3; have HB4 := Lib.hid ((HB3.out.alloc (.cells #[.int .i64 g] 3)).grown t2 (fun e => by have := (HS1.out.blk_lt r e.symm).1; omega)); have HC4 := Lib.hid ((HC3.out.alloc (.cells #[.int .i64 g] 3)).grown t2 (fun k hk => .inr (HS1.out.blk_lt k hk).1)); have HT1 := Lib.hid t1; have k0 := HB4.out.cell 2; have k1 := HB4.out.frozen 2; have k2 := HB4.out.lt; clear t1 t2 t3)
    | (at_builtin; refine wpList_app rfl (.tmp 18) (.tmp 22) rfl W.heap.size _ 0 0 [] rfl ((Row.empty W _ _ (Nat.le_refl _)).drewN _) A xs.length c xs rfl ((HR.out.rd.alloc _).drewN _) ?_ ?_ ?_; (next => omega); (next => simp); intro A3 c3 w3 s1 s2 s3; simp only [Nat.zero_add, List.nil_append] at s1; have HB3 := Lib.hid (((HR.out.b.alloc (.cells #[] 3)).drewN nq).grown s2 (fun e => by have := Option.some.inj (show some r = some W.heap.size from e); omega)); have HC3 := Lib.hid (Chg.grown (((Chg.refl (fun _ => False) W).alloc (.cells #[] 3)).drewN nq) s2 (fun k hk => .inr (by have := Option.some.inj (show some W.heap.size = some k from hk); omega))); have hz3 := HC3.out.size; have HS1 := Lib.hid s1; clear s1 s2 s3))
  go_ret
  have hlen : xs.length + 1 = (xs ++ [g]).length := by simp
  have hh := RR.setrow HB4.out (A' := A4) (c' := c4) (ys := xs ++ [g]) (by rw [← hlen]; exact HT1.out.2.1) (by rw [← hlen]; exact HT1.out.rd) (fun k hk => ⟨by have := (HT1.out.blk_lt k hk).1; omega, (HT1.out.blk_lt k hk).2⟩)
  rw [← hlen] at hh
  exact ⟨none, 0, rfl, Rd.nil _ _ _, A4, c4, hh.1, (HC4.out.mono (fun _ _ h => h.elim)).trans hh.2 (fun _ _ h => h), fun k hk => .inr (HT1.out.blk_lt k hk).1⟩
end
end Go.Proofs.Ytfceebbbhjjnaaa
