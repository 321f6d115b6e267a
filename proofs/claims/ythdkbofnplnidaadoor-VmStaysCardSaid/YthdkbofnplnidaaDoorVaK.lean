/- A function of a program in memory; what is wrong with it first, by the program. -/
import Derived.Test.YthdkbofnplnidaaDoorIsaFc
import Derived.Test.YthdkbofnplnidaaDoorRk0
import Derived.WalkMore
import Derived.Deep.LoopGhost
namespace Go.Proofs.YthdkbofnplnidaaDoor
open Go.ChangeShapes Go.WideShapes Go.ChangeAt Go.RowKit Go.Deep
set_option linter.unusedVariables false
set_option linter.unusedSimpArgs false

theorem Chg.ofB {W W' : World} (h : Below W.heap.size W W') : Chg (fun _ => False) W W' := (Chg.ofBelow h).mono (fun k hk h => absurd (show W.heap.size ≤ k from h) (by omega))
theorem Chg.toB {W W' : World} (h : Chg (fun _ => False) W W') : Below W.heap.size W W' := h.below (Nat.le_refl _) (fun _ _ h => h.elim)
theorem Tab.chg {W W' : World} (h : Tab W) (hc : Chg (fun _ => False) W W') : Tab W' := h.below hc.toB
/-- A row of truths. -/
def bls (bs : List Bool) : List Value := bs.map Value.bool
@[simp] theorem bls_length (bs : List Bool) : (bls bs).length = bs.length := by simp [bls]
theorem bls_get (bs : List Bool) (k : Nat) (h : k < bs.length) : (bls bs)[k]? = some (.bool bs[k]) := by simp [bls, h]
/-- Code and safe places of a function, in memory. -/
structure FM (W : World) (Ac : Option Addr) (nc : Nat) (As : Option Addr) (ns : Nat) (code : List (List Int)) (safe : List Bool) : Prop where
  c : Rd W 5 Ac nc (kv code)
  u : Uni 5 code
  s : Rd W 1 As ns (bls safe)
section
variable {W W' : World} {Ac As : Option Addr} {nc ns : Nat} {code : List (List Int)} {safe : List Bool}
theorem FM.chg (h : FM W Ac nc As ns code safe) (hc : Chg (fun _ => False) W W') : FM W' Ac nc As ns code safe := ⟨h.c.kept hc (fun _ _ h => h), h.u, h.s.kept hc (fun _ _ h => h)⟩
theorem FM.lenc (h : FM W Ac nc As ns code safe) : code.length = nc := h.c.lenk h.u (by decide)
theorem FM.lens (h : FM W Ac nc As ns code safe) : safe.length = ns := by have := h.s.1; simpa using this
/-- The parts of an instruction. -/
def ipart (code : List (List Int)) (k j : Nat) : Int := (code.getD k []).getD j 0
theorem FM.instr (h : FM W Ac nc As ns code safe) {k : Nat} (hk : k < nc) : ∃ b o, Ac = some ⟨b, o, none⟩ ∧ b < W.heap.size ∧ W.cell? ⟨b, o + k * 5, none⟩ = some (.int .i64 (ipart code k 0)) ∧ W.cell? ⟨b, o + k * 5 + 1, none⟩ = some (.int .i64 (ipart code k 1)) ∧ W.cell? ⟨b, o + k * 5 + 2, none⟩ = some (.int .i64 (ipart code k 2)) ∧ W.cell? ⟨b, o + k * 5 + 3, none⟩ = some (.int .i64 (ipart code k 3)) ∧ W.cell? ⟨b, o + k * 5 + 4, none⟩ = some (.int .i64 (ipart code k 4)) := by
  obtain ⟨hl, b, o, e, hb, hc⟩ := h.c.getk h.u (by decide) (by omega)
  have hk' : k < code.length := by omega
  have e0 : ∀ j, (code[k]'hk').getD j 0 = ipart code k j := fun j => by rw [ipart, List.getD_eq_getElem?_getD, List.getD_eq_getElem?_getD, List.getD_eq_getElem?_getD, List.getElem?_eq_getElem hk']; rfl
  have key : ∀ j, j < 5 → W.cell? ⟨b, o + (k * 5 + j), none⟩ = some (.int .i64 (ipart code k j)) := fun j hj => by rw [hc k hk' j hj, e0]
  refine ⟨b, o, e, hb, ?_, ?_, ?_, ?_, ?_⟩
  · exact key 0 (by decide)
  · simpa [Nat.add_assoc] using key 1 (by decide)
  · simpa [Nat.add_assoc] using key 2 (by decide)
  · simpa [Nat.add_assoc] using key 3 (by decide)
  · simpa [Nat.add_assoc] using key 4 (by decide)
theorem FM.safe_ (h : FM W Ac nc As ns code safe) (h0 : 0 < ns) : ∃ b o, As = some ⟨b, o, none⟩ ∧ b < W.heap.size ∧ ∀ k, k < ns → W.cell? ⟨b, o + k, none⟩ = some (.bool (safe.getD k false)) := by
  obtain ⟨b, o, e, hb, hc⟩ := h.s.2 h0
  refine ⟨b, o, e, hb, fun k hk => ?_⟩
  have hk' : k < safe.length := by rw [h.lens]; exact hk
  rw [hc k _ (bls_get safe k hk'), List.getD_eq_getElem?_getD, List.getElem?_eq_getElem hk']
  rfl
end
/-- Does an op wait, end? -/
def wtI (op : Int) : Bool := decide (op = 11 ∨ op = 12 ∨ op = 16 ∨ op = 17 ∨ op = 19 ∨ op = 20)
def enI (op : Int) : Bool := decide (op = 6 ∨ op = 9 ∨ op = 14)
def safeAt (safe : List Bool) (pc : Nat) : Bool := safe.getD pc false && safe.getD (pc + 1) false
/-- What is wrong at a place; 0: nothing. -/
def wrongAt (code : List (List Int)) (safe : List Bool) (places funcs : Nat) (k : Nat) : Int :=
  let v := chkI (ipart code k 0) (ipart code k 1) (ipart code k 2) (ipart code k 3) (ipart code k 4) (places : Int) (funcs : Int)
  if v ≠ 0 then v else if wtI (ipart code k 0) = true ∧ ¬ (safe.getD k false = true ∧ k + 1 < places ∧ safe.getD (k + 1) false = true) then 10
  else if k + 1 = places ∧ enI (ipart code k 0) = false then 11 else 0
/-- The first place that is wrong. -/
def fscan (g : Nat → Int) : Nat → Nat → Int × Int
  | 0, _ => (-1, 0)
  | j + 1, k => if g k ≠ 0 then ((k : Int), g k) else fscan g j (k + 1)
theorem fscan_hit (g : Nat → Int) {j k : Nat} (h : g k ≠ 0) : fscan g (j + 1) k = ((k : Int), g k) := by rw [fscan, if_pos h]
theorem fscan_miss (g : Nat → Int) {j k : Nat} (h : g k = 0) : fscan g (j + 1) k = fscan g j (k + 1) := by rw [fscan, if_neg (by simp [h])]
def fnF (code : List (List Int)) (safe : List Bool) (funcs : Nat) : Int × Int :=
  if code.length = 0 then (-1, 6) else if 64 < code.length then (-1, 5) else if safe.length ≠ code.length then (-1, 9) else fscan (wrongAt code safe code.length funcs) code.length 0
theorem wtI_in {k : Nat} (hk : k < 24) : wtI (k : Int) = wt k := wt_in k hk
theorem enI_in {k : Nat} (hk : k < 24) : enI (k : Int) = en k := en_in k hk
theorem waits_any (op : Int) (W : World) (hT : Tab W) : Calls Tryd.prog 51 #[.int .i64 op] W fun e W' => e = .returned (.bool (wtI op)) ∧ Chg (fun _ => False) W W' := by
  rcases in_out op with ⟨k, rfl, hk⟩ | h
  · rw [wtI_in hk]; exact (waits_in k hk W hT).mono fun e W' h => ⟨h.1, Chg.ofB h.2⟩
  · rw [show wtI op = false from by unfold wtI; rw [decide_eq_false]; omega]
    exact (waits_out op h W).mono fun e W' h => ⟨h.1, Chg.ofB h.2⟩
theorem ends_any (op : Int) (W : World) (hT : Tab W) : Calls Tryd.prog 46 #[.int .i64 op] W fun e W' => e = .returned (.bool (enI op)) ∧ Chg (fun _ => False) W W' := by
  rcases in_out op with ⟨k, rfl, hk⟩ | h
  · rw [enI_in hk]; exact (ends_in k hk W hT).mono fun e W' h => ⟨h.1, Chg.ofB h.2⟩
  · rw [show enI op = false from by unfold enI; rw [decide_eq_false]; omega]
    exact (ends_out op h W).mono fun e W' h => ⟨h.1, Chg.ofB h.2⟩
theorem check_c (op A B C N p f : Int) (W : World) (hT : Tab W) : Calls Tryd.prog 45 #[.agg #[.int .i64 op, .int .i64 A, .int .i64 B, .int .i64 C, .int .i64 N], .int .i64 p, .int .i64 f] W fun e W' => e = .returned (.int .i64 (chkI op A B C N p f)) ∧ Chg (fun _ => False) W W' :=
  (check_any op A B C N p f W hT).mono fun e W' h => ⟨h.1, Chg.ofB h.2⟩
section
variable {Ac As : Option Addr} {nc ns : Nat} {code : List (List Int)} {safe : List Bool}
set_option maxHeartbeats 1000000 in
/-- The closure, over the box of its function. -/
theorem wait_any (cc cs B k : Nat) (W : World) (hT : Tab W) (hF : FM W Ac nc As ns code safe) (hk : k < nc) (h64 : nc ≤ 100) (hB : Blk W B 48 #[.slice Ac nc cc, .slice As ns cs]) :
    Calls Tryd.prog 50 (#[.int .i64 (k : Int)] ++ #[.pointer (some ⟨B, 0, none⟩)]) W fun e W' => e = .returned (.bool (wtI (ipart code k 0))) ∧ Chg (fun _ => False) W W' := by
  obtain ⟨b, o, rfl, hb, e0, _⟩ := hF.instr hk
  have b0 := hB.cell 0
  simp at b0
  have k0 : (0 : Int) ≤ k := by omega
  have k1 : (k : Int) < nc := by omega
  have HW := Lib.hid (waits_any (ipart code k 0) W hT)
  generalize ipart code k 0 = op at *
  clear hT hF
  go_enter Tryd.func50, Tryd.ntmps50
  go_wp2_with (go_at_call 51; refine HW.out.mono ?_; rintro e w1 ⟨rfl, hb⟩)
  go_ret
  exact ⟨rfl, hb⟩
end
end Go.Proofs.YthdkbofnplnidaaDoor
