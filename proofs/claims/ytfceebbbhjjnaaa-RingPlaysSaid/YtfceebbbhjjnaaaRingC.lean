/- A ring in memory: take. -/
import Derived.Test.YtfceebbbhjjnaaaRingB
namespace Go.Proofs.Ytfceebbbhjjnaaa
open Go.ChangeShapes Go.WideShapes Go.ChangeAt Go.RowKit Go.Deep
set_option linter.unusedVariables false

theorem Rg.first {W w2 : World} {b : Nat} {nx : Int} {n f m : Nat} {rv : Value} {ob : Obj} (h : Rg W b nx n rv f m) (r2 : (W.alloc ob).grownBy w2 (blk none)) : Rg w2 b nx n rv f m := Blk.grown (Blk.alloc h ob) r2 (by simp [blk])
theorem Blk.first {W w2 : World} {b : Nat} {T : TypeId} {cs : Array Value} {ob : Obj} (h : Blk W b T cs) (r2 : (W.alloc ob).grownBy w2 (blk none)) : Blk w2 b T cs := Blk.grown (Blk.alloc h ob) r2 (by simp [blk])
theorem chg_first {W w2 : World} {ob : Obj} (r2 : (W.alloc ob).grownBy w2 (blk none)) : Chg (fun _ => False) W w2 := ((Chg.refl _ _).alloc ob).grown r2 (fun k hk => by simp [blk] at hk)
theorem Rg.many {W : World} {b : Nat} {nx : Int} {n f m : Nat} {rv : Value} (h : Rg W b nx n rv f m) : W.cell? ⟨b, 4, none⟩ = some (.int .i64 (m : Int)) := by
  have := Blk.cell h 4; simpa using this
theorem Rg.nxt {W : World} {b : Nat} {nx : Int} {n f m : Nat} {rv : Value} (h : Rg W b nx n rv f m) : W.cell? ⟨b, 0, none⟩ = some (.int .i64 nx) := by
  have := Blk.cell h 0; simpa using this
theorem Row.farb {w : World} {base n c b : Nat} {E : TypeId} {A : Option Addr} {xs : List Value} (h : Row w base E 1 A n c xs) (hb : b < base) : ∀ g, blk A = some g → ¬ g = b := fun g hg e => by have := (h.blk_lt g hg).1; omega
theorem Row.farn {w : World} {base n c b : Nat} {E : TypeId} {A : Option Addr} {xs : List Value} (h : Row w base E 1 A n c xs) (hb : b < base) : some b ≠ blk A := fun e => h.farb hb b e.symm rfl

set_option maxRecDepth 100000 in
set_option maxHeartbeats 8000000 in
theorem take_next (W : World) (b S : Nat) (nx : Int) (n f m : Nat) (vs : List Int) (h1 : 1 ≤ n) (h2 : n ≤ 1000) (hf : f < n) (hm : m ≤ n) (hnx : nx ≠ 0) (hR : Rg W b nx n (.slice (some ⟨S, 0, none⟩) n n) f m) (hS : Blk W S 3 (ints vs).toArray) (hvs : vs.length = n) :
    Calls Try.prog 27 #[.pointer (some ⟨b, 0, none⟩)] W fun e W' => ∃ A c, e = .returned (.slice A (1 + m) c) ∧ Row W' W.heap.size 3 1 A (1 + m) c (ints (nx :: front vs n f m)) ∧ Rg W' b 0 n (.slice (some ⟨S, 0, none⟩) n n) ((f + m) % n) 0 ∧ Chg (fun k => k = b) W W' := by
  have kb := hR.lt
  have kS := hS.lt
  have c0 := hR.cell 0
  simp at c0
  have x0 : (nx == 0) = false := beq_eq_false_iff_ne.2 hnx
  have x1 : decide (nx = 0) = false := decide_eq_false hnx
  have hfl := front_len vs n f m
  have hcut := Lib.hid (fun (V : World) (hR' : Rg V b nx n (.slice (some ⟨S, 0, none⟩) n n) f m) (hS' : Blk V S 3 (ints vs).toArray) => cut_any V b S nx n f m m vs h1 h2 hf hm (Nat.le_refl _) hR' hS' hvs)
  generalize front vs n f m = F at *
  generalize (f + m) % n = f' at *
  go_enter Try.func27, Try.ntmps27
  go_wp2_with (first
    | (at_builtin; refine wpList_app rfl (.tmp 16) (.tmp 22) rfl W.heap.size A2 1 c2 [nx] rfl hrow3 _ m m F rfl hrd3 ?d1 ?d2 ?_; (case d1 => omega); (case d2 => omega); intro A4 c4 w4 s1 s2 s3; have hR4 := Blk.grown hR3 s2 (r1.farn kb); have g0 := Blk.frozen hR4 0; have g1 := Rg.nxt hR4; have g2 := Blk.lt hR4)
    | (go_at_call 29; refine (hcut.out _ hR2 hS2).mono ?_; rintro e w3 ⟨rfl, hR3, hrd3, hc3⟩; have hrow3 := r1.kept hc3 (r1.farb kb); have hz3 := hc3.size)
    | (at_builtin; refine wpList_app rfl (.tmp 9) (.tmp 14) rfl W.heap.size none _ _ [] rfl (Row.nil _ _ _ _) _ 1 1 [nx] rfl (Rd.lit _ _ _) ?c1 ?c2 ?_; (case c1 => omega); (case c2 => simp); intro A2 c2 w2 r1 r2 r3; have hR2 := hR.first r2; have hS2 := hS.first r2; have hch2 := chg_first r2; have hz2 := hch2.size; have e4 := hR2.many; have e0 := Blk.lt hR2))
  go_ret
  have hfin := Blk.set_ hR4 0 (.int .i64 0)
  refine ⟨A4, c4, rfl, s1.setCell (p := ⟨b, 0, none⟩) (fun e => s1.farb kb b e rfl) _, by simpa [Rg] using hfin, ?_⟩
  have hcc : Chg (fun k => k = b) W w4 := ((hch2.mono (S' := fun k => k = b) (fun _ _ h => h.elim)).trans hc3 (fun _ _ h => h)).grown s2 (fun k hk => .inr (r1.blk_lt k hk).1)
  exact Chg.setCell (S := fun k => k = b) hcc (.inl rfl) _
end Go.Proofs.Ytfceebbbhjjnaaa
