/- Contracts of the global row: Len, Put, turn, Get. -/
import Derived.Test.YtifflhombjljbaaQ2
import Derived.Test.YtifflhombjljbaaRsame
import Derived.Deep.RegionLaw
namespace Go.Proofs.Ytifflhombjljbaa
open Go.ChangeShapes Go.WideShapes Go.ChangeAt Go.RowKit Go.Deep
set_option linter.unusedVariables false

def QT : TypeId := 44
/-- The row at K: whoever waits, in their order. -/
def GQ (w : World) (B K : Nat) (A1 A2 : Option Addr) (L : List Int) : Prop := ∃ c1 c2 f b, Q2 44 w B K A1 A2 c1 c2 f b ∧ L = f.reverse ++ b ∧ L.length ≤ 100000
def GAft (W W' : World) (B K : Nat) (A1 A2 : Option Addr) (L : List Int) : Prop := ∃ A1' A2', GQ W' B K A1' A2' L ∧ Chg (Fp K A1 A2) W W' ∧ ∀ g, Fp K A1' A2' g → Fp K A1 A2 g ∨ W.heap.size ≤ g
section
variable {S : Nat → Prop} {w W W1 w' W' : World} {B K : Nat} {A1 A2 A1' A2' : Option Addr} {L L' : List Int}
theorem GQ.kept (h : GQ w B K A1 A2 L) (hc : Chg S w w') (hn : ∀ k, Fp K A1 A2 k → ¬ S k) : GQ w' B K A1 A2 L := by
  obtain ⟨c1, c2, f, b, hq, r⟩ := h
  exact ⟨c1, c2, f, b, hq.kept hc hn, r⟩
theorem GQ.same (h : GQ w B K A1 A2 L) (hc : Chg (fun _ => False) w w') : GQ w' B K A1 A2 L := h.kept hc (fun _ _ h => h)
theorem GQ.fp_lt (h : GQ w B K A1 A2 L) : ∀ k, Fp K A1 A2 k → B ≤ k ∧ k < w.heap.size := by
  obtain ⟨c1, c2, f, b, hq, r⟩ := h
  exact hq.fp_lt
theorem GAft.same (h : GQ W B K A1 A2 L) (hc : Chg (fun _ => False) W W') : GAft W W' B K A1 A2 L := ⟨A1, A2, h.same hc, hc.mono (fun _ _ h => h.elim), fp_same⟩
theorem GAft.trans (h : GAft W W1 B K A1 A2 L') (k : ∀ A1' A2', GQ W1 B K A1' A2' L' → GAft W1 W' B K A1' A2' L) : GAft W W' B K A1 A2 L := by
  obtain ⟨E1, E2, hq, hc, hg⟩ := h
  obtain ⟨D1, D2, hq2, hc2, hg2⟩ := k E1 E2 hq
  refine ⟨D1, D2, hq2, hc.trans hc2 (fun k hk hh => (hg k hh).resolve_right (by omega)), fun g hh => ?_⟩
  rcases hg2 g hh with h' | h'
  · exact hg g h'
  · right; have := hc.size; omega
theorem GAft.below {B0 : Nat} (h : GAft W W' B K A1 A2 L') (hq : GQ W B K A1 A2 L) (hB : B0 ≤ B) (hW : B0 ≤ W.heap.size) : Below B0 W W' := by
  obtain ⟨_, _, _, hc, _⟩ := h
  exact hc.below hW (fun k _ hk => by have := (hq.fp_lt k hk).1; omega)
end

set_option maxHeartbeats 1000000 in
theorem len_any (B K : Nat) (A1 A2 : Option Addr) (L : List Int) (W : World) (hS : GQ W B K A1 A2 L) :
    Calls Try.prog 11 #[.pointer (some ⟨K, 0, none⟩)] W fun e W' => e = .returned (.int .i64 (L.length : Int)) ∧ ∃ q, W' = W.drewN q := by
  obtain ⟨c1, c2, f, b, ⟨h0, hK, h1, h2, hne⟩, rfl, hl⟩ := hS
  have hk := hK.lt
  have e0 := hK.cell 0
  have e1 := hK.cell 1
  simp at e0 e1 hl
  have hl1 : (f.length : Int) + (b.length : Int) ≤ 100000 := by omega
  go_enter Try.func11, Try.ntmps11
  go_wp2
  go_quiet (fail)
  go_wp2
  go_ret
  exact ⟨ret_int (by simp), _, rfl⟩

/-- Those that wait: numbers from 1 on. -/
def right (xs : List Int) : List Int := xs.filter fun g => decide (0 < g)
theorem right_next {xs : List Int} {k : Nat} (h : k < xs.length) : right (xs.take (k + 1)) = right (xs.take k) ++ (if 0 < xs[k] then [xs[k]] else []) := by
  rw [List.take_succ_eq_append_getElem h, right, List.filter_append]
  congr 1
  by_cases hh : 0 < xs[k] <;> simp [hh]
theorem right_le (xs : List Int) : (right xs).length ≤ xs.length := List.length_filter_le _ _

def RoundPut (W : World) (B K : Nat) (A1 A2 : Option Addr) (f b xs : List Int) (i : Value) (wr : World) : Prop :=
  ∃ (k : Nat) (E1 E2 : Option Addr) (c1 c2 : Nat), k ≤ xs.length ∧ i = .int .i64 k ∧ Q2 44 wr B K E1 E2 c1 c2 f (b ++ right (xs.take k)) ∧ Chg (Fp K A1 A2) W wr ∧ ∀ g, Fp K E1 E2 g → Fp K A1 A2 g ∨ W.heap.size ≤ g
theorem RoundPut.no {W wr : World} {B K k c1 c2 : Nat} {A1 A2 E1 E2 : Option Addr} {f b xs : List Int} (hk : k < xs.length) (hz : ¬ 0 < xs[k]) (hq : Q2 44 wr B K E1 E2 c1 c2 f (b ++ right (xs.take k))) (hc : Chg (Fp K A1 A2) W wr) (hf : ∀ g, Fp K E1 E2 g → Fp K A1 A2 g ∨ W.heap.size ≤ g) :
    RoundPut W B K A1 A2 f b xs (.int .i64 ((k : Int) + 1)) wr :=
  ⟨k + 1, E1, E2, c1, c2, by omega, by go_num, by rw [right_next hk, if_neg hz, List.append_nil]; exact hq, hc, hf⟩
theorem RoundPut.yes {W wr w2 : World} {B K k c1 c2 : Nat} {A1 A2 E1 E2 D1 D2 : Option Addr} {f b xs : List Int} (hk : k < xs.length) (hz : 0 < xs[k]) (hq : Q2 44 w2 B K D1 D2 c1 c2 f ((b ++ right (xs.take k)) ++ [xs[k]])) (hc : Chg (Fp K A1 A2) W wr) (hf : ∀ g, Fp K E1 E2 g → Fp K A1 A2 g ∨ W.heap.size ≤ g)
    (hc2 : Chg (Fp K E1 E2) wr w2) (hf2 : ∀ g, Fp K D1 D2 g → Fp K E1 E2 g ∨ wr.heap.size ≤ g) : RoundPut W B K A1 A2 f b xs (.int .i64 ((k : Int) + 1)) w2 := by
  refine ⟨k + 1, D1, D2, c1, c2, by omega, by go_num, by rw [right_next hk, if_pos hz, ← List.append_assoc]; exact hq, hc.trans hc2 (fun k hk h => (hf k h).resolve_right (by omega)), fun g hg => ?_⟩
  rcases hf2 g hg with h | h
  · exact hf g h
  · right; have := hc.size; omega

set_option maxHeartbeats 2000000 in
theorem put_any (B K : Nat) (A1 A2 A : Option Addr) (n c : Nat) (L xs : List Int) (W : World) (hS : GQ W B K A1 A2 L) (hA : Rd W 1 A n (ints xs)) (hd : ∀ g, blk A = some g → ¬ Fp K A1 A2 g) (hB : B ≤ W.heap.size) (hl : L.length + n ≤ 50000) :
    Calls Try.prog 16 #[.pointer (some ⟨K, 0, none⟩), .slice A n c] W fun e W' => e = .returned (.int .i64 ((L ++ right xs).length : Int)) ∧ GAft W W' B K A1 A2 (L ++ right xs) := by
  obtain ⟨c1, c2, f, b, hq, rfl, hlL⟩ := hS
  have hn1 := hA.len
  subst hn1
  simp at hl
  go_enter Try.func16, Try.ntmps16
  go_wp2
  go_loopw [11] (fun i wr => RoundPut W B K A1 A2 f b xs i wr) (fun i _ => xs.length - (intOf i).toNat)
  case atStart => exact ⟨0, A1, A2, c1, c2, Nat.zero_le _, rfl, by simpa [right] using hq, Chg.refl _ _, fp_same⟩
  case round =>
    clear hq
    obtain ⟨k, E1, E2, c1, c2, hk, rfl, hq, hc, hf⟩ := hrel
    have hws := hc.size
    by_cases hlt : k < xs.length
    · obtain ⟨bb, o, rfl, hbl, hcc⟩ := (hA.kept hc hd).at_ (by omega)
      have e0 := hcc k hlt
      clear hcc hA hd
      have hno := Lib.hid (fun (h : ¬ 0 < xs[k]) => RoundPut.no (A1 := A1) (A2 := A2) (W := W) (b := b) hlt h hq hc hf)
      have hyes := Lib.hid (fun (h : 0 < xs[k]) (D1 D2 : Option Addr) (d1 d2 : Nat) (w2 : World) hq2 hc2 hf2 => RoundPut.yes (B := B) (f := f) (b := b) (A1 := A1) (A2 := A2) (W := W) (D1 := D1) (D2 := D2) (c1 := d1) (c2 := d2) (w2 := w2) hlt h hq2 hc hf hc2 hf2)
      generalize xs[k] = z at e0 hno hyes
      have hbl : (b ++ right (xs.take k)).length ≤ 100000 := by
        have hrl := right_le (xs.take k)
        have htl : (xs.take k).length ≤ k := List.length_take_le _ _
        simp; omega
      generalize b ++ right (xs.take k) = bs at *
      have hq0 := hq
      obtain ⟨h0, hK, h1, h2, hne⟩ := hq
      have hk := hK.lt
      have p1 := hK.cell 1
      have p3 := hK.frozen 1
      simp at p1
      by_cases hz : 0 < z
      · go_wp2_with (at_builtin; refine wpList_app rfl (.tmp 21) (.tmp 23) rfl B E2 _ _ bs rfl (h2.alloc _) _ 1 1 [z] rfl (Rd.lit _ _ _) ?c1 ?c2 ?_; (case c1 => omega); (case c2 => (simp; omega)); intro D d w2 r1 r2 r3; obtain ⟨s0, s1, s2, s3⟩ := hq0.app2 (by decide) r1 r2 r3; have s4 := s0.cell 1; have s5 := s0.frozen 1; have s6 := s0.lt; simp at s4)
        go_roundw
        case rel => exact hyes.out hz _ _ _ _ _ s1 s2 s3
        case measure => simp [intOf]; omega
      · go_wp2
        go_roundw
        case rel => exact hno.out hz
        case measure => simp [intOf]; omega
    · obtain rfl : k = xs.length := by omega
      rw [List.take_length] at hq
      have hG : GQ wr B K E1 E2 ((f.reverse ++ b) ++ right xs) := by
        have hrl := right_le xs
        refine ⟨c1, c2, f, _, hq, by simp, ?_⟩
        simp; omega
      go_wp2_with (go_at_call 11; refine (len_any B K E1 E2 _ _ hG).mono ?_; rintro e w9 ⟨rfl, q, rfl⟩)
      go_ret
      exact ⟨ret_int (by simp), E1, E2, hG.same ((Chg.refl _ _).drewN q), hc.drewN q, hf⟩
end Go.Proofs.Ytifflhombjljbaa
