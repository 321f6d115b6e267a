/- Contracts: the example's entries as text, and the example's numbers as words. -/
import Derived.Test.YtcngdngkkglepaaDoorScrA
import Derived.Test.YtcngdngkkglepaaDoorRobA
namespace Go.Proofs.YtcngdngkkglepaaDoor
open Go.ChangeShapes Go.WideShapes Go.ChangeAt Go.RowKit Go.Deep
set_option linter.unusedVariables false
set_option linter.unusedSimpArgs false

def lineS : Nat → ByteArray
  | 0 => ⟨#[48, 32, 49, 32, 48]⟩
  | _ => ⟨#[49, 32, 49, 32, 49]⟩
def txt : Nat → List UInt8
  | 0 => []
  | 1 => [48, 32, 49, 32, 48, 10]
  | _ => [48, 32, 49, 32, 48, 10, 49, 32, 49, 32, 49, 10]
theorem words_line (k : Nat) (hk : k < 2) (W : World) : Calls Tryd.prog 27 #[.int .i64 (k : Int), .int .i64 1, .int .i64 (k : Int)] W fun e W' => e = .returned (.string (lineS k)) ∧ W' = W := by
  match k, hk with
  | 0, _ => exact words_010 W
  | 1, _ => exact words_111 W
theorem txt_next (k : Nat) (hk : k < 2) : Lib.byteCells (txt k) ++ Lib.strCells (lineS k ++ ⟨#[10]⟩) = Lib.byteCells (txt (k + 1)) := by
  match k, hk with
  | 0, _ => rfl
  | 1, _ => rfl
theorem line_size (k : Nat) (hk : k < 2) : (lineS k ++ ⟨#[10]⟩).size = 6 := by
  match k, hk with
  | 0, _ => rfl
  | 1, _ => rfl
theorem line_le (k : Nat) (hk : k < 2) : (lineS k).size ≤ 5 := by
  match k, hk with
  | 0, _ => decide
  | 1, _ => decide
theorem txt_len (k : Nat) (hk : k ≤ 2) : (Lib.byteCells (txt k)).length ≤ 12 := by
  match k, hk with
  | 0, _ => decide
  | 1, _ => decide
  | 2, _ => decide
theorem bat_alloc {T e : TypeId} {B b : Nat} {p : Value} {bs : List Value} {w : World} (h : Lib.BuilderAt T e B b p bs w) (o : Obj) : Lib.BuilderAt T e B b p bs (w.alloc o) := by
  have hlt := h.lt
  obtain ⟨h1, v, h2, h3, h4⟩ := h
  exact ⟨h1, v, (Below.heap_alloc w o b hlt).trans h2, h3.alloc o, h4⟩
theorem isb_alloc {T e : TypeId} {B b : Nat} {bs : List Value} {w : World} (h : Lib.IsBuilder T e B b bs w) (o : Obj) : Lib.IsBuilder T e B b bs (w.alloc o) := by
  rcases h with h | h
  · exact .inl (bat_alloc h o)
  · exact .inr (bat_alloc h o)
set_option maxRecDepth 100000 in
set_option maxHeartbeats 2000000 in
theorem print_rob (A : Option Addr) (c : Nat) (W : World) (hA : Rd W 3 A 2 (kv (rob 1 2))) (hAb : ∀ g, blk A = some g → g < W.heap.size) :
    Calls Tryd.prog 11 #[.slice A 2 c] W fun e W' => e = .returned (.string ⟨(txt 2).toArray⟩) ∧ Below W.heap.size W W' := by
  have HF := Lib.hid (Lib.fresh_isBuilder 55 5 W)
  have HA := Lib.hid hA
  clear hA hAb
  go_enter Tryd.func11, Tryd.ntmps11
  go_wp2_with fail
  go_loopw [8] (fun iv wr => ∃ k : Nat, k ≤ 2 ∧ iv = .int .i64 k ∧ Lib.IsBuilder 55 5 W.heap.size W.heap.size (Lib.byteCells (txt k)) wr ∧ Below W.heap.size W wr ∧ W.heap.size < wr.heap.size) (fun iv _ => 2 - (intOf iv).toNat)
  case atStart => exact ⟨0, by omega, rfl, HF.out, (Below.refl _ _).alloc (Nat.le_refl _) _, by simp⟩
  case round =>
    obtain ⟨k, hk, rfl, hb, hbe, hsz⟩ := hrel
    have k0 : (0 : Int) ≤ k := by omega
    have HB := Lib.hid hb
    have HBE := Lib.hid hbe
    by_cases hlt : k < 2
    · have k1 : (k : Int) < 2 := by omega
      obtain ⟨hl, b, o, rfl, hbb, hcc⟩ := (HA.out.below hbe (Nat.le_refl _)).getk (rob_uni 1 _) (by decide) (by omega)
      have hke : k < (rob 1 2).length := by omega
      have e0 := hcc k hke 0 (by decide)
      have e1 := hcc k hke 1 (by decide)
      have e2 := hcc k hke 2 (by decide)
      rw [rob_at] at e0 e1 e2
      simp only [Nat.add_zero] at e0
      rw [← Nat.add_assoc] at e1 e2
      simp at e0 e1 e2
      have HBA := Lib.hid (isb_alloc hb (.cells #[.int .i64 k, .int .i64 1, .int .i64 k] 31))
      have HW := Lib.hid (words_line k hlt)
      have HT := Lib.hid (txt_next k hlt)
      have HL := Lib.hid (line_size k hlt)
      have hl5 := line_le k hlt
      have HTL := Lib.hid (txt_len k hk)
      have HS2 := Lib.hid (Below.alloc hbe (Nat.le_of_lt hsz) (.cells #[.int .i64 k, .int .i64 1, .int .i64 k] 31))
      clear hcc hb hbe HA HF
      go_wp2_with (first
        | (go_at_call 27; refine (HW.out _).mono ?_; rintro e w1 ⟨rfl, rfl⟩)
        | (go_at_call 26; refine (writeString_any W.heap.size W.heap.size (Lib.byteCells (txt k)) _ _ HBA.out ?_ ?_).mono ?_; (next => (have := HL.out; have := HTL.out; omega)); (next => (simp; omega)); rintro e w2 ⟨rfl, hb2, hbe2⟩; have HB2 := Lib.hid hb2; have HBE2 := Lib.hid (HS2.out.trans hbe2); have hsz2 := hbe2.size; clear hb2 hbe2))
      go_roundw
      case rel => exact ⟨k + 1, by omega, by go_num, .inr (by rw [← HT.out]; exact HB2.out), HBE2.out, by simp at hsz2; omega⟩
      case measure => simp [intOf]; omega
    · obtain rfl : k = 2 := by omega
      clear hb hbe HA HF
      go_wp2_with (go_at_call 28; refine (Tryd.Builder_String_any W.heap.size W.heap.size (txt 2) wr HB.out (by omega)).mono ?_; rintro e w3 ⟨rfl, hb3⟩)
      go_ret
      exact ⟨rfl, HBE.out.trans hb3⟩
end Go.Proofs.YtcngdngkkglepaaDoor
