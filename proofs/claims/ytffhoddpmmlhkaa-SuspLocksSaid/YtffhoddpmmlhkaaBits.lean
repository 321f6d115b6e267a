/- The bits that gstat's functions compute, at the numbers that come up. -/
import Derived.Test.YtffhoddpmmlhkaaBase
import Derived.DataShut
namespace Go.Proofs.Ytffhoddpmmlhkaa
open Go.RowKit
theorem bx0 : bits .xor .i64 0 8 = 8 := by decide
theorem bn0 : bits .andNot .i64 0 8 = 0 := by decide
theorem ba0 : bits .and .i64 0 8 = 0 := by decide
theorem bo0 : bits .or .i64 0 8 = 8 := by decide
theorem bp0 : bits .or .i64 0 0 = 0 := by decide
theorem bx1 : bits .xor .i64 1 8 = 9 := by decide
theorem bn1 : bits .andNot .i64 1 8 = 1 := by decide
theorem ba1 : bits .and .i64 1 8 = 0 := by decide
theorem bo1 : bits .or .i64 1 8 = 9 := by decide
theorem bp1 : bits .or .i64 1 0 = 1 := by decide
theorem bx2 : bits .xor .i64 2 8 = 10 := by decide
theorem bn2 : bits .andNot .i64 2 8 = 2 := by decide
theorem ba2 : bits .and .i64 2 8 = 0 := by decide
theorem bo2 : bits .or .i64 2 8 = 10 := by decide
theorem bp2 : bits .or .i64 2 0 = 2 := by decide
theorem bx3 : bits .xor .i64 3 8 = 11 := by decide
theorem bn3 : bits .andNot .i64 3 8 = 3 := by decide
theorem ba3 : bits .and .i64 3 8 = 0 := by decide
theorem bo3 : bits .or .i64 3 8 = 11 := by decide
theorem bp3 : bits .or .i64 3 0 = 3 := by decide
theorem bx4 : bits .xor .i64 4 8 = 12 := by decide
theorem bn4 : bits .andNot .i64 4 8 = 4 := by decide
theorem ba4 : bits .and .i64 4 8 = 0 := by decide
theorem bo4 : bits .or .i64 4 8 = 12 := by decide
theorem bp4 : bits .or .i64 4 0 = 4 := by decide
theorem bx5 : bits .xor .i64 5 8 = 13 := by decide
theorem bn5 : bits .andNot .i64 5 8 = 5 := by decide
theorem ba5 : bits .and .i64 5 8 = 0 := by decide
theorem bo5 : bits .or .i64 5 8 = 13 := by decide
theorem bp5 : bits .or .i64 5 0 = 5 := by decide
theorem bx6 : bits .xor .i64 6 8 = 14 := by decide
theorem bn6 : bits .andNot .i64 6 8 = 6 := by decide
theorem ba6 : bits .and .i64 6 8 = 0 := by decide
theorem bo6 : bits .or .i64 6 8 = 14 := by decide
theorem bp6 : bits .or .i64 6 0 = 6 := by decide
theorem bx7 : bits .xor .i64 7 8 = 15 := by decide
theorem bn7 : bits .andNot .i64 7 8 = 7 := by decide
theorem ba7 : bits .and .i64 7 8 = 0 := by decide
theorem bo7 : bits .or .i64 7 8 = 15 := by decide
theorem bp7 : bits .or .i64 7 0 = 7 := by decide
theorem bx8 : bits .xor .i64 8 8 = 0 := by decide
theorem bn8 : bits .andNot .i64 8 8 = 0 := by decide
theorem ba8 : bits .and .i64 8 8 = 8 := by decide
theorem bo8 : bits .or .i64 8 8 = 8 := by decide
theorem bp8 : bits .or .i64 8 0 = 8 := by decide
theorem bx9 : bits .xor .i64 9 8 = 1 := by decide
theorem bn9 : bits .andNot .i64 9 8 = 1 := by decide
theorem ba9 : bits .and .i64 9 8 = 8 := by decide
theorem bo9 : bits .or .i64 9 8 = 9 := by decide
theorem bp9 : bits .or .i64 9 0 = 9 := by decide
theorem bx10 : bits .xor .i64 10 8 = 2 := by decide
theorem bn10 : bits .andNot .i64 10 8 = 2 := by decide
theorem ba10 : bits .and .i64 10 8 = 8 := by decide
theorem bo10 : bits .or .i64 10 8 = 10 := by decide
theorem bp10 : bits .or .i64 10 0 = 10 := by decide
theorem bx11 : bits .xor .i64 11 8 = 3 := by decide
theorem bn11 : bits .andNot .i64 11 8 = 3 := by decide
theorem ba11 : bits .and .i64 11 8 = 8 := by decide
theorem bo11 : bits .or .i64 11 8 = 11 := by decide
theorem bp11 : bits .or .i64 11 0 = 11 := by decide
theorem bx12 : bits .xor .i64 12 8 = 4 := by decide
theorem bn12 : bits .andNot .i64 12 8 = 4 := by decide
theorem ba12 : bits .and .i64 12 8 = 8 := by decide
theorem bo12 : bits .or .i64 12 8 = 12 := by decide
theorem bp12 : bits .or .i64 12 0 = 12 := by decide
theorem bx13 : bits .xor .i64 13 8 = 5 := by decide
theorem bn13 : bits .andNot .i64 13 8 = 5 := by decide
theorem ba13 : bits .and .i64 13 8 = 8 := by decide
theorem bo13 : bits .or .i64 13 8 = 13 := by decide
theorem bp13 : bits .or .i64 13 0 = 13 := by decide
theorem bx14 : bits .xor .i64 14 8 = 6 := by decide
theorem bn14 : bits .andNot .i64 14 8 = 6 := by decide
theorem ba14 : bits .and .i64 14 8 = 8 := by decide
theorem bo14 : bits .or .i64 14 8 = 14 := by decide
theorem bp14 : bits .or .i64 14 0 = 14 := by decide
theorem bk0 : bits .and .i64 0 1 = 0 := by decide
theorem bk1 : bits .and .i64 1 1 = 1 := by decide
theorem bk2 : bits .and .i64 2 1 = 0 := by decide
theorem bk3 : bits .and .i64 3 1 = 1 := by decide
theorem bk4 : bits .and .i64 4 1 = 0 := by decide
theorem bk6 : bits .and .i64 6 1 = 0 := by decide
theorem bk7 : bits .and .i64 7 1 = 1 := by decide
theorem bk9 : bits .and .i64 9 1 = 1 := by decide
theorem bk14 : bits .and .i64 14 1 = 0 := by decide
theorem bk15 : bits .and .i64 15 1 = 1 := by decide
theorem bk18 : bits .and .i64 18 1 = 0 := by decide
theorem bk29 : bits .and .i64 29 1 = 1 := by decide
theorem bk30 : bits .and .i64 30 1 = 0 := by decide
theorem bk36 : bits .and .i64 36 1 = 0 := by decide
theorem bk58 : bits .and .i64 58 1 = 0 := by decide
theorem bk61 : bits .and .i64 61 1 = 1 := by decide
theorem bk122 : bits .and .i64 122 1 = 0 := by decide
/-- Of a number outside 0..14 the word without Scan is no status. -/
theorem xor_out (w : Int) (hw : (Lit.int .i64 w).wf = true) (h : w < 8 ∨ 14 < w) : bits .xor .i64 w 8 < 0 ∨ 6 < bits .xor .i64 w 8 := by
  by_cases hn : bits .xor .i64 w 8 < 0
  · exact .inl hn
  by_cases hp : 6 < bits .xor .i64 w 8
  · exact .inr hp
  exfalso
  have key : ∀ v : Nat, v < 7 → bits .xor .i64 w 8 = (v : Int) → BitVec.ofInt 64 w ^^^ 8#64 = BitVec.ofNat 64 v := by
    intro v hv he
    have e1 : bits .xor .i64 w 8 = IntKind.i64.wrap ((BitVec.ofInt 64 w ^^^ BitVec.ofInt 64 8).toNat : Int) := rfl
    rw [e1, IntKind.wrap_i64] at he
    apply BitVec.eq_of_toNat_eq
    have h8 : BitVec.ofInt 64 8 = 8#64 := by decide
    rw [h8] at he
    have hl := (BitVec.ofInt 64 w ^^^ 8#64).isLt
    rw [BitVec.toNat_ofNat]
    omega
  have hb : (BitVec.ofInt 64 w).toInt = w := by
    rw [BitVec.toInt_ofInt]
    have hwf := (Lit.wf_int_iff .i64 w).1 hw
    simp [IntKind.min, IntKind.max, IntKind.bits, IntKind.signed] at hwf
    rw [Int.bmod_def]
    omega
  have fin : ∀ v : Nat, v < 7 → bits .xor .i64 w 8 = (v : Int) → False := by
    intro v hv he
    have h1 := key v hv he
    have h2 : BitVec.ofInt 64 w = BitVec.ofNat 64 v ^^^ 8#64 := by rw [← h1, BitVec.xor_assoc, BitVec.xor_self, BitVec.xor_zero]
    rw [h2] at hb
    have h3 : v = 0 ∨ v = 1 ∨ v = 2 ∨ v = 3 ∨ v = 4 ∨ v = 5 ∨ v = 6 := by omega
    rcases h3 with rfl | rfl | rfl | rfl | rfl | rfl | rfl <;> simp at hb <;> omega
  exact fin (bits .xor .i64 w 8).toNat (by omega) (by omega)
end Go.Proofs.Ytffhoddpmmlhkaa
