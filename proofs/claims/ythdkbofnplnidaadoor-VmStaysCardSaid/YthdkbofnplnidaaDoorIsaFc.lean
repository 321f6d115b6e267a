/- What is wrong with any instruction; the chapter's example; all ops. -/
import Derived.Test.YthdkbofnplnidaaDoorIsaEc
import Derived.Laws.MakeOwn
import Derived.Deep.OwnRows
namespace Go.Proofs.YthdkbofnplnidaaDoor
open Go.ChangeShapes Go.WideShapes Go.ChangeAt Go.RowKit Go.Deep
set_option linter.unusedVariables false
set_option linter.unusedSimpArgs false

def chkI (op A B C N p f : Int) : Int := if op < 0 ∨ 24 ≤ op then 1 else chk (rg op.toNat) (tg op.toNat) (nb op.toNat) A B C N p f
theorem chkI_in {k : Nat} (hk : k < 24) (A B C N p f : Int) : chkI k A B C N p f = chk (rg k) (tg k) (nb k) A B C N p f := by
  unfold chkI; rw [if_neg (by omega)]; simp
theorem chkI_out {op : Int} (h : op < 0 ∨ 24 ≤ op) (A B C N p f : Int) : chkI op A B C N p f = 1 := by unfold chkI; rw [if_pos h]
theorem cls : ∀ k : Nat, k < 24 → (rg k = 0 ∧ tg k = 0 ∧ nb k = false) ∨ (rg k = 1 ∧ tg k = 0 ∧ nb k = true) ∨ (rg k = 3 ∧ tg k = 0 ∧ nb k = false) ∨ (rg k = 0 ∧ tg k = 1 ∧ nb k = false) ∨ (rg k = 1 ∧ tg k = 1 ∧ nb k = false) ∨ (rg k = 0 ∧ tg k = 2 ∧ nb k = false) ∨ (rg k = 1 ∧ tg k = 2 ∧ nb k = false) ∨ (rg k = 1 ∧ tg k = 0 ∧ nb k = false) := by decide
theorem in_out (op : Int) : (∃ k : Nat, op = k ∧ k < 24) ∨ (op < 0 ∨ 24 ≤ op) := by
  by_cases h : 0 ≤ op ∧ op < 24
  · exact .inl ⟨op.toNat, by omega, by omega⟩
  · exact .inr (by omega)
theorem check_out (op A B C N p f : Int) (h : op < 0 ∨ 24 ≤ op) (W : World) :
    Calls Tryd.prog 45 #[.agg #[.int .i64 op, .int .i64 A, .int .i64 B, .int .i64 C, .int .i64 N], .int .i64 p, .int .i64 f] W fun e W' => e = .returned (.int .i64 1) ∧ Below W.heap.size W W' := by
  rcases h with h | h
  · go_enter Tryd.func45, Tryd.ntmps45
    go_wp2
    go_ret
    exact ⟨rfl, (Below.refl _ _).alloc (Nat.le_refl _) _⟩
  · have h0 : 0 ≤ op := by omega
    go_enter Tryd.func45, Tryd.ntmps45
    go_wp2
    go_ret
    exact ⟨rfl, (Below.refl _ _).alloc (Nat.le_refl _) _⟩
theorem rcheck_out (op A B C N p f : Int) (h : op < 0 ∨ 24 ≤ op) (W : World) :
    Calls Tryd.prog 36 #[.agg #[.int .i64 op, .int .i64 A, .int .i64 B, .int .i64 C, .int .i64 N], .int .i64 p, .int .i64 f] W fun e W' => e = .returned (.int .i64 1) ∧ Below W.heap.size W W' := by
  have H := Lib.hid h
  clear h
  go_enter Tryd.func36, Tryd.ntmps36
  go_wp2_with (go_at_call 47; refine (is_out op H.out _).mono ?_; rintro e w1 ⟨rfl, hb⟩)
  go_ret
  exact ⟨rfl, ((Below.refl _ _).alloc (Nat.le_refl _) _).trans (hb.mono (by simp))⟩
theorem check_any (op A B C N p f : Int) (W : World) (hT : Tab W) :
    Calls Tryd.prog 45 #[.agg #[.int .i64 op, .int .i64 A, .int .i64 B, .int .i64 C, .int .i64 N], .int .i64 p, .int .i64 f] W fun e W' => e = .returned (.int .i64 (chkI op A B C N p f)) ∧ Below W.heap.size W W' := by
  rcases in_out op with ⟨k, rfl, hk⟩ | h
  · rw [chkI_in hk]
    rcases cls k hk with ⟨h1, h2, h3⟩ | ⟨h1, h2, h3⟩ | ⟨h1, h2, h3⟩ | ⟨h1, h2, h3⟩ | ⟨h1, h2, h3⟩ | ⟨h1, h2, h3⟩ | ⟨h1, h2, h3⟩ | ⟨h1, h2, h3⟩ <;> rw [h1, h2, h3]
    · exact check_00f k hk h1 h2 h3 A B C N p f W hT
    · exact check_10t k hk h1 h2 h3 A B C N p f W hT
    · exact check_30f k hk h1 h2 h3 A B C N p f W hT
    · exact check_01f k hk h1 h2 h3 A B C N p f W hT
    · exact check_11f k hk h1 h2 h3 A B C N p f W hT
    · exact check_02f k hk h1 h2 h3 A B C N p f W hT
    · exact check_12f k hk h1 h2 h3 A B C N p f W hT
    · exact check_10f k hk h1 h2 h3 A B C N p f W hT
  · rw [chkI_out h]; exact check_out op A B C N p f h W
theorem rcheck_any (op A B C N p f : Int) (W : World) :
    Calls Tryd.prog 36 #[.agg #[.int .i64 op, .int .i64 A, .int .i64 B, .int .i64 C, .int .i64 N], .int .i64 p, .int .i64 f] W fun e W' => e = .returned (.int .i64 (chkI op A B C N p f)) ∧ Below W.heap.size W W' := by
  rcases in_out op with ⟨k, rfl, hk⟩ | h
  · rw [chkI_in hk]
    rcases cls k hk with ⟨h1, h2, h3⟩ | ⟨h1, h2, h3⟩ | ⟨h1, h2, h3⟩ | ⟨h1, h2, h3⟩ | ⟨h1, h2, h3⟩ | ⟨h1, h2, h3⟩ | ⟨h1, h2, h3⟩ | ⟨h1, h2, h3⟩ <;> rw [h1, h2, h3]
    · exact rcheck_00f k hk h1 h2 h3 A B C N p f W
    · exact rcheck_10t k hk h1 h2 h3 A B C N p f W
    · exact rcheck_30f k hk h1 h2 h3 A B C N p f W
    · exact rcheck_01f k hk h1 h2 h3 A B C N p f W
    · exact rcheck_11f k hk h1 h2 h3 A B C N p f W
    · exact rcheck_02f k hk h1 h2 h3 A B C N p f W
    · exact rcheck_12f k hk h1 h2 h3 A B C N p f W
    · exact rcheck_10f k hk h1 h2 h3 A B C N p f W
  · rw [chkI_out h]; exact rcheck_out op A B C N p f h W
end Go.Proofs.YthdkbofnplnidaaDoor
