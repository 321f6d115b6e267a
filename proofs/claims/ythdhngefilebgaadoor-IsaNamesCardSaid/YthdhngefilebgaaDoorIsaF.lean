/- What is wrong with any instruction; the chapter's example; all ops. -/
import Derived.Test.YthdhngefilebgaaDoorIsaE
import Derived.Laws.MakeOwn
import Derived.Deep.OwnRows
namespace Go.Proofs.YthdhngefilebgaaDoor
open Go.ChangeShapes Go.WideShapes Go.ChangeAt Go.RowKit Go.Deep
set_option linter.unusedVariables false

def chkI (op A B C N p f : Int) : Int := if op < 0 ∨ 24 ≤ op then 1 else chk (rg op.toNat) (tg op.toNat) (nb op.toNat) A B C N p f
theorem chkI_in {k : Nat} (hk : k < 24) (A B C N p f : Int) : chkI k A B C N p f = chk (rg k) (tg k) (nb k) A B C N p f := by
  unfold chkI; rw [if_neg (by omega)]; simp
theorem chkI_out {op : Int} (h : op < 0 ∨ 24 ≤ op) (A B C N p f : Int) : chkI op A B C N p f = 1 := by unfold chkI; rw [if_pos h]
theorem cls : ∀ k : Nat, k < 24 → (rg k = 0 ∧ tg k = 0 ∧ nb k = false) ∨ (rg k = 1 ∧ tg k = 0 ∧ nb k = true) ∨ (rg k = 3 ∧ tg k = 0 ∧ nb k = false) ∨ (rg k = 0 ∧ tg k = 1 ∧ nb k = false) ∨ (rg k = 1 ∧ tg k = 1 ∧ nb k = false) ∨ (rg k = 0 ∧ tg k = 2 ∧ nb k = false) ∨ (rg k = 1 ∧ tg k = 2 ∧ nb k = false) ∨ (rg k = 1 ∧ tg k = 0 ∧ nb k = false) := by decide
theorem in_out (op : Int) : (∃ k : Nat, op = k ∧ k < 24) ∨ (op < 0 ∨ 24 ≤ op) := by
  by_cases h : 0 ≤ op ∧ op < 24
  · exact .inl ⟨op.toNat, by omega, by omega⟩
  · exact .inr (by omega)
theorem check_out (op A B C N p f : Int) (h : op < 0 ∨ 24 ≤ op) (W : World) :
    Calls Tryd.prog 24 #[.agg #[.int .i64 op, .int .i64 A, .int .i64 B, .int .i64 C, .int .i64 N], .int .i64 p, .int .i64 f] W fun e W' => e = .returned (.int .i64 1) ∧ Below W.heap.size W W' := by
  rcases h with h | h
  · go_enter Tryd.func24, Tryd.ntmps24
    go_wp2
    go_ret
    exact ⟨rfl, (Below.refl _ _).alloc (Nat.le_refl _) _⟩
  · have h0 : 0 ≤ op := by omega
    go_enter Tryd.func24, Tryd.ntmps24
    go_wp2
    go_ret
    exact ⟨rfl, (Below.refl _ _).alloc (Nat.le_refl _) _⟩
theorem rcheck_out (op A B C N p f : Int) (h : op < 0 ∨ 24 ≤ op) (W : World) :
    Calls Tryd.prog 25 #[.agg #[.int .i64 op, .int .i64 A, .int .i64 B, .int .i64 C, .int .i64 N], .int .i64 p, .int .i64 f] W fun e W' => e = .returned (.int .i64 1) ∧ Below W.heap.size W W' := by
  have H := Lib.hid h
  clear h
  go_enter Tryd.func25, Tryd.ntmps25
  go_wp2_with (go_at_call 7; refine (is_out op H.out _).mono ?_; rintro e w1 ⟨rfl, hb⟩)
  go_ret
  exact ⟨rfl, ((Below.refl _ _).alloc (Nat.le_refl _) _).trans (hb.mono (by simp))⟩
theorem check_any (op A B C N p f : Int) (W : World) (hT : Tab W) :
    Calls Tryd.prog 24 #[.agg #[.int .i64 op, .int .i64 A, .int .i64 B, .int .i64 C, .int .i64 N], .int .i64 p, .int .i64 f] W fun e W' => e = .returned (.int .i64 (chkI op A B C N p f)) ∧ Below W.heap.size W W' := by
  rcases in_out op with ⟨k, rfl, hk⟩ | h
  · rw [chkI_in hk]
    rcases cls k hk with ⟨h1, h2, h3⟩ | ⟨h1, h2, h3⟩ | ⟨h1, h2, h3⟩ | ⟨h1, h2, h3⟩ | ⟨h1, h2, h3⟩ | ⟨h1, h2, h3⟩ | ⟨h1, h2, h3⟩ | ⟨h1, h2, h3⟩ <;> rw [h1, h2, h3]
    · exact check_00f k hk h1 h2 h3 A B C N p f W hT
    · exact check_10t k hk h1 h2 h3 A B C N p f W hT
    · exact check_30f k hk h1 h2 h3 A B C N p f W hT
    · exact check_01f k hk h1 h2 h3 A B C N p f W hT
    · exact check_11f k hk h1 h2 h3 A B C N p f W hT
    · exact check_02f k hk h1 h2 h3 A B C N p f W hT
    · exact check_12f k hk h1 h2 h3 A B C N p f W hT
    · exact check_10f k hk h1 h2 h3 A B C N p f W hT
  · rw [chkI_out h]; exact check_out op A B C N p f h W
theorem rcheck_any (op A B C N p f : Int) (W : World) :
    Calls Tryd.prog 25 #[.agg #[.int .i64 op, .int .i64 A, .int .i64 B, .int .i64 C, .int .i64 N], .int .i64 p, .int .i64 f] W fun e W' => e = .returned (.int .i64 (chkI op A B C N p f)) ∧ Below W.heap.size W W' := by
  rcases in_out op with ⟨k, rfl, hk⟩ | h
  · rw [chkI_in hk]
    rcases cls k hk with ⟨h1, h2, h3⟩ | ⟨h1, h2, h3⟩ | ⟨h1, h2, h3⟩ | ⟨h1, h2, h3⟩ | ⟨h1, h2, h3⟩ | ⟨h1, h2, h3⟩ | ⟨h1, h2, h3⟩ | ⟨h1, h2, h3⟩ <;> rw [h1, h2, h3]
    · exact rcheck_00f k hk h1 h2 h3 A B C N p f W
    · exact rcheck_10t k hk h1 h2 h3 A B C N p f W
    · exact rcheck_30f k hk h1 h2 h3 A B C N p f W
    · exact rcheck_01f k hk h1 h2 h3 A B C N p f W
    · exact rcheck_11f k hk h1 h2 h3 A B C N p f W
    · exact rcheck_02f k hk h1 h2 h3 A B C N p f W
    · exact rcheck_12f k hk h1 h2 h3 A B C N p f W
    · exact rcheck_10f k hk h1 h2 h3 A B C N p f W
  · rw [chkI_out h]; exact rcheck_out op A B C N p f h W
set_option maxHeartbeats 1000000 in
theorem alive_any (W : World) (hT : Tab W) : Calls Tryd.prog 12 #[] W fun e W' => e = .returned (.bool true) ∧ Below W.heap.size W W' := by
  have c1 : chkI 6 0 0 0 3 3 1 = 2 := by decide
  have c2 : chkI 6 0 0 0 2 3 1 = 0 := by decide
  have n23 : nm 23 = ⟨#[115, 101, 108, 102]⟩ := by decide
  have HT := Lib.hid hT
  have HC1 := Lib.hid c1
  have HC2 := Lib.hid c2
  have HN := Lib.hid n23
  clear hT c1 c2 n23
  go_enter Tryd.func12, Tryd.ntmps12
  go_wp2_with fail
  refine (show Calls Tryd.prog 9 #[.string ⟨#[106, 117, 109, 112]⟩] W _ from op_yes ⟨#[106, 117, 109, 112]⟩ 6 (by omega) (by decide +kernel) W HT.out).mono ?_
  rintro e w1 ⟨rfl, hb1⟩
  have HT1 := Lib.hid (HT.out.below hb1)
  have HB1 := Lib.hid hb1
  clear hb1 HT
  go_wp2_with fail
  refine (show Calls Tryd.prog 11 #[.int .i64 23] w1 _ from name_in 23 (by omega) w1 HT1.out).mono ?_
  rw [HN.out]
  rintro e w2 ⟨rfl, hb2⟩
  have HT2 := Lib.hid (HT1.out.below hb2)
  have HB2 := Lib.hid (HB1.out.trans (hb2.mono HB1.out.size))
  clear hb2 HT1 HB1
  go_wp2_with fail
  refine (check_any 6 0 0 0 3 3 1 w2 HT2.out).mono ?_
  rw [HC1.out]
  rintro e w3 ⟨rfl, hb3⟩
  have HT3 := Lib.hid (HT2.out.below hb3)
  have HB3 := Lib.hid (HB2.out.trans (hb3.mono HB2.out.size))
  clear hb3 HT2 HB2
  go_wp2_with fail
  refine (check_any 6 0 0 0 2 3 1 w3 HT3.out).mono ?_
  rw [HC2.out]
  rintro e w4 ⟨rfl, hb4⟩
  go_wp2
  go_ret
  exact ⟨rfl, HB3.out.trans (hb4.mono HB3.out.size)⟩
end Go.Proofs.YthdhngefilebgaaDoor
