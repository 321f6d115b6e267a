/- The document's names; the op of a name; what is wrong with an instruction. -/
import Derived.Test.YthdhngefilebgaaDoorIsaB
import Derived.BigRegion
namespace Go.Proofs.YthdhngefilebgaaDoor
open Go.ChangeShapes Go.WideShapes Go.ChangeAt Go.RowKit Go.Deep
set_option linter.unusedVariables false

def nmV : Array Value := (nmL.map Value.string).toArray
theorem nmV_at (k : Nat) (hk : k < 24) : nmV[k]? = some (.string (nm k)) := by
  have hl : nmL.length = 24 := by decide
  have : k < nmL.length := by omega
  simp [nmV, nm, this]
theorem names_any (W : World) : Calls Tryd.prog 8 #[] W fun e W' => e = .returned (.slice (some ⟨W.heap.size, 0, none⟩) 24 24) ∧ Blk W' W.heap.size 9 nmV ∧ Below W.heap.size W W' := by
  go_enter Tryd.func8, Tryd.ntmps8
  go_wp2
  go_ret
  exact ⟨rfl, Blk.new _ _ _, (Below.refl _ _).alloc (Nat.le_refl _) _⟩
theorem is_in (k : Nat) (hk : k < 24) (W : World) : Calls Tryd.prog 7 #[.int .i64 k] W fun e W' => e = .returned (.bool true) ∧ Below W.heap.size W W' := by
  have h0 : (0 : Int) ≤ (k : Int) := by omega
  have h1 : (k : Int) < 24 := by omega
  go_enter Tryd.func7, Tryd.ntmps7
  go_wp2_with (go_at_call 8; refine (names_any _).mono ?_; rintro e w1 ⟨rfl, _, hb⟩)
  go_ret
  exact ⟨rfl, hb⟩
theorem is_out (op : Int) (h : op < 0 ∨ 24 ≤ op) (W : World) : Calls Tryd.prog 7 #[.int .i64 op] W fun e W' => e = .returned (.bool false) ∧ Below W.heap.size W W' := by
  rcases h with h | h
  · have h' : ¬ 0 ≤ op := by omega
    go_enter Tryd.func7, Tryd.ntmps7
    go_wp2
    go_ret
    exact ⟨rfl, Below.refl _ _⟩
  · have h0 : 0 ≤ op := by omega
    have h2 : decide (op < 24) = false := decide_eq_false (by omega)
    go_enter Tryd.func7, Tryd.ntmps7
    go_wp2_with (go_at_call 8; refine (names_any _).mono ?_; rintro e w1 ⟨rfl, _, hb⟩)
    go_ret
    exact ⟨rfl, hb⟩

theorem nm_ne : ∀ i : Nat, i < 24 → ∀ j : Nat, j < 24 → i ≠ j → ((nm i).toList == (nm j).toList) = false := by decide +kernel
set_option maxHeartbeats 1000000 in
theorem op_yes (s : ByteArray) (j : Nat) (hj : j < 24) (hs : (nm j).toList = s.toList) (W : World) (hT : Tab W) : Calls Tryd.prog 9 #[.string s] W fun e W' => e = .returned (.tuple #[.int .i64 j, .bool true]) ∧ Below W.heap.size W W' := by
  obtain ⟨tt, fr, hg⟩ := hT
  have HS := Lib.hid hs
  clear hs
  go_enter Tryd.func9, Tryd.ntmps9
  go_wp2_with (refine wpList_load_row rfl 41 _ rfl 0 rfl tt _ fr _ hg Tryd.underlying41 rfl (by kernel_rfl) ?_)
  go_loopw [4, 5, 7] (fun _ _ i wr => ∃ k : Nat, k ≤ j ∧ i = .int .i64 k ∧ Below W.heap.size W wr) (fun _ _ i _ => 24 - (intOf i).toNat)
  case atStart => exact ⟨0, Nat.zero_le _, rfl, Below.refl _ _⟩
  case round =>
    obtain ⟨k, hk, rfl, hb⟩ := hrel
    have hk2 : k < 24 := by omega
    have k0 : (k : Int) < 24 := by omega
    have hidx : ∀ w : World, (Instr.index 41 (.agg tabA) (.int .i64 (k : Int))).run Tryd.prog w = .ok (.agg #[.string (nm k), .int .i64 (rg k), .int .i64 (tg k), .bool (nb k), .bool (wt k), .bool (en k), .bool (ak k)]) w := tab_idx k hk2
    have HB := Lib.hid hb
    clear hb hg
    by_cases hkj : k = j
    · subst hkj
      have hself : ((nm k).toList == s.toList) = true := by rw [HS.out]; simp
      go_wp2
      go_ret2
      exact ⟨rfl, HB.out.alloc HB.out.size _⟩
    · have hne : ((nm k).toList == s.toList) = false := by rw [← HS.out]; exact nm_ne k hk2 j hj hkj
      go_wp2
      exact ⟨⟨k + 1, by omega, by go_num, HB.out.alloc HB.out.size _⟩, by simp [intOf]; omega⟩
set_option maxHeartbeats 1000000 in
theorem op_no (s : ByteArray) (hs : ∀ k : Nat, k < 24 → ((nm k).toList == s.toList) = false) (W : World) (hT : Tab W) : Calls Tryd.prog 9 #[.string s] W fun e W' => e = .returned (.tuple #[.int .i64 0, .bool false]) ∧ Below W.heap.size W W' := by
  obtain ⟨tt, fr, hg⟩ := hT
  have HS := Lib.hid hs
  clear hs
  go_enter Tryd.func9, Tryd.ntmps9
  go_wp2_with (refine wpList_load_row rfl 41 _ rfl 0 rfl tt _ fr _ hg Tryd.underlying41 rfl (by kernel_rfl) ?_)
  go_loopw [4, 5, 7] (fun _ _ i wr => ∃ k : Nat, k ≤ 24 ∧ i = .int .i64 k ∧ Below W.heap.size W wr) (fun _ _ i _ => 24 - (intOf i).toNat)
  case atStart => exact ⟨0, Nat.zero_le _, rfl, Below.refl _ _⟩
  case round =>
    obtain ⟨k, hk, rfl, hb⟩ := hrel
    have HB := Lib.hid hb
    clear hb hg
    by_cases hk2 : k < 24
    · have k0 : (k : Int) < 24 := by omega
      have hidx : ∀ w : World, (Instr.index 41 (.agg tabA) (.int .i64 (k : Int))).run Tryd.prog w = .ok (.agg #[.string (nm k), .int .i64 (rg k), .int .i64 (tg k), .bool (nb k), .bool (wt k), .bool (en k), .bool (ak k)]) w := tab_idx k hk2
      have hne := HS.out k hk2
      go_wp2
      exact ⟨⟨k + 1, by omega, by go_num, HB.out.alloc HB.out.size _⟩, by simp [intOf]; omega⟩
    · have k0 : ¬ (k : Int) < 24 := by omega
      go_wp2
      go_ret2
      exact ⟨rfl, HB.out⟩
end Go.Proofs.YthdhngefilebgaaDoor
