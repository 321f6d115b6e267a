/- Which plans are right: the program's and the document's. -/
import Derived.Test.YtfmjmhnbdceipaaPcE
namespace Go.Proofs.Ytfmjmhnbdceipaa
open Go.ChangeShapes Go.WideShapes Go.ChangeAt Go.RowKit Go.Deep
set_option linter.unusedVariables false

def rightP (m s c e : Int) : Prop := (1 ≤ m ∧ m ≤ 64) ∧ (2 ≤ e ∧ e ≤ 1000) ∧ (0 ≤ s ∧ s ≤ 65536) ∧ 0 ≤ c ∧ c ≤ 100
theorem not_right {m s c e : Int} (h : ¬ rightP m s c e) : (m < 1) ∨ (1 ≤ m ∧ 64 < m) ∨ (1 ≤ m ∧ m ≤ 64 ∧ e < 2) ∨ (1 ≤ m ∧ m ≤ 64 ∧ 2 ≤ e ∧ 1000 < e) ∨ (1 ≤ m ∧ m ≤ 64 ∧ 2 ≤ e ∧ e ≤ 1000 ∧ s < 0) ∨ (1 ≤ m ∧ m ≤ 64 ∧ 2 ≤ e ∧ e ≤ 1000 ∧ 0 ≤ s ∧ 65536 < s) ∨ (1 ≤ m ∧ m ≤ 64 ∧ 2 ≤ e ∧ e ≤ 1000 ∧ 0 ≤ s ∧ s ≤ 65536 ∧ c < 0) ∨ (1 ≤ m ∧ m ≤ 64 ∧ 2 ≤ e ∧ e ≤ 1000 ∧ 0 ≤ s ∧ s ≤ 65536 ∧ 0 ≤ c ∧ 100 < c) := by
  unfold rightP at h; omega
theorem not_right' {m s c e : Int} (h : ¬ rightP m s c e) : (m < 1) ∨ (1 ≤ m ∧ 64 < m) ∨ (1 ≤ m ∧ m ≤ 64 ∧ s < 0) ∨ (1 ≤ m ∧ m ≤ 64 ∧ 0 ≤ s ∧ 65536 < s) ∨ (1 ≤ m ∧ m ≤ 64 ∧ 0 ≤ s ∧ s ≤ 65536 ∧ c < 0) ∨ (1 ≤ m ∧ m ≤ 64 ∧ 0 ≤ s ∧ s ≤ 65536 ∧ 0 ≤ c ∧ 100 < c) ∨ (1 ≤ m ∧ m ≤ 64 ∧ 0 ≤ s ∧ s ≤ 65536 ∧ 0 ≤ c ∧ c ≤ 100 ∧ e < 2) ∨ (1 ≤ m ∧ m ≤ 64 ∧ 0 ≤ s ∧ s ≤ 65536 ∧ 0 ≤ c ∧ c ≤ 100 ∧ 2 ≤ e ∧ 1000 < e) := by
  unfold rightP at h; omega
def planV (seed m s c e : Int) : Array Value := #[.int .u64 seed, .int .i64 m, .int .i64 s, .int .i64 c, .int .i64 e]
set_option maxHeartbeats 4000000 in
theorem right_yes (seed m s c e : Int) (W : World) (h : rightP m s c e) : Calls Try.prog 12 #[.agg #[.int .u64 seed, .int .i64 m, .int .i64 s, .int .i64 c, .int .i64 e]] W fun en W' => en = .returned (.bool true) ∧ W' = W.alloc (.cells #[.int .u64 seed, .int .i64 m, .int .i64 s, .int .i64 c, .int .i64 e] 24) := by
  obtain ⟨⟨h1, h2⟩, ⟨h3, h4⟩, ⟨h5, h6⟩, h7, h8⟩ := h
  go_enter Try.func12, Try.ntmps12
  go_wp2
  go_ret
  exact ⟨rfl, rfl⟩
set_option maxHeartbeats 4000000 in
theorem right_no (seed m s c e : Int) (W : World) (h : ¬ rightP m s c e) : Calls Try.prog 12 #[.agg #[.int .u64 seed, .int .i64 m, .int .i64 s, .int .i64 c, .int .i64 e]] W fun en W' => en = .returned (.bool false) ∧ W' = W.alloc (.cells #[.int .u64 seed, .int .i64 m, .int .i64 s, .int .i64 c, .int .i64 e] 24) := by
  rcases not_right h with h1 | ⟨h1, h2⟩ | ⟨h1, h2, h3⟩ | ⟨h1, h2, h3, h4⟩ | ⟨h1, h2, h3, h4, h5⟩ | ⟨h1, h2, h3, h4, h5, h6⟩ | ⟨h1, h2, h3, h4, h5, h6, h7⟩ | ⟨h1, h2, h3, h4, h5, h6, h7, h8⟩
  all_goals
    try have g1 : ¬ 1 ≤ m := by omega
    try have g2 : ¬ m ≤ 64 := by omega
    try have g3 : ¬ 2 ≤ e := by omega
    try have g4 : ¬ e ≤ 1000 := by omega
    try have g5 : ¬ 0 ≤ s := by omega
    try have g6 : ¬ s ≤ 65536 := by omega
    try have g7 : ¬ 0 ≤ c := by omega
    try have g8 : ¬ c ≤ 100 := by omega
    go_enter Try.func12, Try.ntmps12
    go_wp2
    go_ret
    exact ⟨rfl, rfl⟩
set_option maxHeartbeats 4000000 in
theorem rright_yes (seed m s c e : Int) (W : World) (h : rightP m s c e) : Calls Try.prog 13 #[.agg #[.int .u64 seed, .int .i64 m, .int .i64 s, .int .i64 c, .int .i64 e]] W fun en W' => en = .returned (.bool true) ∧ W' = W.alloc (.cells #[.int .u64 seed, .int .i64 m, .int .i64 s, .int .i64 c, .int .i64 e] 31) := by
  obtain ⟨⟨h1, h2⟩, ⟨h3, h4⟩, ⟨h5, h6⟩, h7, h8⟩ := h
  go_enter Try.func13, Try.ntmps13
  go_wp2
  go_ret
  exact ⟨rfl, rfl⟩
set_option maxHeartbeats 4000000 in
theorem rright_no (seed m s c e : Int) (W : World) (h : ¬ rightP m s c e) : Calls Try.prog 13 #[.agg #[.int .u64 seed, .int .i64 m, .int .i64 s, .int .i64 c, .int .i64 e]] W fun en W' => en = .returned (.bool false) ∧ W' = W.alloc (.cells #[.int .u64 seed, .int .i64 m, .int .i64 s, .int .i64 c, .int .i64 e] 31) := by
  rcases not_right' h with h1 | ⟨h1, h2⟩ | ⟨h1, h2, h3⟩ | ⟨h1, h2, h3, h4⟩ | ⟨h1, h2, h3, h4, h5⟩ | ⟨h1, h2, h3, h4, h5, h6⟩ | ⟨h1, h2, h3, h4, h5, h6, h7⟩ | ⟨h1, h2, h3, h4, h5, h6, h7, h8⟩
  all_goals
    try have g1 : ¬ 1 ≤ m := by omega
    try have g2 : ¬ m ≤ 64 := by omega
    try have g3 : ¬ 2 ≤ e := by omega
    try have g4 : ¬ e ≤ 1000 := by omega
    try have g5 : ¬ 0 ≤ s := by omega
    try have g6 : ¬ s ≤ 65536 := by omega
    try have g7 : ¬ 0 ≤ c := by omega
    try have g8 : ¬ c ≤ 100 := by omega
    go_enter Try.func13, Try.ntmps13
    go_wp2
    go_ret
    exact ⟨rfl, rfl⟩
end Go.Proofs.Ytfmjmhnbdceipaa
