/- Contracts: how many there may be, by the program and by the document. -/
import Derived.Test.YtcngdngkkglepaaDoorRowz
namespace Go.Proofs.YtcngdngkkglepaaDoor
open Go.ChangeShapes Go.WideShapes Go.ChangeAt Go.RowKit Go.Deep
set_option linter.unusedVariables false
set_option linter.unusedSimpArgs false

def cf (p g m : Int) : Int := if p < 1 ∨ 256 < p ∨ g < 1 ∨ 64 < g ∨ m < 1 ∨ 64 < m then 2 else 0
set_option maxHeartbeats 2000000 in
theorem conf_any (p g m : Int) (W : World) : Calls Tryd.prog 37 #[.agg #[.int .i64 p, .int .i64 g, .int .i64 m]] W fun e W' => e = .returned (.int .i64 (cf p g m)) ∧ Chg (fun _ => False) W W' := by
  have hc : p < 1 ∨ (¬ p < 1 ∧ 256 < p) ∨ (¬ p < 1 ∧ ¬ 256 < p ∧ g < 1) ∨ (¬ p < 1 ∧ ¬ 256 < p ∧ ¬ g < 1 ∧ 64 < g) ∨ (¬ p < 1 ∧ ¬ 256 < p ∧ ¬ g < 1 ∧ ¬ 64 < g ∧ m < 1) ∨ (¬ p < 1 ∧ ¬ 256 < p ∧ ¬ g < 1 ∧ ¬ 64 < g ∧ ¬ m < 1 ∧ 64 < m) ∨ (¬ p < 1 ∧ ¬ 256 < p ∧ ¬ g < 1 ∧ ¬ 64 < g ∧ ¬ m < 1 ∧ ¬ 64 < m) := by omega
  rcases hc with h1 | ⟨h1, h2⟩ | ⟨h1, h2, h3⟩ | ⟨h1, h2, h3, h4⟩ | ⟨h1, h2, h3, h4, h5⟩ | ⟨h1, h2, h3, h4, h5, h6⟩ | ⟨h1, h2, h3, h4, h5, h6⟩
  all_goals
    go_enter Tryd.func37, Tryd.ntmps37
    go_wp2
    go_ret
    exact ⟨ret_int (by unfold cf; first | (rw [if_pos (by omega)]; done) | (rw [if_neg (by omega)]; done)), (Chg.refl _ _).alloc _⟩
set_option maxHeartbeats 2000000 in
theorem rconf_any (p g m : Int) (W : World) : Calls Tryd.prog 38 #[.agg #[.int .i64 p, .int .i64 g, .int .i64 m]] W fun e W' => e = .returned (.int .i64 (cf p g m)) ∧ Chg (fun _ => False) W W' := by
  have hc : p < 1 ∨ (¬ p < 1 ∧ 256 < p) ∨ (¬ p < 1 ∧ ¬ 256 < p ∧ g < 1) ∨ (¬ p < 1 ∧ ¬ 256 < p ∧ ¬ g < 1 ∧ 64 < g) ∨ (¬ p < 1 ∧ ¬ 256 < p ∧ ¬ g < 1 ∧ ¬ 64 < g ∧ m < 1) ∨ (¬ p < 1 ∧ ¬ 256 < p ∧ ¬ g < 1 ∧ ¬ 64 < g ∧ ¬ m < 1 ∧ 64 < m) ∨ (¬ p < 1 ∧ ¬ 256 < p ∧ ¬ g < 1 ∧ ¬ 64 < g ∧ ¬ m < 1 ∧ ¬ 64 < m) := by omega
  rcases hc with h1 | ⟨h1, h2⟩ | ⟨h1, h2, h3⟩ | ⟨h1, h2, h3, h4⟩ | ⟨h1, h2, h3, h4, h5⟩ | ⟨h1, h2, h3, h4, h5, h6⟩ | ⟨h1, h2, h3, h4, h5, h6⟩
  all_goals
    go_enter Tryd.func38, Tryd.ntmps38
    go_wp2
    go_ret
    exact ⟨ret_int (by unfold cf; first | (rw [if_pos (by omega)]; done) | (rw [if_neg (by omega)]; done)), (Chg.refl _ _).alloc _⟩
end Go.Proofs.YtcngdngkkglepaaDoor
