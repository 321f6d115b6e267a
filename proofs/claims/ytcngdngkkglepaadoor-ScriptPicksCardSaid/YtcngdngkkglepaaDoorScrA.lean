/- Contracts: three small numbers as words. -/
import Derived.Test.YtcngdngkkglepaaDoorBui
import Derived.Test.YtcngdngkkglepaaDoorShelfS
namespace Go.Proofs.YtcngdngkkglepaaDoor
open Go.ChangeShapes Go.WideShapes Go.ChangeAt Go.RowKit Go.Deep
set_option linter.unusedVariables false
set_option linter.unusedSimpArgs false
theorem itoa_0 (W : World) : Calls Tryd.prog 42 #[.int .i64 0] W fun e W' => e = .returned (.string ⟨#[48]⟩) ∧ W' = W := by
  have h := Tryd.strconv_Itoa_small 0 (by decide) W
  rw [show (Lib.decDigits 0).toArray = #[48] from by first | rfl | (rw [Lib.decDigits]; rfl) | (simp [Lib.decDigits]; done) | decide +kernel] at h
  exact h
theorem itoa_1 (W : World) : Calls Tryd.prog 42 #[.int .i64 1] W fun e W' => e = .returned (.string ⟨#[49]⟩) ∧ W' = W := by
  have h := Tryd.strconv_Itoa_small 1 (by decide) W
  rw [show (Lib.decDigits 1).toArray = #[49] from by first | rfl | (rw [Lib.decDigits]; rfl) | (simp [Lib.decDigits]; done) | decide +kernel] at h
  exact h
theorem itoa_2 (W : World) : Calls Tryd.prog 42 #[.int .i64 2] W fun e W' => e = .returned (.string ⟨#[50]⟩) ∧ W' = W := by
  have h := Tryd.strconv_Itoa_small 2 (by decide) W
  rw [show (Lib.decDigits 2).toArray = #[50] from by first | rfl | (rw [Lib.decDigits]; rfl) | (simp [Lib.decDigits]; done) | decide +kernel] at h
  exact h
theorem itoa_3 (W : World) : Calls Tryd.prog 42 #[.int .i64 3] W fun e W' => e = .returned (.string ⟨#[51]⟩) ∧ W' = W := by
  have h := Tryd.strconv_Itoa_small 3 (by decide) W
  rw [show (Lib.decDigits 3).toArray = #[51] from by first | rfl | (rw [Lib.decDigits]; rfl) | (simp [Lib.decDigits]; done) | decide +kernel] at h
  exact h
set_option maxRecDepth 100000 in
set_option maxHeartbeats 1000000 in
theorem words_010 (W : World) : Calls Tryd.prog 27 #[.int .i64 0, .int .i64 1, .int .i64 0] W fun e W' => e = .returned (.string ⟨#[48, 32, 49, 32, 48]⟩) ∧ W' = W := by
  go_enter Tryd.func27, Tryd.ntmps27
  go_wp2_with fail
  refine (itoa_0 _).mono ?_
  rintro e w1 ⟨rfl, rfl⟩
  go_wp2_with fail
  refine (itoa_1 _).mono ?_
  rintro e w1 ⟨rfl, rfl⟩
  go_wp2_with fail
  refine (itoa_0 _).mono ?_
  rintro e w1 ⟨rfl, rfl⟩
  go_wp2_with fail
  go_ret
  exact ⟨rfl, rfl⟩
set_option maxRecDepth 100000 in
set_option maxHeartbeats 1000000 in
theorem words_111 (W : World) : Calls Tryd.prog 27 #[.int .i64 1, .int .i64 1, .int .i64 1] W fun e W' => e = .returned (.string ⟨#[49, 32, 49, 32, 49]⟩) ∧ W' = W := by
  go_enter Tryd.func27, Tryd.ntmps27
  go_wp2_with fail
  refine (itoa_1 _).mono ?_
  rintro e w1 ⟨rfl, rfl⟩
  go_wp2_with fail
  refine (itoa_1 _).mono ?_
  rintro e w1 ⟨rfl, rfl⟩
  go_wp2_with fail
  refine (itoa_1 _).mono ?_
  rintro e w1 ⟨rfl, rfl⟩
  go_wp2_with fail
  go_ret
  exact ⟨rfl, rfl⟩
set_option maxRecDepth 100000 in
set_option maxHeartbeats 1000000 in
theorem words_123 (W : World) : Calls Tryd.prog 27 #[.int .i64 1, .int .i64 2, .int .i64 3] W fun e W' => e = .returned (.string ⟨#[49, 32, 50, 32, 51]⟩) ∧ W' = W := by
  go_enter Tryd.func27, Tryd.ntmps27
  go_wp2_with fail
  refine (itoa_1 _).mono ?_
  rintro e w1 ⟨rfl, rfl⟩
  go_wp2_with fail
  refine (itoa_2 _).mono ?_
  rintro e w1 ⟨rfl, rfl⟩
  go_wp2_with fail
  refine (itoa_3 _).mono ?_
  rintro e w1 ⟨rfl, rfl⟩
  go_wp2_with fail
  go_ret
  exact ⟨rfl, rfl⟩
end Go.Proofs.YtcngdngkkglepaaDoor
