/- The walk of the law GstatLooks. -/
import Derived.Test.YtaihhbkljinplaaDoorLawM
import Derived.Deep.QuietTactic
import Derived.BigQuiet
namespace Go.Proofs.YtaihhbkljinplaaDoor
open Go.ChangeShapes Go.WideShapes Go.ChangeAt Go.RowKit
set_option linter.unusedVariables false
attribute [local go_sem] bx0 bn0 ba0 bo0 bp0 bx1 bn1 ba1 bo1 bp1 bx2 bn2 ba2 bo2 bp2 bx3 bn3 ba3 bo3 bp3 bx4 bn4 ba4 bo4 bp4 bx5 bn5 ba5 bo5 bp5 bx6 bn6 ba6 bo6 bp6 bx7 bn7 ba7 bo7 bp7 bx8 bn8 ba8 bo8 bp8 bx9 bn9 ba9 bo9 bp9 bx10 bn10 ba10 bo10 bp10 bx11 bn11 ba11 bo11 bp11 bx12 bn12 ba12 bo12 bp12 bx13 bn13 ba13 bo13 bp13 bx14 bn14 ba14 bo14 bp14 bk0 bk1 bk2 bk3 bk4 bk6 bk7 bk9 bk14 bk15 bk18 bk29 bk30 bk36 bk58 bk61 bk122
theorem name_0 (W : World) (hT : Tab W) : Calls Tryd.prog 11 #[.int .i64 0] W fun e W' => e = .returned (.string ⟨#[105, 100, 108, 101]⟩) ∧ W = W' := by
  obtain ⟨n0, n1, n2, n3, n4, n5, n6, f0, f1, f2, f3, f4, f5, f6, hz⟩ := hT
  go_enter Tryd.func11, Tryd.ntmps11
  go_wp2
  go_ret
  exact ⟨by kernel_rfl, rfl⟩
theorem refName_0 (W : World) : Calls Tryd.prog 12 #[.int .i64 0] W fun e W' => e = .returned (.string ⟨#[105, 100, 108, 101]⟩) ∧ Below W.heap.size W W' := by
  go_enter Tryd.func12, Tryd.ntmps12
  go_wp2
  go_ret
  exact ⟨by kernel_rfl, by repeat (first | exact Below.refl _ _ | refine Below.alloc ?_ (by simp) _ | refine Below.setCell ?_ (by simp) _ | refine Below.drew ?_)⟩
theorem looks_0 (W : World) (hT : Tab W) : Calls Tryd.prog 3 #[.int .i64 0] W fun e W' => e = .returned (.bool true) ∧ Below W.heap.size W W' := by
  have hT' := hT
  obtain ⟨n0, n1, n2, n3, n4, n5, n6, f0, f1, f2, f3, f4, f5, f6, hz⟩ := hT'
  have hw : (Lit.int .i64 0).wf = true := by decide
  have b1 : isB 0 = true := by decide
  have b2 : scB 0 = false := by decide
  have b3 : baseI 0 = 0 := by decide
  go_enter Tryd.func3, Tryd.ntmps3
  go_wp2_with (first
    | (go_at_call 6; refine (is_any _ hw _).mono ?_; rintro e w' ⟨rfl, rfl⟩)
    | (go_at_call 7; refine (refIs_any _ hw _).mono ?_; rintro e w' ⟨rfl, rfl⟩)
    | (go_at_call 8; refine (base_any _ hw _).mono ?_; rintro e w' ⟨rfl, rfl⟩)
    | (go_at_call 9; refine (refBase_any _ hw _).mono ?_; rintro e w' ⟨rfl, rfl⟩)
    | (go_at_call 10; refine (sc_any _ hw _).mono ?_; rintro e w' ⟨rfl, rfl⟩)
    | (go_at_call 11; refine (name_0 _ hT).mono ?_; rintro e w' ⟨rfl, rfl⟩)
    | (go_at_call 12; refine (refName_0 _).mono ?_; rintro e w2 ⟨rfl, hb2⟩)
    | (go_at_call 13; refine (alive_any _ (hT.below hb2)).mono ?_; rintro e w' ⟨rfl, rfl⟩))
  go_ret
  exact ⟨rfl, hb2⟩
theorem name_1 (W : World) (hT : Tab W) : Calls Tryd.prog 11 #[.int .i64 1] W fun e W' => e = .returned (.string ⟨#[114, 117, 110, 110, 97, 98, 108, 101]⟩) ∧ W = W' := by
  obtain ⟨n0, n1, n2, n3, n4, n5, n6, f0, f1, f2, f3, f4, f5, f6, hz⟩ := hT
  go_enter Tryd.func11, Tryd.ntmps11
  go_wp2
  go_ret
  exact ⟨by kernel_rfl, rfl⟩
theorem refName_1 (W : World) : Calls Tryd.prog 12 #[.int .i64 1] W fun e W' => e = .returned (.string ⟨#[114, 117, 110, 110, 97, 98, 108, 101]⟩) ∧ Below W.heap.size W W' := by
  go_enter Tryd.func12, Tryd.ntmps12
  go_wp2
  go_ret
  exact ⟨by kernel_rfl, by repeat (first | exact Below.refl _ _ | refine Below.alloc ?_ (by simp) _ | refine Below.setCell ?_ (by simp) _ | refine Below.drew ?_)⟩
theorem looks_1 (W : World) (hT : Tab W) : Calls Tryd.prog 3 #[.int .i64 1] W fun e W' => e = .returned (.bool true) ∧ Below W.heap.size W W' := by
  have hT' := hT
  obtain ⟨n0, n1, n2, n3, n4, n5, n6, f0, f1, f2, f3, f4, f5, f6, hz⟩ := hT'
  have hw : (Lit.int .i64 1).wf = true := by decide
  have b1 : isB 1 = true := by decide
  have b2 : scB 1 = false := by decide
  have b3 : baseI 1 = 1 := by decide
  go_enter Tryd.func3, Tryd.ntmps3
  go_wp2_with (first
    | (go_at_call 6; refine (is_any _ hw _).mono ?_; rintro e w' ⟨rfl, rfl⟩)
    | (go_at_call 7; refine (refIs_any _ hw _).mono ?_; rintro e w' ⟨rfl, rfl⟩)
    | (go_at_call 8; refine (base_any _ hw _).mono ?_; rintro e w' ⟨rfl, rfl⟩)
    | (go_at_call 9; refine (refBase_any _ hw _).mono ?_; rintro e w' ⟨rfl, rfl⟩)
    | (go_at_call 10; refine (sc_any _ hw _).mono ?_; rintro e w' ⟨rfl, rfl⟩)
    | (go_at_call 11; refine (name_1 _ hT).mono ?_; rintro e w' ⟨rfl, rfl⟩)
    | (go_at_call 12; refine (refName_1 _).mono ?_; rintro e w2 ⟨rfl, hb2⟩)
    | (go_at_call 13; refine (alive_any _ (hT.below hb2)).mono ?_; rintro e w' ⟨rfl, rfl⟩))
  go_ret
  exact ⟨rfl, hb2⟩
theorem name_2 (W : World) (hT : Tab W) : Calls Tryd.prog 11 #[.int .i64 2] W fun e W' => e = .returned (.string ⟨#[114, 117, 110, 110, 105, 110, 103]⟩) ∧ W = W' := by
  obtain ⟨n0, n1, n2, n3, n4, n5, n6, f0, f1, f2, f3, f4, f5, f6, hz⟩ := hT
  go_enter Tryd.func11, Tryd.ntmps11
  go_wp2
  go_ret
  exact ⟨by kernel_rfl, rfl⟩
theorem refName_2 (W : World) : Calls Tryd.prog 12 #[.int .i64 2] W fun e W' => e = .returned (.string ⟨#[114, 117, 110, 110, 105, 110, 103]⟩) ∧ Below W.heap.size W W' := by
  go_enter Tryd.func12, Tryd.ntmps12
  go_wp2
  go_ret
  exact ⟨by kernel_rfl, by repeat (first | exact Below.refl _ _ | refine Below.alloc ?_ (by simp) _ | refine Below.setCell ?_ (by simp) _ | refine Below.drew ?_)⟩
theorem looks_2 (W : World) (hT : Tab W) : Calls Tryd.prog 3 #[.int .i64 2] W fun e W' => e = .returned (.bool true) ∧ Below W.heap.size W W' := by
  have hT' := hT
  obtain ⟨n0, n1, n2, n3, n4, n5, n6, f0, f1, f2, f3, f4, f5, f6, hz⟩ := hT'
  have hw : (Lit.int .i64 2).wf = true := by decide
  have b1 : isB 2 = true := by decide
  have b2 : scB 2 = false := by decide
  have b3 : baseI 2 = 2 := by decide
  go_enter Tryd.func3, Tryd.ntmps3
  go_wp2_with (first
    | (go_at_call 6; refine (is_any _ hw _).mono ?_; rintro e w' ⟨rfl, rfl⟩)
    | (go_at_call 7; refine (refIs_any _ hw _).mono ?_; rintro e w' ⟨rfl, rfl⟩)
    | (go_at_call 8; refine (base_any _ hw _).mono ?_; rintro e w' ⟨rfl, rfl⟩)
    | (go_at_call 9; refine (refBase_any _ hw _).mono ?_; rintro e w' ⟨rfl, rfl⟩)
    | (go_at_call 10; refine (sc_any _ hw _).mono ?_; rintro e w' ⟨rfl, rfl⟩)
    | (go_at_call 11; refine (name_2 _ hT).mono ?_; rintro e w' ⟨rfl, rfl⟩)
    | (go_at_call 12; refine (refName_2 _).mono ?_; rintro e w2 ⟨rfl, hb2⟩)
    | (go_at_call 13; refine (alive_any _ (hT.below hb2)).mono ?_; rintro e w' ⟨rfl, rfl⟩))
  go_ret
  exact ⟨rfl, hb2⟩
theorem name_3 (W : World) (hT : Tab W) : Calls Tryd.prog 11 #[.int .i64 3] W fun e W' => e = .returned (.string ⟨#[115, 121, 115, 99, 97, 108, 108]⟩) ∧ W = W' := by
  obtain ⟨n0, n1, n2, n3, n4, n5, n6, f0, f1, f2, f3, f4, f5, f6, hz⟩ := hT
  go_enter Tryd.func11, Tryd.ntmps11
  go_wp2
  go_ret
  exact ⟨by kernel_rfl, rfl⟩
theorem refName_3 (W : World) : Calls Tryd.prog 12 #[.int .i64 3] W fun e W' => e = .returned (.string ⟨#[115, 121, 115, 99, 97, 108, 108]⟩) ∧ Below W.heap.size W W' := by
  go_enter Tryd.func12, Tryd.ntmps12
  go_wp2
  go_ret
  exact ⟨by kernel_rfl, by repeat (first | exact Below.refl _ _ | refine Below.alloc ?_ (by simp) _ | refine Below.setCell ?_ (by simp) _ | refine Below.drew ?_)⟩
theorem looks_3 (W : World) (hT : Tab W) : Calls Tryd.prog 3 #[.int .i64 3] W fun e W' => e = .returned (.bool true) ∧ Below W.heap.size W W' := by
  have hT' := hT
  obtain ⟨n0, n1, n2, n3, n4, n5, n6, f0, f1, f2, f3, f4, f5, f6, hz⟩ := hT'
  have hw : (Lit.int .i64 3).wf = true := by decide
  have b1 : isB 3 = true := by decide
  have b2 : scB 3 = false := by decide
  have b3 : baseI 3 = 3 := by decide
  go_enter Tryd.func3, Tryd.ntmps3
  go_wp2_with (first
    | (go_at_call 6; refine (is_any _ hw _).mono ?_; rintro e w' ⟨rfl, rfl⟩)
    | (go_at_call 7; refine (refIs_any _ hw _).mono ?_; rintro e w' ⟨rfl, rfl⟩)
    | (go_at_call 8; refine (base_any _ hw _).mono ?_; rintro e w' ⟨rfl, rfl⟩)
    | (go_at_call 9; refine (refBase_any _ hw _).mono ?_; rintro e w' ⟨rfl, rfl⟩)
    | (go_at_call 10; refine (sc_any _ hw _).mono ?_; rintro e w' ⟨rfl, rfl⟩)
    | (go_at_call 11; refine (name_3 _ hT).mono ?_; rintro e w' ⟨rfl, rfl⟩)
    | (go_at_call 12; refine (refName_3 _).mono ?_; rintro e w2 ⟨rfl, hb2⟩)
    | (go_at_call 13; refine (alive_any _ (hT.below hb2)).mono ?_; rintro e w' ⟨rfl, rfl⟩))
  go_ret
  exact ⟨rfl, hb2⟩
theorem name_4 (W : World) (hT : Tab W) : Calls Tryd.prog 11 #[.int .i64 4] W fun e W' => e = .returned (.string ⟨#[119, 97, 105, 116, 105, 110, 103]⟩) ∧ W = W' := by
  obtain ⟨n0, n1, n2, n3, n4, n5, n6, f0, f1, f2, f3, f4, f5, f6, hz⟩ := hT
  go_enter Tryd.func11, Tryd.ntmps11
  go_wp2
  go_ret
  exact ⟨by kernel_rfl, rfl⟩
theorem refName_4 (W : World) : Calls Tryd.prog 12 #[.int .i64 4] W fun e W' => e = .returned (.string ⟨#[119, 97, 105, 116, 105, 110, 103]⟩) ∧ Below W.heap.size W W' := by
  go_enter Tryd.func12, Tryd.ntmps12
  go_wp2
  go_ret
  exact ⟨by kernel_rfl, by repeat (first | exact Below.refl _ _ | refine Below.alloc ?_ (by simp) _ | refine Below.setCell ?_ (by simp) _ | refine Below.drew ?_)⟩
theorem looks_4 (W : World) (hT : Tab W) : Calls Tryd.prog 3 #[.int .i64 4] W fun e W' => e = .returned (.bool true) ∧ Below W.heap.size W W' := by
  have hT' := hT
  obtain ⟨n0, n1, n2, n3, n4, n5, n6, f0, f1, f2, f3, f4, f5, f6, hz⟩ := hT'
  have hw : (Lit.int .i64 4).wf = true := by decide
  have b1 : isB 4 = true := by decide
  have b2 : scB 4 = false := by decide
  have b3 : baseI 4 = 4 := by decide
  go_enter Tryd.func3, Tryd.ntmps3
  go_wp2_with (first
    | (go_at_call 6; refine (is_any _ hw _).mono ?_; rintro e w' ⟨rfl, rfl⟩)
    | (go_at_call 7; refine (refIs_any _ hw _).mono ?_; rintro e w' ⟨rfl, rfl⟩)
    | (go_at_call 8; refine (base_any _ hw _).mono ?_; rintro e w' ⟨rfl, rfl⟩)
    | (go_at_call 9; refine (refBase_any _ hw _).mono ?_; rintro e w' ⟨rfl, rfl⟩)
    | (go_at_call 10; refine (sc_any _ hw _).mono ?_; rintro e w' ⟨rfl, rfl⟩)
    | (go_at_call 11; refine (name_4 _ hT).mono ?_; rintro e w' ⟨rfl, rfl⟩)
    | (go_at_call 12; refine (refName_4 _).mono ?_; rintro e w2 ⟨rfl, hb2⟩)
    | (go_at_call 13; refine (alive_any _ (hT.below hb2)).mono ?_; rintro e w' ⟨rfl, rfl⟩))
  go_ret
  exact ⟨rfl, hb2⟩
theorem name_5 (W : World) (hT : Tab W) : Calls Tryd.prog 11 #[.int .i64 5] W fun e W' => e = .returned (.string ⟨#[112, 114, 101, 101, 109, 112, 116, 101, 100]⟩) ∧ W = W' := by
  obtain ⟨n0, n1, n2, n3, n4, n5, n6, f0, f1, f2, f3, f4, f5, f6, hz⟩ := hT
  go_enter Tryd.func11, Tryd.ntmps11
  go_wp2
  go_ret
  exact ⟨by kernel_rfl, rfl⟩
theorem refName_5 (W : World) : Calls Tryd.prog 12 #[.int .i64 5] W fun e W' => e = .returned (.string ⟨#[112, 114, 101, 101, 109, 112, 116, 101, 100]⟩) ∧ Below W.heap.size W W' := by
  go_enter Tryd.func12, Tryd.ntmps12
  go_wp2
  go_ret
  exact ⟨by kernel_rfl, by repeat (first | exact Below.refl _ _ | refine Below.alloc ?_ (by simp) _ | refine Below.setCell ?_ (by simp) _ | refine Below.drew ?_)⟩
theorem looks_5 (W : World) (hT : Tab W) : Calls Tryd.prog 3 #[.int .i64 5] W fun e W' => e = .returned (.bool true) ∧ Below W.heap.size W W' := by
  have hT' := hT
  obtain ⟨n0, n1, n2, n3, n4, n5, n6, f0, f1, f2, f3, f4, f5, f6, hz⟩ := hT'
  have hw : (Lit.int .i64 5).wf = true := by decide
  have b1 : isB 5 = true := by decide
  have b2 : scB 5 = false := by decide
  have b3 : baseI 5 = 5 := by decide
  go_enter Tryd.func3, Tryd.ntmps3
  go_wp2_with (first
    | (go_at_call 6; refine (is_any _ hw _).mono ?_; rintro e w' ⟨rfl, rfl⟩)
    | (go_at_call 7; refine (refIs_any _ hw _).mono ?_; rintro e w' ⟨rfl, rfl⟩)
    | (go_at_call 8; refine (base_any _ hw _).mono ?_; rintro e w' ⟨rfl, rfl⟩)
    | (go_at_call 9; refine (refBase_any _ hw _).mono ?_; rintro e w' ⟨rfl, rfl⟩)
    | (go_at_call 10; refine (sc_any _ hw _).mono ?_; rintro e w' ⟨rfl, rfl⟩)
    | (go_at_call 11; refine (name_5 _ hT).mono ?_; rintro e w' ⟨rfl, rfl⟩)
    | (go_at_call 12; refine (refName_5 _).mono ?_; rintro e w2 ⟨rfl, hb2⟩)
    | (go_at_call 13; refine (alive_any _ (hT.below hb2)).mono ?_; rintro e w' ⟨rfl, rfl⟩))
  go_ret
  exact ⟨rfl, hb2⟩
theorem name_6 (W : World) (hT : Tab W) : Calls Tryd.prog 11 #[.int .i64 6] W fun e W' => e = .returned (.string ⟨#[100, 101, 97, 100]⟩) ∧ W = W' := by
  obtain ⟨n0, n1, n2, n3, n4, n5, n6, f0, f1, f2, f3, f4, f5, f6, hz⟩ := hT
  go_enter Tryd.func11, Tryd.ntmps11
  go_wp2
  go_ret
  exact ⟨by kernel_rfl, rfl⟩
theorem refName_6 (W : World) : Calls Tryd.prog 12 #[.int .i64 6] W fun e W' => e = .returned (.string ⟨#[100, 101, 97, 100]⟩) ∧ Below W.heap.size W W' := by
  go_enter Tryd.func12, Tryd.ntmps12
  go_wp2
  go_ret
  exact ⟨by kernel_rfl, by repeat (first | exact Below.refl _ _ | refine Below.alloc ?_ (by simp) _ | refine Below.setCell ?_ (by simp) _ | refine Below.drew ?_)⟩
theorem looks_6 (W : World) (hT : Tab W) : Calls Tryd.prog 3 #[.int .i64 6] W fun e W' => e = .returned (.bool true) ∧ Below W.heap.size W W' := by
  have hT' := hT
  obtain ⟨n0, n1, n2, n3, n4, n5, n6, f0, f1, f2, f3, f4, f5, f6, hz⟩ := hT'
  have hw : (Lit.int .i64 6).wf = true := by decide
  have b1 : isB 6 = true := by decide
  have b2 : scB 6 = false := by decide
  have b3 : baseI 6 = 6 := by decide
  go_enter Tryd.func3, Tryd.ntmps3
  go_wp2_with (first
    | (go_at_call 6; refine (is_any _ hw _).mono ?_; rintro e w' ⟨rfl, rfl⟩)
    | (go_at_call 7; refine (refIs_any _ hw _).mono ?_; rintro e w' ⟨rfl, rfl⟩)
    | (go_at_call 8; refine (base_any _ hw _).mono ?_; rintro e w' ⟨rfl, rfl⟩)
    | (go_at_call 9; refine (refBase_any _ hw _).mono ?_; rintro e w' ⟨rfl, rfl⟩)
    | (go_at_call 10; refine (sc_any _ hw _).mono ?_; rintro e w' ⟨rfl, rfl⟩)
    | (go_at_call 11; refine (name_6 _ hT).mono ?_; rintro e w' ⟨rfl, rfl⟩)
    | (go_at_call 12; refine (refName_6 _).mono ?_; rintro e w2 ⟨rfl, hb2⟩)
    | (go_at_call 13; refine (alive_any _ (hT.below hb2)).mono ?_; rintro e w' ⟨rfl, rfl⟩))
  go_ret
  exact ⟨rfl, hb2⟩
theorem name_9 (W : World) (hT : Tab W) : Calls Tryd.prog 11 #[.int .i64 9] W fun e W' => e = .returned (.string ⟨#[114, 117, 110, 110, 97, 98, 108, 101, 43]⟩) ∧ W = W' := by
  obtain ⟨n0, n1, n2, n3, n4, n5, n6, f0, f1, f2, f3, f4, f5, f6, hz⟩ := hT
  go_enter Tryd.func11, Tryd.ntmps11
  go_wp2
  go_ret
  exact ⟨by kernel_rfl, rfl⟩
theorem refName_9 (W : World) : Calls Tryd.prog 12 #[.int .i64 9] W fun e W' => e = .returned (.string ⟨#[114, 117, 110, 110, 97, 98, 108, 101, 43]⟩) ∧ Below W.heap.size W W' := by
  go_enter Tryd.func12, Tryd.ntmps12
  go_wp2
  go_ret
  exact ⟨by kernel_rfl, by repeat (first | exact Below.refl _ _ | refine Below.alloc ?_ (by simp) _ | refine Below.setCell ?_ (by simp) _ | refine Below.drew ?_)⟩
theorem looks_9 (W : World) (hT : Tab W) : Calls Tryd.prog 3 #[.int .i64 9] W fun e W' => e = .returned (.bool true) ∧ Below W.heap.size W W' := by
  have hT' := hT
  obtain ⟨n0, n1, n2, n3, n4, n5, n6, f0, f1, f2, f3, f4, f5, f6, hz⟩ := hT'
  have hw : (Lit.int .i64 9).wf = true := by decide
  have b1 : isB 9 = true := by decide
  have b2 : scB 9 = true := by decide
  have b3 : baseI 9 = 1 := by decide
  go_enter Tryd.func3, Tryd.ntmps3
  go_wp2_with (first
    | (go_at_call 6; refine (is_any _ hw _).mono ?_; rintro e w' ⟨rfl, rfl⟩)
    | (go_at_call 7; refine (refIs_any _ hw _).mono ?_; rintro e w' ⟨rfl, rfl⟩)
    | (go_at_call 8; refine (base_any _ hw _).mono ?_; rintro e w' ⟨rfl, rfl⟩)
    | (go_at_call 9; refine (refBase_any _ hw _).mono ?_; rintro e w' ⟨rfl, rfl⟩)
    | (go_at_call 10; refine (sc_any _ hw _).mono ?_; rintro e w' ⟨rfl, rfl⟩)
    | (go_at_call 11; refine (name_9 _ hT).mono ?_; rintro e w' ⟨rfl, rfl⟩)
    | (go_at_call 12; refine (refName_9 _).mono ?_; rintro e w2 ⟨rfl, hb2⟩)
    | (go_at_call 13; refine (alive_any _ (hT.below hb2)).mono ?_; rintro e w' ⟨rfl, rfl⟩))
  go_ret
  exact ⟨rfl, hb2⟩
theorem name_11 (W : World) (hT : Tab W) : Calls Tryd.prog 11 #[.int .i64 11] W fun e W' => e = .returned (.string ⟨#[115, 121, 115, 99, 97, 108, 108, 43]⟩) ∧ W = W' := by
  obtain ⟨n0, n1, n2, n3, n4, n5, n6, f0, f1, f2, f3, f4, f5, f6, hz⟩ := hT
  go_enter Tryd.func11, Tryd.ntmps11
  go_wp2
  go_ret
  exact ⟨by kernel_rfl, rfl⟩
theorem refName_11 (W : World) : Calls Tryd.prog 12 #[.int .i64 11] W fun e W' => e = .returned (.string ⟨#[115, 121, 115, 99, 97, 108, 108, 43]⟩) ∧ Below W.heap.size W W' := by
  go_enter Tryd.func12, Tryd.ntmps12
  go_wp2
  go_ret
  exact ⟨by kernel_rfl, by repeat (first | exact Below.refl _ _ | refine Below.alloc ?_ (by simp) _ | refine Below.setCell ?_ (by simp) _ | refine Below.drew ?_)⟩
theorem looks_11 (W : World) (hT : Tab W) : Calls Tryd.prog 3 #[.int .i64 11] W fun e W' => e = .returned (.bool true) ∧ Below W.heap.size W W' := by
  have hT' := hT
  obtain ⟨n0, n1, n2, n3, n4, n5, n6, f0, f1, f2, f3, f4, f5, f6, hz⟩ := hT'
  have hw : (Lit.int .i64 11).wf = true := by decide
  have b1 : isB 11 = true := by decide
  have b2 : scB 11 = true := by decide
  have b3 : baseI 11 = 3 := by decide
  go_enter Tryd.func3, Tryd.ntmps3
  go_wp2_with (first
    | (go_at_call 6; refine (is_any _ hw _).mono ?_; rintro e w' ⟨rfl, rfl⟩)
    | (go_at_call 7; refine (refIs_any _ hw _).mono ?_; rintro e w' ⟨rfl, rfl⟩)
    | (go_at_call 8; refine (base_any _ hw _).mono ?_; rintro e w' ⟨rfl, rfl⟩)
    | (go_at_call 9; refine (refBase_any _ hw _).mono ?_; rintro e w' ⟨rfl, rfl⟩)
    | (go_at_call 10; refine (sc_any _ hw _).mono ?_; rintro e w' ⟨rfl, rfl⟩)
    | (go_at_call 11; refine (name_11 _ hT).mono ?_; rintro e w' ⟨rfl, rfl⟩)
    | (go_at_call 12; refine (refName_11 _).mono ?_; rintro e w2 ⟨rfl, hb2⟩)
    | (go_at_call 13; refine (alive_any _ (hT.below hb2)).mono ?_; rintro e w' ⟨rfl, rfl⟩))
  go_ret
  exact ⟨rfl, hb2⟩
theorem name_12 (W : World) (hT : Tab W) : Calls Tryd.prog 11 #[.int .i64 12] W fun e W' => e = .returned (.string ⟨#[119, 97, 105, 116, 105, 110, 103, 43]⟩) ∧ W = W' := by
  obtain ⟨n0, n1, n2, n3, n4, n5, n6, f0, f1, f2, f3, f4, f5, f6, hz⟩ := hT
  go_enter Tryd.func11, Tryd.ntmps11
  go_wp2
  go_ret
  exact ⟨by kernel_rfl, rfl⟩
theorem refName_12 (W : World) : Calls Tryd.prog 12 #[.int .i64 12] W fun e W' => e = .returned (.string ⟨#[119, 97, 105, 116, 105, 110, 103, 43]⟩) ∧ Below W.heap.size W W' := by
  go_enter Tryd.func12, Tryd.ntmps12
  go_wp2
  go_ret
  exact ⟨by kernel_rfl, by repeat (first | exact Below.refl _ _ | refine Below.alloc ?_ (by simp) _ | refine Below.setCell ?_ (by simp) _ | refine Below.drew ?_)⟩
theorem looks_12 (W : World) (hT : Tab W) : Calls Tryd.prog 3 #[.int .i64 12] W fun e W' => e = .returned (.bool true) ∧ Below W.heap.size W W' := by
  have hT' := hT
  obtain ⟨n0, n1, n2, n3, n4, n5, n6, f0, f1, f2, f3, f4, f5, f6, hz⟩ := hT'
  have hw : (Lit.int .i64 12).wf = true := by decide
  have b1 : isB 12 = true := by decide
  have b2 : scB 12 = true := by decide
  have b3 : baseI 12 = 4 := by decide
  go_enter Tryd.func3, Tryd.ntmps3
  go_wp2_with (first
    | (go_at_call 6; refine (is_any _ hw _).mono ?_; rintro e w' ⟨rfl, rfl⟩)
    | (go_at_call 7; refine (refIs_any _ hw _).mono ?_; rintro e w' ⟨rfl, rfl⟩)
    | (go_at_call 8; refine (base_any _ hw _).mono ?_; rintro e w' ⟨rfl, rfl⟩)
    | (go_at_call 9; refine (refBase_any _ hw _).mono ?_; rintro e w' ⟨rfl, rfl⟩)
    | (go_at_call 10; refine (sc_any _ hw _).mono ?_; rintro e w' ⟨rfl, rfl⟩)
    | (go_at_call 11; refine (name_12 _ hT).mono ?_; rintro e w' ⟨rfl, rfl⟩)
    | (go_at_call 12; refine (refName_12 _).mono ?_; rintro e w2 ⟨rfl, hb2⟩)
    | (go_at_call 13; refine (alive_any _ (hT.below hb2)).mono ?_; rintro e w' ⟨rfl, rfl⟩))
  go_ret
  exact ⟨rfl, hb2⟩
theorem name_13 (W : World) (hT : Tab W) : Calls Tryd.prog 11 #[.int .i64 13] W fun e W' => e = .returned (.string ⟨#[112, 114, 101, 101, 109, 112, 116, 101, 100, 43]⟩) ∧ W = W' := by
  obtain ⟨n0, n1, n2, n3, n4, n5, n6, f0, f1, f2, f3, f4, f5, f6, hz⟩ := hT
  go_enter Tryd.func11, Tryd.ntmps11
  go_wp2
  go_ret
  exact ⟨by kernel_rfl, rfl⟩
theorem refName_13 (W : World) : Calls Tryd.prog 12 #[.int .i64 13] W fun e W' => e = .returned (.string ⟨#[112, 114, 101, 101, 109, 112, 116, 101, 100, 43]⟩) ∧ Below W.heap.size W W' := by
  go_enter Tryd.func12, Tryd.ntmps12
  go_wp2
  go_ret
  exact ⟨by kernel_rfl, by repeat (first | exact Below.refl _ _ | refine Below.alloc ?_ (by simp) _ | refine Below.setCell ?_ (by simp) _ | refine Below.drew ?_)⟩
theorem looks_13 (W : World) (hT : Tab W) : Calls Tryd.prog 3 #[.int .i64 13] W fun e W' => e = .returned (.bool true) ∧ Below W.heap.size W W' := by
  have hT' := hT
  obtain ⟨n0, n1, n2, n3, n4, n5, n6, f0, f1, f2, f3, f4, f5, f6, hz⟩ := hT'
  have hw : (Lit.int .i64 13).wf = true := by decide
  have b1 : isB 13 = true := by decide
  have b2 : scB 13 = true := by decide
  have b3 : baseI 13 = 5 := by decide
  go_enter Tryd.func3, Tryd.ntmps3
  go_wp2_with (first
    | (go_at_call 6; refine (is_any _ hw _).mono ?_; rintro e w' ⟨rfl, rfl⟩)
    | (go_at_call 7; refine (refIs_any _ hw _).mono ?_; rintro e w' ⟨rfl, rfl⟩)
    | (go_at_call 8; refine (base_any _ hw _).mono ?_; rintro e w' ⟨rfl, rfl⟩)
    | (go_at_call 9; refine (refBase_any _ hw _).mono ?_; rintro e w' ⟨rfl, rfl⟩)
    | (go_at_call 10; refine (sc_any _ hw _).mono ?_; rintro e w' ⟨rfl, rfl⟩)
    | (go_at_call 11; refine (name_13 _ hT).mono ?_; rintro e w' ⟨rfl, rfl⟩)
    | (go_at_call 12; refine (refName_13 _).mono ?_; rintro e w2 ⟨rfl, hb2⟩)
    | (go_at_call 13; refine (alive_any _ (hT.below hb2)).mono ?_; rintro e w' ⟨rfl, rfl⟩))
  go_ret
  exact ⟨rfl, hb2⟩

theorem name_out (w : Int) (hw : (Lit.int .i64 w).wf = true) (W : World) (hb : isB w = false) : Calls Tryd.prog 11 #[.int .i64 w] W fun e W' => e = .returned (.string ⟨#[]⟩) ∧ W = W' := by
  go_enter Tryd.func11, Tryd.ntmps11
  go_wp2_with (go_at_call 6; refine (is_any w hw _).mono ?_; rintro e w' ⟨rfl, rfl⟩)
  go_ret
  exact ⟨rfl, rfl⟩
theorem refName_out (w : Int) (hw : (Lit.int .i64 w).wf = true) (W : World) (hb : isB w = false) : Calls Tryd.prog 12 #[.int .i64 w] W fun e W' => e = .returned (.string ⟨#[]⟩) ∧ W = W' := by
  go_enter Tryd.func12, Tryd.ntmps12
  go_wp2_with (go_at_call 7; refine (refIs_any w hw _).mono ?_; rintro e w' ⟨rfl, rfl⟩)
  go_ret
  exact ⟨rfl, rfl⟩
set_option maxHeartbeats 2000000 in
theorem looks_out (w : Int) (hw : (Lit.int .i64 w).wf = true) (W : World) (hT : Tab W) (hb : isB w = false) : Calls Tryd.prog 3 #[.int .i64 w] W fun e W' => e = .returned (.bool true) ∧ Below W.heap.size W W' := by
  have hs : scB w = false := by
    unfold isB at hb
    unfold scB
    simp at hb ⊢
    omega
  have h0 : baseI w = 0 := by simp [baseI, hb]
  go_enter Tryd.func3, Tryd.ntmps3
  go_wp2_with (first
    | (go_at_call 6; refine (is_any w hw _).mono ?_; rintro e w' ⟨rfl, rfl⟩)
    | (go_at_call 7; refine (refIs_any w hw _).mono ?_; rintro e w' ⟨rfl, rfl⟩)
    | (go_at_call 8; refine (base_any w hw _).mono ?_; rintro e w' ⟨rfl, rfl⟩)
    | (go_at_call 9; refine (refBase_any w hw _).mono ?_; rintro e w' ⟨rfl, rfl⟩)
    | (go_at_call 10; refine (sc_any w hw _).mono ?_; rintro e w' ⟨rfl, rfl⟩)
    | (go_at_call 11; refine (name_out w hw _ hb).mono ?_; rintro e w' ⟨rfl, rfl⟩)
    | (go_at_call 12; refine (refName_out w hw _ hb).mono ?_; rintro e w' ⟨rfl, rfl⟩)
    | (go_at_call 13; refine (alive_any _ hT).mono ?_; rintro e w' ⟨rfl, rfl⟩))
  go_ret
  exact ⟨rfl, Below.refl _ _⟩

theorem walk_gstatLooks (a0 : Int) (w : World) (w0 : (Lit.int .i64 a0).wf = true) (hL : laidMetH Tryd.prog Rows.gstatLooksRow.laid w) :
    Calls Tryd.prog 3 #[.int .i64 a0] w fun e w' => e = .returned (.bool true) ∧ Below w.heap.size w w' := by
  have hT : Tab w := tab_of_laid hL
  rcases cases12 a0 with rfl | rfl | rfl | rfl | rfl | rfl | rfl | rfl | rfl | rfl | rfl | hb
  · exact looks_0 w hT
  · exact looks_1 w hT
  · exact looks_2 w hT
  · exact looks_3 w hT
  · exact looks_4 w hT
  · exact looks_5 w hT
  · exact looks_6 w hT
  · exact looks_9 w hT
  · exact looks_11 w hT
  · exact looks_12 w hT
  · exact looks_13 w hT
  · exact looks_out a0 w0 w hT hb
end Go.Proofs.YtaihhbkljinplaaDoor
