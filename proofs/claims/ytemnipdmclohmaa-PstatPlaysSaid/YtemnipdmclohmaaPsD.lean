/- Each act on a table, on none; what must come at any rate. -/
import Derived.Test.YtemnipdmclohmaaPsC
namespace Go.Proofs.Ytemnipdmclohmaa
open Go.ChangeShapes Go.WideShapes Go.ChangeAt Go.RowKit Go.Deep
set_option linter.unusedVariables false

section
variable (base T : Nat) (A : Option Addr) (ps : List (Int × Int)) (W : World) (hT : Tb W base T A ps)
include hT
set_option maxHeartbeats 2000000 in
theorem len_at : Calls Try.prog 14 #[.pointer (some ⟨T, 0, none⟩)] W fun e W' => e = .returned (.int .i64 ((ps.length : Int) - (cnt ps 4 : Nat))) ∧ Chg (fun _ => False) W W' := by
  obtain ⟨c, t0⟩ := hT.row
  have hl := hT.len
  have hcl := cnt_le ps 4
  have hcn := count_at base T A ps 4 W.drew (hT.same ((Chg.refl _ _).drew))
  generalize cnt ps 4 = m at hcl hcn ⊢
  have HCN := Lib.hid hcn
  clear hcn
  have m0 : (0 : Int) ≤ (m : Int) := by omega
  have m1 : (m : Int) ≤ (ps.length : Int) := by omega
  have l1 : (ps.length : Int) ≤ 256 := by omega
  have hlt := World.block_lt_of_cell? W _ t0
  have hw : IntKind.i64.wrap ((ps.length : Int) - (m : Int)) = (ps.length : Int) - (m : Int) := by go_unwrap
  clear hT
  go_enter Try.func14, Try.ntmps14
  go_wp2
  go_region_with (go_at_call 15; refine HCN.out.mono ?_; rintro e w1 ⟨rfl, hc⟩; have t1 := (hc.cell (p := ⟨T, 0, none⟩) hlt (fun h => h)).trans t0)
  all_goals go_wp2
  all_goals go_ret
  all_goals exact ⟨rfl, hc.undrew⟩
variable (i : Int)
theorem take_any (m : Int) : Calls Try.prog 16 #[.pointer (some ⟨T, 0, none⟩), .int .i64 i, .int .i64 m] W fun e W' => e = .returned (.int .i64 (chg ps i m okIdle (fun _ => (1, m))).2) ∧ TA W W' base T A (chg ps i m okIdle (fun _ => (1, m))).1 := by
  have hcl : (W.alloc (.cells #[.int .i64 m] 3)).cell? ⟨W.heap.size, 0, none⟩ = some (.int .i64 m) := by simp [go_sem]
  have hlt := World.block_lt_of_cell? _ _ hcl
  have hch := change_any base T 27 29 A #[] #[.pointer (some ⟨W.heap.size, 0, none⟩)] okIdle (fun _ => (1, m)) i m ps (W.alloc (.cells #[.int .i64 m] 3)) (hT.same ((Chg.refl _ _).alloc _)) (fun _ _ => rfl) (fun _ _ => rfl) (fun q => c_idle q _) (fun q W1 _ hc => c_take q W1 W.heap.size m ((hc.cell (p := ⟨W.heap.size, 0, none⟩) hlt (fun h => h)).trans hcl))
  generalize chg ps i m okIdle (fun _ => (1, m)) = r at hch ⊢
  have HCH := Lib.hid hch
  clear hch hcl hlt
  go_enter Try.func16, Try.ntmps16
  go_wp2_with (go_at_call 28; refine HCH.out.mono ?_; rintro e w1 ⟨rfl, hTA⟩)
  go_ret
  exact ⟨rfl, TA.pre ((Chg.refl _ _).alloc _) hTA⟩
theorem enter_any : Calls Try.prog 17 #[.pointer (some ⟨T, 0, none⟩), .int .i64 i] W fun e W' => e = .returned (.int .i64 (chg ps i 0 okRun (fun q => (2, q.2))).2) ∧ TA W W' base T A (chg ps i 0 okRun (fun q => (2, q.2))).1 := by
  have hch := change_any base T 30 31 A #[] #[] okRun (fun q => (2, q.2)) i 0 ps W hT (fun _ _ => rfl) (fun _ _ => rfl) (fun q => c_run q _) (fun q W1 _ _ => c_enter q W1)
  generalize chg ps i 0 okRun (fun q => (2, q.2)) = r at hch ⊢
  have HCH := Lib.hid hch
  clear hch
  go_enter Try.func17, Try.ntmps17
  go_wp2_with (go_at_call 28; refine HCH.out.mono ?_; rintro e w1 ⟨rfl, hTA⟩)
  go_ret
  exact ⟨rfl, hTA⟩
theorem leave_any (m : Int) : Calls Try.prog 21 #[.pointer (some ⟨T, 0, none⟩), .int .i64 i, .int .i64 m] W fun e W' => e = .returned (.int .i64 (chg ps i m (okIts m) (fun _ => (1, m))).2) ∧ TA W W' base T A (chg ps i m (okIts m) (fun _ => (1, m))).1 := by
  have hcl : (W.alloc (.cells #[.int .i64 m] 3)).cell? ⟨W.heap.size, 0, none⟩ = some (.int .i64 m) := by simp [go_sem]
  have hlt := World.block_lt_of_cell? _ _ hcl
  have hch := change_any base T 35 36 A #[.pointer (some ⟨W.heap.size, 0, none⟩)] #[.pointer (some ⟨W.heap.size, 0, none⟩)] (okIts m) (fun _ => (1, m)) i m ps (W.alloc (.cells #[.int .i64 m] 3)) (hT.same ((Chg.refl _ _).alloc _)) (fun _ _ => rfl) (fun _ _ => rfl) (fun q => c_its q _ W.heap.size m hcl) (fun q W1 _ hc => c_leave q W1 W.heap.size m ((hc.cell (p := ⟨W.heap.size, 0, none⟩) hlt (fun h => h)).trans hcl))
  generalize chg ps i m (okIts m) (fun _ => (1, m)) = r at hch ⊢
  have HCH := Lib.hid hch
  clear hch hcl hlt
  go_enter Try.func21, Try.ntmps21
  go_wp2_with (go_at_call 28; refine HCH.out.mono ?_; rintro e w1 ⟨rfl, hTA⟩)
  go_ret
  exact ⟨rfl, TA.pre ((Chg.refl _ _).alloc _) hTA⟩
theorem release_any : Calls Try.prog 22 #[.pointer (some ⟨T, 0, none⟩), .int .i64 i] W fun e W' => e = .returned (.int .i64 (chg ps i 0 okRun (fun _ => (0, -1))).2) ∧ TA W W' base T A (chg ps i 0 okRun (fun _ => (0, -1))).1 := by
  have hch := change_any base T 30 37 A #[] #[] okRun (fun _ => (0, -1)) i 0 ps W hT (fun _ _ => rfl) (fun _ _ => rfl) (fun q => c_run q _) (fun q W1 _ _ => c_release q W1)
  generalize chg ps i 0 okRun (fun _ => (0, -1)) = r at hch ⊢
  have HCH := Lib.hid hch
  clear hch
  go_enter Try.func22, Try.ntmps22
  go_wp2_with (go_at_call 28; refine HCH.out.mono ?_; rintro e w1 ⟨rfl, hTA⟩)
  go_ret
  exact ⟨rfl, hTA⟩
theorem stop_any : Calls Try.prog 18 #[.pointer (some ⟨T, 0, none⟩), .int .i64 i] W fun e W' => e = .returned (.int .i64 (chg ps i 0 okMay nxStop).2) ∧ TA W W' base T A (chg ps i 0 okMay nxStop).1 := by
  have hch := change_any base T 32 34 A #[] #[] okMay nxStop i 0 ps W hT (fun _ _ => rfl) (fun _ _ => rfl) (fun q => c_may q _) (fun q W1 ho _ => c_stop q W1 ho)
  generalize chg ps i 0 okMay nxStop = r at hch ⊢
  have HCH := Lib.hid hch
  clear hch
  go_enter Try.func18, Try.ntmps18
  go_wp2_with (go_at_call 28; refine HCH.out.mono ?_; rintro e w1 ⟨rfl, hTA⟩)
  go_ret
  exact ⟨rfl, hTA⟩
theorem go_any : Calls Try.prog 23 #[.pointer (some ⟨T, 0, none⟩), .int .i64 i] W fun e W' => e = .returned (.int .i64 (chg ps i 0 okStand nxGo).2) ∧ TA W W' base T A (chg ps i 0 okStand nxGo).1 := by
  have hch := change_any base T 38 39 A #[] #[] okStand nxGo i 0 ps W hT (fun _ _ => rfl) (fun _ _ => rfl) (fun q => c_stand q _) (fun q W1 _ _ => c_go q W1)
  generalize chg ps i 0 okStand nxGo = r at hch ⊢
  have HCH := Lib.hid hch
  clear hch
  go_enter Try.func23, Try.ntmps23
  go_wp2_with (go_at_call 28; refine HCH.out.mono ?_; rintro e w1 ⟨rfl, hTA⟩)
  go_ret
  exact ⟨rfl, hTA⟩
end
theorem take_nil (i m : Int) (W : World) : Calls Try.prog 16 #[.pointer none, .int .i64 i, .int .i64 m] W fun e W' => e = .returned (.int .i64 1) ∧ Chg (fun _ => False) W W' := by
  go_enter Try.func16, Try.ntmps16
  go_wp2_with (go_at_call 28; refine (change_nil _ _ _ _ _).mono ?_; rintro e w1 ⟨rfl, rfl⟩)
  go_ret
  exact ⟨rfl, (Chg.refl _ _).alloc _⟩
theorem enter_nil (i : Int) (W : World) : Calls Try.prog 17 #[.pointer none, .int .i64 i] W fun e W' => e = .returned (.int .i64 1) ∧ Chg (fun _ => False) W W' := by
  go_enter Try.func17, Try.ntmps17
  go_wp2_with (go_at_call 28; refine (change_nil _ _ _ _ _).mono ?_; rintro e w1 ⟨rfl, rfl⟩)
  go_ret
  exact ⟨rfl, Chg.refl _ _⟩
theorem leave_nil (i m : Int) (W : World) : Calls Try.prog 21 #[.pointer none, .int .i64 i, .int .i64 m] W fun e W' => e = .returned (.int .i64 1) ∧ Chg (fun _ => False) W W' := by
  go_enter Try.func21, Try.ntmps21
  go_wp2_with (go_at_call 28; refine (change_nil _ _ _ _ _).mono ?_; rintro e w1 ⟨rfl, rfl⟩)
  go_ret
  exact ⟨rfl, (Chg.refl _ _).alloc _⟩
theorem release_nil (i : Int) (W : World) : Calls Try.prog 22 #[.pointer none, .int .i64 i] W fun e W' => e = .returned (.int .i64 1) ∧ Chg (fun _ => False) W W' := by
  go_enter Try.func22, Try.ntmps22
  go_wp2_with (go_at_call 28; refine (change_nil _ _ _ _ _).mono ?_; rintro e w1 ⟨rfl, rfl⟩)
  go_ret
  exact ⟨rfl, Chg.refl _ _⟩
theorem stop_nil (i : Int) (W : World) : Calls Try.prog 18 #[.pointer none, .int .i64 i] W fun e W' => e = .returned (.int .i64 1) ∧ Chg (fun _ => False) W W' := by
  go_enter Try.func18, Try.ntmps18
  go_wp2_with (go_at_call 28; refine (change_nil _ _ _ _ _).mono ?_; rintro e w1 ⟨rfl, rfl⟩)
  go_ret
  exact ⟨rfl, Chg.refl _ _⟩
theorem go_nil (i : Int) (W : World) : Calls Try.prog 23 #[.pointer none, .int .i64 i] W fun e W' => e = .returned (.int .i64 1) ∧ Chg (fun _ => False) W W' := by
  go_enter Try.func23, Try.ntmps23
  go_wp2_with (go_at_call 28; refine (change_nil _ _ _ _ _).mono ?_; rintro e w1 ⟨rfl, rfl⟩)
  go_ret
  exact ⟨rfl, Chg.refl _ _⟩
theorem resize_nil (i : Int) (W : World) : Calls Try.prog 24 #[.pointer none, .int .i64 i] W fun e W' => e = .returned (.int .i64 1) ∧ W' = W := by
  go_enter Try.func24, Try.ntmps24
  go_wp2
  go_ret
  exact ⟨rfl, rfl⟩
theorem len_nil (W : World) : Calls Try.prog 14 #[.pointer none] W fun e W' => e = .returned (.int .i64 0) ∧ W' = W := by
  go_enter Try.func14, Try.ntmps14
  go_wp2
  go_ret
  exact ⟨rfl, rfl⟩
theorem get_nil (i : Int) (W : World) : Calls Try.prog 13 #[.pointer none, .int .i64 i] W fun e W' => e = .returned (.int .i64 0) ∧ W' = W := by
  go_enter Try.func13, Try.ntmps13
  go_wp2
  go_ret
  exact ⟨rfl, rfl⟩
theorem who_nil (i : Int) (W : World) : Calls Try.prog 12 #[.pointer none, .int .i64 i] W fun e W' => e = .returned (.int .i64 (-1)) ∧ W' = W := by
  go_enter Try.func12, Try.ntmps12
  go_wp2
  go_ret
  exact ⟨rfl, rfl⟩
theorem count_nil (i : Int) (W : World) : Calls Try.prog 15 #[.pointer none, .int .i64 i] W fun e W' => e = .returned (.int .i64 0) ∧ W' = W := by
  go_enter Try.func15, Try.ntmps15
  go_wp2
  go_ret
  exact ⟨rfl, rfl⟩

set_option maxHeartbeats 4000000 in
theorem alive_any (W : World) : Calls Try.prog 7 #[] W fun e W' => e = .returned (.bool true) ∧ Below W.heap.size W W' := by
  go_enter Try.func7, Try.ntmps7
  go_wp2_with (go_at_call 8; refine (tnew_in 2 W (by decide) (by decide)).mono ?_; rintro e w1 ⟨A1, rfl, hT1, hb1⟩)
  have b1 : Below W.heap.size W w1 := hb1
  have e1 : chg (List.replicate 2 (0, -1)) 0 3 okIdle (fun _ => (1, 3)) = ([(1, 3), (0, -1)], 0) := by decide
  have e2 : chg [(1, 3), (0, -1)] 0 0 okRun (fun q => (2, q.2)) = ([(2, 3), (0, -1)], 0) := by decide
  have e3 : chg [(2, 3), (0, -1)] 0 0 okMay nxStop = ([(3, -1), (0, -1)], 0) := by decide
  have h := take_any W.heap.size W.heap.size A1 _ w1 hT1 0 3
  rw [e1] at h
  refine h.mono ?_
  rintro e w2 ⟨rfl, hA2⟩
  have b2 := TA.below hT1 b1 (by omega) hA2
  obtain ⟨A2, hT2, _, _⟩ := hA2
  clear h hT1 b1 hb1
  go_wp2_with fail
  have h := enter_any W.heap.size W.heap.size A2 _ w2 hT2 0
  rw [e2] at h
  refine h.mono ?_
  rintro e w3 ⟨rfl, hA3⟩
  have b3 := TA.below hT2 b2 (by omega) hA3
  obtain ⟨A3, hT3, _, _⟩ := hA3
  clear h hT2 b2
  go_wp2_with fail
  have h := stop_any W.heap.size W.heap.size A3 _ w3 hT3 0
  rw [e3] at h
  refine h.mono ?_
  rintro e w4 ⟨rfl, hA4⟩
  have b4 := TA.below hT3 b3 (by omega) hA4
  obtain ⟨A4, hT4, _, _⟩ := hA4
  clear h hT3 b3
  go_wp2_with (first
    | (go_at_call 13; refine (get_at W.heap.size W.heap.size A4 _ w4 hT4 0 (by decide)).mono ?_; rintro e v1 ⟨rfl, rfl⟩)
    | (go_at_call 12; refine (who_at W.heap.size W.heap.size A4 _ v1 hT4 0 (by decide)).mono ?_; rintro e v2 ⟨rfl, rfl⟩)
    | (go_at_call 14; refine (len_at W.heap.size W.heap.size A4 _ v2 hT4).mono ?_; rintro e v3 ⟨rfl, hc⟩))
  go_ret
  exact ⟨rfl, b4.trans (hc.below b4.size (by rintro g _ h; exact h.elim))⟩
end Go.Proofs.Ytemnipdmclohmaa
