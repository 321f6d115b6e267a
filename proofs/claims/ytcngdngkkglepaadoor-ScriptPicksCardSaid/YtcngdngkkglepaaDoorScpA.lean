/- An entry within the machines that there are; whether it picks one. -/
import Derived.Test.YtcngdngkkglepaaDoorModNl
import Derived.Test.YtcngdngkkglepaaDoorModRl
import Derived.Test.YtcngdngkkglepaaDoorRobA
import Derived.Deep.RegionHeld3
import Derived.Deep.QuietTactic
import Derived.BigQuiet
import Derived.WalkMore
namespace Go.Proofs.YtcngdngkkglepaaDoor
open Go.ChangeShapes Go.WideShapes Go.ChangeAt Go.RowKit Go.Deep
set_option linter.unusedVariables false
set_option linter.unusedSimpArgs false

def red (live : Int) (e : List Int) : List Int := [modOf (e.getD 0 0) live, modOf (e.getD 1 0) 65, e.getD 2 0]
theorem setCell3 (w : World) (G : Nat) (t : TypeId) (u0 u1 u2 a b c : Value) (h : Blk w G t #[u0, u1, u2]) : Blk (((w.setCell ⟨G, 0, none⟩ a).setCell ⟨G, 1, none⟩ b).setCell ⟨G, 2, none⟩ c) G t #[a, b, c] := by
  have := ((h.set_ 0 a).set_ 1 b).set_ 2 c
  simpa using this
set_option maxRecDepth 100000 in
set_option maxHeartbeats 4000000 in
theorem reduce_any (p d r live : Int) (W : World) (hn : live ≤ 9223372036854775807) :
    Calls Tryd.prog 15 #[.agg #[.int .i64 p, .int .i64 d, .int .i64 r], .int .i64 live] W fun e W' => e = .returned (.agg #[.int .i64 (modOf p live), .int .i64 (modOf d 65), .int .i64 r]) ∧ Chg (fun _ => False) W W' := by
  generalize ha : modOf p live = a
  generalize hb : modOf d 65 = b
  have M1 := Lib.hid (fun V => ha ▸ mod_any p live V hn)
  have M2 := Lib.hid (fun V => hb ▸ mod_any d 65 V (by decide))
  clear ha hb
  go_enter Tryd.func15, Tryd.ntmps15
  go_wp2
  have hs1 : ((W.alloc (.cells #[.int .i64 p, .int .i64 d, .int .i64 r] 31)).alloc (.cells #[.int .i64 0, .int .i64 0, .int .i64 0] 31)).drew.cell? ⟨W.heap.size, 0, none⟩ = some (.int .i64 p) ∧ ((W.alloc (.cells #[.int .i64 p, .int .i64 d, .int .i64 r] 31)).alloc (.cells #[.int .i64 0, .int .i64 0, .int .i64 0] 31)).drew.cell? ⟨W.heap.size, 1, none⟩ = some (.int .i64 d) ∧ ((W.alloc (.cells #[.int .i64 p, .int .i64 d, .int .i64 r] 31)).alloc (.cells #[.int .i64 0, .int .i64 0, .int .i64 0] 31)).drew.cell? ⟨W.heap.size, 2, none⟩ = some (.int .i64 r) := by refine ⟨?_, ?_, ?_⟩ <;> simp [go_sem]
  refine wp_region_held_drew (S := fun w' => w'.cell? ⟨W.heap.size, 0, none⟩ = some (.int .i64 p) ∧ w'.cell? ⟨W.heap.size, 1, none⟩ = some (.int .i64 d) ∧ w'.cell? ⟨W.heap.size, 2, none⟩ = some (.int .i64 r)) (by kernel_rfl) hs1 (fun hHeld => ?_)
  refine wpAnyH_take (i := 0) (oi := Oper.mk _ _ _ _ _ _) (v := ?v1) rfl (by kernel_rfl) (by kernel_rfl) (by kernel_rfl) (fun _ _ _ h => h) (Or.inl ⟨by rfl, ?hy1⟩) (by assumption) ?rs1
  case hy1 => (intro w hSw; (try dsimp only at hSw); first | (go_simp <;> with_reducible rfl) | rfl)
  try simp only [Act.put, List.setIfInBounds_toArray, List.set_cons_zero, List.set_cons_succ]
  refine wpAnyH_take (i := 1) (oi := Oper.mk _ _ _ _ _ _) (v := ?v2) rfl (by kernel_rfl) (by kernel_rfl) (by kernel_rfl) (fun _ _ _ h => h) (Or.inl ⟨by rfl, ?hy2⟩) (by assumption) ?rs2
  case hy2 => (intro w hSw; (try dsimp only at hSw); first | (go_simp <;> with_reducible rfl) | rfl)
  try simp only [Act.put, List.setIfInBounds_toArray, List.set_cons_zero, List.set_cons_succ]
  refine wpAnyH_take (i := 2) (oi := Oper.mk _ _ _ _ _ _) (v := ?v3) rfl (by kernel_rfl) (by kernel_rfl) (by kernel_rfl) (fun _ _ _ h => h) (Or.inl ⟨by rfl, ?hy3⟩) (by assumption) ?rs3
  case hy3 => (intro w hSw; (try dsimp only at hSw); first | (go_simp <;> with_reducible rfl) | rfl)
  try simp only [Act.put, List.setIfInBounds_toArray, List.set_cons_zero, List.set_cons_succ]
  refine wpAnyH_take (i := 4) (oi := Oper.mk _ _ _ _ _ _) (v := ?v4) rfl (by kernel_rfl) (by kernel_rfl) (by kernel_rfl) (fun _ _ _ h => h) (Or.inl ⟨by rfl, ?hy4⟩) (by assumption) ?rs4
  case hy4 => (intro w hSw; (try dsimp only at hSw); first | (go_simp <;> with_reducible rfl) | rfl)
  try simp only [Act.put, List.setIfInBounds_toArray, List.set_cons_zero, List.set_cons_succ]
  refine wpAnyH_take (i := 5) (oi := Oper.mk _ _ _ _ _ _) (v := ?v5) rfl (by kernel_rfl) (by kernel_rfl) (by kernel_rfl) (fun _ _ _ h => h) (Or.inl ⟨by rfl, ?hy5⟩) (by assumption) ?rs5
  case hy5 => (intro w hSw; (try dsimp only at hSw); first | (go_simp <;> with_reducible rfl) | rfl)
  try simp only [Act.put, List.setIfInBounds_toArray, List.set_cons_zero, List.set_cons_succ]
  refine wpAnyH_take (i := 7) (oi := Oper.mk _ _ _ _ _ _) (v := ?v6) rfl (by kernel_rfl) (by kernel_rfl) (by kernel_rfl) (fun _ _ _ h => h) (Or.inl ⟨by rfl, ?hy6⟩) (by assumption) ?rs6
  case hy6 => (intro w hSw; (try dsimp only at hSw); first | (go_simp <;> with_reducible rfl) | rfl)
  try simp only [Act.put, List.setIfInBounds_toArray, List.set_cons_zero, List.set_cons_succ]
  refine wpAnyH_take (i := 8) (oi := Oper.mk _ _ _ _ _ _) (v := ?v7) rfl (by kernel_rfl) (by kernel_rfl) (by kernel_rfl) (fun _ _ _ h => h) (Or.inl ⟨by rfl, ?hy7⟩) (by assumption) ?rs7
  case hy7 => (intro w hSw; (try dsimp only at hSw); first | (go_simp <;> with_reducible rfl) | rfl)
  try simp only [Act.put, List.setIfInBounds_toArray, List.set_cons_zero, List.set_cons_succ]
  refine wpAnyH_ready (rs := [3]) (by kernel_rfl) (by simp) ?_
  refine AllReadyH.cons (o := Oper.mk _ _ _ _ _ _) rfl (fun K hK => ?_) AllReadyH.nil
  go_simp
  go_at_call 31; refine (M1.out _).mono ?_; rintro e w1 ⟨rfl, rfl⟩
  refine hK.out _ _ hHeld (fun hHeld => ?_)
  clear hK K
  try simp only [Act.put, List.setIfInBounds_toArray, List.set_cons_zero, List.set_cons_succ]
  refine wpAnyH_ready (rs := [6]) (by kernel_rfl) (by simp) ?_
  refine AllReadyH.cons (o := Oper.mk _ _ _ _ _ _) rfl (fun K hK => ?_) AllReadyH.nil
  go_simp
  go_at_call 31; refine (M2.out _).mono ?_; rintro e w1 ⟨rfl, rfl⟩
  refine hK.out _ _ hHeld (fun hHeld => ?_)
  clear hK K
  try simp only [Act.put, List.setIfInBounds_toArray, List.set_cons_zero, List.set_cons_succ]
  refine wpAnyH_take (i := 9) (oi := Oper.mk _ _ _ _ _ _) (v := ?v10) rfl (by kernel_rfl) (by kernel_rfl) (by kernel_rfl) (fun _ _ _ h => h) (Or.inl ⟨by rfl, ?hy10⟩) (by assumption) ?rs10
  case hy10 => (intro w hSw; (try dsimp only at hSw); first | (go_simp <;> with_reducible rfl) | rfl)
  try simp only [Act.put, List.setIfInBounds_toArray, List.set_cons_zero, List.set_cons_succ]
  refine wpAnyH_ready (rs := [10]) (by kernel_rfl) (by simp) ?_
  refine AllReadyH.cons (o := Oper.mk _ _ _ _ _ _) rfl (fun K hK => ?_) AllReadyH.nil
  go_simp
  skip
  refine hK.out _ _ (by refine ⟨?_, ?_, ?_⟩ <;> simp [go_sem]) (fun hHeld => ?_)
  clear hK K
  try simp only [Act.put, List.setIfInBounds_toArray, List.set_cons_zero, List.set_cons_succ]
  refine wpAnyH_done (by kernel_rfl) ?_ _
  have hnew : Blk ((W.alloc (.cells #[.int .i64 p, .int .i64 d, .int .i64 r] 31)).alloc (.cells #[.int .i64 a, .int .i64 b, .int .i64 r] 31)) (W.heap.size + 1) 31 #[.int .i64 a, .int .i64 b, .int .i64 r] := by
    have h := Blk.new (W.alloc (.cells #[.int .i64 p, .int .i64 d, .int .i64 r] 31)) 31 #[.int .i64 a, .int .i64 b, .int .i64 r]
    rwa [show (W.alloc (.cells #[.int .i64 p, .int .i64 d, .int .i64 r] 31)).heap.size = W.heap.size + 1 from by simp] at h
  have hres := hnew.drew
  have hch : Chg (fun _ => False) W ((W.alloc (.cells #[.int .i64 p, .int .i64 d, .int .i64 r] 31)).alloc (.cells #[.int .i64 a, .int .i64 b, .int .i64 r] 31)) := ((Chg.refl _ _).alloc _).alloc _
  go_wp2
  refine bodyPost_ret (results_cell_row rfl _ _ (W.heap.size + 1) 31 #[.int .i64 a, .int .i64 b, .int .i64 r] (0, 0) _ rfl hres Tryd.underlying31 rfl (by kernel_rfl)) rfl ?_
  exact ⟨rfl, hch.drew⟩
set_option maxRecDepth 100000 in
set_option maxHeartbeats 4000000 in
theorem rreduce_any (p d r live : Int) (W : World) (hn : live ≤ 9223372036854775807) :
    Calls Tryd.prog 14 #[.agg #[.int .i64 p, .int .i64 d, .int .i64 r], .int .i64 live] W fun e W' => e = .returned (.agg #[.int .i64 (modOf p live), .int .i64 (modOf d 65), .int .i64 r]) ∧ Chg (fun _ => False) W W' := by
  generalize ha : modOf p live = a
  generalize hb : modOf d 65 = b
  have M1 := Lib.hid (fun V => ha ▸ rmod_any p live V hn)
  have M2 := Lib.hid (fun V => hb ▸ rmod_any d 65 V (by decide))
  clear ha hb
  go_enter Tryd.func14, Tryd.ntmps14
  go_wp2
  have hs1 : ((W.alloc (.cells #[.int .i64 p, .int .i64 d, .int .i64 r] 31)).alloc (.cells #[.int .i64 0, .int .i64 0, .int .i64 0] 31)).drew.cell? ⟨W.heap.size, 0, none⟩ = some (.int .i64 p) ∧ ((W.alloc (.cells #[.int .i64 p, .int .i64 d, .int .i64 r] 31)).alloc (.cells #[.int .i64 0, .int .i64 0, .int .i64 0] 31)).drew.cell? ⟨W.heap.size, 1, none⟩ = some (.int .i64 d) ∧ ((W.alloc (.cells #[.int .i64 p, .int .i64 d, .int .i64 r] 31)).alloc (.cells #[.int .i64 0, .int .i64 0, .int .i64 0] 31)).drew.cell? ⟨W.heap.size, 2, none⟩ = some (.int .i64 r) := by refine ⟨?_, ?_, ?_⟩ <;> simp [go_sem]
  refine wp_region_held_drew (S := fun w' => w'.cell? ⟨W.heap.size, 0, none⟩ = some (.int .i64 p) ∧ w'.cell? ⟨W.heap.size, 1, none⟩ = some (.int .i64 d) ∧ w'.cell? ⟨W.heap.size, 2, none⟩ = some (.int .i64 r)) (by kernel_rfl) hs1 (fun hHeld => ?_)
  refine wpAnyH_take (i := 0) (oi := Oper.mk _ _ _ _ _ _) (v := ?v12) rfl (by kernel_rfl) (by kernel_rfl) (by kernel_rfl) (fun _ _ _ h => h) (Or.inl ⟨by rfl, ?hy12⟩) (by assumption) ?rs12
  case hy12 => (intro w hSw; (try dsimp only at hSw); first | (go_simp <;> with_reducible rfl) | rfl)
  try simp only [Act.put, List.setIfInBounds_toArray, List.set_cons_zero, List.set_cons_succ]
  refine wpAnyH_take (i := 1) (oi := Oper.mk _ _ _ _ _ _) (v := ?v13) rfl (by kernel_rfl) (by kernel_rfl) (by kernel_rfl) (fun _ _ _ h => h) (Or.inl ⟨by rfl, ?hy13⟩) (by assumption) ?rs13
  case hy13 => (intro w hSw; (try dsimp only at hSw); first | (go_simp <;> with_reducible rfl) | rfl)
  try simp only [Act.put, List.setIfInBounds_toArray, List.set_cons_zero, List.set_cons_succ]
  refine wpAnyH_take (i := 2) (oi := Oper.mk _ _ _ _ _ _) (v := ?v14) rfl (by kernel_rfl) (by kernel_rfl) (by kernel_rfl) (fun _ _ _ h => h) (Or.inl ⟨by rfl, ?hy14⟩) (by assumption) ?rs14
  case hy14 => (intro w hSw; (try dsimp only at hSw); first | (go_simp <;> with_reducible rfl) | rfl)
  try simp only [Act.put, List.setIfInBounds_toArray, List.set_cons_zero, List.set_cons_succ]
  refine wpAnyH_take (i := 4) (oi := Oper.mk _ _ _ _ _ _) (v := ?v15) rfl (by kernel_rfl) (by kernel_rfl) (by kernel_rfl) (fun _ _ _ h => h) (Or.inl ⟨by rfl, ?hy15⟩) (by assumption) ?rs15
  case hy15 => (intro w hSw; (try dsimp only at hSw); first | (go_simp <;> with_reducible rfl) | rfl)
  try simp only [Act.put, List.setIfInBounds_toArray, List.set_cons_zero, List.set_cons_succ]
  refine wpAnyH_take (i := 5) (oi := Oper.mk _ _ _ _ _ _) (v := ?v16) rfl (by kernel_rfl) (by kernel_rfl) (by kernel_rfl) (fun _ _ _ h => h) (Or.inl ⟨by rfl, ?hy16⟩) (by assumption) ?rs16
  case hy16 => (intro w hSw; (try dsimp only at hSw); first | (go_simp <;> with_reducible rfl) | rfl)
  try simp only [Act.put, List.setIfInBounds_toArray, List.set_cons_zero, List.set_cons_succ]
  refine wpAnyH_take (i := 7) (oi := Oper.mk _ _ _ _ _ _) (v := ?v17) rfl (by kernel_rfl) (by kernel_rfl) (by kernel_rfl) (fun _ _ _ h => h) (Or.inl ⟨by rfl, ?hy17⟩) (by assumption) ?rs17
  case hy17 => (intro w hSw; (try dsimp only at hSw); first | (go_simp <;> with_reducible rfl) | rfl)
  try simp only [Act.put, List.setIfInBounds_toArray, List.set_cons_zero, List.set_cons_succ]
  refine wpAnyH_take (i := 8) (oi := Oper.mk _ _ _ _ _ _) (v := ?v18) rfl (by kernel_rfl) (by kernel_rfl) (by kernel_rfl) (fun _ _ _ h => h) (Or.inl ⟨by rfl, ?hy18⟩) (by assumption) ?rs18
  case hy18 => (intro w hSw; (try dsimp only at hSw); first | (go_simp <;> with_reducible rfl) | rfl)
  try simp only [Act.put, List.setIfInBounds_toArray, List.set_cons_zero, List.set_cons_succ]
  refine wpAnyH_ready (rs := [3]) (by kernel_rfl) (by simp) ?_
  refine AllReadyH.cons (o := Oper.mk _ _ _ _ _ _) rfl (fun K hK => ?_) AllReadyH.nil
  go_simp
  go_at_call 30; refine (M1.out _).mono ?_; rintro e w1 ⟨rfl, rfl⟩
  refine hK.out _ _ hHeld (fun hHeld => ?_)
  clear hK K
  try simp only [Act.put, List.setIfInBounds_toArray, List.set_cons_zero, List.set_cons_succ]
  refine wpAnyH_ready (rs := [6]) (by kernel_rfl) (by simp) ?_
  refine AllReadyH.cons (o := Oper.mk _ _ _ _ _ _) rfl (fun K hK => ?_) AllReadyH.nil
  go_simp
  go_at_call 30; refine (M2.out _).mono ?_; rintro e w1 ⟨rfl, rfl⟩
  refine hK.out _ _ hHeld (fun hHeld => ?_)
  clear hK K
  try simp only [Act.put, List.setIfInBounds_toArray, List.set_cons_zero, List.set_cons_succ]
  refine wpAnyH_take (i := 9) (oi := Oper.mk _ _ _ _ _ _) (v := ?v21) rfl (by kernel_rfl) (by kernel_rfl) (by kernel_rfl) (fun _ _ _ h => h) (Or.inl ⟨by rfl, ?hy21⟩) (by assumption) ?rs21
  case hy21 => (intro w hSw; (try dsimp only at hSw); first | (go_simp <;> with_reducible rfl) | rfl)
  try simp only [Act.put, List.setIfInBounds_toArray, List.set_cons_zero, List.set_cons_succ]
  refine wpAnyH_ready (rs := [10]) (by kernel_rfl) (by simp) ?_
  refine AllReadyH.cons (o := Oper.mk _ _ _ _ _ _) rfl (fun K hK => ?_) AllReadyH.nil
  go_simp
  skip
  refine hK.out _ _ (by refine ⟨?_, ?_, ?_⟩ <;> simp [go_sem]) (fun hHeld => ?_)
  clear hK K
  try simp only [Act.put, List.setIfInBounds_toArray, List.set_cons_zero, List.set_cons_succ]
  refine wpAnyH_done (by kernel_rfl) ?_ _
  have hnew : Blk ((W.alloc (.cells #[.int .i64 p, .int .i64 d, .int .i64 r] 31)).alloc (.cells #[.int .i64 a, .int .i64 b, .int .i64 r] 31)) (W.heap.size + 1) 31 #[.int .i64 a, .int .i64 b, .int .i64 r] := by
    have h := Blk.new (W.alloc (.cells #[.int .i64 p, .int .i64 d, .int .i64 r] 31)) 31 #[.int .i64 a, .int .i64 b, .int .i64 r]
    rwa [show (W.alloc (.cells #[.int .i64 p, .int .i64 d, .int .i64 r] 31)).heap.size = W.heap.size + 1 from by simp] at h
  have hres := hnew.drew
  have hch : Chg (fun _ => False) W ((W.alloc (.cells #[.int .i64 p, .int .i64 d, .int .i64 r] 31)).alloc (.cells #[.int .i64 a, .int .i64 b, .int .i64 r] 31)) := ((Chg.refl _ _).alloc _).alloc _
  go_wp2
  refine bodyPost_ret (results_cell_row rfl _ _ (W.heap.size + 1) 31 #[.int .i64 a, .int .i64 b, .int .i64 r] (0, 0) _ rfl hres Tryd.underlying31 rfl (by kernel_rfl)) rfl ?_
  exact ⟨rfl, hch.drew⟩
/-- Does an entry pick another one? -/
def other (live pick : Int) (e : List Int) : Bool := modOf (e.getD 0 0) live != pick
set_option maxRecDepth 100000 in
set_option maxHeartbeats 4000000 in
theorem only1_any (C1 C2 : Nat) (p d r live pick : Int) (W : World) (hn : live ≤ 9223372036854775807) (h1 : Blk W C1 3 #[.int .i64 live]) (h2 : Blk W C2 3 #[.int .i64 pick]) :
    Calls Tryd.prog 32 (#[.agg #[.int .i64 p, .int .i64 d, .int .i64 r]] ++ #[.pointer (some ⟨C1, 0, none⟩), .pointer (some ⟨C2, 0, none⟩)]) W fun e W' => e = .returned (.bool (other live pick [p, d, r])) ∧ Chg (fun _ => False) W W' := by
  have hov : other live pick [p, d, r] = (modOf p live != pick) := rfl
  rw [hov]
  have HR := Lib.hid (fun V => reduce_any p d r live V hn)
  generalize modOf p live = a at *
  generalize modOf d 65 = b at *
  have c1 := h1.cell 0
  have c2 := h2.cell 0
  have l1 := h1.lt
  have l2 := h2.lt
  simp at c1 c2
  clear h1 h2 hov
  go_enter Tryd.func32, Tryd.ntmps32
  go_wp2
  have hs1 : (W.alloc (.cells #[.int .i64 p, .int .i64 d, .int .i64 r] 31)).drew.cell? ⟨W.heap.size, 0, none⟩ = some (.int .i64 p) ∧ (W.alloc (.cells #[.int .i64 p, .int .i64 d, .int .i64 r] 31)).drew.cell? ⟨W.heap.size, 1, none⟩ = some (.int .i64 d) ∧ (W.alloc (.cells #[.int .i64 p, .int .i64 d, .int .i64 r] 31)).drew.cell? ⟨W.heap.size, 2, none⟩ = some (.int .i64 r) ∧ (W.alloc (.cells #[.int .i64 p, .int .i64 d, .int .i64 r] 31)).drew.cell? ⟨C1, 0, none⟩ = some (.int .i64 live) ∧ (W.alloc (.cells #[.int .i64 p, .int .i64 d, .int .i64 r] 31)).drew.cell? ⟨C2, 0, none⟩ = some (.int .i64 pick) := ⟨by simp [go_sem], by simp [go_sem], by simp [go_sem], (((Chg.refl (fun _ => False) W).alloc _).drew.cell (p := ⟨C1, 0, none⟩) l1 (fun h => h)).trans c1, (((Chg.refl (fun _ => False) W).alloc _).drew.cell (p := ⟨C2, 0, none⟩) l2 (fun h => h)).trans c2⟩
  refine wp_region_held_drew (S := fun w' => w'.cell? ⟨W.heap.size, 0, none⟩ = some (.int .i64 p) ∧ w'.cell? ⟨W.heap.size, 1, none⟩ = some (.int .i64 d) ∧ w'.cell? ⟨W.heap.size, 2, none⟩ = some (.int .i64 r) ∧ w'.cell? ⟨C1, 0, none⟩ = some (.int .i64 live) ∧ w'.cell? ⟨C2, 0, none⟩ = some (.int .i64 pick)) (by kernel_rfl) hs1 (fun hHeld => ?_)
  refine wpAnyH_take (i := 0) (oi := Oper.mk _ _ _ _ _ _) (v := ?v23) rfl (by kernel_rfl) (by kernel_rfl) (by kernel_rfl) (fun _ _ _ h => h) (Or.inl ⟨by rfl, ?hy23⟩) (by assumption) ?rs23
  case hy23 => (intro w hSw; (try dsimp only at hSw); first | (go_simp <;> with_reducible rfl) | rfl)
  try simp only [Act.put, List.setIfInBounds_toArray, List.set_cons_zero, List.set_cons_succ]
  refine wpAnyH_take (i := 1) (oi := Oper.mk _ _ _ _ _ _) (v := ?v24) rfl (by kernel_rfl) (by kernel_rfl) (by kernel_rfl) (fun _ _ _ h => h) (Or.inl ⟨by rfl, ?hy24⟩) (by assumption) ?rs24
  case hy24 => (intro w hSw; (try dsimp only at hSw); first | (go_simp <;> with_reducible rfl) | rfl)
  try simp only [Act.put, List.setIfInBounds_toArray, List.set_cons_zero, List.set_cons_succ]
  refine wpAnyH_take (i := 4) (oi := Oper.mk _ _ _ _ _ _) (v := ?v25) rfl (by kernel_rfl) (by kernel_rfl) (by kernel_rfl) (fun _ _ _ h => h) (Or.inl ⟨by rfl, ?hy25⟩) (by assumption) ?rs25
  case hy25 => (intro w hSw; (try dsimp only at hSw); first | (go_simp <;> with_reducible rfl) | rfl)
  try simp only [Act.put, List.setIfInBounds_toArray, List.set_cons_zero, List.set_cons_succ]
  refine wpAnyH_ready (rs := [2]) (by kernel_rfl) (by simp) ?_
  refine AllReadyH.cons (o := Oper.mk _ _ _ _ _ _) rfl (fun K hK => ?_) AllReadyH.nil
  go_simp
  go_at_call 15; refine (HR.out _).mono ?_; rintro e w1 ⟨rfl, hc1⟩; have HC1 := Lib.hid (((Chg.refl (fun _ => False) W).alloc _).drew.trans hc1 (fun _ _ h => h)); have hs2 : w1.cell? ⟨W.heap.size, 0, none⟩ = some (.int .i64 p) ∧ w1.cell? ⟨W.heap.size, 1, none⟩ = some (.int .i64 d) ∧ w1.cell? ⟨W.heap.size, 2, none⟩ = some (.int .i64 r) ∧ w1.cell? ⟨C1, 0, none⟩ = some (.int .i64 live) ∧ w1.cell? ⟨C2, 0, none⟩ = some (.int .i64 pick) := ⟨(hc1.cell (p := ⟨W.heap.size, 0, none⟩) (by simp) (fun h => h)).trans hs1.1, (hc1.cell (p := ⟨W.heap.size, 1, none⟩) (by simp) (fun h => h)).trans hs1.2.1, (hc1.cell (p := ⟨W.heap.size, 2, none⟩) (by simp) (fun h => h)).trans hs1.2.2.1, (hc1.cell (p := ⟨C1, 0, none⟩) (by simp; omega) (fun h => h)).trans hs1.2.2.2.1, (hc1.cell (p := ⟨C2, 0, none⟩) (by simp; omega) (fun h => h)).trans hs1.2.2.2.2⟩; clear hc1
  refine hK.out _ _ hs2 (fun hHeld => ?_)
  clear hK K
  try simp only [Act.put, List.setIfInBounds_toArray, List.set_cons_zero, List.set_cons_succ]
  refine wpAnyH_take (i := 3) (oi := Oper.mk _ _ _ _ _ _) (v := ?v27) rfl (by kernel_rfl) (by kernel_rfl) (by kernel_rfl) (fun _ _ _ h => h) (Or.inl ⟨by rfl, ?hy27⟩) (by assumption) ?rs27
  case hy27 => (intro w hSw; (try dsimp only at hSw); first | (go_simp <;> with_reducible rfl) | rfl)
  try simp only [Act.put, List.setIfInBounds_toArray, List.set_cons_zero, List.set_cons_succ]
  refine wpAnyH_take (i := 5) (oi := Oper.mk _ _ _ _ _ _) (v := ?v28) rfl (by kernel_rfl) (by kernel_rfl) (by kernel_rfl) (fun _ _ _ h => h) (Or.inl ⟨by rfl, ?hy28⟩) (by assumption) ?rs28
  case hy28 => (intro w hSw; (try dsimp only at hSw); first | (go_simp <;> with_reducible rfl) | rfl)
  try simp only [Act.put, List.setIfInBounds_toArray, List.set_cons_zero, List.set_cons_succ]
  refine wpAnyH_take (i := 6) (oi := Oper.mk _ _ _ _ _ _) (v := ?v29) rfl (by kernel_rfl) (by kernel_rfl) (by kernel_rfl) (fun _ _ _ h => h) (Or.inl ⟨by rfl, ?hy29⟩) (by assumption) ?rs29
  case hy29 => (intro w hSw; (try dsimp only at hSw); first | (go_simp <;> with_reducible rfl) | rfl)
  try simp only [Act.put, List.setIfInBounds_toArray, List.set_cons_zero, List.set_cons_succ]
  refine wpAnyH_done (by kernel_rfl) ?_ _
  go_wp2
  go_ret
  exact ⟨rfl, HC1.out⟩
end Go.Proofs.YtcngdngkkglepaaDoor
