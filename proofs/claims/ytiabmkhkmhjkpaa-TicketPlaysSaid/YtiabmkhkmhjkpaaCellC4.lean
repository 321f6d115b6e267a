/- Shared cells of any number: new ones, how many, copies. -/
import Derived.Test.YtiabmkhkmhjkpaaCellB4
import Derived.Deep.RegionLaw
import Derived.Laws.CopyOwn
import Derived.Deep.OwnRows
namespace Go.Proofs.Ytiabmkhkmhjkpaa
open Go.ChangeShapes Go.WideShapes Go.ChangeAt Go.RowKit Go.Deep
set_option linter.unusedVariables false

theorem int64_info : (Try.prog.info? 2).map (fun i => (i.zero, i.size, i.bytes)) = some (some (.int .i64 0), 1, 8) := by kernel_rfl
theorem made_ints (n : Nat) : madeCells #[.int .i64 0] n = (ints (List.replicate n 0)).toArray := by
  apply Array.ext'
  rw [toList_madeCells_one]
  simp [ints]

theorem step_copy_all {P : Program} {ops : Array Oper} {o : Oper} {a : Act} {w : World} {K : Act → World → Prop} {Q : Exit → Act → World → Prop} {E : Prop} (hgd : o.guard = none) (d s : Operand) (dT sT : TypeId)
    (ho : o.op = .call { callee := .builtin .copy, args := #[d, s], argTypes := #[dT, sT] }) (elem : TypeId) (hu : P.underlying dT = some (.slice elem)) (hsz : (P.info? elem).map (·.size) = some 1)
    (g n R : Nat) (cur : Array Value) (t : TypeId) (cs : List Value) (hd : a.eval d = .slice (some ⟨g, 0, none⟩) n n) (hs : a.eval s = .slice (some ⟨R, 0, none⟩) n n)
    (hg : Blk w g t cur) (hcur : cur.size = n) (hR : Rd w 1 (some ⟨R, 0, none⟩) n cs) (h1 : ∀ v ∈ cs, v.oneCell' = true)
    (h : ∀ w', Blk w' g t cs.toArray → Chg (fun k => k = g) w w' → K (a.put o.dst (goInt cs.length)) w') :
    if Region.wanted o (yielded ops a.tmps) = true then Oper.wp P o a w K Q else E := by
  have hw : Region.wanted o (yielded ops a.tmps) = true := by simp [Region.wanted, hgd]
  rw [if_pos hw]
  have hlen : cs.length = n := by simpa using hR.1
  have hrun := run_copy_row (P := P) w dT sT o.type elem g 0 n n ⟨R, 0, none⟩ n n cur t cs hu hsz hg (by rw [hlen]; simp) (fun j v hj => by
    have hn : 0 < n := by have := (List.getElem?_eq_some_iff.1 hj).1; omega
    obtain ⟨b, o', e, _, hc⟩ := hR.2 hn
    injection e with e
    injection e with e1 e2 _
    subst e1 e2
    have := hc j v hj
    have ee : (⟨R, 0, none⟩ : Addr).add j = ⟨R, 0 + j, none⟩ := by unfold Addr.add; split <;> simp_all
    rw [ee]; exact this) (by omega) h1
  unfold Oper.wp
  simp [execOp, ho, resolve, invoke, builtin, hd, hs, hrun, Result.andThen]
  refine h _ ?_ ⟨rfl, rfl, rfl, by simp [World.setRow], fun k hk hn => setRow_other w g k _ (fun e => hn e)⟩
  have := setRow_heap w g cur (cs ++ List.drop cs.length cur.toList).toArray t (0, 0) hg
  have hd : List.drop cs.length cur.toList = [] := by apply List.drop_eq_nil_of_le; simp; omega
  rw [hd, List.append_nil] at this
  unfold Blk
  rw [← this]
  congr 2
  simp [hd]

theorem cnew_out (i : Int) (W : World) (h : i < 0 ∨ 4096 < i) : Calls Try.prog 7 #[.int .i64 i] W fun e W' => e = .returned (.pointer none) ∧ W' = W := by
  rcases h with h | h
  · go_enter Try.func7, Try.ntmps7
    go_wp2
    go_ret
    exact ⟨rfl, rfl⟩
  · have h0 : 0 ≤ i := by omega
    go_enter Try.func7, Try.ntmps7
    go_wp2
    go_ret
    exact ⟨rfl, rfl⟩

theorem cnew_in (n : Nat) (W : World) (hn : n ≤ 4096) : Calls Try.prog 7 #[.int .i64 n] W fun e W' => e = .returned (.pointer (some ⟨W.heap.size + 1, 0, none⟩)) ∧ Cels W' (W.heap.size + 1) W.heap.size (List.replicate n 0) 0 ∧ Below W.heap.size W W' := by
  have h0 : (0 : Int) ≤ (n : Int) := by omega
  have h1 : (n : Int) ≤ 4096 := by omega
  have hmk := run_make_row' (P := Try.prog) 48 2 (.int .i64 0) 8 Try.underlying48 int64_info rfl .i64 .i64 n (by omega) (by omega)
  go_enter Try.func7, Try.ntmps7
  go_wp2
  go_ret
  rw [made_ints]
  exact ⟨rfl, ⟨by simpa using Blk.new (W.alloc _) _ _, (Blk.new W _ _).alloc _⟩, ((Below.refl _ _).alloc (Nat.le_refl _) _).alloc (by simp) _⟩
theorem ccount (L R : Nat) (xs : List Int) (n : Int) (W : World) (hC : Cels W L R xs n) : Calls Try.prog 10 #[.pointer (some ⟨L, 0, none⟩)] W fun e W' => e = .returned (.int .i64 n) ∧ W' = W := by
  have hm := hC.many
  go_enter Try.func10, Try.ntmps10
  go_wp2
  go_ret
  exact ⟨rfl, rfl⟩
theorem clen (L R : Nat) (xs : List Int) (n : Int) (W : World) (hC : Cels W L R xs n) : Calls Try.prog 20 #[.pointer (some ⟨L, 0, none⟩)] W fun e W' => e = .returned (.int .i64 xs.length) ∧ W' = W := by
  have hm := hC.row
  go_enter Try.func20, Try.ntmps20
  go_wp2
  go_ret
  exact ⟨rfl, rfl⟩
set_option maxHeartbeats 2000000 in
theorem ccopy (L R : Nat) (xs : List Int) (n : Int) (W : World) (hC : Cels W L R xs n) (hl : xs.length ≤ 4096) : Calls Try.prog 12 #[.pointer (some ⟨L, 0, none⟩)] W fun e W' => e = .returned (.pointer (some ⟨W.heap.size + 1, 0, none⟩)) ∧ Cels W' (W.heap.size + 1) W.heap.size xs n ∧ Below W.heap.size W W' := by
  have hm := hC.row
  have hn := hC.many
  obtain ⟨hL, hR⟩ := hC.lt_
  have hmk := run_make_row' (P := Try.prog) 48 2 (.int .i64 0) 8 Try.underlying48 int64_info rfl .i64 .i64 xs.length (by omega) (by omega)
  go_enter Try.func12, Try.ntmps12
  go_wp2
  go_region
  go_wp2
  obtain ⟨W1, hW1⟩ : ∃ W1, W1 = ((W.alloc (.cells (madeCells #[.int .i64 0] xs.length) 2)).alloc (.cells #[.slice (some ⟨W.heap.size, 0, none⟩) xs.length xs.length, .int .i64 n] 50)).drew := ⟨_, rfl⟩
  have hC1 : Cels W1 L R xs n := by rw [hW1]; exact ((hC.alloc _).alloc _).drew
  have hB1 : Blk W1 W.heap.size 2 (madeCells #[.int .i64 0] xs.length) := by rw [hW1]; exact ((Blk.new _ _ _).alloc _).drew
  have hS1 : Blk W1 (W.heap.size + 1) 50 #[.slice (some ⟨W.heap.size, 0, none⟩) xs.length xs.length, .int .i64 n] := by rw [hW1]; simpa using (Blk.new (W.alloc _) _ _).drew
  have hb1 : Below W.heap.size W W1 := by rw [hW1]; exact (((Below.refl _ _).alloc (Nat.le_refl _) _).alloc (by simp) _).drew
  rw [← hW1]
  clear hW1 hm hn hmk
  have m1 := hC1.row
  have m2 : W1.cell? ⟨W.heap.size + 1, 0, none⟩ = some (.slice (some ⟨W.heap.size, 0, none⟩) xs.length xs.length) := by rw [hS1.cell 0]; rfl
  have hR1 : Rd W1.drew 1 (some ⟨R, 0, none⟩) xs.length (ints xs) := ⟨by simp, fun _ => ⟨R, 0, rfl, hC1.lt_.2, fun j u hu => by
    show W1.cell? _ = _
    rw [hC1.2.cell]; simpa using hu⟩⟩
  have HC := Lib.hid hC1
  have HB := Lib.hid hB1
  have HS := Lib.hid hS1
  clear hC1 hB1 hS1 hC
  go_region_law (refine step_copy_all rfl (.tmp 21) (.tmp 25) 48 48 rfl 2 Try.underlying48 (by kernel_rfl) W.heap.size xs.length R _ _ (ints xs) rfl rfl HB.out.drew (size_madeCells _ _) hR1 (ints_one xs) ?_; intro w2 hB2 hc2)
  all_goals go_wp2
  all_goals go_ret
  all_goals refine ⟨rfl, ⟨HS.out.drew.kept hc2 (by simp), hB2⟩, (hb1.drew.trans (hc2.below (by simpa using hb1.size) (by rintro k hk rfl; exact Nat.le_refl _)))⟩
end Go.Proofs.Ytiabmkhkmhjkpaa
