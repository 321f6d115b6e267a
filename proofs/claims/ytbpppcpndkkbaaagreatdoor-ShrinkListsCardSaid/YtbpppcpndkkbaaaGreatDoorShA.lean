/- Contracts: lists of entries; a clone; the reference's list without one. -/
import Derived.Test.YtbpppcpndkkbaaaGreatDoorRk
namespace Go.Proofs.YtbpppcpndkkbaaaGreatDoor
open Go.ChangeShapes Go.WideShapes Go.ChangeAt Go.RowKit Go.Deep
set_option linter.unusedVariables false

theorem entry_info : (Tryz.prog.info? 47).map (fun i => (i.zero, i.size, i.bytes)) = some (some (.agg #[.int .i64 0, .int .i64 0, .int .i64 0]), 3, 24) := by kernel_rfl
theorem entry_cells : (Value.agg #[.int .i64 0, .int .i64 0, .int .i64 0]).cells.size = 3 := by kernel_rfl
theorem wpList_apE {ops : Array Oper} {rest : List Oper} {o : Oper} {a : Act} {V : World} {Q : Exit → Act → World → Prop} (hgd : o.guard = none) (s x : Operand)
    (ho : o.op = .call { callee := .builtin .append, args := #[s, x], argTypes := #[22, 22] }) (hE : o.type = 22)
    (base : Nat) (A : Option Addr) (n c : Nat) (xs : List (List Int)) (hs : a.eval s = .slice A n c) (hown : Row V base 47 3 A n c (kv xs))
    (D : Option Addr) (m d : Nat) (ys : List (List Int)) (hx : a.eval x = .slice D m d) (hr : Rd V 3 D m (kv ys))
    (h63 : n + m ≤ 1048576) (hbase : base ≤ V.heap.size)
    (h : ∀ A' c' w', Row w' base 47 3 A' (n + m) c' (kv (xs ++ ys)) → V.grownBy w' (blk A) → (blk A' = blk A ∨ blk A' = some V.heap.size) → wpList Tryz.prog ops Q rest (a.put o.dst (.slice A' (n + m) c')) w') : wpList Tryz.prog ops Q (o :: rest) a V :=
  wpList_appk (P := Tryz.prog) 22 47 3 24 (.agg #[.int .i64 0, .int .i64 0, .int .i64 0]) Tryz.underlying22 entry_info entry_cells (by decide) (by decide) hgd s x ho hE base A n c xs hs hown D m d ys hx hr h63 hbase h
set_option maxHeartbeats 1000000 in
theorem clone_e (A : Option Addr) (n c : Nat) (es : List (List Int)) (W : World) (hu : Uni 3 es) (hA : Rd W 3 A n (kv es)) (hm : n ≤ 100000) :
    Calls Tryz.prog 21 #[.slice A n c] W fun e W' => ∃ A' c', e = .returned (.slice A' n c') ∧ Row W' W.heap.size 47 3 A' n c' (kv es) ∧ Chg (fun _ => False) W W' := by
  have hn1 := hA.lenk hu (by decide)
  rcases A with _ | ad
  · obtain rfl : n = 0 := by
      rcases Nat.eq_zero_or_pos n with h | h
      · exact h
      · obtain ⟨_, _, e, _⟩ := hA.2 h
        cases e
    obtain rfl : es = [] := List.eq_nil_of_length_eq_zero (by omega)
    have heq := fun (W : World) => Lib.run_eql_slice_nil (P := Tryz.prog) W 22 47 none 0 c 0 0 Tryz.underlying22
    go_enter Tryz.func21, Tryz.ntmps21
    go_wp2
    go_ret
    exact ⟨none, 0, rfl, Row.nil _ _ _ _, Chg.refl _ _⟩
  · have heq := fun (W : World) => Lib.run_eql_slice_nil (P := Tryz.prog) W 22 47 (some ad) n c 0 0 Tryz.underlying22
    go_enter Tryz.func21, Tryz.ntmps21
    have hrow0 : Row (W.alloc (.cells #[] 47)) W.heap.size 47 3 (some ⟨W.heap.size, 0, none⟩) 0 0 (kv []) := ⟨rfl, Nat.le_refl _, Nat.zero_le _, .inr ⟨W.heap.size, #[], rfl, Nat.le_refl _, heap_alloc_new W _, by simp, rfl⟩⟩
    go_wp2_with (at_builtin; refine wpList_apE rfl (.tmp 5) (.tmp 6) rfl rfl W.heap.size _ 0 0 [] rfl hrow0 (some ad) n c es rfl (hA.alloc _) ?c1 ?c2 ?_; (case c1 => omega); (case c2 => simp); intro A2 c2 w2 h1 h2 h3)
    go_ret
    refine ⟨A2, c2, rfl, by simpa using h1, Chg.grown ((Chg.refl _ _).alloc _) h2 (fun g hg => .inr ?_)⟩
    simp [blk] at hg; omega
/-- The list without the one at i. -/
def wo (i : Int) (l : List (List Int)) : List (List Int) := if 0 ≤ i ∧ i < l.length then l.eraseIdx i.toNat else l
theorem wo_nil (i : Int) : wo i [] = [] := by unfold wo; split <;> simp
theorem wo_uni {i : Int} {l : List (List Int)} (h : Uni 3 l) : Uni 3 (wo i l) := by
  unfold wo
  split
  · exact fun e he => h e (List.mem_of_mem_eraseIdx he)
  · exact h
theorem wo_len (i : Int) (l : List (List Int)) : (wo i l).length ≤ l.length := by
  unfold wo
  split
  · exact List.length_eraseIdx_le _ _
  · exact Nat.le_refl _
theorem wo_eq {i : Int} {es : List (List Int)} {k : Nat} (hk : k < es.length) (hi : i = k) : wo i (es.take (k + 1)) = wo i (es.take k) := by
  subst hi
  have e1 : (es.take (k + 1)).length = k + 1 := by simp; omega
  have e2 : (es.take k).length = k := by simp; omega
  rw [wo, wo, e1, e2, if_pos (by omega), if_neg (by omega), List.take_succ_eq_append_getElem hk, Int.toNat_natCast, List.eraseIdx_append_of_length_le (by omega), e2, Nat.sub_self]
  simp
theorem wo_ne {i : Int} {es : List (List Int)} {k : Nat} (hk : k < es.length) (hi : i ≠ k) : wo i (es.take (k + 1)) = wo i (es.take k) ++ [es[k]] := by
  have e1 : (es.take (k + 1)).length = k + 1 := by simp; omega
  have e2 : (es.take k).length = k := by simp; omega
  rw [wo, wo, e1, e2, List.take_succ_eq_append_getElem hk]
  by_cases h : 0 ≤ i ∧ i < k
  · rw [if_pos (by omega), if_pos h, List.eraseIdx_append_of_lt_length (by omega)]
  · rw [if_neg (by omega), if_neg h]
theorem three {e : List Int} (h : e.length = 3) : e = [e.getD 0 0, e.getD 1 0, e.getD 2 0] := by
  match e, h with
  | [a, b, c], _ => rfl
def RoundWo (W : World) (i : Int) (es : List (List Int)) (out iv : Value) (wr : World) : Prop :=
  ∃ (k : Nat) (A' : Option Addr) (n' c' : Nat), k ≤ es.length ∧ iv = .int .i64 k ∧ n' = (wo i (es.take k)).length ∧ out = .slice A' n' c' ∧ Row wr W.heap.size 47 3 A' n' c' (kv (wo i (es.take k))) ∧ Chg (fun _ => False) W wr
theorem RoundWo.skip {W wr : World} {i : Int} {es : List (List Int)} {k c' n' : Nat} {A' : Option Addr} (hk : k < es.length) (hi : i = k) (hn : n' = (wo i (es.take k)).length) (hr : Row wr W.heap.size 47 3 A' n' c' (kv (wo i (es.take k)))) (hc : Chg (fun _ => False) W wr) : RoundWo W i es (.slice A' n' c') (.int .i64 ((k : Int) + 1)) wr :=
  ⟨k + 1, A', n', c', by omega, by go_num, by rw [wo_eq hk hi]; exact hn, rfl, by rw [wo_eq hk hi]; exact hr, hc⟩
theorem RoundWo.put {W wr V w2 : World} {i : Int} {es : List (List Int)} {k c' c2 n' : Nat} {A' A2 : Option Addr} (hk : k < es.length) (hi : i ≠ k) (hn : n' = (wo i (es.take k)).length) (hr : Row wr W.heap.size 47 3 A' n' c' (kv (wo i (es.take k)))) (hv : Chg (fun _ => False) W V) (r1 : Row w2 W.heap.size 47 3 A2 (n' + 1) c2 (kv (wo i (es.take k) ++ [es[k]]))) (r2 : V.grownBy w2 (blk A')) : RoundWo W i es (.slice A2 (n' + 1) c2) (.int .i64 ((k : Int) + 1)) w2 :=
  ⟨k + 1, A2, n' + 1, c2, by omega, by go_num, by rw [wo_ne hk hi]; simp [hn], rfl, by rw [wo_ne hk hi]; exact r1, Chg.grown hv r2 (fun g hg => .inr (hr.blk_lt g hg).1)⟩
set_option maxHeartbeats 2000000 in
theorem refWithout_any (A : Option Addr) (n c : Nat) (es : List (List Int)) (i : Int) (W : World) (hu : Uni 3 es) (hA : Rd W 3 A n (kv es)) (hm : n ≤ 1000) :
    Calls Tryz.prog 10 #[.slice A n c, .int .i64 i] W fun e W' => ∃ A' c', e = .returned (.slice A' (wo i es).length c') ∧ Row W' W.heap.size 47 3 A' (wo i es).length c' (kv (wo i es)) ∧ Chg (fun _ => False) W W' := by
  have hl := hA.lenk hu (by decide)
  subst hl
  go_enter Tryz.func10, Tryz.ntmps10
  go_wp2
  go_loopw [5, 6] (fun out iv wr => RoundWo W i es out iv wr) (fun _ iv _ => es.length - (intOf iv).toNat)
  case atStart => exact ⟨0, none, 0, 0, Nat.zero_le _, rfl, by rw [List.take_zero, wo_nil]; rfl, rfl, by rw [List.take_zero, wo_nil]; exact Row.nil _ _ _ _, Chg.refl _ _⟩
  case round =>
    obtain ⟨k, A', n', c', hk, rfl, hn, rfl, hr, hc⟩ := hrel
    have k0 : (0 : Int) ≤ k := by omega
    by_cases hlt : k < es.length
    · have k1 : (k : Int) < es.length := by omega
      by_cases hi : (k : Int) = i
      · subst hi
        go_wp2
        go_roundw
        case rel => exact RoundWo.skip hlt rfl hn hr hc
        case measure => simp [intOf]; omega
      · obtain ⟨_, b, o, rfl, hb, hcc⟩ := (hA.kept hc (fun _ _ h => h)).getk hu (by decide) (by omega)
        have e0 := hcc k hlt 0 (by decide)
        have e1 := hcc k hlt 1 (by decide)
        have e2 := hcc k hlt 2 (by decide)
        simp only [Nat.add_zero] at e0
        rw [← Nat.add_assoc] at e1 e2
        have h3 := three (hu _ (List.getElem_mem hlt))
        have hn2 : n' ≤ 1000 := by have := wo_len i (es.take k); simp at this; omega
        have HH := Lib.hid (fun (V w2 : World) (A2 : Option Addr) (c2 : Nat) => RoundWo.put (W := W) (V := V) (w2 := w2) (A2 := A2) (c2 := c2) (c' := c') (A' := A') hlt (fun h => hi h.symm) hn hr)
        rw [h3] at HH
        generalize (es[k]).getD 0 0 = z0 at *
        generalize (es[k]).getD 1 0 = z1 at *
        generalize (es[k]).getD 2 0 = z2 at *
        have HR := Lib.hid hr
        have HC := Lib.hid hc
        have HS := Lib.hid hc.size
        clear hr hc hcc h3 hn
        go_wp2_with (at_builtin; refine wpList_apE rfl (.tmp 16) (.tmp 21) rfl rfl W.heap.size A' n' c' (wo i (es.take k)) rfl (HR.out.alloc _) _ 1 1 [[z0, z1, z2]] rfl (Rd.litk _ [z0, z1, z2] _ _ rfl 3 rfl _ rfl) ?_ ?_ ?_; (next => omega); (next => (have := HS.out; simp; omega)); intro A3 c3 w2 r1 r2 r3; have HX := Lib.hid (HH.out _ _ _ _ (HC.out.alloc _) r1 r2); clear r1 r2 r3)
        go_roundw
        case rel => exact HX.out
        case measure => simp [intOf]; omega
    · obtain rfl : k = es.length := by omega
      go_wp2
      go_ret
      rw [List.take_length] at hn hr
      subst hn
      exact ⟨A', c', rfl, hr, hc⟩
end Go.Proofs.YtbpppcpndkkbaaaGreatDoor
