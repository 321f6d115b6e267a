/- A new table; what it tells. -/
import Derived.Test.YtemnipdmclohmaaPsA
namespace Go.Proofs.Ytemnipdmclohmaa
open Go.ChangeShapes Go.WideShapes Go.ChangeAt Go.RowKit Go.Deep
set_option linter.unusedVariables false

theorem proc_info : (Try.prog.info? 48).map (fun i => (i.zero, i.size, i.bytes)) = some (some (.agg #[.int .i64 0, .int .i64 0]), 2, 16) := by kernel_rfl
theorem ref_info : (Try.prog.info? 29).map (fun i => (i.zero, i.size, i.bytes)) = some (some (.agg #[.int .i64 0, .int .i64 0]), 2, 16) := by kernel_rfl
theorem Rd.lit2 (w : World) (a b : Int) (E : TypeId) (n : Nat) (hn : n = w.heap.size) : Rd (w.alloc (.cells #[.int .i64 a, .int .i64 b] E)) 2 (some ⟨n, 0, none⟩) 1 (pv [(a, b)]) := by
  subst hn
  refine ⟨by simp, fun _ => ⟨w.heap.size, 0, rfl, by simp, fun j u hu => ?_⟩⟩
  have hB := Blk.new w E #[.int .i64 a, .int .i64 b]
  rw [Nat.zero_add, hB.cell]
  simpa [pv] using hu
theorem wpList_app2 {ops : Array Oper} {rest : List Oper} {o : Oper} {a : Act} {V : World} {Q : Exit → Act → World → Prop} (hgd : o.guard = none) (s x : Operand) (t E : TypeId)
    (ht : Try.prog.underlying t = some (.slice E)) (hinfo : (Try.prog.info? E).map (fun i => (i.zero, i.size, i.bytes)) = some (some (.agg #[.int .i64 0, .int .i64 0]), 2, 16))
    (ho : o.op = .call { callee := .builtin .append, args := #[s, x], argTypes := #[t, t] })
    (base : Nat) (A : Option Addr) (n c : Nat) (ps : List (Int × Int)) (hs : a.eval s = .slice A n c) (hown : Row V base E 2 A n c (pv ps))
    (D : Option Addr) (m d : Nat) (qs : List (Int × Int)) (hx : a.eval x = .slice D m d) (hr : Rd V 2 D m (pv qs))
    (h63 : n + m ≤ 1048576) (hbase : base ≤ V.heap.size)
    (h : ∀ A' c' w', Row w' base E 2 A' (n + m) c' (pv (ps ++ qs)) → V.grownBy w' (blk A) → (blk A' = blk A ∨ blk A' = some V.heap.size) → wpList Try.prog ops Q rest (a.put o.dst (.slice A' (n + m) c')) w') : wpList Try.prog ops Q (o :: rest) a V := by
  obtain ⟨i0, hi, hz0, hz1, hz2⟩ := info_parts hinfo
  refine wpList_append_rows V hgd s x t ho base E i0 _ 2 16 ht hi hz0 hz1 hz2 rfl (by decide) A n c (pv ps) hs hown D m d (pv qs) hx hr (pv_one qs) h63 (by decide) hbase ?_
  intro A' c' w' h1 h2 h3
  exact h A' c' w' (by rw [pv_append]; exact h1) h2 h3
theorem Tb.open_ {w : World} {base T : Nat} {A : Option Addr} {ps : List (Int × Int)} (h : Tb w base T A ps) : ∃ c, w.cell? ⟨T, 0, none⟩ = some (.slice A ps.length c) ∧ w.frozen? ⟨T, 0, none⟩ = false ∧ Row w base 48 2 A ps.length c (pv ps) ∧ T < w.heap.size := by
  obtain ⟨_, c, hB, hR, _⟩ := h
  exact ⟨c, by rw [hB.cell]; rfl, hB.frozen 0, hR, hB.lt⟩
theorem Tb.app_ {w w2 : World} {base T c2 : Nat} {A A2 : Option Addr} {ps : List (Int × Int)} {q : Int × Int} {o : Obj} (h : Tb w base T A ps) (h1 : Row w2 base 48 2 A2 (ps.length + 1) c2 (pv (ps ++ [q]))) (h2 : (w.alloc o).grownBy w2 (blk A))
    (h3 : blk A2 = blk A ∨ blk A2 = some (w.alloc o).heap.size) (hl : ps.length + 1 ≤ 256) :
    (∃ c, w2.cell? ⟨T, 0, none⟩ = some (.slice A ps.length c)) ∧ w2.frozen? ⟨T, 0, none⟩ = false ∧ TA w (w2.setCell ⟨T, 0, none⟩ (.slice A2 (ps.length + 1) c2)) base T A (ps ++ [q]) := by
  obtain ⟨hb, c, hB, hR, _⟩ := h
  have hne := hR.blk_ne hB (by decide)
  have hB2 := (hB.alloc o).grown h2 (fun e => hne e.symm)
  have hbA : blk A2 ≠ some T := by
    rcases h3 with e | e <;> rw [e]
    · exact hne
    · have := hB.lt
      simp; omega
  refine ⟨⟨c, by rw [hB2.cell]; rfl⟩, hB2.frozen 0, A2, ⟨hb, c2, ?_, ?_, by simp; omega⟩, ?_, fun g hg => ?_⟩
  · have := hB2.set_ 0 (.slice A2 (ps.length + 1) c2)
    simpa using this
  · rw [List.length_append]
    exact h1.setCell (by simpa using hbA) _
  · exact (((Chg.refl (fun x => x = T ∨ blk A = some x) w).alloc o).grown h2 (fun k hk => .inl (.inr hk))).setCell (p := ⟨T, 0, none⟩) (.inl (.inl rfl)) _
  · rcases h3 with e | e <;> rw [e] at hg
    · exact .inl hg
    · right
      simp at hg; omega
theorem Tb.born (W : World) : Tb (W.alloc (.cells #[.slice none 0 0] 46)) W.heap.size W.heap.size none [] :=
  ⟨Nat.le_refl _, 0, by simpa using Blk.new W _ _, Row.nil _ _ _ _, by simp⟩
theorem TA.below {w W W' : World} {base T B : Nat} {A : Option Addr} {ps ps0 : List (Int × Int)} (h0 : Tb W base T A ps0) (hb : Below B w W) (hB : B ≤ base) (h : TA W W' base T A ps) : Below B w W' := by
  obtain ⟨A', _, h2, _⟩ := h
  obtain ⟨hbT, c, hBl, hR, _⟩ := h0
  refine hb.trans (h2.below (by have := hBl.lt; omega) ?_)
  rintro k _ (rfl | hk)
  · omega
  · have := (hR.blk_lt k hk).1
    omega

set_option maxHeartbeats 2000000 in
theorem tnew_in (n : Nat) (W : World) (h0 : 1 ≤ n) (h1 : n ≤ 256) : Calls Try.prog 8 #[.int .i64 n] W fun e W' => ∃ A, e = .returned (.pointer (some ⟨W.heap.size, 0, none⟩)) ∧ Tb W' W.heap.size W.heap.size A (List.replicate n (0, -1)) ∧ Below W.heap.size W W' := by
  have i0 : (1 : Int) ≤ n := by omega
  have i1 : (n : Int) ≤ 256 := by omega
  go_enter Try.func8, Try.ntmps8
  go_wp2
  go_loopw [13] (fun i wr => ∃ (k : Nat) (A : Option Addr), k ≤ n ∧ i = .int .i64 k ∧ Hid (Tb wr W.heap.size W.heap.size A (List.replicate k (0, -1))) ∧ Hid (Below W.heap.size W wr)) (fun i _ => n - (intOf i).toNat)
  case atStart => exact ⟨0, none, Nat.zero_le _, rfl, Tb.born W, (Below.refl _ _).alloc (Nat.le_refl _) _⟩
  case round =>
    obtain ⟨k, A, hk, rfl, HT, HW⟩ := hrel
    obtain ⟨c, t0, t1, t2, t3⟩ := HT.out.open_
    have HR := Lib.hid t2
    clear t2
    rw [List.length_replicate] at t0
    have k0 : (0 : Int) ≤ (k : Int) := by omega
    by_cases hlt : k < n
    · have k1 : (k : Int) < (n : Int) := by omega
      go_wp2_with (at_builtin; refine wpList_app2 rfl (.tmp 19) (.tmp 21) 44 48 Try.underlying44 proc_info rfl W.heap.size A k c (List.replicate k (0, -1)) rfl ?c0 (some ⟨wr.heap.size, 0, none⟩) 1 1 [(0, -1)] rfl (Rd.lit2 _ _ _ _ _ rfl) ?c1 ?c2 ?_; (case c0 => (have := HR.out.alloc (.cells #[.int .i64 0, .int .i64 (-1)] 48); rw [List.length_replicate] at this; exact this)); (case c1 => omega); (case c2 => have := HW.out.size; simp; omega); intro A2 c2 w2 h1 h2 h3; obtain ⟨⟨c4, u0⟩, u1, hTA⟩ := Tb.app_ HT.out (by rw [List.length_replicate]; exact h1) h2 h3 (by rw [List.length_replicate]; omega))
      rw [List.length_replicate, ← List.replicate_succ'] at hTA
      obtain ⟨A3, hT3, hC3, hg3⟩ := hTA
      refine ⟨⟨k + 1, A3, by omega, by go_num, hT3, TA.below HT.out HW.out (Nat.le_refl _) ⟨A3, hT3, hC3, hg3⟩⟩, by simp [intOf]; omega⟩
    · have hkn : k = n := by omega
      subst hkn
      go_wp2
      go_ret
      exact ⟨A, rfl, HT.out, HW.out⟩
theorem tnew_out (n : Int) (W : World) (h : n < 1 ∨ 256 < n) : Calls Try.prog 8 #[.int .i64 n] W fun e W' => e = .returned (.pointer none) ∧ W' = W := by
  go_enter Try.func8, Try.ntmps8
  rcases h with h | h
  · go_wp2
    go_ret
    exact ⟨rfl, rfl⟩
  · by_cases h' : n < 1
    · go_wp2
      go_ret
      exact ⟨rfl, rfl⟩
    · go_wp2
      go_ret
      exact ⟨rfl, rfl⟩
section
variable (base T : Nat) (A : Option Addr) (ps : List (Int × Int)) (W : World) (hT : Tb W base T A ps)
include hT
theorem get_at (k : Nat) (hk : k < ps.length) : Calls Try.prog 13 #[.pointer (some ⟨T, 0, none⟩), .int .i64 k] W fun e W' => e = .returned (.int .i64 ps[k].1) ∧ W' = W := by
  obtain ⟨g, c, rfl, hgT, hgl, t0, t1, t2, f1, f2⟩ := hT.at_ hk
  have hl := hT.len
  generalize ps[k].1 = a at t1 ⊢
  have k0 : (0 : Int) ≤ (k : Int) := by omega
  have k1 : (k : Int) < (ps.length : Int) := by omega
  go_enter Try.func13, Try.ntmps13
  go_wp2_with (go_at_call 26; go_in)
  go_ret
  exact ⟨rfl, rfl⟩
theorem who_at (k : Nat) (hk : k < ps.length) : Calls Try.prog 12 #[.pointer (some ⟨T, 0, none⟩), .int .i64 k] W fun e W' => e = .returned (.int .i64 ps[k].2) ∧ W' = W := by
  obtain ⟨g, c, rfl, hgT, hgl, t0, t1, t2, f1, f2⟩ := hT.at_ hk
  have hl := hT.len
  generalize ps[k].2 = a at t2 ⊢
  have k0 : (0 : Int) ≤ (k : Int) := by omega
  have k1 : (k : Int) < (ps.length : Int) := by omega
  go_enter Try.func12, Try.ntmps12
  go_wp2_with (go_at_call 26; go_in)
  go_ret
  exact ⟨rfl, rfl⟩
theorem get_out (i : Int) (hi : i < 0 ∨ (ps.length : Int) ≤ i) : Calls Try.prog 13 #[.pointer (some ⟨T, 0, none⟩), .int .i64 i] W fun e W' => e = .returned (.int .i64 4) ∧ W' = W := by
  obtain ⟨c, t0⟩ := hT.row
  have hl := hT.len
  go_enter Try.func13, Try.ntmps13
  by_cases h0 : i < 0
  · go_wp2_with (go_at_call 26; go_in)
    go_ret
    exact ⟨rfl, rfl⟩
  · have h1 : 0 ≤ i := by omega
    have h2 : decide (i < (ps.length : Int)) = false := by simp; omega
    go_wp2_with (go_at_call 26; go_in)
    go_ret
    exact ⟨rfl, rfl⟩
theorem who_out (i : Int) (hi : i < 0 ∨ (ps.length : Int) ≤ i) : Calls Try.prog 12 #[.pointer (some ⟨T, 0, none⟩), .int .i64 i] W fun e W' => e = .returned (.int .i64 (-1)) ∧ W' = W := by
  obtain ⟨c, t0⟩ := hT.row
  have hl := hT.len
  go_enter Try.func12, Try.ntmps12
  by_cases h0 : i < 0
  · go_wp2_with (go_at_call 26; go_in)
    go_ret
    exact ⟨rfl, rfl⟩
  · have h1 : 0 ≤ i := by omega
    have h2 : decide (i < (ps.length : Int)) = false := by simp; omega
    go_wp2_with (go_at_call 26; go_in)
    go_ret
    exact ⟨rfl, rfl⟩
end
def cnt (ps : List (Int × Int)) (s : Int) : Nat := (ps.filter fun q => q.1 == s).length
theorem cnt_le (ps : List (Int × Int)) (s : Int) : cnt ps s ≤ ps.length := List.length_filter_le _ _
theorem cnt_take (ps : List (Int × Int)) (s : Int) (k : Nat) (hk : k < ps.length) : cnt (ps.take (k + 1)) s = cnt (ps.take k) s + if ps[k].1 = s then 1 else 0 := by
  rw [List.take_succ_eq_append_getElem hk]
  unfold cnt
  rw [List.filter_append, List.length_append]
  by_cases h : ps[k].1 = s <;> simp [h]
set_option maxHeartbeats 2000000 in
theorem count_at (base T : Nat) (A : Option Addr) (ps : List (Int × Int)) (st : Int) (W : World) (hT : Tb W base T A ps) : Calls Try.prog 15 #[.pointer (some ⟨T, 0, none⟩), .int .i64 st] W fun e W' => e = .returned (.int .i64 (cnt ps st)) ∧ Chg (fun _ => False) W W' := by
  obtain ⟨c, t0⟩ := hT.row
  have hl := hT.len
  go_enter Try.func15, Try.ntmps15
  go_wp2
  go_loopw [5, 7, 15] (fun n _ i wr => ∃ k : Nat, k ≤ ps.length ∧ i = .int .i64 k ∧ n = .int .i64 (cnt (ps.take k) st) ∧ Hid (Chg (fun _ => False) W wr)) (fun _ _ i _ => ps.length - (intOf i).toNat)
  case atStart => exact ⟨0, Nat.zero_le _, rfl, rfl, Chg.refl _ _⟩
  case round =>
    obtain ⟨k, hk, rfl, rfl, HC⟩ := hrel
    have k0 : (0 : Int) ≤ (k : Int) := by omega
    have hcl := cnt_le (ps.take k) st
    rw [List.length_take] at hcl
    have hst := cnt_take ps st k
    obtain ⟨m, hm⟩ : ∃ m, cnt (ps.take k) st = m := ⟨_, rfl⟩
    rw [hm] at hst hcl ⊢
    have m0 : (0 : Int) ≤ (m : Int) := by omega
    have m1 : (m : Int) ≤ 256 := by omega
    by_cases hlt : k < ps.length
    · replace hst := hst hlt
      have k1 : (k : Int) < (ps.length : Int) := by omega
      obtain ⟨g, c', e, hgT, hgl, u0, u1, u2, f1, f2⟩ := (hT.same HC.out).at_ hlt
      subst e
      generalize ps[k].1 = a at u1 hst
      generalize ps[k].2 = b at u2
      by_cases hs : a = st
      · subst hs
        rw [if_pos rfl] at hst
        go_wp2
        exact ⟨⟨k + 1, by omega, by go_num, congrArg (Value.int .i64) (by omega), (HC.out.alloc _)⟩, by simp [intOf]; omega⟩
      · rw [if_neg hs] at hst
        go_wp2
        exact ⟨⟨k + 1, by omega, by go_num, congrArg (Value.int .i64) (by omega), (HC.out.alloc _)⟩, by simp [intOf]; omega⟩
    · have : k = ps.length := by omega
      subst this
      rw [List.take_length] at hm
      go_wp2
      go_ret
      rw [hm]
      exact ⟨rfl, HC.out⟩
end Go.Proofs.Ytemnipdmclohmaa
