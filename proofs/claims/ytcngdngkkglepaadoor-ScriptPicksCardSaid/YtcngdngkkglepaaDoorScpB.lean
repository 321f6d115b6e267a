/- The entries that pick one machine. -/
import Derived.Test.YtcngdngkkglepaaDoorScpA
namespace Go.Proofs.YtcngdngkkglepaaDoor
open Go.ChangeShapes Go.WideShapes Go.ChangeAt Go.RowKit Go.Deep
set_option linter.unusedVariables false
set_option linter.unusedSimpArgs false

set_option maxHeartbeats 1000000 in
theorem clone_e (A : Option Addr) (n c : Nat) (es : List (List Int)) (W : World) (hu : Uni 3 es) (hA : Rd W 3 A n (kv es)) (hm : n ≤ 100000) :
    Calls Tryd.prog 34 #[.slice A n c] W fun e W' => ∃ A' c', e = .returned (.slice A' n c') ∧ Row W' W.heap.size 31 3 A' n c' (kv es) ∧ Chg (fun _ => False) W W' := by
  have hn1 := hA.lenk hu (by decide)
  rcases A with _ | ad
  · obtain rfl : n = 0 := by
      rcases Nat.eq_zero_or_pos n with h | h
      · exact h
      · obtain ⟨_, _, e, _⟩ := hA.2 h
        cases e
    obtain rfl : es = [] := List.eq_nil_of_length_eq_zero (by omega)
    have heq := fun (W : World) => Lib.run_eql_slice_nil (P := Tryd.prog) W 22 31 none 0 c 0 0 Tryd.underlying22
    go_enter Tryd.func34, Tryd.ntmps34
    go_wp2
    go_ret
    exact ⟨none, 0, rfl, Row.nil _ _ _ _, Chg.refl _ _⟩
  · have heq := fun (W : World) => Lib.run_eql_slice_nil (P := Tryd.prog) W 22 31 (some ad) n c 0 0 Tryd.underlying22
    go_enter Tryd.func34, Tryd.ntmps34
    have hrow0 : Row (W.alloc (.cells #[] 31)) W.heap.size 31 3 (some ⟨W.heap.size, 0, none⟩) 0 0 (kv []) := ⟨rfl, Nat.le_refl _, Nat.zero_le _, .inr ⟨W.heap.size, #[], rfl, Nat.le_refl _, heap_alloc_new W _, by simp, rfl⟩⟩
    go_wp2_with (at_builtin; refine wpList_apE rfl (.tmp 5) (.tmp 6) rfl rfl W.heap.size _ 0 0 [] rfl hrow0 (some ad) n c es rfl (hA.alloc _) ?c1 ?c2 ?_; (case c1 => omega); (case c2 => simp); intro A2 c2 w2 h1 h2 h3)
    go_ret
    refine ⟨A2, c2, rfl, by simpa using h1, Chg.grown ((Chg.refl _ _).alloc _) h2 (fun g hg => .inr ?_)⟩
    simp [blk] at hg; omega

section
variable {w : World} {B n c g : Nat} {es : List (List Int)}
theorem Row.split (h : Row w B 31 3 (some ⟨g, 0, none⟩) n c (kv es)) : B ≤ g ∧ ∃ rest, Blk w g 31 (kv es ++ rest).toArray ∧ c * 3 ≤ (kv es ++ rest).length := by
  rcases h.2.2.2 with ⟨h0, _⟩ | ⟨g', cur, hg, hb, hB, hc, ht⟩
  · cases h0
  · have : g = g' := by simpa using hg
    subst this
    refine ⟨hb, cur.toList.drop (n * 3), ?_, ?_⟩
    · rw [← ht, List.take_append_drop]; simpa using hB
    · rw [← ht, List.take_append_drop]; simpa using hc
theorem Row.join {rest : List Value} (hB : Blk w g 31 (kv es ++ rest).toArray) (hl : (kv es).length = n * 3) (hn : n ≤ c) (hm : c ≤ maxLen) (hb : B ≤ g) (hc : c * 3 ≤ (kv es ++ rest).length) : Row w B 31 3 (some ⟨g, 0, none⟩) n c (kv es) :=
  ⟨hl, hn, hm, .inr ⟨g, _, rfl, hb, hB, by simpa using hc, by rw [← hl]; simp⟩⟩
theorem Row.set3 (h : Row w B 31 3 (some ⟨g, 0, none⟩) n c (kv es)) (hu : Uni 3 es) {i : Nat} (hi : i < es.length) (x y z : Int) :
    Row (((w.setCell ⟨g, i * 3, none⟩ (.int .i64 x)).setCell ⟨g, i * 3 + 1, none⟩ (.int .i64 y)).setCell ⟨g, i * 3 + 2, none⟩ (.int .i64 z)) B 31 3 (some ⟨g, 0, none⟩) n c (kv (es.set i [x, y, z])) := by
  obtain ⟨hb, rest, hB, hc⟩ := h.split
  have h1 := Blk.cells_ (ints [x, y, z]) (kv es ++ rest) (i * 3) w hB
  have hfit : i * 3 + 3 ≤ (kv es).length := by rw [kv_length hu]; omega
  rw [laid_all _ _ _ (by rw [ints_length, List.length_append, List.length_cons, List.length_cons, List.length_cons, List.length_nil]; omega)] at h1
  have e1 : (kv es ++ rest).take (i * 3) ++ ints [x, y, z] ++ (kv es ++ rest).drop (i * 3 + (ints [x, y, z]).length) = kv (es.set i [x, y, z]) ++ rest := by
    have hf := flat_set hu (show [x, y, z].length = 3 from rfl) i hi
    rw [ints_length, List.take_append_of_le_length (by omega), List.drop_append_of_le_length (by simp; omega), ← List.append_assoc]
    congr 1
    rw [kv, kv, ints_take, ints_drop, ← ints_append, ← ints_append, hf]
  rw [e1] at h1
  have hl : (kv (es.set i [x, y, z])).length = n * 3 := by rw [kv_length (hu.set rfl), List.length_set, ← kv_length hu]; exact h.1
  exact Row.join h1 hl h.2.1 h.2.2.1 hb (by rw [List.length_append, hl]; have := hc; rw [List.length_append, h.1] at this; exact this)
theorem kv_take (hu : Uni 3 es) (i : Nat) : (kv es).take (i * 3) = kv (es.take i) := by
  by_cases hi : i ≤ es.length
  · have h1 : Uni 3 (es.take i) := fun e he => hu e (List.mem_of_mem_take he)
    have h2 : kv es = kv (es.take i) ++ kv (es.drop i) := by rw [← kv_append, List.take_append_drop]
    have h3 : (kv (es.take i)).length = i * 3 := by rw [kv_length h1, List.length_take]; congr 1; omega
    rw [h2, ← h3, List.take_left]
  · rw [List.take_of_length_le (by rw [kv_length hu]; omega), List.take_of_length_le (by omega)]
theorem Row.cut3 (h : Row w B 31 3 (some ⟨g, 0, none⟩) n c (kv es)) (hu : Uni 3 es) {i : Nat} (hi : i ≤ n) (m : Nat) (hm : i * 3 + m ≤ n * 3) (z : Value) :
    Row (w.setCells g (i * 3) (List.replicate m z)) B 31 3 (some ⟨g, 0, none⟩) i c (kv (es.take i)) := by
  obtain ⟨hb, rest, hB, hc⟩ := h.split
  have hln := h.1
  have h1 := Blk.cells_ (List.replicate m z) (kv es ++ rest) (i * 3) w hB
  rw [laid_all _ _ _ (by rw [List.length_replicate, List.length_append]; omega)] at h1
  rw [List.take_append_of_le_length (by omega), kv_take hu, List.append_assoc] at h1
  have hl : (kv (es.take i)).length = i * 3 := by rw [← kv_take hu, List.length_take, hln]; omega
  refine Row.join h1 hl (Nat.le_trans hi h.2.1) h.2.2.1 hb ?_
  rw [List.length_append, List.length_append, hl]
  rw [List.length_append, hln] at hc
  simp
  omega
end
theorem zeroE (w : World) : (zeroValue 31).run Tryd.prog w = .ok (.agg #[.int .i64 0, .int .i64 0, .int .i64 0]) w := by kernel_rfl
theorem zcells (n : Nat) : (Builtin.zeroCells (Value.agg #[.int .i64 0, .int .i64 0, .int .i64 0]).cells n).toList = List.replicate (n * 3) (.int .i64 0) := by
  have hz : (Value.agg #[.int .i64 0, .int .i64 0, .int .i64 0]).cells = #[.int .i64 0, .int .i64 0, .int .i64 0] := by kernel_rfl
  rw [hz]
  apply List.ext_getElem
  · simp [Builtin.zeroCells]
  · intro i h1 h2
    have h3 : i % 3 < 3 := Nat.mod_lt _ (by decide)
    simp only [Builtin.zeroCells, Array.getElem_toList, Array.getElem_map, Array.getElem_range, List.getElem_replicate]
    show (#[Value.int .i64 0, .int .i64 0, .int .i64 0] : Array Value)[i % 3]! = _
    match i % 3, h3 with
    | 0, _ => rfl
    | 1, _ => rfl
    | 2, _ => rfl
theorem run_clear_e (w : World) (ty : TypeId) (g o n c : Nat) (hn : 0 < n) (hc : ∀ j, j < n * 3 → (w.cell? ⟨g, o + j, none⟩).isSome = true) (hf : ∀ j, j < n * 3 → w.frozen? ⟨g, o + j, none⟩ = false) :
    (Builtin.clear_ #[22] ty #[.slice (some ⟨g, o, none⟩) n c]).run Tryd.prog w = .ok (.tuple #[]) (w.setCells g o (List.replicate (n * 3) (.int .i64 0))) := by
  have hst := run_storeCells_cells (P := Tryd.prog) g o (List.replicate (n * 3) (.int .i64 0)) 0 w (by simpa using hc) (by simpa using hf) (by intro v hv'; rw [List.eq_of_mem_replicate hv']; rfl)
  simp only [Nat.add_zero] at hst
  have hzc := zcells n
  obtain ⟨m, rfl⟩ : ∃ m, n = m + 1 := ⟨n - 1, by omega⟩
  simp [Builtin.clear_, run_underlying Tryd.underlying22, zeroE, hzc, hst]

structure OB (w : World) (C1 C2 : Nat) (live pick : Int) : Prop where
  a : Blk w C1 3 #[.int .i64 live]
  b : Blk w C2 3 #[.int .i64 pick]
theorem OB.chg {w w' : World} {C1 C2 : Nat} {live pick : Int} (h : OB w C1 C2 live pick) (hc : Chg (fun _ => False) w w') : OB w' C1 C2 live pick := ⟨h.a.kept hc (fun h => h), h.b.kept hc (fun h => h)⟩
theorem three {e : List Int} (h : e.length = 3) : e = [e.getD 0 0, e.getD 1 0, e.getD 2 0] := by
  match e, h with
  | [a, b, c], _ => rfl
abbrev fnO (C1 C2 : Nat) : Value := .func (.func 32) #[] #[.pointer (some ⟨C1, 0, none⟩), .pointer (some ⟨C2, 0, none⟩)]
section
variable {C1 C2 : Nat} {live pick : Int}
theorem only1_e {w : World} (h : OB w C1 C2 live pick) (hn : live ≤ 9223372036854775807) {e : List Int} (he : e.length = 3) :
    Calls Tryd.prog 32 (#[.agg #[.int .i64 (e.getD 0 0), .int .i64 (e.getD 1 0), .int .i64 (e.getD 2 0)]] ++ #[.pointer (some ⟨C1, 0, none⟩), .pointer (some ⟨C2, 0, none⟩)]) w fun r W' => r = .returned (.bool (other live pick e)) ∧ Chg (fun _ => False) w W' := by
  have h1 := only1_any C1 C2 (e.getD 0 0) (e.getD 1 0) (e.getD 2 0) live pick w hn h.a h.b
  rwa [← three he] at h1
set_option maxRecDepth 100000 in
set_option maxHeartbeats 4000000 in
theorem idx_none (A : Option Addr) (n c : Nat) (es : List (List Int)) (W : World) (hu : Uni 3 es) (hA : Rd W 3 A n (kv es)) (hn : n ≤ 1000) (hO : OB W C1 C2 live pick) (hl : live ≤ 9223372036854775807) (h : ∀ (k : Nat) (hk : k < es.length), other live pick es[k] = false) :
    Calls Tryd.prog 44 #[.slice A n c, fnO C1 C2] W fun e W' => e = .returned (.int .i64 (-1)) ∧ Chg (fun _ => False) W W' := by
  have hlen := hA.lenk hu (by decide)
  have HA := Lib.hid (fun (V : World) (hc : Chg (fun _ => False) W V) => hA.kept hc (fun _ _ h => h))
  have HO := Lib.hid (fun (V : World) (hc : Chg (fun _ => False) W V) => hO.chg hc)
  have HU := Lib.hid hu
  have HH := Lib.hid h
  clear hA hO hu h
  go_enter Tryd.func44, Tryd.ntmps44
  go_wp2_with fail
  go_loopw [8] (fun iv wr => ∃ k : Nat, k ≤ n ∧ iv = .int .i64 k ∧ Hid (Chg (fun _ => False) W wr)) (fun iv _ => n - (intOf iv).toNat)
  case atStart => exact ⟨0, by omega, rfl, Lib.hid (Chg.refl _ _)⟩
  case round =>
    obtain ⟨k, hk, rfl, HC⟩ := hrel
    have k0 : (0 : Int) ≤ k := by omega
    by_cases hlt : k < n
    · have k1 : (k : Int) < n := by omega
      have hke : k < es.length := by omega
      obtain ⟨_, b, o, rfl, hb, hcc⟩ := (HA.out wr HC.out).getk HU.out (by decide) (by omega)
      have c0 := hcc k hke 0 (by decide)
      have c1 := hcc k hke 1 (by decide)
      have c2 := hcc k hke 2 (by decide)
      simp only [Nat.add_zero] at c0
      rw [← Nat.add_assoc] at c1 c2
      have HK := Lib.hid (only1_e (HO.out wr HC.out) hl (HU.out _ (List.getElem_mem hke)))
      rw [HH.out k hke] at HK
      generalize (es[k]).getD 0 0 = x0 at *
      generalize (es[k]).getD 1 0 = x1 at *
      generalize (es[k]).getD 2 0 = x2 at *
      clear hcc
      go_wp2_with (go_at_call 32; refine HK.out.mono ?_; rintro e w1 ⟨rfl, hc1⟩; have HC1 := Lib.hid (HC.out.trans hc1 (fun _ _ h => h)); clear hc1)
      go_roundw
      case rel => exact ⟨k + 1, by omega, by go_num, HC1⟩
      case measure => simp [intOf]; omega
    · go_wp2
      go_ret
      exact ⟨rfl, HC.out⟩
set_option maxRecDepth 100000 in
set_option maxHeartbeats 4000000 in
theorem idx_some (A : Option Addr) (n c : Nat) (es : List (List Int)) (W : World) (hu : Uni 3 es) (hA : Rd W 3 A n (kv es)) (hn : n ≤ 1000) (hO : OB W C1 C2 live pick) (hl : live ≤ 9223372036854775807) (m : Nat) (hm : m < es.length) (ht : other live pick es[m] = true) (h : ∀ (k : Nat) (hk : k < es.length), k < m → other live pick es[k] = false) :
    Calls Tryd.prog 44 #[.slice A n c, fnO C1 C2] W fun e W' => e = .returned (.int .i64 (m : Int)) ∧ Chg (fun _ => False) W W' := by
  have hlen := hA.lenk hu (by decide)
  have HA := Lib.hid (fun (V : World) (hc : Chg (fun _ => False) W V) => hA.kept hc (fun _ _ h => h))
  have HO := Lib.hid (fun (V : World) (hc : Chg (fun _ => False) W V) => hO.chg hc)
  have HU := Lib.hid hu
  have HH := Lib.hid h
  clear hA hO hu h
  have HT := Lib.hid ht
  clear ht
  go_enter Tryd.func44, Tryd.ntmps44
  go_wp2_with fail
  go_loopw [8] (fun iv wr => ∃ k : Nat, k ≤ m ∧ iv = .int .i64 k ∧ Hid (Chg (fun _ => False) W wr)) (fun iv _ => n - (intOf iv).toNat)
  case atStart => exact ⟨0, by omega, rfl, Lib.hid (Chg.refl _ _)⟩
  case round =>
    obtain ⟨k, hk, rfl, HC⟩ := hrel
    have k0 : (0 : Int) ≤ k := by omega
    by_cases hlt : k < m
    · have k1 : (k : Int) < n := by omega
      have hke : k < es.length := by omega
      obtain ⟨_, b, o, rfl, hb, hcc⟩ := (HA.out wr HC.out).getk HU.out (by decide) (by omega)
      have c0 := hcc k hke 0 (by decide)
      have c1 := hcc k hke 1 (by decide)
      have c2 := hcc k hke 2 (by decide)
      simp only [Nat.add_zero] at c0
      rw [← Nat.add_assoc] at c1 c2
      have HK := Lib.hid (only1_e (HO.out wr HC.out) hl (HU.out _ (List.getElem_mem hke)))
      rw [HH.out k hke hlt] at HK
      generalize (es[k]).getD 0 0 = x0 at *
      generalize (es[k]).getD 1 0 = x1 at *
      generalize (es[k]).getD 2 0 = x2 at *
      clear hcc
      go_wp2_with (go_at_call 32; refine HK.out.mono ?_; rintro e w1 ⟨rfl, hc1⟩; have HC1 := Lib.hid (HC.out.trans hc1 (fun _ _ h => h)); clear hc1)
      go_roundw
      case rel => exact ⟨k + 1, by omega, by go_num, HC1⟩
      case measure => simp [intOf]; omega
    · obtain rfl : k = m := by omega
      have k1 : (k : Int) < n := by omega
      have hke : k < es.length := by omega
      obtain ⟨_, b, o, rfl, hb, hcc⟩ := (HA.out wr HC.out).getk HU.out (by decide) (by omega)
      have c0 := hcc k hke 0 (by decide)
      have c1 := hcc k hke 1 (by decide)
      have c2 := hcc k hke 2 (by decide)
      simp only [Nat.add_zero] at c0
      rw [← Nat.add_assoc] at c1 c2
      have HK := Lib.hid (only1_e (HO.out wr HC.out) hl (HU.out _ (List.getElem_mem hke)))
      rw [HT.out] at HK
      generalize (es[k]).getD 0 0 = x0 at *
      generalize (es[k]).getD 1 0 = x1 at *
      generalize (es[k]).getD 2 0 = x2 at *
      clear hcc
      go_wp2_with (go_at_call 32; refine HK.out.mono ?_; rintro e w1 ⟨rfl, hc1⟩; have HC1 := Lib.hid (HC.out.trans hc1 (fun _ _ h => h)); clear hc1)
      go_ret
      exact ⟨rfl, HC1.out⟩
end
end Go.Proofs.YtcngdngkkglepaaDoor
