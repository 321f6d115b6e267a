/- The events of a goroutine; lists that are the same; what was told. -/
import Derived.Test.YtnepgbhbbbcecaaDoorEvA
import Derived.Test.YtnepgbhbbbcecaaDoorRapp64
namespace Go.Proofs.YtnepgbhbbbcecaaDoor
open Go.ChangeShapes Go.WideShapes Go.ChangeAt Go.RowKit Go.Deep
set_option linter.unusedVariables false
set_option linter.unusedSimpArgs false

theorem event_info : (Tryd.prog.info? 28).map (fun i => (i.zero, i.size, i.bytes)) = some (some (.agg #[.int .i64 0, .int .i64 0, .int .i64 0, .int .i64 0, .int .i64 0]), 5, 40) := by kernel_rfl
theorem event_cells : (Value.agg #[.int .i64 0, .int .i64 0, .int .i64 0, .int .i64 0, .int .i64 0]).cells.size = 5 := by kernel_rfl
theorem wpList_apV {ops : Array Oper} {rest : List Oper} {o : Oper} {a : Act} {V : World} {Q : Exit → Act → World → Prop} (hgd : o.guard = none) (s x : Operand)
    (ho : o.op = .call { callee := .builtin .append, args := #[s, x], argTypes := #[22, 22] }) (hE : o.type = 22)
    (base : Nat) (A : Option Addr) (n c : Nat) (xs : List (List Int)) (hs : a.eval s = .slice A n c) (hown : Row V base 28 5 A n c (kv xs))
    (D : Option Addr) (m d : Nat) (ys : List (List Int)) (hx : a.eval x = .slice D m d) (hr : Rd V 5 D m (kv ys))
    (h63 : n + m ≤ 1048576) (hbase : base ≤ V.heap.size)
    (h : ∀ A' c' w', Row w' base 28 5 A' (n + m) c' (kv (xs ++ ys)) → V.grownBy w' (blk A) → (blk A' = blk A ∨ blk A' = some V.heap.size) → wpList Tryd.prog ops Q rest (a.put o.dst (.slice A' (n + m) c')) w') : wpList Tryd.prog ops Q (o :: rest) a V :=
  wpList_appk (P := Tryd.prog) 22 28 5 40 (.agg #[.int .i64 0, .int .i64 0, .int .i64 0, .int .i64 0, .int .i64 0]) Tryd.underlying22 event_info event_cells (by decide) (by decide) hgd s x ho hE base A n c xs hs hown D m d ys hx hr h63 hbase h

/-- Those whose part j is g. -/
def mine (g : Int) (es : List (List Int)) : List (List Int) := es.filter fun e => e.getD 1 0 == g
theorem mine_uni {g : Int} {es : List (List Int)} (h : Uni 5 es) : Uni 5 (mine g es) := fun e he => h e (List.mem_filter.1 he).1
theorem mine_len (g : Int) (es : List (List Int)) : (mine g es).length ≤ es.length := List.length_filter_le _ _
theorem mine_yes {g : Int} {es : List (List Int)} {k : Nat} (hk : k < es.length) (h : (es[k]).getD 1 0 = g) : mine g (es.take (k + 1)) = mine g (es.take k) ++ [es[k]] := by
  have hb : ((es[k]).getD 1 0 == g) = true := beq_iff_eq.2 h
  rw [mine, List.take_succ_eq_append_getElem hk, List.filter_append]
  simp only [List.filter_cons, List.filter_nil, hb, if_true]
  rfl
theorem mine_no {g : Int} {es : List (List Int)} {k : Nat} (hk : k < es.length) (h : (es[k]).getD 1 0 ≠ g) : mine g (es.take (k + 1)) = mine g (es.take k) := by
  have hb : ((es[k]).getD 1 0 == g) = false := beq_eq_false_iff_ne.2 h
  rw [mine, List.take_succ_eq_append_getElem hk, List.filter_append]
  simp only [List.filter_cons, List.filter_nil, hb, Bool.false_eq_true, if_false, List.append_nil]
  rfl
theorem five {e : List Int} (h : e.length = 5) : e = [e.getD 0 0, e.getD 1 0, e.getD 2 0, e.getD 3 0, e.getD 4 0] := by
  match e, h with
  | [a, b, c, d, f], _ => rfl

def OfR (W : World) (g : Int) (es : List (List Int)) (n : Nat) (lv iv : Value) (wr : World) : Prop :=
  ∃ (k : Nat) (A : Option Addr) (c : Nat), k ≤ n ∧ iv = .int .i64 k ∧ lv = .slice A (mine g (es.take k)).length c ∧ Row wr W.heap.size 28 5 A (mine g (es.take k)).length c (kv (mine g (es.take k))) ∧ Chg (fun _ => False) W wr
set_option maxRecDepth 100000 in
set_option maxHeartbeats 4000000 in
theorem of_any (D : Option Addr) (n cap : Nat) (g : Int) (es : List (List Int)) (W : World) (hu : Uni 5 es) (hD : Rd W 5 D n (kv es)) (hn : n ≤ 1000) :
    Calls Tryd.prog 21 #[.slice D n cap, .int .i64 g] W fun e W' => ∃ A c, e = .returned (.slice A (mine g es).length c) ∧ Row W' W.heap.size 28 5 A (mine g es).length c (kv (mine g es)) ∧ Chg (fun _ => False) W W' := by
  have hlen := hD.lenk hu (by decide)
  have HD := Lib.hid hD
  have HU := Lib.hid hu
  have HLN := Lib.hid hlen
  clear hD hu
  go_enter Tryd.func21, Tryd.ntmps21
  go_wp2_with fail
  go_loopw [5, 10] (fun lv iv wr => OfR W g es n lv iv wr) (fun _ iv _ => n - (intOf iv).toNat)
  case atStart => exact ⟨0, none, 0, Nat.zero_le _, rfl, by rw [show mine g (es.take 0) = [] from by simp [mine]]; rfl, by rw [show mine g (es.take 0) = [] from by simp [mine]]; exact Row.nil _ _ _ _, Chg.refl _ _⟩
  case round =>
    obtain ⟨k, A, c, hk, rfl, rfl, hr, hc⟩ := hrel
    have k0 : (0 : Int) ≤ k := by omega
    by_cases hlt : k < n
    · have k1 : (k : Int) < n := by omega
      have hke : k < es.length := by omega
      obtain ⟨_, b, o, rfl, hb, hcc⟩ := (HD.out.kept hc (fun _ _ h => h)).getk HU.out (by decide) (by omega)
      have c0 := hcc k hke 0 (by decide)
      have c1 := hcc k hke 1 (by decide)
      have c2 := hcc k hke 2 (by decide)
      have c3 := hcc k hke 3 (by decide)
      have c4 := hcc k hke 4 (by decide)
      simp only [Nat.add_zero] at c0
      rw [← Nat.add_assoc] at c1 c2 c3 c4
      have h5 := five (HU.out _ (List.getElem_mem hke))
      have HY := Lib.hid (fun (h : (es[k]).getD 1 0 = g) => mine_yes hke h)
      have HN := Lib.hid (fun (h : (es[k]).getD 1 0 ≠ g) => mine_no hke h)
      have hol := mine_len g (es.take k)
      rw [List.length_take] at hol
      have hol2 : (mine g (es.take k)).length ≤ k := by omega
      generalize (es[k]).getD 0 0 = x0 at *
      generalize (es[k]).getD 1 0 = x1 at *
      generalize (es[k]).getD 2 0 = x2 at *
      generalize (es[k]).getD 3 0 = x3 at *
      generalize (es[k]).getD 4 0 = x4 at *
      generalize es[k] = ek at *
      subst h5
      have HR := Lib.hid hr
      have HC := Lib.hid hc
      have hsz := hc.size
      clear hr hc hcc hol HD HU
      by_cases hg : x1 = g
      · subst hg
        have HE := Lib.hid (HY.out rfl)
        clear HY HN
        generalize mine x1 (es.take k) = l at *
        go_wp2_with (at_builtin; refine wpList_apV rfl (.tmp 18) (.tmp 20) rfl rfl W.heap.size A l.length c l rfl ((HR.out.alloc _).alloc _) _ 1 1 [[x0, x1, x2, x3, x4]] rfl (Rd.litk _ [x0, x1, x2, x3, x4] _ _ rfl 5 rfl _ (by simp)) ?_ ?_ ?_; (next => omega); (next => simp; omega); intro A3 c3 w3 r1 r2 r3; have HX := Lib.hid r1; have HZ : Hid (Chg (fun _ => False) W w3) := Lib.hid (((HC.out.alloc _).alloc _).grown r2 (fun g hg => .inr ((HR.out.blk_lt g hg).1))); clear r1 r2 r3)
        go_roundw
        case rel => exact ⟨k + 1, A3, c3, by omega, by go_num, by rw [HE.out]; simp, by rw [HE.out]; simpa using HX.out, HZ.out⟩
        case measure => simp [intOf]; omega
      · have hgd : (x1 == g) = false := beq_eq_false_iff_ne.2 hg
        have HE := Lib.hid (HN.out hg)
        clear HY HN
        go_wp2
        go_roundw
        case rel => exact ⟨k + 1, A, c, by omega, by go_num, by rw [HE.out], by rw [HE.out]; exact HR.out.alloc _, HC.out.alloc _⟩
        case measure => simp [intOf]; omega
    · obtain rfl : k = n := by omega
      have ht : es.take k = es := List.take_of_length_le (by omega)
      rw [ht] at hr
      have HR := Lib.hid hr
      have HC := Lib.hid hc
      have HT := Lib.hid ht
      clear hr hc
      rw [HT.out]
      go_wp2
      go_ret
      exact ⟨A, c, rfl, HR.out, HC.out⟩
set_option maxHeartbeats 2000000 in
theorem esame_yes (A D : Option Addr) (n m c d : Nat) (xs : List (List Int)) (W : World) (hu : Uni 5 xs) (hA : Rd W 5 A n (kv xs)) (hD : Rd W 5 D m (kv xs)) (hm : n ≤ 1048576) :
    Calls Tryd.prog 15 #[.slice A n c, .slice D m d] W fun e W' => e = .returned (.bool true) ∧ ∃ q, W' = W.drewN q := by
  have hn1 := hA.lenk hu (by decide)
  have hn2 := hD.lenk hu (by decide)
  obtain rfl : n = m := by omega
  go_enter Tryd.func15, Tryd.ntmps15
  go_wp2
  go_loopw [5] (fun i wr => (∃ k : Nat, k ≤ n ∧ i = .int .i64 k) ∧ ∃ q, wr = W.drewN q) (fun i _ => n - (intOf i).toNat)
  case atStart => exact ⟨⟨0, Nat.zero_le _, rfl⟩, 0, rfl⟩
  case round =>
    obtain ⟨⟨k, hk, rfl⟩, q, rfl⟩ := hrel
    by_cases hlt : k < n
    · have hke : k < xs.length := by omega
      obtain ⟨_, b, o, rfl, hb, hc⟩ := hA.getk hu (by decide) (by omega)
      obtain ⟨_, b', o', rfl, hb', hc'⟩ := hD.getk hu (by decide) (by omega)
      have c0 := hc k hke 0 (by decide)
      have c1 := hc k hke 1 (by decide)
      have c2 := hc k hke 2 (by decide)
      have c3 := hc k hke 3 (by decide)
      have c4 := hc k hke 4 (by decide)
      have d0 := hc' k hke 0 (by decide)
      have d1 := hc' k hke 1 (by decide)
      have d2 := hc' k hke 2 (by decide)
      have d3 := hc' k hke 3 (by decide)
      have d4 := hc' k hke 4 (by decide)
      simp only [Nat.add_zero] at c0 d0
      rw [← Nat.add_assoc] at c1 c2 c3 c4 d1 d2 d3 d4
      generalize (xs[k]).getD 0 0 = x0 at *
      generalize (xs[k]).getD 1 0 = x1 at *
      generalize (xs[k]).getD 2 0 = x2 at *
      generalize (xs[k]).getD 3 0 = x3 at *
      generalize (xs[k]).getD 4 0 = x4 at *
      have hi0 : (0 : Int) ≤ (k : Int) := by omega
      have hi1 : (k : Int) < (n : Int) := by omega
      clear hA hD hc hc'
      go_wp2
      go_quiet (fail)
      go_wp2
      go_roundw
      case rel => exact ⟨⟨k + 1, by omega, by go_num⟩, _, rfl⟩
      case measure => simp [intOf]; omega
    · go_wp2
      go_ret
      exact ⟨rfl, q, rfl⟩
set_option maxHeartbeats 1000000 in
theorem numbers_yes (A D : Option Addr) (n m c d : Nat) (xs : List Int) (W : World) (hA : Rd W 1 A n (ints xs)) (hD : Rd W 1 D m (ints xs)) (hm : n ≤ 1048576) :
    Calls Tryd.prog 22 #[.slice A n c, .slice D m d] W fun e W' => e = .returned (.bool true) ∧ ∃ k, W' = W.drewN k := by
  have hn1 := hA.len
  have hn2 := hD.len
  obtain rfl : n = m := by omega
  go_enter Tryd.func22, Tryd.ntmps22
  go_wp2
  go_loopw [5] (fun i wr => (∃ k : Nat, k ≤ n ∧ i = .int .i64 k) ∧ ∃ q, wr = W.drewN q) (fun i _ => n - (intOf i).toNat)
  case atStart => exact ⟨⟨0, Nat.zero_le _, rfl⟩, 0, rfl⟩
  case round =>
    obtain ⟨⟨k, hk, rfl⟩, q, rfl⟩ := hrel
    by_cases hlt : k < n
    · obtain ⟨b, o, rfl, hb, hc⟩ := hA.at_ (by omega)
      obtain ⟨b', o', rfl, hb', hc'⟩ := hD.at_ (by omega)
      have e0 := hc k (by omega)
      have e1 := hc' k (by omega)
      generalize xs[k]'(by omega) = z at e0 e1
      have hi0 : (0 : Int) ≤ (k : Int) := by omega
      have hi1 : (k : Int) < (n : Int) := by omega
      clear hA hD hc hc'
      go_wp2
      go_quiet (fail)
      go_wp2
      go_roundw
      case rel => exact ⟨⟨k + 1, by omega, by go_num⟩, _, rfl⟩
      case measure => simp [intOf]; omega
    · go_wp2
      go_ret
      exact ⟨rfl, q, rfl⟩
end Go.Proofs.YtnepgbhbbbcecaaDoor
