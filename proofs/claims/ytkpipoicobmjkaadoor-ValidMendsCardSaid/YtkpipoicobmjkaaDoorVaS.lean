/- What is safe in a mended function; a clone of its code; rows of functions. -/
import Derived.Test.YtkpipoicobmjkaaDoorVaQ
import Derived.Deep.OwnRows
import Derived.Laws.CopyOwn
namespace Go.Proofs.YtkpipoicobmjkaaDoor
open Go.ChangeShapes Go.WideShapes Go.ChangeAt Go.RowKit Go.Deep
set_option linter.unusedVariables false
set_option linter.unusedSimpArgs false

def mstep (code : List (List Int)) (l : List Bool) (j : Nat) : List Bool := if wtI (ipart code j 0) = true then (l.set j true).set (j + 1) true else l
def mendL (code : List (List Int)) (l : List Bool) : Nat → List Bool
  | 0 => l
  | j + 1 => mstep code (mendL code l j) j
def safe0 (safe : List Bool) (n : Nat) : List Bool := (List.range n).map fun i => safe.getD i false
def mendS (code : List (List Int)) (safe : List Bool) (n : Nat) : List Bool := (List.range n).map fun i => safe.getD i false || (decide (0 < i) && wtI (ipart code (i - 1) 0)) || wtI (ipart code i 0)
theorem mstep_len (code : List (List Int)) (l : List Bool) (j : Nat) : (mstep code l j).length = l.length := by unfold mstep; split <;> simp
theorem mendL_len (code : List (List Int)) (l : List Bool) : ∀ j, (mendL code l j).length = l.length
  | 0 => rfl
  | j + 1 => by rw [mendL, mstep_len, mendL_len code l j]
theorem safe0_len (safe : List Bool) (n : Nat) : (safe0 safe n).length = n := by simp [safe0]
theorem mendS_len (code : List (List Int)) (safe : List Bool) (n : Nat) : (mendS code safe n).length = n := by simp [mendS]
theorem getD_set' (l : List Bool) (i j : Nat) (b : Bool) (hi : i < l.length) : (l.set j b).getD i false = if i = j then b else l.getD i false := by
  simp only [List.getD_eq_getElem?_getD, List.getElem?_set]
  by_cases h : j = i
  · subst h; simp [hi]
  · rw [if_neg h, if_neg (fun e => h e.symm)]
theorem mendL_at (code : List (List Int)) (safe : List Bool) (n : Nat) : ∀ j i, i < n → (mendL code (safe0 safe n) j).getD i false = (safe.getD i false || (decide (0 < i ∧ i - 1 < j) && wtI (ipart code (i - 1) 0)) || (decide (i < j) && wtI (ipart code i 0)))
  | 0, i, hi => by simp [mendL, safe0, hi]
  | j + 1, i, hi => by
    have ih := mendL_at code safe n j i hi
    have hl : i < (mendL code (safe0 safe n) j).length := by rw [mendL_len, safe0_len]; exact hi
    rw [mendL, mstep]
    by_cases hw : wtI (ipart code j 0) = true
    · rw [if_pos hw, getD_set' _ _ _ _ (by simpa using hl), getD_set' _ _ _ _ hl, ih]
      by_cases h1 : i = j + 1
      · subst h1; simp [hw]
      · rw [if_neg h1]
        by_cases h2 : i = j
        · subst h2; simp [hw]
        · rw [if_neg h2]
          have e1 : decide (0 < i ∧ i - 1 < j) = decide (0 < i ∧ i - 1 < j + 1) := by rw [decide_eq_decide]; omega
          have e2 : decide (i < j) = decide (i < j + 1) := by rw [decide_eq_decide]; omega
          rw [e1, e2]
    · rw [if_neg hw, ih]
      have hw' : wtI (ipart code j 0) = false := by simpa using hw
      by_cases h2 : i = j
      · subst h2
        have e1 : decide (0 < i ∧ i - 1 < i) = decide (0 < i ∧ i - 1 < i + 1) := by rw [decide_eq_decide]; omega
        rw [e1, hw']; simp
      · by_cases h1 : i = j + 1
        · subst h1; simp [hw']; intro h; omega
        · have e1 : decide (0 < i ∧ i - 1 < j) = decide (0 < i ∧ i - 1 < j + 1) := by rw [decide_eq_decide]; omega
          have e2 : decide (i < j) = decide (i < j + 1) := by rw [decide_eq_decide]; omega
          rw [e1, e2]
theorem mendL_all (code : List (List Int)) (safe : List Bool) (n : Nat) : mendL code (safe0 safe n) n = mendS code safe n := by
  apply List.ext_getElem (by rw [mendL_len, safe0_len, mendS_len])
  intro i h1 h2
  rw [mendS_len] at h2
  have h := mendL_at code safe n n i h2
  rw [List.getD_eq_getElem?_getD, List.getElem?_eq_getElem h1] at h
  simp only [Option.getD_some] at h
  rw [h]
  simp only [mendS, List.getElem_map, List.getElem_range]
  have e2 : decide (i < n) = true := decide_eq_true h2
  have e1 : decide (0 < i ∧ i - 1 < n) = decide (0 < i) := by rw [decide_eq_decide]; omega
  rw [e1, e2]; simp
theorem bls_set (l : List Bool) (j : Nat) (b : Bool) : (bls l).toArray.setIfInBounds j (.bool b) = (bls (l.set j b)).toArray := by simp [bls, List.map_set]
theorem splice_safe (safe : List Bool) (n : Nat) : splice (List.replicate n (Value.bool false)) 0 ((bls safe).take n) = bls (safe0 safe n) := by
  apply List.ext_getElem?
  intro i
  unfold splice
  simp only [List.take_zero, List.nil_append, Nat.zero_add]
  by_cases hi : i < n
  · have hr : (bls (safe0 safe n))[i]? = some (.bool (safe.getD i false)) := by simp [bls, safe0, hi]
    rw [hr]
    by_cases hs : i < safe.length
    · rw [List.getElem?_append_left (by simp; omega), List.getElem?_take, if_pos hi, bls_get safe i hs, List.getD_eq_getElem?_getD, List.getElem?_eq_getElem hs]; rfl
    · rw [List.getElem?_append_right (by simp; omega)]
      have hd : safe.getD i false = false := by rw [List.getD_eq_getElem?_getD, List.getElem?_eq_none (by omega)]; rfl
      rw [hd, List.getElem?_drop]
      have hl : ((bls safe).take n).length = safe.length := by simp; omega
      rw [hl, List.getElem?_replicate, if_pos (by omega)]
  · rw [List.getElem?_eq_none (by simp; omega), List.getElem?_eq_none (by simp [safe0]; omega)]
theorem Blk.rdb {w : World} {S n : Nat} {t : TypeId} {l : List Bool} (h : Blk w S t (bls l).toArray) (hl : l.length = n) : Rd w 1 (some ⟨S, 0, none⟩) n (bls l) := by
  refine ⟨by simpa using hl, fun _ => ⟨S, 0, rfl, h.lt, fun j u hu => ?_⟩⟩
  rw [Nat.zero_add, h.cell]; simpa using hu
theorem boolT_info : (Tryd.prog.info? 4).map (fun i => (i.zero, i.size, i.bytes)) = some (some (.bool false), 1, 1) := by kernel_rfl
theorem boolT_size : (Tryd.prog.info? 4).map (·.size) = some 1 := by kernel_rfl
theorem make_bls (n : Nat) (hn : n ≤ 1000000) (W : World) : (Instr.makeSlice 31 (.int .i64 (n : Int)) (.int .i64 (n : Int))).run Tryd.prog W = .ok (.slice (some ⟨W.heap.size, 0, none⟩) n n) (W.alloc (.cells (List.replicate n (Value.bool false)).toArray 4)) := by
  have h := run_make_row' (P := Tryd.prog) 31 4 (.bool false) 1 Tryd.underlying31 boolT_info rfl .i64 .i64 n (by omega) (by omega) W
  have e : madeCells #[.bool false] n = (List.replicate n (Value.bool false)).toArray := by
    apply Array.ext'
    rw [toList_madeCells_one]
  rw [e] at h
  exact h
theorem func_info : (Tryd.prog.info? 33).map (fun i => (i.zero, i.size, i.bytes)) = some (some (.agg #[.slice none 0 0, .slice none 0 0]), 2, 48) := by kernel_rfl
def zfuncs (n : Nat) : Array Value := madeCells (Value.agg #[.slice none 0 0, .slice none 0 0]).cells (n * 2)
theorem zfuncs_size (n : Nat) : (zfuncs n).size = n * 2 := by simp [zfuncs, madeCells]
theorem make_funcs (n : Nat) (hn : n ≤ 1000000) (W : World) : (Instr.makeSlice 22 (.int .i64 (n : Int)) (.int .i64 (n : Int))).run Tryd.prog W = .ok (.slice (some ⟨W.heap.size, 0, none⟩) n n) (W.alloc (.cells (zfuncs n) 33)) := by
  obtain ⟨i, hi, hzz⟩ := Option.map_eq_some_iff.1 func_info
  simp only [Prod.mk.injEq] at hzz
  obtain ⟨hz, hs, hb⟩ := hzz
  have h := run_make (P := Tryd.prog) W 22 33 i _ Tryd.underlying22 hi hz .i64 .i64 (n : Int) (n : Int) (by omega) (Int.le_refl _) (by rw [hb]; omega) (by omega)
  rw [hs] at h
  simpa [zfuncs] using h
theorem instr_info : (Tryd.prog.info? 43).map (fun i => (i.zero, i.size, i.bytes)) = some (some (.agg #[.int .i64 0, .int .i64 0, .int .i64 0, .int .i64 0, .int .i64 0]), 5, 40) := by kernel_rfl
theorem instr_cells : (Value.agg #[.int .i64 0, .int .i64 0, .int .i64 0, .int .i64 0, .int .i64 0]).cells.size = 5 := by kernel_rfl
theorem wpList_apI {ops : Array Oper} {rest : List Oper} {o : Oper} {a : Act} {V : World} {Q : Exit → Act → World → Prop} (hgd : o.guard = none) (s x : Operand)
    (ho : o.op = .call { callee := .builtin .append, args := #[s, x], argTypes := #[30, 30] }) (hE : o.type = 30)
    (base : Nat) (A : Option Addr) (n c : Nat) (xs : List (List Int)) (hs : a.eval s = .slice A n c) (hown : Row V base 43 5 A n c (kv xs))
    (D : Option Addr) (m d : Nat) (ys : List (List Int)) (hx : a.eval x = .slice D m d) (hr : Rd V 5 D m (kv ys))
    (h63 : n + m ≤ 1048576) (hbase : base ≤ V.heap.size)
    (h : ∀ A' c' w', Row w' base 43 5 A' (n + m) c' (kv (xs ++ ys)) → V.grownBy w' (blk A) → (blk A' = blk A ∨ blk A' = some V.heap.size) → wpList Tryd.prog ops Q rest (a.put o.dst (.slice A' (n + m) c')) w') : wpList Tryd.prog ops Q (o :: rest) a V :=
  wpList_appk (P := Tryd.prog) 30 43 5 40 (.agg #[.int .i64 0, .int .i64 0, .int .i64 0, .int .i64 0, .int .i64 0]) Tryd.underlying30 instr_info instr_cells (by decide) (by decide) hgd s x ho hE base A n c xs hs hown D m d ys hx hr h63 hbase h
set_option maxHeartbeats 1000000 in
theorem clone_i (A : Option Addr) (n c : Nat) (es : List (List Int)) (W : World) (hu : Uni 5 es) (hA : Rd W 5 A n (kv es)) (hm : n ≤ 100000) :
    Calls Tryd.prog 24 #[.slice A n c] W fun e W' => ∃ A' c', e = .returned (.slice A' n c') ∧ Row W' W.heap.size 43 5 A' n c' (kv es) ∧ Chg (fun _ => False) W W' := by
  have hn1 := hA.lenk hu (by decide)
  rcases A with _ | ad
  · obtain rfl : n = 0 := by
      rcases Nat.eq_zero_or_pos n with h | h
      · exact h
      · obtain ⟨_, _, e, _⟩ := hA.2 h
        cases e
    obtain rfl : es = [] := List.eq_nil_of_length_eq_zero (by omega)
    have heq := fun (W : World) => Lib.run_eql_slice_nil (P := Tryd.prog) W 30 43 none 0 c 0 0 Tryd.underlying30
    go_enter Tryd.func24, Tryd.ntmps24
    go_wp2
    go_ret
    exact ⟨none, 0, rfl, Row.nil _ _ _ _, Chg.refl _ _⟩
  · have heq := fun (W : World) => Lib.run_eql_slice_nil (P := Tryd.prog) W 30 43 (some ad) n c 0 0 Tryd.underlying30
    go_enter Tryd.func24, Tryd.ntmps24
    have hrow0 : Row (W.alloc (.cells #[] 43)) W.heap.size 43 5 (some ⟨W.heap.size, 0, none⟩) 0 0 (kv []) := ⟨rfl, Nat.le_refl _, Nat.zero_le _, .inr ⟨W.heap.size, #[], rfl, Nat.le_refl _, heap_alloc_new W _, by simp, rfl⟩⟩
    go_wp2_with (at_builtin; refine wpList_apI rfl (.tmp 5) (.tmp 6) rfl rfl W.heap.size _ 0 0 [] rfl hrow0 (some ad) n c es rfl (hA.alloc _) ?c1 ?c2 ?_; (case c1 => omega); (case c2 => simp); intro A2 c2 w2 h1 h2 h3)
    go_ret
    refine ⟨A2, c2, rfl, by simpa using h1, Chg.grown ((Chg.refl _ _).alloc _) h2 (fun g hg => .inr ?_)⟩
    simp [blk] at hg; omega
/-- Functions that have been mended so far: the row of them is block G. -/
structure ME (w0 w : World) (G m k : Nat) (cv : Array Value) (Ac : Nat → Option Addr) (cc : Nat → Nat) (As : Nat → Option Addr) (cs : Nat → Nat) (nc : Nat → Nat) (code : Nat → List (List Int)) (safe : Nat → List Bool) : Prop where
  g : Blk w G 33 cv
  sz : cv.size = m * 2
  at_ : ∀ i, i < k → cv[i * 2]? = some (.slice (Ac i) (nc i) (cc i)) ∧ cv[i * 2 + 1]? = some (.slice (As i) (nc i) (cs i))
  fm : ∀ i, i < k → FM w (Ac i) (nc i) (As i) (nc i) (code i) (mendS (code i) (safe i) (nc i)) ∧ (∀ g, blk (Ac i) = some g → w0.heap.size ≤ g) ∧ (∀ g, blk (As i) = some g → w0.heap.size ≤ g)
  gl : G < w0.heap.size
  chg : Chg (fun g => g = G) w0 w
def upd {α : Type} (f : Nat → α) (k : Nat) (v : α) : Nat → α := fun i => if i = k then v else f i
theorem upd_eq {α : Type} (f : Nat → α) (k : Nat) (v : α) : upd f k v k = v := by simp [upd]
theorem upd_ne {α : Type} (f : Nat → α) {k i : Nat} (v : α) (h : i ≠ k) : upd f k v i = f i := by simp [upd, h]
theorem FM.kept {S : Nat → Prop} {W W' : World} {Ac As : Option Addr} {nc ns : Nat} {code : List (List Int)} {safe : List Bool} (h : FM W Ac nc As ns code safe) (hc : Chg S W W') (h1 : ∀ g, blk Ac = some g → ¬ S g) (h2 : ∀ g, blk As = some g → ¬ S g) : FM W' Ac nc As ns code safe :=
  ⟨h.c.kept hc h1, h.u, h.s.kept hc h2⟩
theorem ME.next {w0 w V : World} {G m k c1 c2 : Nat} {cv : Array Value} {Ac As : Nat → Option Addr} {cc cs nc : Nat → Nat} {code : Nat → List (List Int)} {safe : Nat → List Bool} {A1 A2 : Option Addr} (h : ME w0 w G m k cv Ac cc As cs nc code safe) (hk : k < m) (hG : w0.heap.size ≤ w.heap.size)
    (hc : Chg (fun _ => False) w V) (hF : FM V A1 (nc k) A2 (nc k) (code k) (mendS (code k) (safe k) (nc k))) (h1 : ∀ g, blk A1 = some g → w.heap.size ≤ g) (h2 : ∀ g, blk A2 = some g → w.heap.size ≤ g) :
    ME w0 ((V.setCell ⟨G, k * 2, none⟩ (.slice A1 (nc k) c1)).setCell ⟨G, k * 2 + 1, none⟩ (.slice A2 (nc k) c2)) G m (k + 1) ((cv.setIfInBounds (k * 2) (.slice A1 (nc k) c1)).setIfInBounds (k * 2 + 1) (.slice A2 (nc k) c2)) (upd Ac k A1) (upd cc k c1) (upd As k A2) (upd cs k c2) nc code safe := by
  have hgl := h.g.lt
  have hgV := h.g.kept hc (fun h => h)
  have hch : Chg (fun g => g = G) V ((V.setCell ⟨G, k * 2, none⟩ (.slice A1 (nc k) c1)).setCell ⟨G, k * 2 + 1, none⟩ (.slice A2 (nc k) c2)) := Chg.setCell (S := fun g => g = G) (Chg.setCell (S := fun g => g = G) (Chg.refl _ _) (p := ⟨G, k * 2, none⟩) (.inl rfl) _) (p := ⟨G, k * 2 + 1, none⟩) (.inl rfl) _
  refine ⟨(hgV.set_ _ _).set_ _ _, by simp [h.sz], fun i hi => ?_, fun i hi => ?_, h.gl, (h.chg.trans (hc.mono (fun _ _ h => h.elim)) (fun _ _ h => h)).trans hch (fun _ _ h => h)⟩
  · by_cases e : i = k
    · subst e
      rw [upd_eq, upd_eq, upd_eq, upd_eq]
      have hs := h.sz
      refine ⟨?_, ?_⟩
      · rw [Array.getElem?_setIfInBounds, if_neg (by omega), Array.getElem?_setIfInBounds, if_pos rfl, if_pos (by omega)]
      · rw [Array.getElem?_setIfInBounds, if_pos rfl, if_pos (by simp; omega)]
    · rw [upd_ne _ _ e, upd_ne _ _ e, upd_ne _ _ e, upd_ne _ _ e]
      have := h.at_ i (by omega)
      refine ⟨?_, ?_⟩
      · rw [Array.getElem?_setIfInBounds, if_neg (by omega), Array.getElem?_setIfInBounds, if_neg (by omega)]; exact this.1
      · rw [Array.getElem?_setIfInBounds, if_neg (by omega), Array.getElem?_setIfInBounds, if_neg (by omega)]; exact this.2
  · by_cases e : i = k
    · subst e
      rw [upd_eq, upd_eq]
      have hg2 := h.gl
      exact ⟨hF.kept hch (fun g hg e => by have := h1 g hg; omega) (fun g hg e => by have := h2 g hg; omega), fun g hg => by have := h1 g hg; omega, fun g hg => by have := h2 g hg; omega⟩
    · rw [upd_ne _ _ e, upd_ne _ _ e]
      obtain ⟨f1, f2, f3⟩ := h.fm i (by omega)
      have hg2 := h.gl
      exact ⟨(f1.chg hc).kept hch (fun g hg e => by have := f2 g hg; omega) (fun g hg e => by have := f3 g hg; omega), f2, f3⟩
theorem ME.pm {w0 w X : World} {G m R : Nat} {cv : Array Value} {Ac As : Nat → Option Addr} {cc cs nc : Nat → Nat} {code : Nat → List (List Int)} {safe : Nat → List Bool} (h : ME w0 w G m m cv Ac cc As cs nc code safe) (hl : ∀ i, i < m → nc i ≤ 1000 ∧ nc i ≤ cc i ∧ nc i ≤ cs i) (hX : Chg (fun g => g = R) w X) (hR : R ≠ G) (hR2 : R < w0.heap.size) :
    PM X (some ⟨G, 0, none⟩) m Ac nc cc As nc cs code (fun i => mendS (code i) (safe i) (nc i)) := by
  have hg := h.g.kept hX (fun e => hR e.symm)
  refine ⟨fun h0 => ⟨G, 0, rfl, hg.lt, fun i hi => ?_⟩, fun i hi => (h.fm i hi).1.kept hX (fun g hg e => by have := (h.fm i hi).2.1 g hg; omega) (fun g hg e => by have := (h.fm i hi).2.2 g hg; omega), fun i hi => ?_⟩
  · obtain ⟨a1, a2⟩ := h.at_ i hi
    rw [Nat.zero_add, hg.cell, hg.cell]
    exact ⟨a1, a2⟩
  · obtain ⟨b1, b2, b3⟩ := hl i hi
    exact ⟨by unfold maxLen; omega, by unfold maxLen; omega, b2, b3⟩
end Go.Proofs.YtkpipoicobmjkaaDoor
