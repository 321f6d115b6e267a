/- Heads of any width; how many events of others stand between. -/
import Derived.Test.YthbifomlnipfhaaDoorRapp
import Derived.Test.YthbifomlnipfhaaDoorRsame
import Derived.Laws.IdiomStrings
import Derived.Laws.BytesArg
import Derived.Deep.OwnRows
import Derived.BigRegion
namespace Go.Proofs.YthbifomlnipfhaaDoor
open Go.ChangeShapes Go.WideShapes Go.ChangeAt Go.RowKit Go.Deep
set_option linter.unusedVariables false

def u8s (l : List UInt8) : List Value := l.map fun b => .int .u8 (b.toNat : Int)
@[simp] theorem u8s_length (l : List UInt8) : (u8s l).length = l.length := by simp [u8s]
theorem u8s_append (a b : List UInt8) : u8s (a ++ b) = u8s a ++ u8s b := by simp [u8s]
theorem u8s_one (l : List UInt8) : ∀ u ∈ u8s l, u.oneCell' = true := by
  intro u hu; simp only [u8s, List.mem_map] at hu; obtain ⟨z, _, rfl⟩ := hu; rfl
def hb (w i : Nat) : UInt8 := if i % w = 0 then 124 else 32
def hd (n w : Nat) : List UInt8 := (List.range n).map (hb w)
def hdS (n w : Nat) : ByteArray := ⟨(hd n w).toArray⟩
theorem hd_length (n w : Nat) : (hd n w).length = n := by simp [hd]
theorem hd_succ (n w : Nat) : hd (n + 1) w = hd n w ++ [hb w n] := by simp [hd, List.range_succ]
theorem u8_info : (Tryd.prog.info? 5).map (fun i => (i.zero, i.size, i.bytes)) = some (some (.int .u8 0), 1, 1) := by kernel_rfl
def fillH (n w k : Nat) : List UInt8 := hd k w ++ List.replicate (n - k) 0
theorem fillH_0 (n w : Nat) : madeCells #[.int .u8 0] n = (u8s (fillH n w 0)).toArray := by
  apply Array.ext'
  rw [toList_madeCells_one]
  simp [u8s, fillH, hd]
theorem fillH_length (n w k : Nat) (hk : k ≤ n) : (fillH n w k).length = n := by simp [fillH, hd_length]; omega
theorem fillH_set (n w k : Nat) (hk : k < n) (b : UInt8) : (fillH n w k).set k b = hd k w ++ b :: List.replicate (n - k - 1) 0 := by
  have : List.replicate (n - k) (0 : UInt8) = 0 :: List.replicate (n - k - 1) 0 := by
    obtain ⟨m, hm⟩ : ∃ m, n - k = m + 1 := ⟨n - k - 1, by omega⟩
    rw [hm]; rfl
  unfold fillH
  rw [this, List.set_append_right _ _ (by rw [hd_length]; omega)]
  simp [hd_length]
theorem fillH_step (n w k : Nat) (hk : k < n) : (fillH n w k).set k (hb w k) = fillH n w (k + 1) := by
  rw [fillH_set n w k hk]
  unfold fillH
  rw [hd_succ, show n - (k + 1) = n - k - 1 by omega]
  simp
theorem u8_cell {w : World} {b k : Nat} {t : TypeId} {l : List UInt8} (h : Blk w b t (u8s l).toArray) (hk : k < l.length) : w.cell? ⟨b, k, none⟩ = some (.int .u8 (l[k].toNat : Int)) := by
  rw [h.cell]; simp [u8s, hk]
theorem u8_conv {w : World} {b n c : Nat} {l : List UInt8} (hl : l.length = n) (hc : ∀ k (hk : k < l.length), w.cell? ⟨b, k, none⟩ = some (.int .u8 (l[k].toNat : Int))) :
    (convert 41 9 (.slice (some ⟨b, 0, none⟩) n c)).run Tryd.prog w = .ok (.string ⟨l.toArray⟩) w := by
  subst hl
  exact run_convert_bytes_back w 41 9 5 ⟨b, 0, none⟩ c l Tryd.underlying41 Tryd.underlying5 Tryd.underlying9 (fun j hj => by
    have e : (⟨b, 0, none⟩ : Addr).add j = ⟨b, j, none⟩ := by unfold Addr.add; split <;> simp_all
    rw [e]; exact hc j hj)

set_option maxHeartbeats 2000000 in
theorem head_in (n w : Nat) (hn : n ≤ 1000) (hw0 : 1 ≤ w) (hw1 : w ≤ 200) (W : World) : Calls Tryd.prog 6 #[.int .i64 n, .int .i64 w] W fun e W' => e = .returned (.string (hdS n w)) ∧ Below W.heap.size W W' := by
  have i0 : (0 : Int) ≤ n := by omega
  have i1 : (n : Int) ≤ 1000 := by omega
  have i2 : (1 : Int) ≤ w := by omega
  have i3 : (w : Int) ≤ 200 := by omega
  have hmk := run_make_row' (P := Tryd.prog) 41 5 (.int .u8 0) 1 Tryd.underlying41 u8_info rfl .i64 .i64 n (by omega) (by omega)
  go_enter Tryd.func6, Tryd.ntmps6
  go_wp2
  go_loopw [6, 25] (fun _ i wr => ∃ k : Nat, k ≤ n ∧ i = .int .i64 k ∧ Hid (Blk wr W.heap.size 5 (u8s (fillH n w k)).toArray) ∧ Hid (Below W.heap.size W wr)) (fun _ i _ => n - (intOf i).toNat)
  case atStart => exact ⟨0, Nat.zero_le _, rfl, by rw [← fillH_0]; exact Blk.new _ _ _, (Below.refl _ _).alloc (Nat.le_refl _) _⟩
  case round =>
    obtain ⟨k, hk, rfl, HB, HW⟩ := hrel
    clear hmk
    by_cases hlt : k < n
    · obtain ⟨z0, e0⟩ : ∃ z : Int, wr.cell? ⟨W.heap.size, k, none⟩ = some (.int .u8 z) := ⟨_, u8_cell (k := k) HB.out (by rw [fillH_length n w k hk]; exact hlt)⟩
      have f0 := HB.out.frozen k
      have k0 : (0 : Int) ≤ (k : Int) := by omega
      have k1 : (k : Int) < (n : Int) := by omega
      have hmod : ((k : Int) % (w : Int)) = ((k % w : Nat) : Int) := by omega
      have hB2 : ∀ b : UInt8, Blk (wr.setCell ⟨W.heap.size, k, none⟩ (.int .u8 (b.toNat : Int))) W.heap.size 5 (u8s ((fillH n w k).set k b)).toArray := fun b => by
        have := HB.out.set_ k (.int .u8 (b.toNat : Int))
        show Blk _ _ _ _
        simpa [u8s, List.map_set] using this
      have HB2 := Lib.hid hB2
      clear hB2
      by_cases hm : k % w = 0
      · have hz : ((k : Int) % (w : Int) == 0) = true := by rw [hmod, hm]; rfl
        clear hmod
        go_wp2
        refine ⟨⟨k + 1, by omega, by go_num, ?_, ((HW.out : Below _ _ _).setCell (Nat.le_refl _) _).setCell (Nat.le_refl _) _⟩, by simp [intOf]; omega⟩
        have h1 : Blk _ _ _ _ := (HB2.out 32).set_ k (.int .u8 124)
        rw [← fillH_step n w k hlt, show hb w k = 124 by simp [hb, hm]]
        show Blk _ _ _ _
        have e : ((u8s ((fillH n w k).set k 32)).toArray.setIfInBounds k (.int .u8 124)) = (u8s ((fillH n w k).set k 124)).toArray := by simp [u8s, List.map_set]
        rw [e] at h1
        exact h1
      · have hz : ((k : Int) % (w : Int) == 0) = false := by rw [hmod]; simp; omega
        clear hmod
        go_wp2
        refine ⟨⟨k + 1, by omega, by go_num, ?_, (HW.out : Below _ _ _).setCell (Nat.le_refl _) _⟩, by simp [intOf]; omega⟩
        rw [← fillH_step n w k hlt, show hb w k = 32 by simp [hb, hm]]
        exact HB2.out 32
    · obtain rfl : k = n := by omega
      have hc := u8_conv (b := W.heap.size) (c := k) (fillH_length k w k (Nat.le_refl _)) (fun i hi => u8_cell HB.out hi)
      have e : fillH k w k = hd k w := by simp [fillH]
      rw [e] at hc
      go_wp2
      go_ret
      exact ⟨rfl, HW.out⟩
theorem head_out (n w : Int) (h : n < 0 ∨ (0 ≤ n ∧ (1000 < n ∨ (n ≤ 1000 ∧ (w < 1 ∨ (1 ≤ w ∧ 200 < w)))))) (W : World) : Calls Tryd.prog 6 #[.int .i64 n, .int .i64 w] W fun e W' => e = .returned (.string ⟨#[]⟩) ∧ W = W' := by
  rcases h with h | ⟨h1, h | ⟨h2, h | ⟨h3, h⟩⟩⟩
  all_goals
    go_enter Tryd.func6, Tryd.ntmps6
    go_wp2
    go_ret
    exact ⟨rfl, rfl⟩
theorem rhead_out (n w : Int) (h : n < 0 ∨ (0 ≤ n ∧ (1000 < n ∨ (n ≤ 1000 ∧ (w < 1 ∨ (1 ≤ w ∧ 200 < w)))))) (W : World) : Calls Tryd.prog 7 #[.int .i64 n, .int .i64 w] W fun e W' => e = .returned (.string ⟨#[]⟩) ∧ W = W' := by
  rcases h with h | ⟨h1, h | ⟨h2, h | ⟨h3, h⟩⟩⟩
  all_goals
    go_enter Tryd.func7, Tryd.ntmps7
    go_wp2
    go_ret
    exact ⟨rfl, rfl⟩

/-- A row of bytes that the call owns. -/
def BRow (w : World) (base : Nat) (v : Value) (l : List UInt8) : Prop := ∃ A c, v = .slice A l.length c ∧ Row w base 5 1 A l.length c (u8s l)
theorem wpList_appb {ops : Array Oper} {rest : List Oper} {o : Oper} {a : Act} {V : World} {Q : Exit → Act → World → Prop} (hgd : o.guard = none) (s x : Operand)
    (ho : o.op = .call { callee := .builtin .append, args := #[s, x], argTypes := #[41, 41] })
    (base : Nat) (A : Option Addr) (n c : Nat) (xs : List UInt8) (hs : a.eval s = .slice A n c) (hown : Row V base 5 1 A n c (u8s xs))
    (D : Option Addr) (m d : Nat) (ys : List UInt8) (hx : a.eval x = .slice D m d) (hr : Rd V 1 D m (u8s ys))
    (h63 : n + m ≤ 1048576) (hbase : base ≤ V.heap.size)
    (h : ∀ A' c' w', Row w' base 5 1 A' (n + m) c' (u8s (xs ++ ys)) → V.grownBy w' (blk A) → (blk A' = blk A ∨ blk A' = some V.heap.size) → wpList Tryd.prog ops Q rest (a.put o.dst (.slice A' (n + m) c')) w') : wpList Tryd.prog ops Q (o :: rest) a V := by
  obtain ⟨i0, hi, hz0, hz1, hz2⟩ := info_parts u8_info
  refine wpList_append_rows V hgd s x 41 ho base 5 i0 (.int .u8 0) 1 1 Tryd.underlying41 hi hz0 hz1 hz2 rfl (by decide) A n c (u8s xs) hs hown D m d (u8s ys) hx hr (u8s_one ys) h63 (by decide) hbase ?_
  intro A' c' w' h1 h2 h3
  exact h A' c' w' (by rw [u8s_append]; exact h1) h2 h3
theorem Rd.lit8 (w : World) (z : UInt8) (E : TypeId) : Rd (w.alloc (.cells #[.int .u8 (z.toNat : Int)] E)) 1 (some ⟨w.heap.size, 0, none⟩) 1 (u8s [z]) := by
  refine ⟨by simp, fun _ => ⟨w.heap.size, 0, rfl, by simp, fun j u hu => ?_⟩⟩
  have hj : j = 0 := by
    have := (List.getElem?_eq_some_iff.1 hu).1
    simp at this; omega
  subst hj
  have : u = .int .u8 (z.toNat : Int) := by simpa [u8s] using hu.symm
  subst this
  simp [go_sem]
theorem Row.nilc {w : World} {base size n c : Nat} {E : TypeId} {xs : List Value} (h : Row w base E size none n c xs) : n = 0 ∧ c = 0 := by
  rcases h.2.2.2 with ⟨_, h1, h2⟩ | ⟨g, cur, h, _⟩
  · exact ⟨h1, h2⟩
  · cases h
theorem row_conv {w : World} {base n c : Nat} {A : Option Addr} {l : List UInt8} (h : Row w base 5 1 A n c (u8s l)) :
    (convert 41 9 (.slice A n c)).run Tryd.prog w = .ok (.string ⟨l.toArray⟩) w := by
  have hl : l.length = n := by simpa using h.1
  rcases A with _ | ad
  · obtain ⟨rfl, rfl⟩ := h.nilc
    obtain rfl : l = [] := List.eq_nil_of_length_eq_zero hl
    exact run_convert_bytes_nil w 41 5 Tryd.underlying41 Tryd.underlying5 0 0 9 Tryd.underlying9
  · rcases h.2.2.2 with ⟨h0, _⟩ | ⟨g, cur, he, hb, hg, hcs, ht⟩
    · cases h0
    · cases he
      refine u8_conv hl (fun k hk => ?_)
      rw [hg.cell k]
      have := congrArg (·[k]?) ht
      simp only [List.getElem?_take] at this
      rw [if_pos (by omega)] at this
      rw [← Array.getElem?_toList, this]
      simp [u8s, hk]
set_option maxHeartbeats 2000000 in
theorem rhead_in (n w : Nat) (hn : n ≤ 1000) (hw0 : 1 ≤ w) (hw1 : w ≤ 200) (W : World) : Calls Tryd.prog 7 #[.int .i64 n, .int .i64 w] W fun e W' => e = .returned (.string (hdS n w)) ∧ Below W.heap.size W W' := by
  have i0 : (0 : Int) ≤ n := by omega
  have i1 : (n : Int) ≤ 1000 := by omega
  have i2 : (1 : Int) ≤ w := by omega
  have i3 : (w : Int) ≤ 200 := by omega
  go_enter Tryd.func7, Tryd.ntmps7
  go_wp2
  go_loopw [5, 6, 7] (fun v i _ wr => ∃ (k : Nat) (A : Option Addr) (c : Nat), k ≤ n ∧ i = .int .i64 k ∧ v = .slice A k c ∧ Hid (Row wr W.heap.size 5 1 A k c (u8s (hd k w))) ∧ Hid (Below W.heap.size W wr)) (fun _ i _ _ => n - (intOf i).toNat)
  case atStart => exact ⟨0, none, 0, Nat.zero_le _, rfl, rfl, Row.nil _ _ _ _, Below.refl _ _⟩
  case round =>
    obtain ⟨k, A, c, hk, rfl, rfl, HB, HW⟩ := hrel
    by_cases hlt : k < n
    · have k0 : (0 : Int) ≤ (k : Int) := by omega
      have k1 : (k : Int) < (n : Int) := by omega
      have hmod : ((k : Int) % (w : Int)) = ((k % w : Nat) : Int) := by omega
      by_cases hm : k % w = 0
      · have hz : ((k : Int) % (w : Int) == 0) = true := by rw [hmod, hm]; rfl
        clear hmod
        go_wp2_with (at_builtin; refine wpList_appb rfl (.tmp 31) (.tmp 33) rfl W.heap.size A k c (hd k w) rfl (HB.out.alloc _) (some ⟨wr.heap.size, 0, none⟩) 1 1 [124] rfl (Rd.lit8 wr 124 5) ?c1 ?c2 ?_; (case c1 => omega); (case c2 => have := HW.out.size; simp; omega); intro A2 c2 w2 h1 h2 h3)
        refine ⟨⟨k + 1, A2, c2, by omega, by go_num, rfl, ?_, ?_⟩, by simp [intOf]; omega⟩
        · rw [hd_succ, show hb w k = 124 by simp [hb, hm]]; exact h1
        · exact ((Chg.ofBelow HW.out).alloc _).grown h2 (fun g hg => by have := (HB.out.blk_lt g hg).1; exact .inl this) |>.below (Nat.le_refl _) (fun _ _ h => h)
      · have hz : ((k : Int) % (w : Int) == 0) = false := by rw [hmod]; simp; omega
        clear hmod
        go_wp2_with (at_builtin; refine wpList_appb rfl (.tmp 31) (.tmp 33) rfl W.heap.size A k c (hd k w) rfl (HB.out.alloc _) (some ⟨wr.heap.size, 0, none⟩) 1 1 [32] rfl (Rd.lit8 wr 32 5) ?c1 ?c2 ?_; (case c1 => omega); (case c2 => have := HW.out.size; simp; omega); intro A2 c2 w2 h1 h2 h3)
        refine ⟨⟨k + 1, A2, c2, by omega, by go_num, rfl, ?_, ?_⟩, by simp [intOf]; omega⟩
        · rw [hd_succ, show hb w k = 32 by simp [hb, hm]]; exact h1
        · exact ((Chg.ofBelow HW.out).alloc _).grown h2 (fun g hg => by have := (HB.out.blk_lt g hg).1; exact .inl this) |>.below (Nat.le_refl _) (fun _ _ h => h)
    · obtain rfl : k = n := by omega
      have hc := row_conv HB.out
      go_wp2
      go_ret
      exact ⟨rfl, HW.out⟩
end Go.Proofs.YthbifomlnipfhaaDoor
