/- In which order machines stand. -/
import Derived.Test.YtfmjmhnbdceipaaDice
import Derived.BigRegion
import Derived.Deep.OwnRows
import Derived.Handy
namespace Go.Proofs.Ytfmjmhnbdceipaa
open Go.ChangeShapes Go.WideShapes Go.ChangeAt Go.RowKit Go.Deep
set_option linter.unusedVariables false

def sw (l : List Int) (i k : Nat) : List Int := (l.set i (l.getD k 0)).set k (l.getD i 0)
@[simp] theorem sw_len (l : List Int) (i k : Nat) : (sw l i k).length = l.length := by simp [sw]
def shuf : Nat → Int → List Int → List Int
  | 0, _, l => l
  | i + 1, x, l => shuf i (nx x) (sw l (i + 1) (bel x ((i : Int) + 2)).toNat)
def iota (n : Nat) : List Int := (List.range n).map Int.ofNat
@[simp] theorem iota_len (n : Nat) : (iota n).length = n := by simp [iota]
theorem iota_snoc (n : Nat) : iota (n + 1) = iota n ++ [(n : Int)] := by simp [iota, List.range_succ]
def orderOf (seed : Int) (n : Nat) : List Int := shuf (n - 1) seed (iota n)
theorem shuf_len : ∀ i x l, (shuf i x l).length = l.length
  | 0, x, l => rfl
  | i + 1, x, l => by rw [shuf, shuf_len]; simp
@[simp] theorem orderOf_len (seed : Int) (n : Nat) : (orderOf seed n).length = n := by rw [orderOf, shuf_len]; simp
theorem getD_at (l : List Int) (k : Nat) (hk : k < l.length) : l.getD k 0 = l[k] := by simp [List.getD, hk]
/-- Block b is these ints. -/
theorem blk_int {W : World} {b : Nat} {l : List Int} (h : Blk W b 3 (ints l).toArray) (k : Nat) (hk : k < l.length) : W.cell? ⟨b, k, none⟩ = some (.int .i64 (l.getD k 0)) := by
  rw [h.cell, getD_at l k hk]
  have := ints_get l k hk
  simpa using this
theorem blk_set {W : World} {b : Nat} {l : List Int} (h : Blk W b 3 (ints l).toArray) (k : Nat) (v : Int) : Blk (W.setCell ⟨b, k, none⟩ (.int .i64 v)) b 3 (ints (l.set k v)).toArray := by
  have := h.set_ k (.int .i64 v)
  simpa [ints, List.map_set] using this
set_option maxHeartbeats 4000000 in
theorem change_any (i k C b n : Nat) (l : List Int) (W : World) (hC : W.cell? ⟨C, 0, none⟩ = some (.slice (some ⟨b, 0, none⟩) n n)) (hB : Blk W b 3 (ints l).toArray) (hl : l.length = n) (hi : i < n) (hk : k < n) (hn : n ≤ 64) (hCb : C ≠ b) :
    Calls Try.prog 28 #[.int .i64 i, .int .i64 k, .pointer (some ⟨C, 0, none⟩)] W fun e W' => e = .returned (.tuple #[]) ∧ Blk W' b 3 (ints (sw l i k)).toArray ∧ Chg (fun g => g = b) W W' := by
  subst hl
  have e0 := blk_int hB i hi
  have e1 := blk_int hB k hk
  have f0 := hB.frozen i
  have f1 := hB.frozen k
  have HB := Lib.hid (blk_set (blk_set hB i (l.getD k 0)) k (l.getD i 0))
  have i0 : (0 : Int) ≤ (i : Int) := by omega
  have i1 : (i : Int) < (l.length : Int) := by omega
  have k0 : (0 : Int) ≤ (k : Int) := by omega
  have k1 : (k : Int) < (l.length : Int) := by omega
  have hbC : b ≠ C := fun h => hCb h.symm
  obtain ⟨m, hm⟩ : ∃ m, m = l.length := ⟨_, rfl⟩
  rw [← hm] at hC i1 k1
  have HS : Hid (sw l i k = (l.set i (l.getD k 0)).set k (l.getD i 0)) := Lib.hid rfl
  rw [HS.out]
  generalize l.getD k 0 = y at *
  by_cases hik : i = k
  · subst hik
    have hy : l.getD i 0 = y := by rw [e0] at e1; simpa using e1
    rw [hy] at HB ⊢
    clear HS hy hm hn hB e0
    go_enter Try.func28, Try.ntmps28
    go_region
    all_goals (go_end0; exact ⟨rfl, HB.out.drew, (((Chg.refl (fun g => g = b) W).setCell (p := ⟨b, i, none⟩) (.inl rfl) _).setCell (p := ⟨b, i, none⟩) (.inl rfl) _).drew⟩)
  · generalize l.getD i 0 = z at *
    have hki : k ≠ i := fun h => hik h.symm
    clear HS hm hn hB
    go_enter Try.func28, Try.ntmps28
    go_region
    all_goals (go_end0; exact ⟨rfl, HB.out.drew, (((Chg.refl (fun g => g = b) W).setCell (p := ⟨b, i, none⟩) (.inl rfl) _).setCell (p := ⟨b, k, none⟩) (.inl rfl) _).drew⟩)
end Go.Proofs.Ytfmjmhnbdceipaa
