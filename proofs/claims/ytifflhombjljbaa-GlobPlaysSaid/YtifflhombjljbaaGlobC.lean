/- Contracts of the global row: Get. -/
import Derived.Test.YtifflhombjljbaaGlobB
namespace Go.Proofs.Ytifflhombjljbaa
open Go.ChangeShapes Go.WideShapes Go.ChangeAt Go.RowKit Go.Deep
set_option linter.unusedVariables false

theorem last_of {f b : List Int} {m : Nat} (h : f.length = m + 1) : ∃ z, (ints f)[m]? = some (.int .i64 z) ∧ f.reverse ++ b = z :: ((f.take m).reverse ++ b) := by
  refine ⟨f[m], ints_get _ _ (by omega), ?_⟩
  have : f = f.take m ++ [f[m]] := by
    rw [← List.take_succ_eq_append_getElem (by omega), ← h, List.take_length]
  calc f.reverse ++ b = (f.take m ++ [f[m]]).reverse ++ b := by rw [← this]
    _ = _ := by rw [List.reverse_append]; simp
theorem tops {wx : World} {B K m d1 d2 : Nat} {E1 E2 : Option Addr} {f1 b1 : List Int} (hq : Q2 44 wx B K E1 E2 d1 d2 f1 b1) (hm : f1.length = m + 1) :
    ∃ G z, E1 = some ⟨G, 0, none⟩ ∧ G < wx.heap.size ∧ K < wx.heap.size ∧ wx.cell? ⟨K, 0, none⟩ = some (.slice (some ⟨G, 0, none⟩) (m + 1) d1) ∧ wx.frozen? ⟨K, 0, none⟩ = false ∧ wx.cell? ⟨G, m, none⟩ = some (.int .i64 z) ∧ (m : Int) ≤ (d1 : Int) ∧
      f1.reverse ++ b1 = z :: ((f1.take m).reverse ++ b1) ∧ Q2 44 (wx.setCell ⟨K, 0, none⟩ (.slice (some ⟨G, 0, none⟩) m d1)) B K (some ⟨G, 0, none⟩) E2 d1 d2 (f1.take m) b1 ∧ Chg (Fp K E1 E2) wx (wx.setCell ⟨K, 0, none⟩ (.slice (some ⟨G, 0, none⟩) m d1)) := by
  obtain ⟨hBK, hK, h1, h2, hne⟩ := id hq
  obtain ⟨z, hz, hL⟩ := last_of (b := b1) hm
  obtain ⟨G, rfl, hbG, hGl⟩ := h1.form (by omega)
  obtain ⟨b9, o9, ho9, _, hc9⟩ := h1.rd.2 (by omega)
  cases ho9
  have e2 := hc9 m _ hz
  have hd := h1.2.1
  obtain ⟨v1, v2⟩ := hq.cut1 (k := m) (by decide) (by omega)
  refine ⟨G, z, rfl, hGl, hK.lt, ?_, hK.frozen 0, by simpa using e2, by omega, hL, v1, v2⟩
  have := hK.cell 0
  rw [hm] at this
  simpa using this

set_option maxHeartbeats 2000000 in
theorem get_nil (B K : Nat) (A1 A2 : Option Addr) (W : World) (hS : GQ W B K A1 A2 []) :
    Calls Try.prog 18 #[.pointer (some ⟨K, 0, none⟩)] W fun e W' => e = .returned (.tuple #[.int .i64 0, .bool false]) ∧ ∃ q, W' = W.drewN q := by
  go_enter Try.func18, Try.ntmps18
  go_wp2_with (go_at_call 11; refine (len_any B K A1 A2 [] _ hS).mono ?_; rintro e w9 ⟨rfl, q, rfl⟩)
  go_ret2
  exact ⟨rfl, q, rfl⟩

theorem same_head {z g : Int} {X L Y : List Int} (h1 : Y = z :: X) (h2 : g :: L = Y) : z = g ∧ X = L := by
  rw [h1] at h2
  injection h2 with a b
  exact ⟨a.symm, b.symm⟩
theorem GAft.pop {W wx w2 : World} {B K d1 d2 : Nat} {A1 A2 E1 E2 : Option Addr} {f2 b2 L : List Int} (hcx : Chg (Fp K A1 A2) W wx) (hfx : ∀ g, Fp K E1 E2 g → Fp K A1 A2 g ∨ W.heap.size ≤ g) (x7 : Q2 44 w2 B K E1 E2 d1 d2 f2 b2) (x8 : Chg (Fp K E1 E2) wx w2)
    (hL : f2.reverse ++ b2 = L) (hl : L.length ≤ 100000) : GAft W w2 B K A1 A2 L :=
  ⟨E1, E2, ⟨d1, d2, f2, b2, x7, hL.symm, hl⟩, hcx.trans x8 (fun k hk h => (hfx k h).resolve_right (by omega)), hfx⟩

set_option maxHeartbeats 4000000 in
theorem get_any (B K : Nat) (A1 A2 : Option Addr) (g : Int) (L : List Int) (W : World) (hS : GQ W B K A1 A2 (g :: L)) (hB : B ≤ W.heap.size) :
    Calls Try.prog 18 #[.pointer (some ⟨K, 0, none⟩)] W fun e W' => e = .returned (.tuple #[.int .i64 g, .bool true]) ∧ GAft W W' B K A1 A2 L := by
  have hS0 := hS
  obtain ⟨c1, c2, f, b, hq, hL, hl⟩ := hS
  have hL2 := Lib.hid hL
  have hll : (f.length : Int) + (b.length : Int) = (L.length : Int) + 1 := by
    have := congrArg List.length hL
    simp at this; omega
  clear hL
  simp at hl
  have hlen0 : (0 : Int) ≤ (L.length : Int) := by omega
  obtain ⟨hBK, hK, h1, h2, hne⟩ := id hq
  have hk := hK.lt
  have p0 := hK.cell 0
  have p1 := hK.cell 1
  have p2 := hK.frozen 0
  have p3 := hK.frozen 1
  simp at p0 p1
  by_cases hf : f = []
  · subst hf
    have hqd := fun q => hq.same ((Chg.refl _ _).drewN q)
    have Hll := Lib.hid hll
    have Hbl := Lib.hid (show ([] ++ b.reverse).length = L.length + 1 by simp at hll ⊢; omega)
    clear hll
    go_enter Try.func18, Try.ntmps18
    go_wp2_with (first
      | (go_at_call 11; refine (len_any B K A1 A2 _ _ hS0).mono ?_; rintro e w9 ⟨rfl, q, rfl⟩)
      | (go_at_call 26; refine (turn_any B K A1 A2 c1 c2 [] b _ (hqd q) hB ?_).mono ?_; (have := Hll.out; simp at this ⊢; omega); rintro e wx ⟨rfl, E1, E2, d1, d2, hqx, hcx, hfx⟩; obtain ⟨G, z, rfl, x0, x1, x2, x3, x4, x5, x6, x7, x8⟩ := tops hqx Hbl.out; have X6 := Lib.hid x6; clear x6))
    go_ret2
    obtain ⟨rfl, hX⟩ := same_head X6.out (L := L) (g := g) (by rw [hL2.out]; simp)
    exact ⟨rfl, GAft.pop hcx.undrewN hfx x7 x8 hX (by omega)⟩
  · obtain ⟨m, hm⟩ : ∃ m, f.length = m + 1 := ⟨f.length - 1, by have := List.length_pos_iff.2 hf; omega⟩
    have hqd := fun q => hq.same ((Chg.refl _ _).drewN q)
    rw [hm] at p0 hll
    have Hm := Lib.hid hm
    clear hm
    obtain ⟨G, z, rfl, x0, x1, x2, x3, x4, x5, x6, x7, x8⟩ := tops hq Hm.out
    have X6 := Lib.hid x6
    have hm0 : (0 : Int) ≤ (m : Int) := by omega
    clear x6 p0
    have hmb : (m : Int) ≤ 100000 := by omega
    have HLL := Lib.hid hll
    clear hll hlen0
    have hpos2 : ((m : Int) + 1 == 0) = false := by simp; omega
    have hpos : ((L.length : Int) + 1 == 0) = false := by simp; omega
    go_enter Try.func18, Try.ntmps18
    go_wp2_with (go_at_call 11; refine (len_any B K _ A2 _ _ hS0).mono ?_; rintro e w9 ⟨rfl, q, rfl⟩)
    go_ret2
    obtain ⟨rfl, hX⟩ := same_head X6.out (L := L) (g := g) hL2.out
    exact ⟨rfl, GAft.pop (Chg.refl _ _) fp_same (x7.same ((Chg.refl _ _).drewN q)) (x8.drewN q) hX (by omega)⟩
end Go.Proofs.Ytifflhombjljbaa
