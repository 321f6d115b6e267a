/- Contracts of the global row: turn, Get. -/
import Derived.Test.YtifflhombjljbaaGlobA
import Derived.Deep.LoopGhost
namespace Go.Proofs.Ytifflhombjljbaa
open Go.ChangeShapes Go.WideShapes Go.ChangeAt Go.RowKit Go.Deep
set_option linter.unusedVariables false

def RoundT (W : World) (B K : Nat) (A1 A2 : Option Addr) (f b : List Int) (j : Nat) (wr : World) : Prop :=
  ∃ (E1 E2 : Option Addr) (c1 c2 : Nat), j ≤ b.length ∧ Q2 44 wr B K E1 E2 c1 c2 (f ++ (b.drop j).reverse) (b.take j) ∧ Chg (Fp K A1 A2) W wr ∧ ∀ g, Fp K E1 E2 g → Fp K A1 A2 g ∨ W.heap.size ≤ g
theorem turn_step {f b : List Int} {m : Nat} (h : m < b.length) : (f ++ (b.drop (m + 1)).reverse) ++ [b[m]] = f ++ (b.drop m).reverse := by
  rw [List.append_assoc, List.drop_eq_getElem_cons h, List.reverse_cons]
theorem turn_take {b : List Int} {m : Nat} (h : m < b.length) : (b.take (m + 1)).take m = b.take m := by
  rw [List.take_take, Nat.min_eq_left (by omega)]

set_option maxHeartbeats 4000000 in
theorem turn_any (B K : Nat) (A1 A2 : Option Addr) (c1 c2 : Nat) (f b : List Int) (W : World) (hS : Q2 44 W B K A1 A2 c1 c2 f b) (hB : B ≤ W.heap.size) (hl : f.length + b.length ≤ 100000) :
    Calls Try.prog 26 #[.pointer (some ⟨K, 0, none⟩)] W fun e W' => e = .returned (.tuple #[]) ∧ ∃ E1 E2 d1 d2, Q2 44 W' B K E1 E2 d1 d2 (f ++ b.reverse) [] ∧ Chg (Fp K A1 A2) W W' ∧ ∀ g, Fp K E1 E2 g → Fp K A1 A2 g ∨ W.heap.size ≤ g := by
  have h0 : RoundT W B K A1 A2 f b b.length W := ⟨A1, A2, c1, c2, Nat.le_refl _, by simpa using hS, Chg.refl _ _, fp_same⟩
  go_enter Try.func26, Try.ntmps26
  go_wp2
  go_step3
  go_wp2
  go_step3
  go_wp2
  go_loopg [2] b.length (fun j s2 wr => RoundT W B K A1 A2 f b j wr)
  case atStart => exact h0
  case round =>
    clear h0 hS
    obtain ⟨E1, E2, d1, d2, hj, hq, hc, hf⟩ := hrel
    have hws := hc.size
    rcases gk with _ | m
    · obtain ⟨hBK, hK, h1, h2, hne⟩ := id hq
      have hk := hK.lt
      have p1 := hK.cell 1
      simp at p1
      go_wp2
      first
        | go_end0
        | (rw [Exit.noGoto_normal]; go_end0)
        | (simp only [Exit.noGoto]; go_end0)
      exact ⟨rfl, E1, E2, d1, d2, by simpa using hq, hc, hf⟩
    · have hbm := turn_step (f := f) (b := b) (m := m) (by omega)
      have hbt := turn_take (b := b) (m := m) (by omega)
      have hget : (ints (b.take (m + 1)))[m]? = some (.int .i64 b[m]) := by rw [ints_get _ _ (by simp; omega)]; simp
      have hlen : (b.take (m + 1)).length = m + 1 := by simp; omega
      generalize b[m] = z at hbm hget
      have hfl : (f ++ (b.drop (m + 1)).reverse).length ≤ 100000 := by simp; omega
      have Hstep := Lib.hid (fun (w2 : World) (D1 D2 : Option Addr) (e1 e2 : Nat) (hq2 : Q2 44 w2 B K D1 D2 e1 e2 ((f ++ (b.drop (m + 1)).reverse) ++ [z]) ((b.take (m + 1)).take m)) (hc2 : Chg (Fp K A1 A2) W w2) (hf2 : ∀ g, Fp K D1 D2 g → Fp K A1 A2 g ∨ W.heap.size ≤ g) => (show RoundT W B K A1 A2 f b m w2 from ⟨D1, D2, e1, e2, by omega, by rw [← hbm, ← hbt]; exact hq2, hc2, hf2⟩))
      clear hbm hbt
      generalize f ++ (b.drop (m + 1)).reverse = fs at *
      generalize b.take (m + 1) = bs at *
      obtain ⟨hBK, hK, h1, h2, hne⟩ := id hq
      have hk := hK.lt
      have p0 := hK.cell 0
      have p1 := hK.cell 1
      have p2 := hK.frozen 0
      have p3 := hK.frozen 1
      simp at p0 p1
      obtain ⟨G, rfl, hbG, hGl⟩ := h2.form (by omega)
      obtain ⟨b9, o9, ho9, _, hc9⟩ := h2.rd.2 (by omega)
      cases ho9
      have e2 := hc9 m _ hget
      simp only [Nat.zero_add] at e2
      rw [hlen] at p1
      clear hc9 hget
      have hi1 : (0 : Int) ≤ (m : Int) := by omega
      have hi2 : (m : Int) < (m : Int) + 1 := by omega
      have hd2 := h2.2.1
      have hi3 : (m : Int) ≤ (d2 : Int) := by omega
      have hfl1 : fs.length + 1 ≤ 1048576 := by omega
      have hbV : B ≤ (wr.alloc (.cells #[.int .i64 z] 3)).drew.heap.size := by
        show B ≤ (wr.alloc (.cells #[.int .i64 z] 3)).heap.size
        simp; omega
      have hqd := hq.same ((Chg.refl _ _).drew)
      go_wp2
      go_region_law (refine step_app rfl (.tmp 15) (.tmp 23) rfl B E1 _ _ fs rfl (h1.alloc _).drew _ 1 1 [z] rfl (Rd.lit _ _ _).drew hfl1 hbV ?_; intro D d w2 r1 r2 r3; obtain ⟨s0, s1, s2, s3⟩ := hqd.app1 (ob := .cells #[.int .i64 z] 3) (by decide) r1 r2 r3; have t0 := s0.cell 0; have t1 := s0.cell 1; have t2 := s0.frozen 0; have t3 := s0.frozen 1; have t4 := s0.lt; simp at t0 t1; rw [hlen] at t1)
      all_goals
        go_simp
        go_wp2
        obtain ⟨v1, v2⟩ := s1.cut2 (k := m) (by decide) (by omega)
        go_roundg m
        case rel => exact Hstep.out _ _ _ _ _ v1 ((hc.trans (Chg.undrew (s2.trans v2 (fun k hk h => (s3 k h).resolve_right (by exact Nat.not_le.2 hk)))) (fun k hk h => (hf k h).resolve_right (by omega)))) (fun g hg => by
          rcases s3 g hg with h | h
          · exact hf g h
          · right
            have h : wr.heap.size ≤ g := h
            omega)
        case measure => omega
end Go.Proofs.Ytifflhombjljbaa
