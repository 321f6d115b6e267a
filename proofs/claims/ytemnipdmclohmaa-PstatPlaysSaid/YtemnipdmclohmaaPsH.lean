/- The document's answer: another one at a place; how many. -/
import Derived.Test.YtemnipdmclohmaaPsG
namespace Go.Proofs.Ytemnipdmclohmaa
open Go.ChangeShapes Go.WideShapes Go.ChangeAt Go.RowKit Go.Deep
set_option linter.unusedVariables false

/-- A list of processors as the document's. -/
def Xl (w : World) (base : Nat) (B : Option Addr) (c : Nat) (qs : List (Int × Int)) : Prop := Row w base 29 2 B qs.length c (pv qs)
theorem Xl.same {w w' : World} {base c : Nat} {B : Option Addr} {qs : List (Int × Int)} (h : Xl w base B c qs) (hc : Chg (fun _ => False) w w') : Xl w' base B c qs := Row.kept h hc (fun _ _ h => h)
theorem Rd.at2 {w : World} {A : Option Addr} {n : Nat} {ps : List (Int × Int)} (h : Rd w 2 A n (pv ps)) (hn : 0 < n) : ∃ b o, A = some ⟨b, o, none⟩ ∧ b < w.heap.size ∧ ∀ k (hk : k < ps.length), w.cell? ⟨b, o + k * 2, none⟩ = some (.int .i64 ps[k].1) ∧ w.cell? ⟨b, o + k * 2 + 1, none⟩ = some (.int .i64 ps[k].2) := by
  obtain ⟨b, o, rfl, hb, hc⟩ := h.2 hn
  exact ⟨b, o, rfl, hb, fun k hk => ⟨hc _ _ (pv_get ps k hk).1, hc (k * 2 + 1) _ (pv_get ps k hk).2⟩⟩
theorem with_open {W w2 : World} {A2 : Option Addr} {c2 k : Nat} {a b : Int} {qs : List (Int × Int)} {E1 E2 : TypeId} (hk : k < qs.length)
    (h1 : Row w2 (W.heap.size + 1) 29 2 A2 (0 + qs.length) c2 (pv ([] ++ qs))) (h2 : ((W.alloc (.cells #[.int .i64 a, .int .i64 b] E1)).alloc (.cells #[] E2)).grownBy w2 (some (W.heap.size + 1))) :
    ∃ g, A2 = some ⟨g, 0, none⟩ ∧ w2.cell? ⟨W.heap.size, 0, none⟩ = some (.int .i64 a) ∧ w2.cell? ⟨W.heap.size, 1, none⟩ = some (.int .i64 b) ∧ w2.frozen? ⟨g, k * 2, none⟩ = false ∧ w2.frozen? ⟨g, k * 2 + 1, none⟩ = false ∧
      (∃ a0, w2.cell? ⟨g, k * 2, none⟩ = some (.int .i64 a0)) ∧ (∃ b0, w2.cell? ⟨g, k * 2 + 1, none⟩ = some (.int .i64 b0)) ∧ W.heap.size < g ∧
      Hid (Xl ((w2.setCell ⟨g, k * 2, none⟩ (.int .i64 a)).setCell ⟨g, k * 2 + 1, none⟩ (.int .i64 b)) W.heap.size (some ⟨g, 0, none⟩) c2 (qs.set k (a, b)) ∧ Chg (fun _ => False) W ((w2.setCell ⟨g, k * 2, none⟩ (.int .i64 a)).setCell ⟨g, k * 2 + 1, none⟩ (.int .i64 b))) := by
  rw [List.nil_append, Nat.zero_add] at h1
  obtain ⟨g, rfl, hgb, hgl, hcs, hfr, hset⟩ := h1.open2 (by omega)
  have hB : Blk ((W.alloc (.cells #[.int .i64 a, .int .i64 b] E1)).alloc (.cells #[] E2)) W.heap.size E1 #[.int .i64 a, .int .i64 b] := (Blk.new W _ _).alloc _
  have hB2 := hB.grown h2 (by simp)
  have hc : Chg (fun _ => False) W w2 := (((Chg.refl _ _).alloc _).alloc _).grown h2 (fun k hk => .inr (by simp at hk; omega))
  refine ⟨g, rfl, by rw [hB2.cell]; rfl, by rw [hB2.cell]; rfl, hfr _, hfr _, ⟨_, (hcs k hk).1⟩, ⟨_, (hcs k hk).2⟩, by omega, ?_, ?_⟩
  · unfold Xl
    rw [List.length_set]
    exact (hset k a b).lower (by omega)
  · exact (hc.setCell (p := ⟨g, k * 2, none⟩) (.inr (by simp; omega)) _).setCell (p := ⟨g, k * 2 + 1, none⟩) (.inr (by simp; omega)) _
set_option maxHeartbeats 2000000 in
theorem with_at (B : Option Addr) (n c k : Nat) (a b : Int) (qs : List (Int × Int)) (W : World) (hR : Rd W 2 B n (pv qs)) (hn : qs.length = n) (hk : k < qs.length) (hl : qs.length ≤ 256) :
    Calls Try.prog 20 #[.slice B n c, .int .i64 k, .agg #[.int .i64 a, .int .i64 b]] W fun e W' => ∃ B' c', e = .returned (.slice B' n c') ∧ Xl W' W.heap.size B' c' (qs.set k (a, b)) ∧ Chg (fun _ => False) W W' := by
  subst hn
  have k0 : (0 : Int) ≤ (k : Int) := by omega
  have k1 : (k : Int) < (qs.length : Int) := by omega
  have hrow0 : Row ((W.alloc (.cells #[.int .i64 a, .int .i64 b] 29)).alloc (.cells #[] 29)) (W.heap.size + 1) 29 2 (some ⟨W.heap.size + 1, 0, none⟩) 0 0 (pv []) := ⟨rfl, Nat.le_refl _, Nat.zero_le _, .inr ⟨W.heap.size + 1, #[], rfl, Nat.le_refl _, by simpa using Blk.new (W.alloc (.cells #[.int .i64 a, .int .i64 b] 29)) 29 #[], by simp, rfl⟩⟩
  have HR0 := Lib.hid hrow0
  have HRD := Lib.hid hR
  have HK := Lib.hid hk
  clear hrow0 hR
  go_enter Try.func20, Try.ntmps20
  go_wp2_with (at_builtin; refine wpList_app2 rfl (.tmp 8) (.tmp 9) 27 29 Try.underlying27 ref_info rfl (W.heap.size + 1) _ 0 0 [] rfl HR0.out B qs.length c qs rfl ((HRD.out.alloc _).alloc _) ?c1 ?c2 ?_; (case c1 => omega); (case c2 => simp); intro A2 c2 w2 h1 h2 h3; obtain ⟨g, rfl, x0, x1, f0, f1, ⟨a0, y0⟩, ⟨b0, y1⟩, hg, HX⟩ := with_open HK.out h1 h2)
  go_ret
  obtain ⟨h4, h5⟩ := HX.out
  exact ⟨_, c2, rfl, h4, h5⟩
set_option maxHeartbeats 2000000 in
theorem rcount_at (B : Option Addr) (n c : Nat) (st : Int) (qs : List (Int × Int)) (W : World) (hR : Rd W 2 B n (pv qs)) (hn : qs.length = n) (hl : qs.length ≤ 256) :
    Calls Try.prog 25 #[.slice B n c, .int .i64 st] W fun e W' => e = .returned (.int .i64 (cnt qs st)) ∧ W' = W := by
  subst hn
  go_enter Try.func25, Try.ntmps25
  go_wp2
  go_loopw [5, 6] (fun m i wr => ∃ k : Nat, k ≤ qs.length ∧ i = .int .i64 k ∧ m = .int .i64 (cnt (qs.take k) st) ∧ Hid (wr = W)) (fun _ i _ => qs.length - (intOf i).toNat)
  case atStart => exact ⟨0, Nat.zero_le _, rfl, rfl, rfl⟩
  case round =>
    obtain ⟨k, hk, rfl, rfl, HW⟩ := hrel
    obtain rfl := HW.out
    have k0 : (0 : Int) ≤ (k : Int) := by omega
    have hcl := cnt_le (qs.take k) st
    rw [List.length_take] at hcl
    have hst := cnt_take qs st k
    obtain ⟨m, hm⟩ : ∃ m, cnt (qs.take k) st = m := ⟨_, rfl⟩
    rw [hm] at hst hcl ⊢
    have m0 : (0 : Int) ≤ (m : Int) := by omega
    have m1 : (m : Int) ≤ 256 := by omega
    by_cases hlt : k < qs.length
    · replace hst := hst hlt
      have k1 : (k : Int) < (qs.length : Int) := by omega
      obtain ⟨b, o, rfl, hb, hcs⟩ := hR.at2 (by omega)
      have e0 := (hcs k hlt).1
      clear hcs
      generalize qs[k].1 = a at e0 hst
      by_cases hs : a = st
      · subst hs
        rw [if_pos rfl] at hst
        go_wp2
        exact ⟨⟨k + 1, by omega, by go_num, congrArg (Value.int .i64) (by omega), by first | exact trivial | rfl⟩, by simp [intOf]; omega⟩
      · rw [if_neg hs] at hst
        go_wp2
        exact ⟨⟨k + 1, by omega, by go_num, congrArg (Value.int .i64) (by omega), by first | exact trivial | rfl⟩, by simp [intOf]; omega⟩
    · have : k = qs.length := by omega
      subst this
      rw [List.take_length] at hm
      go_wp2
      go_ret
      exact ⟨rfl, rfl⟩
end Go.Proofs.Ytemnipdmclohmaa
