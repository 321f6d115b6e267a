/- Any act, on the queue and on the list: Remove; all. -/
import Derived.Test.YtifflhombjljbaaGlobL
import Derived.Test.YtifflhombjljbaaShape
namespace Go.Proofs.Ytifflhombjljbaa
open Go.ChangeShapes Go.WideShapes Go.ChangeAt Go.RowKit Go.Deep
set_option linter.unusedVariables false

theorem erase_idx {g : Int} : ∀ {xs : List Int} {i : Nat}, i < xs.length → xs.getD i 0 = g → (∀ j, j < i → xs.getD j 0 ≠ g) → xs.eraseIdx i = xs.erase g
  | [], i, hi, _, _ => absurd hi (by simp)
  | x :: xs, 0, _, he, _ => by
    have : x = g := by simpa using he
    subst this; simp
  | x :: xs, i + 1, hi, he, hno => by
    have h0 : x ≠ g := by have := hno 0 (by omega); simpa using this
    have := erase_idx (g := g) (xs := xs) (i := i) (by simpa using hi) (by simpa using he) (fun j hj => by have := hno (j + 1) (by omega); simpa using this)
    simp [h0, this]
set_option maxHeartbeats 4000000 in
theorem act_remove0 (B K : Nat) (A1 A2 Al As : Option Addr) (c m cs : Nat) (L : List Int) (kd p q : Int) (W : World) (hkd : kd < 0 ∨ 3 < kd) (hS : GQ W B K A1 A2 L) (hL : Ls W Al c L) (hp : Pos L) (hd : ∀ g, blk Al = some g → ¬ Fp K A1 A2 g) (hl : L.length ≤ 5000) (hg : p ∉ L) :
    Calls Try.prog 10 #[.pointer (some ⟨K, 0, none⟩), .slice Al L.length c, .agg #[.int .i64 kd, .int .i64 p, .int .i64 q, .slice As m cs]] W (ActP W B K A1 A2 Al (L.length + m)) := by
  have hc0 : Chg (fun _ => False) W (W.alloc (.cells #[.int .i64 kd, .int .i64 p, .int .i64 q, .slice As m cs] 31)) := (Chg.refl _ _).alloc _
  have HR := Lib.hid (remove_no Al L.length c p L _ ((hL.same hc0).2.1) (by omega) hg)
  have HQ := Lib.hid (qremove_no B K A1 A2 L p _ (hS.same hc0) hg (by omega))
  have HE := Lib.hid (fun (w3 : World) (hc : Chg (fun _ => False) (W.alloc (.cells #[.int .i64 kd, .int .i64 p, .int .i64 q, .slice As m cs] 31)) w3) => ActP.mk (Al := Al) (bound := L.length + m) (hc0.trans hc (fun _ _ h => h)) (GAft.same (hS.same (hc0.trans hc (fun _ _ h => h))) (Chg.refl _ _)) (hL.same (hc0.trans hc (fun _ _ h => h))) hp (by omega) hd)
  have e0 : ¬ kd = 0 := by omega
  have e1 : ¬ kd = 1 := by omega
  have e2 : ¬ kd = 2 := by omega
  have e3 : ¬ kd = 3 := by omega
  clear hS hL hp hd hg hc0 hkd
  go_enter Try.func10, Try.ntmps10
  go_wp2_with (first
    | (go_at_call 23; refine HR.out.mono ?_; rintro e w2 ⟨rfl, rfl⟩)
    | (go_at_call 20; refine HQ.out.mono ?_; rintro e w3 ⟨rfl, hc⟩; have HC := Lib.hid hc; clear hc))
  go_ret2
  exact HE.out _ HC.out
set_option maxHeartbeats 4000000 in
theorem act_remove1 (B K : Nat) (A1 A2 Al As : Option Addr) (c m cs : Nat) (L : List Int) (kd p q : Int) (W : World) (hkd : kd < 0 ∨ 3 < kd) (hS : GQ W B K A1 A2 L) (hL : Ls W Al c L) (hp : Pos L) (hd : ∀ g, blk Al = some g → ¬ Fp K A1 A2 g) (hl : L.length ≤ 5000) (hB : B ≤ W.heap.size) (hg : p ∈ L) :
    Calls Try.prog 10 #[.pointer (some ⟨K, 0, none⟩), .slice Al L.length c, .agg #[.int .i64 kd, .int .i64 p, .int .i64 q, .slice As m cs]] W (ActP W B K A1 A2 Al (L.length + m)) := by
  obtain ⟨W0, hW0⟩ : ∃ W0, W0 = W.alloc (.cells #[.int .i64 kd, .int .i64 p, .int .i64 q, .slice As m cs] 31) := ⟨_, rfl⟩
  have h01 : Blk W0 W.heap.size 31 #[.int .i64 kd, .int .i64 p, .int .i64 q, .slice As m cs] := by rw [hW0]; exact Blk.new _ _ _
  have hc0 : Chg (fun _ => False) W W0 := by rw [hW0]; exact (Chg.refl _ _).alloc _
  have HR := Lib.hid (remove_yes Al L.length c p L W0 ((hL.same hc0).2.1) (by omega) hL.1 hg)
  have hlen : (L.erase p).length = L.length - 1 := List.length_erase_of_mem hg
  have hpos : Pos (L.erase p) := fun z hz => hp z (List.mem_of_mem_erase hz)
  have key : ∀ (w1 : World) (A3 : Option Addr) (c3 : Nat), Row w1 W0.heap.size 3 1 A3 (L.length - 1) c3 (ints (L.erase p)) → Below W0.heap.size W0 w1 →
      Calls Try.prog 20 #[.pointer (some ⟨K, 0, none⟩), .int .i64 p] w1 (fun e W' => e = .returned (.bool true) ∧ GAft w1 W' B K A1 A2 (L.erase p)) ∧ w1.cell? ⟨W.heap.size, 1, none⟩ = some (.int .i64 p) ∧ W.heap.size < w1.heap.size ∧
      ∀ W', GAft w1 W' B K A1 A2 (L.erase p) → ActP W B K A1 A2 Al (L.length + m) (.returned (.tuple #[.slice A3 (L.length - 1) c3, .bool true])) W' := fun w1 A3 c3 hr hb => by
    have hc1 : Chg (fun _ => False) W0 w1 := (Chg.refl _ _).addBelow hb (Nat.le_refl _)
    have hc := hc0.trans hc1 (fun _ _ h => h)
    have h2 := h01.kept hc1 (fun h => h)
    have hsz := hc.size
    obtain ⟨i, hi, he, hno, hcall⟩ := qremove_yes B K A1 A2 L p w1 (hS.same hc) hg (by omega) (by omega)
    rw [erase_idx hi he hno, hpos.is] at hcall
    obtain ⟨hn, hls⟩ := Ls.of_row hr
    refine ⟨hcall, h2.cell 1, h2.lt, fun W' ha => ?_⟩
    rw [hn]
    refine ActP.mk hc ha hls hpos (by omega) (fun g hg h => ?_)
    have h5 := (hr.blk_lt g hg).1
    have h6 := (hS.fp_lt g h).2
    have := hc0.size
    omega
  have KEY := Lib.hid key
  have e0 : ¬ kd = 0 := by omega
  have e1 : ¬ kd = 1 := by omega
  have e2 : ¬ kd = 2 := by omega
  have e3 : ¬ kd = 3 := by omega
  subst hW0
  clear hS hL hp hd hg hc0 hkd key hpos hlen h01
  go_enter Try.func10, Try.ntmps10
  go_wp2_with (first
    | (go_at_call 23; refine HR.out.mono ?_; rintro e w2 ⟨A3, c3, rfl, hr, hb⟩; obtain ⟨k1, k2, k3, k4⟩ := KEY.out _ _ _ hr hb; have K1 := Lib.hid k1; have K4 := Lib.hid k4; clear k1 k4 hr hb)
    | (go_at_call 20; refine K1.out.mono ?_; rintro e w3 ⟨rfl, ha⟩; have HA := Lib.hid (K4.out _ ha); clear ha))
  go_ret2
  exact HA.out
theorem act_any (B K : Nat) (A1 A2 Al As : Option Addr) (c m cs : Nat) (L xs : List Int) (kd p q : Int) (W : World) (hS : GQ W B K A1 A2 L) (hL : Ls W Al c L) (hp : Pos L) (hd : ∀ g, blk Al = some g → ¬ Fp K A1 A2 g)
    (hA : Rd W 1 As m (ints xs)) (hAl : 0 < m → ∀ g, blk As = some g → g < W.heap.size) (hAd : 0 < m → ∀ g, blk As = some g → ¬ Fp K A1 A2 g) (hB : B ≤ W.heap.size) (hl : L.length ≤ 5000) (hm : m ≤ 30) (hpl : p ≤ 9223372036854775807) (hql : q ≤ 9223372036854775807) :
    Calls Try.prog 10 #[.pointer (some ⟨K, 0, none⟩), .slice Al L.length c, .agg #[.int .i64 kd, .int .i64 p, .int .i64 q, .slice As m cs]] W (ActP W B K A1 A2 Al (L.length + m)) := by
  by_cases h0 : kd = 0
  · subst h0; exact act_put B K A1 A2 Al As c m cs L xs p q W hS hL hp hd hA hAl hAd hB hl hm
  by_cases h1 : kd = 1
  · subst h1; exact act_front B K A1 A2 Al As c m cs L xs p q W hS hL hp hd hA hAl hAd hB hl hm
  by_cases h2 : kd = 2
  · subst h2
    cases L with
    | nil => have := act_get0 B K A1 A2 Al As c m cs p q W hS hL hd; simpa using this
    | cons z L => exact act_get1 B K A1 A2 Al As c m cs z L p q W hS hL hp hd hB (by simp at hl; omega)
  by_cases h3 : kd = 3
  · subst h3; exact act_batch B K A1 A2 Al As c m cs L p q W hS hL hp hd hB hl hpl hql
  by_cases hg : p ∈ L
  · exact act_remove1 B K A1 A2 Al As c m cs L kd p q W (by omega) hS hL hp hd hl hB hg
  · exact act_remove0 B K A1 A2 Al As c m cs L kd p q W (by omega) hS hL hp hd hl hg
end Go.Proofs.Ytifflhombjljbaa
