/- Any act, on the queue and on the list: Get. -/
import Derived.Test.YtifflhombjljbaaGlobK
namespace Go.Proofs.Ytifflhombjljbaa
open Go.ChangeShapes Go.WideShapes Go.ChangeAt Go.RowKit Go.Deep
set_option linter.unusedVariables false

theorem Ls.cut {w : World} {b o c k : Nat} {L : List Int} (h : Ls w (some ⟨b, o, none⟩) c L) (hk : k ≤ L.length) (Al' : Option Addr) (hA : Al' = if c = k then some ⟨b, o, none⟩ else some ⟨b, o + k, none⟩) : Ls w Al' (c - k) (L.drop k) ∧ ∀ g, blk Al' = some g → g = b := by
  obtain ⟨h1, h2, h3⟩ := h
  have hb : b < w.heap.size := by
    rcases h3 with ⟨h, _⟩ | ⟨b', o', h, hb⟩
    · cases h
    · cases h; exact hb
  subst hA
  have hr := h2.tail_ (k := k) (c := c) hk h1
  have hl : (L.drop k).length = L.length - k := by simp
  refine ⟨⟨by omega, by rw [hl]; exact hr, .inr ?_⟩, fun g hg => ?_⟩
  · split
    · exact ⟨b, o, rfl, hb⟩
    · exact ⟨b, o + k, rfl, hb⟩
  · split at hg <;> (simp at hg; omega)
set_option maxHeartbeats 4000000 in
theorem act_get0 (B K : Nat) (A1 A2 Al As : Option Addr) (c m cs : Nat) (p q : Int) (W : World) (hS : GQ W B K A1 A2 []) (hL : Ls W Al c []) (hd : ∀ g, blk Al = some g → ¬ Fp K A1 A2 g) :
    Calls Try.prog 10 #[.pointer (some ⟨K, 0, none⟩), .slice Al 0 c, .agg #[.int .i64 2, .int .i64 p, .int .i64 q, .slice As m cs]] W (ActP W B K A1 A2 Al m) := by
  have hc0 : Chg (fun _ => False) W (W.alloc (.cells #[.int .i64 2, .int .i64 p, .int .i64 q, .slice As m cs] 31)) := (Chg.refl _ _).alloc _
  have HG := Lib.hid (get_nil B K A1 A2 _ (hS.same hc0))
  have HE := Lib.hid (fun q : Nat => ActP.mk (Al := Al) (bound := m) (hc0.drewN q) (GAft.same (hS.same (hc0.drewN q)) (Chg.refl _ _)) (hL.same (hc0.drewN q)) (L' := []) (fun _ h => by cases h) (Nat.zero_le _) hd)
  clear hS hL hd hc0
  go_enter Try.func10, Try.ntmps10
  go_wp2_with (go_at_call 18; refine HG.out.mono ?_; rintro e w3 ⟨rfl, qq, rfl⟩)
  go_ret2
  exact HE.out qq
set_option maxHeartbeats 4000000 in
theorem act_get1 (B K : Nat) (A1 A2 Al As : Option Addr) (c m cs : Nat) (z : Int) (L : List Int) (p q : Int) (W : World) (hS : GQ W B K A1 A2 (z :: L)) (hL : Ls W Al c (z :: L)) (hp : Pos (z :: L)) (hd : ∀ g, blk Al = some g → ¬ Fp K A1 A2 g) (hB : B ≤ W.heap.size) (hl : L.length ≤ 5000) :
    Calls Try.prog 10 #[.pointer (some ⟨K, 0, none⟩), .slice Al (L.length + 1) c, .agg #[.int .i64 2, .int .i64 p, .int .i64 q, .slice As m cs]] W (ActP W B K A1 A2 Al (L.length + 1 + m)) := by
  have hc0 : Chg (fun _ => False) W (W.alloc (.cells #[.int .i64 2, .int .i64 p, .int .i64 q, .slice As m cs] 31)) := (Chg.refl _ _).alloc _
  have HG := Lib.hid (get_any B K A1 A2 z L _ (hS.same hc0) (Nat.le_trans hB hc0.size))
  obtain ⟨b, o, rfl, hb⟩ : ∃ b o, Al = some ⟨b, o, none⟩ ∧ b < W.heap.size := by
    rcases hL.2.2 with ⟨_, h, _⟩ | h
    · cases h
    · exact h
  have hcap := hL.1
  simp at hcap
  have key : ∀ w3, GAft (W.alloc (.cells #[.int .i64 2, .int .i64 p, .int .i64 q, .slice As m cs] 31)) w3 B K A1 A2 L → w3.cell? ⟨b, o, none⟩ = some (.int .i64 z) ∧
      ∀ (Al' : Option Addr) (k : Nat), (Al' = if c = 1 then some ⟨b, o, none⟩ else some ⟨b, o + 1, none⟩) → ActP W B K A1 A2 (some ⟨b, o, none⟩) (L.length + 1 + m) (.returned (.tuple #[.slice Al' L.length (c - 1), .bool true])) (w3.drewN k) := fun w3 ha => by
    obtain ⟨E1, E2, hq, hc, hf⟩ := id ha
    have hLs := (hL.same hc0).kept hc hd
    refine ⟨?_, fun Al' k hA => ?_⟩
    · obtain ⟨b', o', he, _, hcc⟩ := hLs.2.1.at_ (by simp)
      cases he
      exact hcc 0 (by simp)
    · obtain ⟨h1, h2⟩ := (hL.same hc0).cut (k := 1) (by simp) Al' hA
      have ha' : GAft (W.alloc (.cells #[.int .i64 2, .int .i64 p, .int .i64 q, .slice As m cs] 31)) (w3.drewN k) B K A1 A2 L := ha.trans (fun A1' A2' hq' => GAft.same hq' ((Chg.refl _ _).drewN k))
      exact ActP.mk (L' := L) hc0 ha' (by simpa using h1) (fun y hy => hp y (List.mem_cons_of_mem _ hy)) (by omega) (fun g hg => by rw [h2 g hg]; exact hd b rfl)
  have KEY := Lib.hid key
  have l1 : (1 : Int) ≤ (c : Int) := by omega
  have l2 : ((L.length : Int) + 1 == 0) = false := by simp; omega
  have l3 : (0 : Int) < (L.length : Int) + 1 := by omega
  clear hS hL hp hd hc0 key
  by_cases hc1 : c = 1
  · subst hc1
    obtain rfl : L = [] := List.eq_nil_of_length_eq_zero (by omega)
    clear hcap l3 l2
    have l2 : ((0 : Int) + 1 == 0) = false := by decide
    go_enter Try.func10, Try.ntmps10
    go_wp2_with (go_at_call 18; refine HG.out.mono ?_; rintro e w3 ⟨rfl, ha⟩; obtain ⟨k1, k2⟩ := KEY.out _ ha; have K2 := Lib.hid k2; clear ha k2)
    go_quiet (fail)
    go_wp2_with fail
    go_ret2
    exact K2.out (some ⟨b, o, none⟩) nq (by simp)
  · have hc2 : ¬ 1 = c := by omega
    go_enter Try.func10, Try.ntmps10
    go_wp2_with (go_at_call 18; refine HG.out.mono ?_; rintro e w3 ⟨rfl, ha⟩; obtain ⟨k1, k2⟩ := KEY.out _ ha; have K2 := Lib.hid k2; clear ha k2)
    go_quiet (fail)
    go_wp2_with fail
    go_ret2
    exact K2.out (some ⟨b, o + 1, none⟩) nq (by rw [if_neg hc1])
theorem Rd.pre {w : World} {A : Option Addr} {c k : Nat} {L : List Int} (h : Ls w A c L) (hk : k ≤ L.length) : Rd w 1 A k (ints (L.take k)) := h.2.1.take_ hk
theorem Ls.cut0 {w : World} {A : Option Addr} {c k : Nat} {L : List Int} (h : Ls w A c L) (hk : k ≤ L.length) (Al' : Option Addr) (hA : Al' = if c = k then A else A.map fun a => a.add k) : Ls w Al' (c - k) (L.drop k) ∧ ∀ g, blk Al' = some g → blk A = some g := by
  rcases id h.2.2 with ⟨rfl, rfl, rfl⟩ | ⟨b, o, rfl, hb⟩
  · have : k = 0 := by simpa using hk
    subst this
    rw [if_pos rfl] at hA
    subst hA
    exact ⟨by simpa using h, fun g hg => hg⟩
  · obtain ⟨h1, h2⟩ := h.cut hk Al' (by
      rw [hA]
      split
      · rfl
      · simp [Addr.add])
    exact ⟨h1, fun g hg => by rw [h2 g hg]; rfl⟩
set_option maxHeartbeats 4000000 in
theorem act_batch (B K : Nat) (A1 A2 Al As : Option Addr) (c m cs : Nat) (L : List Int) (p q : Int) (W : World) (hS : GQ W B K A1 A2 L) (hL : Ls W Al c L) (hp : Pos L) (hd : ∀ g, blk Al = some g → ¬ Fp K A1 A2 g) (hB : B ≤ W.heap.size) (hl : L.length ≤ 5000) (hpl : p ≤ 9223372036854775807) (hql : q ≤ 9223372036854775807) :
    Calls Try.prog 10 #[.pointer (some ⟨K, 0, none⟩), .slice Al L.length c, .agg #[.int .i64 3, .int .i64 p, .int .i64 q, .slice As m cs]] W (ActP W B K A1 A2 Al (L.length + m)) := by
  obtain ⟨W0, hW0⟩ : ∃ W0, W0 = W.alloc (.cells #[.int .i64 3, .int .i64 p, .int .i64 q, .slice As m cs] 31) := ⟨_, rfl⟩
  have hc0 : Chg (fun _ => False) W W0 := by rw [hW0]; exact (Chg.refl _ _).alloc _
  have hM := rmany_any L.length p q W0 (by omega) hpl hql
  obtain ⟨hm0, hm1⟩ := manyOf_le L.length p q
  have hBa := batch_any B K A1 A2 p q L W0.drew (hS.same (hc0.drew)) (Nat.le_trans hB hc0.size) hpl hql
  obtain ⟨k, hk⟩ : ∃ k : Nat, manyOf L.length p q = k := ⟨_, (Int.toNat_of_nonneg hm0).symm⟩
  rw [hk] at hM hm1 hBa
  simp only [Int.toNat_natCast] at hm1 hBa
  have hcap := hL.1
  have k1 : (k : Int) ≤ (L.length : Int) := by omega
  have k2 : (k : Int) ≤ (c : Int) := by omega
  have k0 : (0 : Int) ≤ (k : Int) := by omega
  have key : ∀ (w1 : World) (E1 E2 Ab : Option Addr) (cb : Nat), Row w1 W0.drew.heap.size 3 1 Ab k cb (ints (L.take k)) → GQ w1 B K E1 E2 (L.drop k) → Chg (Fp K A1 A2) W0.drew w1 → (∀ g, Fp K E1 E2 g → Fp K A1 A2 g ∨ W0.drew.heap.size ≤ g) →
      (∀ d2, Calls Try.prog 12 #[.slice Ab k cb, .slice Al k d2] w1 fun e W' => e = .returned (.bool true) ∧ ∃ k, W' = w1.drewN k) ∧
      ∀ (Al' : Option Addr) (qq n' c' : Nat), (Al' = if c = k then Al else Al.map fun a => a.add k) → n' = L.length - k → c' = c - k → ActP W B K A1 A2 Al (L.length + m) (.returned (.tuple #[.slice Al' n' c', .bool true])) (w1.drewN qq) := fun w1 E1 E2 Ab cb hr hq hc hf => by
    have hLs := (hL.same (hc0.drew)).kept hc hd
    refine ⟨fun d2 => same_yes Ab Al k k cb d2 (L.take k) w1 hr.rd (Rd.pre hLs hm1) (by omega), fun Al' qq n' c' hA hn' hc' => ?_⟩
    subst hn' hc'
    obtain ⟨h1, h2⟩ := (hL.same (hc0.drew)).cut0 hm1 Al' hA
    have hlen : (L.drop k).length = L.length - k := by simp
    rw [← hlen]
    refine ActP.mk (L' := L.drop k) (hc0.drew) ?_ h1 (fun y hy => hp y (List.mem_of_mem_drop hy)) (by omega) (fun g hg => hd g (h2 g hg))
    exact GAft.trans ⟨E1, E2, hq, hc, hf⟩ (fun A1' A2' hq' => GAft.same hq' ((Chg.refl _ _).drewN qq))
  have HM := Lib.hid hM
  have HBa := Lib.hid hBa
  have KEY := Lib.hid key
  have hnil := Lib.hid hL.2.2
  subst hW0
  clear hS hL hp hd hc0 key hBa hM hk
  by_cases hck : c = k
  · obtain rfl : k = L.length := by omega
    obtain rfl : c = L.length := hck
    clear k1 k2 hcap hm1
    go_enter Try.func10, Try.ntmps10
    go_wp2_with (go_at_call 15; refine HM.out.mono ?_; rintro e w3 ⟨rfl, rfl⟩)
    go_region_with (first
      | (go_at_call 17; ((with_reducible refine HBa.out.mono ?_)); rintro e w1 ⟨j, E1, E2, Ab, cb, hj, rfl, hrow, hq, hc, hf, hdd⟩; have hj2 := hj.symm; clear hj; subst hj2; obtain ⟨s1, s2⟩ := KEY.out w1 E1 E2 Ab cb hrow hq hc hf; have S1 := Lib.hid s1; have S2 := Lib.hid s2; clear s1 s2 hrow hq hc hf hdd)
      | (go_at_call 12; ((with_reducible refine (S1.out _).mono ?_)); rintro e w2 ⟨rfl, qq, rfl⟩))
    all_goals
      go_simp
      go_wp2_with fail
      go_ret2
      exact S2.out Al qq _ _ (by simp) (by simp) (by simp)
  · obtain ⟨b, o, rfl⟩ : ∃ b o, Al = some ⟨b, o, none⟩ := by
      rcases hnil.out with ⟨_, rfl, rfl⟩ | ⟨b, o, rfl, _⟩
      · exact absurd (by omega : 0 = k) hck
      · exact ⟨b, o, rfl⟩
    have hck2 : ¬ k = c := fun h => hck h.symm
    go_enter Try.func10, Try.ntmps10
    go_wp2_with (go_at_call 15; refine HM.out.mono ?_; rintro e w3 ⟨rfl, rfl⟩)
    go_region_with (first
      | (go_at_call 17; ((with_reducible refine HBa.out.mono ?_)); rintro e w1 ⟨j, E1, E2, Ab, cb, hj, rfl, hrow, hq, hc, hf, hdd⟩; have hj2 := hj.symm; clear hj; subst hj2; obtain ⟨s1, s2⟩ := KEY.out w1 E1 E2 Ab cb hrow hq hc hf; have S1 := Lib.hid s1; have S2 := Lib.hid s2; clear s1 s2 hrow hq hc hf hdd)
      | (go_at_call 12; ((with_reducible refine (S1.out _).mono ?_)); rintro e w2 ⟨rfl, qq, rfl⟩))
    all_goals
      go_simp
      go_wp2_with fail
      go_ret2
      exact S2.out (some ⟨b, o + k, none⟩) qq _ _ (by rw [if_neg hck]; simp [Addr.add]) (by simp) (by simp)
end Go.Proofs.Ytifflhombjljbaa
