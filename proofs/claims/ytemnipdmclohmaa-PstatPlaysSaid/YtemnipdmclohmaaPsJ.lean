/- The document's answer to any act of the first six kinds. -/
import Derived.Test.YtemnipdmclohmaaPsI
namespace Go.Proofs.Ytemnipdmclohmaa
open Go.ChangeShapes Go.WideShapes Go.ChangeAt Go.RowKit Go.Deep
set_option linter.unusedVariables false

theorem do_any (base : Nat) (B : Option Addr) (c : Nat) (kd p m : Int) (qs : List (Int × Int)) (W : World) (hX : Xl W base B c qs) (hB : base ≤ W.heap.size) (hl : qs.length ≤ 256) (hI : Inv qs) (h0 : 0 ≤ kd) (h6 : kd < 6) :
    Calls Try.prog 9 #[.slice B qs.length c, .agg #[.int .i64 kd, .int .i64 p, .int .i64 m]] W (DoP base W (pact qs kd p m)) := by
  by_cases hp : p < 0 ∨ (qs.length : Int) ≤ p
  · have e : pact qs kd p m = (qs, 8) := by
      unfold pact
      simp only [chg_off _ _ _ _ _ hp]
      repeat' (first | rfl | split)
    rw [e]
    exact do_off base B c kd p m qs W hX hl (by omega) hp
  · obtain ⟨k, rfl⟩ : ∃ k : Nat, p = k := ⟨p.toNat, by omega⟩
    have hk : k < qs.length := by omega
    have hq0 := hI qs[k] (List.getElem_mem _)
    obtain ⟨⟨a, b⟩, hq⟩ : ∃ q, qs[k] = q := ⟨_, rfl⟩
    rw [hq] at hq0
    simp only [Inv1] at hq0
    obtain ⟨g1, g2, g3, g4, g5⟩ := hq0
    have hkd : kd = 0 ∨ kd = 1 ∨ kd = 2 ∨ kd = 3 ∨ kd = 4 ∨ kd = 5 := by omega
    rcases hkd with rfl | rfl | rfl | rfl | rfl | rfl
    · rw [show pact qs 0 k m = chg qs k m okIdle (fun _ => (1, m)) from rfl]
      by_cases hm : m < 0 ∨ 64 ≤ m
      · rw [chg_rng _ _ _ _ _ hk hm]
        exact do_rng0 base B c k m qs W hX hl hk hm
      · rw [chg_in _ _ _ _ _ hk (by omega) (by omega), hq]
        by_cases ha : a = 0
        · have hb := g5 ha
          subst ha hb
          rw [if_pos (by decide)]
          exact do_0a base B c k (-1) m qs W hX hB hl hk hq (by omega) (by omega)
        · rw [if_neg (by simp [okIdle, ha])]
          exact do_0b base B c k a b m qs W hX hB hl hk hq (by omega) (by omega) ha
    · rw [show pact qs 1 k m = chg qs k 0 okRun (fun q => (2, q.2)) from rfl, chg_in _ _ _ _ _ hk (by omega) (by omega), hq]
      by_cases ha : a = 1
      · subst ha
        rw [if_pos (by simp [okRun])]
        exact do_1a base B c k b m qs W hX hB hl hk hq
      · rw [if_neg (by simp [okRun, ha])]
        exact do_1b base B c k a b m qs W hX hB hl hk hq ha
    · rw [show pact qs 2 k m = chg qs k m (okIts m) (fun _ => (1, m)) from rfl]
      by_cases hm : m < 0 ∨ 64 ≤ m
      · rw [chg_rng _ _ _ _ _ hk hm]
        exact do_rng2 base B c k m qs W hX hl hk hm
      · rw [chg_in _ _ _ _ _ hk (by omega) (by omega), hq]
        by_cases ha : a = 2
        · subst ha
          by_cases hb : b = m
          · subst hb
            rw [if_pos (by simp [okIts])]
            exact do_2a base B c k b qs W hX hB hl hk hq (by omega) (by omega)
          · rw [if_neg (by simp [okIts, hb])]
            exact do_2b base B c k b m qs W hX hB hl hk hq (by omega) (by omega) hb
        · rw [if_neg (by simp [okIts, ha])]
          exact do_2c base B c k a b m qs W hX hB hl hk hq (by omega) (by omega) ha
    · rw [show pact qs 3 k m = chg qs k 0 okRun (fun _ => (0, -1)) from rfl, chg_in _ _ _ _ _ hk (by omega) (by omega), hq]
      by_cases ha : a = 1
      · subst ha
        rw [if_pos (by simp [okRun])]
        exact do_3a base B c k b m qs W hX hB hl hk hq
      · rw [if_neg (by simp [okRun, ha])]
        exact do_3b base B c k a b m qs W hX hB hl hk hq ha
    · rw [show pact qs 4 k m = chg qs k 0 okMay nxStop from rfl, chg_in _ _ _ _ _ hk (by omega) (by omega), hq]
      by_cases ha : a = 2
      · subst ha
        rw [if_pos (by simp [okMay]), show nxStop (2, b) = (3, -1) from rfl]
        exact do_4a base B c k b m qs W hX hB hl hk hq
      · by_cases ha0 : a = 0
        · subst ha0
          rw [if_pos (by simp [okMay]), show nxStop (0, b) = (3, b) from rfl]
          exact do_4b base B c k b m qs W hX hB hl hk hq
        · by_cases ha1 : a = 1
          · subst ha1
            rw [if_pos (by simp [okMay]), show nxStop (1, b) = (3, b) from rfl]
            exact do_4c base B c k b m qs W hX hB hl hk hq
          · rw [if_neg (by simp [okMay, ha, ha0, ha1])]
            exact do_4d base B c k a b m qs W hX hB hl hk hq ha ha0 ha1
    · rw [show pact qs 5 k m = chg qs k 0 okStand nxGo from rfl, chg_in _ _ _ _ _ hk (by omega) (by omega), hq]
      by_cases ha : a = 3
      · subst ha
        rw [if_pos (by simp [okStand])]
        by_cases hb : b < 0
        · have hb1 : b = -1 := by omega
          rw [show nxGo (3, b) = (0, -1) by simp [nxGo, hb1]]
          exact do_5a base B c k b m qs W hX hB hl hk hq hb
        · rw [show nxGo (3, b) = (1, b) by simp [nxGo]; omega]
          exact do_5b base B c k b m qs W hX hB hl hk hq hb
      · rw [if_neg (by simp [okStand, ha])]
        exact do_5c base B c k a b m qs W hX hB hl hk hq ha
end Go.Proofs.Ytemnipdmclohmaa
