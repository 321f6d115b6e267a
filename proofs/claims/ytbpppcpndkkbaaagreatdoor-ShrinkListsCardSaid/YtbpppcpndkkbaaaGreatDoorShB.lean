/- Contracts: is a list within another one? -/
import Derived.Test.YtbpppcpndkkbaaaGreatDoorShA
namespace Go.Proofs.YtbpppcpndkkbaaaGreatDoor
open Go.ChangeShapes Go.WideShapes Go.ChangeAt Go.RowKit Go.Deep
set_option linter.unusedVariables false

/-- How many of the first list's front are met in the second list. -/
def met (a : List (List Int)) : List (List Int) → Nat → Nat
  | [], k => k
  | x :: r, k => met a r (if a[k]? = some x then k + 1 else k)
theorem met_snoc (a : List (List Int)) (x : List Int) : ∀ (l : List (List Int)) (k : Nat), met a (l ++ [x]) k = if a[met a l k]? = some x then met a l k + 1 else met a l k
  | [], k => rfl
  | y :: r, k => by rw [List.cons_append, met, met, met_snoc a x r]
theorem met_le (a : List (List Int)) : ∀ (l : List (List Int)) (k : Nat), k ≤ a.length → met a l k ≤ a.length
  | [], k, h => h
  | y :: r, k, h => by
    rw [met]
    refine met_le a r _ ?_
    split
    · rename_i h1
      have := (List.getElem?_eq_some_iff.1 h1).1
      omega
    · exact h
theorem met_full (a : List (List Int)) : ∀ (l : List (List Int)), met a l a.length = a.length
  | [] => rfl
  | y :: r => by rw [met, if_neg (by simp)]; exact met_full a r
theorem met_take {a b : List (List Int)} {k : Nat} (hk : k < b.length) : met a (b.take (k + 1)) 0 = if a[met a (b.take k) 0]? = some b[k] then met a (b.take k) 0 + 1 else met a (b.take k) 0 := by
  rw [List.take_succ_eq_append_getElem hk, met_snoc]
theorem met_stop {a b : List (List Int)} {k : Nat} (hk : met a (b.take k) 0 = a.length) : met a b 0 = a.length := by
  have h : ∀ (l r : List (List Int)) (n : Nat), met a l n = a.length → met a (l ++ r) n = a.length := by
    intro l
    induction l with
    | nil => intro r n hn; rw [met] at hn; subst hn; exact met_full a r
    | cons x l ih => intro r n hn; rw [met] at hn; rw [List.cons_append, met]; exact ih r _ hn
  have := h _ (b.drop k) 0 hk
  rwa [List.take_append_drop] at this
theorem eq_three {e f : List Int} (he : e.length = 3) (hf : f.length = 3) : e = f ↔ e.getD 0 0 = f.getD 0 0 ∧ e.getD 1 0 = f.getD 1 0 ∧ e.getD 2 0 = f.getD 2 0 := by
  match e, f, he, hf with
  | [a, b, c], [x, y, z], _, _ => simp
def SubR (W : World) (a b : List (List Int)) (mv iv : Value) (wr : World) : Prop :=
  ∃ (k m : Nat), k ≤ b.length ∧ iv = .int .i64 k ∧ mv = .int .i64 m ∧ m = met a (b.take k) 0 ∧ Chg (fun _ => False) W wr
theorem SubR.yes {W wr w' : World} {a b : List (List Int)} {k m : Nat} (hk : k < b.length) (hm : m = met a (b.take k) 0) (hl : m < a.length) (he : a[m] = b[k]) (hc : Chg (fun _ => False) W w') : SubR W a b (.int .i64 ((m : Int) + 1)) (.int .i64 ((k : Int) + 1)) w' := by
  refine ⟨k + 1, m + 1, by omega, by go_num, by go_num, ?_, hc⟩
  rw [met_take hk, ← hm, if_pos (by rw [List.getElem?_eq_getElem hl, he])]
theorem SubR.no {W wr w' : World} {a b : List (List Int)} {k m : Nat} (hk : k < b.length) (hm : m = met a (b.take k) 0) (hl : m < a.length) (he : a[m] ≠ b[k]) (hc : Chg (fun _ => False) W w') : SubR W a b (.int .i64 m) (.int .i64 ((k : Int) + 1)) w' := by
  refine ⟨k + 1, m, by omega, by go_num, rfl, ?_, hc⟩
  rw [met_take hk, ← hm, if_neg (by rw [List.getElem?_eq_getElem hl]; simpa using he)]
set_option maxHeartbeats 2000000 in
theorem refSub_any (A D : Option Addr) (n m c d : Nat) (a b : List (List Int)) (W : World) (hua : Uni 3 a) (hub : Uni 3 b) (hA : Rd W 3 A n (kv a)) (hD : Rd W 3 D m (kv b)) (hn : n ≤ 1000) (hm : m ≤ 1000) :
    Calls Tryz.prog 12 #[.slice A n c, .slice D m d] W fun e W' => e = .returned (.bool (decide (met a b 0 = a.length))) ∧ Chg (fun _ => False) W W' := by
  have hl := hA.lenk hua (by decide)
  subst hl
  have hl := hD.lenk hub (by decide)
  subst hl
  go_enter Tryz.func12, Tryz.ntmps12
  go_wp2
  go_loopw [5, 6] (fun mv iv wr => SubR W a b mv iv wr) (fun _ iv _ => b.length - (intOf iv).toNat)
  case atStart => exact ⟨0, 0, Nat.zero_le _, rfl, rfl, rfl, Chg.refl _ _⟩
  case round =>
    obtain ⟨k, mm, hk, rfl, rfl, hmm, hc⟩ := hrel
    have k0 : (0 : Int) ≤ k := by omega
    have m0 : (0 : Int) ≤ mm := by omega
    have hle : mm ≤ a.length := by rw [hmm]; exact met_le a _ 0 (Nat.zero_le _)
    by_cases hlt : k < b.length
    · have k1 : (k : Int) < b.length := by omega
      by_cases hml : mm < a.length
      · have m1 : (mm : Int) < a.length := by omega
        obtain ⟨_, bA, oA, rfl, hbA, hcA⟩ := (hA.kept hc (fun _ _ h => h)).getk hua (by decide) (by omega)
        obtain ⟨_, bD, oD, rfl, hbD, hcD⟩ := (hD.kept hc (fun _ _ h => h)).getk hub (by decide) (by omega)
        have e0 := hcA mm hml 0 (by decide)
        have e1 := hcA mm hml 1 (by decide)
        have e2 := hcA mm hml 2 (by decide)
        have f0 := hcD k hlt 0 (by decide)
        have f1 := hcD k hlt 1 (by decide)
        have f2 := hcD k hlt 2 (by decide)
        simp only [Nat.add_zero] at e0 f0
        rw [← Nat.add_assoc] at e1 e2 f1 f2
        have h3 := eq_three (hua _ (List.getElem_mem hml)) (hub _ (List.getElem_mem hlt))
        have HY := Lib.hid (fun (w' : World) => SubR.yes (W := W) (wr := wr) (w' := w') hlt hmm hml)
        have HN := Lib.hid (fun (w' : World) => SubR.no (W := W) (wr := wr) (w' := w') hlt hmm hml)
        generalize a[mm] = ea at *
        generalize b[k] = eb at *
        generalize ea.getD 0 0 = z0 at *
        generalize ea.getD 1 0 = z1 at *
        generalize ea.getD 2 0 = z2 at *
        generalize eb.getD 0 0 = y0 at *
        generalize eb.getD 1 0 = y1 at *
        generalize eb.getD 2 0 = y2 at *
        clear hcA hcD hA hD hmm
        by_cases heq : z0 = y0 ∧ z1 = y1 ∧ z2 = y2
        · have he := h3.2 heq
          obtain ⟨rfl, rfl, rfl⟩ := heq
          go_wp2
          go_quiet (fail)
          go_wp2
          go_roundw
          case rel => exact HY.out _ he (hc.drewN _)
          case measure => simp [intOf]; omega
        · have he := fun h => heq (h3.1 h)
          have hcs : (z0 == y0) = false ∨ (z0 = y0 ∧ (z1 == y1) = false) ∨ (z0 = y0 ∧ z1 = y1 ∧ (z2 == y2) = false) := by
            by_cases q0 : z0 = y0
            · by_cases q1 : z1 = y1
              · exact .inr (.inr ⟨q0, q1, by simp; exact fun q2 => heq ⟨q0, q1, q2⟩⟩)
              · exact .inr (.inl ⟨q0, by simpa using q1⟩)
            · exact .inl (by simpa using q0)
          clear heq h3
          rcases hcs with q | ⟨rfl, q⟩ | ⟨rfl, rfl, q⟩
          all_goals
            go_wp2
            go_quiet (fail)
            go_wp2
            go_roundw
            case rel => exact HN.out _ he (hc.drewN _)
            case measure => simp [intOf]; omega
      · have m1 : ¬ (mm : Int) < a.length := by omega
        have hfin : met a b 0 = a.length := met_stop (k := k) (by omega)
        go_wp2
        go_ret
        exact ⟨ret_bool (by rw [Bool.eq_iff_iff]; simp; omega), hc⟩
    · obtain rfl : k = b.length := by omega
      rw [List.take_length] at hmm
      go_wp2
      go_ret
      exact ⟨ret_bool (by rw [Bool.eq_iff_iff]; simp; omega), hc⟩
end Go.Proofs.YtbpppcpndkkbaaaGreatDoor
