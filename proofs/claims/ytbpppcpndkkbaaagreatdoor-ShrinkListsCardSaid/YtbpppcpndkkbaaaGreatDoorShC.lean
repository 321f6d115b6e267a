/- Contracts: the program's Sub. -/
import Derived.Test.YtbpppcpndkkbaaaGreatDoorShB
namespace Go.Proofs.YtbpppcpndkkbaaaGreatDoor
open Go.ChangeShapes Go.WideShapes Go.ChangeAt Go.RowKit Go.Deep
set_option linter.unusedVariables false

theorem kv_cons {e : List Int} {es : List (List Int)} : kv (e :: es) = ints e ++ kv es := by simp [kv, ints]
theorem Rd.tailE {w : World} {b o n : Nat} {es : List (List Int)} (h : Rd w 3 (some ⟨b, o, none⟩) n (kv es)) (hu : Uni 3 es) (hn : 0 < n) (A' : Option Addr) (hA : 0 < n - 1 → A' = some ⟨b, o + 3, none⟩) : Rd w 3 A' (n - 1) (kv (es.drop 1)) := by
  have hl := h.lenk hu (by decide)
  match es, hu, h, hl with
  | [], hu, h, hl => simp at hl; omega
  | e :: es, hu, h, hl =>
    have he := hu e (by simp)
    obtain ⟨b', o', e1, hb, hc⟩ := h.2 hn
    injection e1 with e1
    injection e1 with e1 e2
    subst e1 e2
    have hu' : Uni 3 es := fun x hx => hu x (List.mem_cons_of_mem _ hx)
    refine ⟨?_, fun hp => ⟨b, o + 3, hA hp, hb, fun j u hj => ?_⟩⟩
    · rw [List.drop_succ_cons, List.drop_zero, kv_length hu']
      simp at hl; rw [← hl]; rfl
    · rw [List.drop_succ_cons, List.drop_zero] at hj
      have := hc (3 + j) u (by rw [kv_cons, List.getElem?_append_right (by simp [he]), ints_length, he, Nat.add_sub_cancel_left]; exact hj)
      rwa [Nat.add_assoc]
def SubI (W : World) (a b : List (List Int)) (av iv : Value) (wr : World) : Prop :=
  ∃ (k m : Nat) (A' : Option Addr) (n' c' : Nat), k ≤ b.length ∧ iv = .int .i64 k ∧ av = .slice A' n' c' ∧ m = met a (b.take k) 0 ∧ n' = a.length - m ∧ n' ≤ c' ∧ c' ≤ maxLen ∧ Rd wr 3 A' n' (kv (a.drop m)) ∧ Chg (fun _ => False) W wr
theorem SubI.skip {W wr w' : World} {a b : List (List Int)} {k m n' c' : Nat} {A' : Option Addr} (hk : k < b.length) (hm : m = met a (b.take k) 0) (hn : n' = a.length - m) (hc : n' ≤ c') (hc2 : c' ≤ maxLen) (hr : Rd wr 3 A' n' (kv (a.drop m))) (hch : Chg (fun _ => False) W wr) (he : a[m]? ≠ some b[k]) (hw : Chg (fun _ => False) wr w') : SubI W a b (.slice A' n' c') (.int .i64 ((k : Int) + 1)) w' := by
  refine ⟨k + 1, m, A', n', c', by omega, by go_num, rfl, ?_, hn, hc, hc2, hr.kept hw (fun _ _ h => h), hch.trans hw (fun _ _ h => h)⟩
  rw [met_take hk, ← hm, if_neg he]
theorem SubI.step {W wr w' : World} {a b : List (List Int)} {k m n' c' b0 o0 : Nat} {A2 : Option Addr} (hu : Uni 3 a) (hk : k < b.length) (hm : m = met a (b.take k) 0) (hn : n' = a.length - m) (hc : n' ≤ c') (hc2 : c' ≤ maxLen) (hr : Rd wr 3 (some ⟨b0, o0, none⟩) n' (kv (a.drop m))) (hch : Chg (fun _ => False) W wr) (he : a[m]? = some b[k]) (hw : Chg (fun _ => False) wr w') (hA : 0 < n' - 1 → A2 = some ⟨b0, o0 + 3, none⟩) : SubI W a b (.slice A2 (n' - 1) (c' - 1)) (.int .i64 ((k : Int) + 1)) w' := by
  have hl := (List.getElem?_eq_some_iff.1 he).1
  have hr2 := hr.tailE (fun x hx => hu x (List.mem_of_mem_drop hx)) (by omega) A2 hA
  rw [List.drop_drop] at hr2
  refine ⟨k + 1, m + 1, A2, n' - 1, c' - 1, by omega, by go_num, rfl, ?_, by omega, by omega, by omega, hr2.kept hw (fun _ _ h => h), hch.trans hw (fun _ _ h => h)⟩
  rw [met_take hk, ← hm, if_pos he]
set_option maxHeartbeats 2000000 in
theorem sub_any (A D : Option Addr) (n m c d : Nat) (a b : List (List Int)) (W : World) (hua : Uni 3 a) (hub : Uni 3 b) (hA : Rd W 3 A n (kv a)) (hD : Rd W 3 D m (kv b)) (hn : n ≤ 1000) (hm : m ≤ 1000) (hcn : n ≤ c) (hc0 : c ≤ maxLen) :
    Calls Tryz.prog 11 #[.slice A n c, .slice D m d] W fun e W' => e = .returned (.bool (decide (met a b 0 = a.length))) ∧ Chg (fun _ => False) W W' := by
  have hl := hA.lenk hua (by decide)
  subst hl
  have hl := hD.lenk hub (by decide)
  subst hl
  go_enter Tryz.func11, Tryz.ntmps11
  go_wp2
  go_loopw [0, 9] (fun av iv wr => SubI W a b av iv wr) (fun _ iv _ => b.length - (intOf iv).toNat)
  case atStart => exact ⟨0, 0, A, a.length, c, Nat.zero_le _, rfl, rfl, rfl, rfl, hcn, hc0, by simpa using hA, Chg.refl _ _⟩
  case round =>
    obtain ⟨k, mm, A', n', c', hk, rfl, rfl, hmm, hn', hcc', hcm, hr, hc⟩ := hrel
    have k0 : (0 : Int) ≤ k := by omega
    have hle : mm ≤ a.length := by rw [hmm]; exact met_le a _ 0 (Nat.zero_le _)
    by_cases hlt : k < b.length
    · have k1 : (k : Int) < b.length := by omega
      obtain ⟨_, bD, oD, rfl, hbD, hcD⟩ := (hD.kept hc (fun _ _ h => h)).getk hub (by decide) (by omega)
      have f0 := hcD k hlt 0 (by decide)
      have f1 := hcD k hlt 1 (by decide)
      have f2 := hcD k hlt 2 (by decide)
      simp only [Nat.add_zero] at f0
      rw [← Nat.add_assoc] at f1 f2
      have hub3 := hub _ (List.getElem_mem hlt)
      by_cases hml : mm < a.length
      · have m1 : ¬ (n' : Int) = 0 := by omega
        have m2 : (0 : Int) < n' := by omega
        have hr0 := hr
        obtain ⟨_, bA, oA, rfl, hbA, hcA⟩ := hr.getk (fun x hx => hua x (List.mem_of_mem_drop hx)) (by decide) (by omega)
        have hdl : 0 < (a.drop mm).length := by simp; omega
        have e0 := hcA 0 hdl 0 (by decide)
        have e1 := hcA 0 hdl 1 (by decide)
        have e2 := hcA 0 hdl 2 (by decide)
        have hge : (a.drop mm)[0] = a[mm] := by simp
        rw [hge] at e0 e1 e2
        simp only [Nat.zero_mul, Nat.add_zero, Nat.zero_add] at e0 e1 e2
        have hgs : a[mm]? = some a[mm] := List.getElem?_eq_getElem hml
        have h3 := eq_three (hua _ (List.getElem_mem hml)) hub3
        have HY := Lib.hid (fun (w' : World) (A2 : Option Addr) (he : a[mm] = b[k]) => SubI.step (W := W) (wr := wr) (w' := w') (A2 := A2) hua hlt hmm hn' hcc' hcm hr0 hc (by rw [hgs, he]))
        have HN := Lib.hid (fun (w' : World) (he : a[mm] ≠ b[k]) => SubI.skip (W := W) (wr := wr) (w' := w') hlt hmm hn' hcc' hcm hr0 hc (by rw [hgs]; simpa using he))
        generalize a[mm] = ea at *
        generalize b[k] = eb at *
        generalize ea.getD 0 0 = z0 at *
        generalize ea.getD 1 0 = z1 at *
        generalize ea.getD 2 0 = z2 at *
        generalize eb.getD 0 0 = y0 at *
        generalize eb.getD 1 0 = y1 at *
        generalize eb.getD 2 0 = y2 at *
        have hd : decide (0 < n') = true := by simp; omega
        have hle1 : 1 ≤ n' := by omega
        clear hcA hcD hA hD hmm hr hr0 hge hgs hdl hn'
        by_cases heq : z0 = y0 ∧ z1 = y1 ∧ z2 = y2
        · have he := h3.2 heq
          obtain ⟨rfl, rfl, rfl⟩ := heq
          go_wp2
          go_quiet (fail)
          go_wp2
          go_roundw
          case rel => exact HY.out _ _ he ((((Chg.refl _ _).alloc _).drewN _)) (fun h => if_neg (by omega))
          case measure => simp [intOf]; omega
        · have he := fun h => heq (h3.1 h)
          have hcs : (z0 == y0) = false ∨ (z0 = y0 ∧ (z1 == y1) = false) ∨ (z0 = y0 ∧ z1 = y1 ∧ (z2 == y2) = false) := by
            by_cases q0 : z0 = y0
            · by_cases q1 : z1 = y1
              · exact .inr (.inr ⟨q0, q1, by simp; exact fun q2 => heq ⟨q0, q1, q2⟩⟩)
              · exact .inr (.inl ⟨q0, by simpa using q1⟩)
            · exact .inl (by simpa using q0)
          clear heq h3
          rcases hcs with q | ⟨rfl, q⟩ | ⟨rfl, rfl, q⟩
          all_goals
            go_wp2
            go_quiet (fail)
            go_wp2
            go_roundw
            case rel => exact HN.out _ he ((((Chg.refl _ _).alloc _).drewN _))
            case measure => simp [intOf]; omega
      · have hd : decide (0 < n') = false := by simp; omega
        have m2 : ¬ (0 : Int) < n' := by omega
        have m3 : n' = 0 := by omega
        have HN := Lib.hid (fun (w' : World) => SubI.skip (W := W) (wr := wr) (w' := w') hlt hmm hn' hcc' hcm hr hc (by rw [List.getElem?_eq_none (by omega)]; simp))
        generalize (b[k]).getD 0 0 = y0 at *
        generalize (b[k]).getD 1 0 = y1 at *
        generalize (b[k]).getD 2 0 = y2 at *
        clear hcD hA hD hmm hr hn' hub3
        subst m3
        go_wp2
        go_quiet (fail)
        go_wp2
        go_roundw
        case rel => exact HN.out _ ((((Chg.refl _ _).alloc _).drewN _))
        case measure => simp [intOf]; omega
    · obtain rfl : k = b.length := by omega
      rw [List.take_length] at hmm
      go_wp2
      go_ret
      exact ⟨ret_bool (by rw [Bool.eq_iff_iff]; simp; omega), hc⟩
end Go.Proofs.YtbpppcpndkkbaaaGreatDoor
