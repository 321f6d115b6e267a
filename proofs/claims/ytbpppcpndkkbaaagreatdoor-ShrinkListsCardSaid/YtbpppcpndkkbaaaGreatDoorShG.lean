/- Contracts: the program's Without. -/
import Derived.Test.YtbpppcpndkkbaaaGreatDoorShF
import Derived.Test.YtbpppcpndkkbaaaGreatDoorShC
import Derived.Deep.RegionWith
namespace Go.Proofs.YtbpppcpndkkbaaaGreatDoor
open Go.ChangeShapes Go.WideShapes Go.ChangeAt Go.RowKit Go.Deep
set_option linter.unusedVariables false

theorem Rd.takeE {w : World} {A : Option Addr} {n k : Nat} {es : List (List Int)} (h : Rd w 3 A n (kv es)) (hu : Uni 3 es) (hk : k ≤ n) : Rd w 3 A k (kv (es.take k)) := by
  have hl := h.lenk hu (by decide)
  have e : kv es = kv (es.take k) ++ kv (es.drop k) := by rw [← kv_append, List.take_append_drop]
  refine ⟨?_, fun hp => ?_⟩
  · rw [kv_length (fun x hx => hu x (List.mem_of_mem_take hx)), List.length_take, Nat.min_eq_left (by omega)]
  · obtain ⟨b, o, e1, hb, hc⟩ := h.2 (by omega)
    refine ⟨b, o, e1, hb, fun j u hj => hc j u ?_⟩
    rw [e, List.getElem?_append_left (List.getElem?_eq_some_iff.1 hj).1]
    exact hj
theorem Rd.dropE {w : World} {b o n : Nat} {es : List (List Int)} (h : Rd w 3 (some ⟨b, o, none⟩) n (kv es)) (hu : Uni 3 es) : ∀ k, k ≤ n → Rd w 3 (some ⟨b, o + k * 3, none⟩) (n - k) (kv (es.drop k))
  | 0, _ => by simpa using h
  | k + 1, hk => by
    have ih := Rd.dropE h hu k (by omega)
    have := ih.tailE (fun x hx => hu x (List.mem_of_mem_drop hx)) (by omega) (some ⟨b, o + k * 3 + 3, none⟩) (fun _ => rfl)
    rw [List.drop_drop, Nat.sub_sub, Nat.add_assoc] at this
    rw [show (k + 1) * 3 = k * 3 + 3 by omega]
    exact this
theorem Rd.behindE {w : World} {A : Option Addr} {n k : Nat} {es : List (List Int)} (h : Rd w 3 A n (kv es)) (hu : Uni 3 es) (hk : k ≤ n) (B : Option Addr) (hB : 0 < n - k → ∃ b o, A = some ⟨b, o, none⟩ ∧ B = some ⟨b, o + k * 3, none⟩) : Rd w 3 B (n - k) (kv (es.drop k)) := by
  by_cases hp : 0 < n - k
  · obtain ⟨b, o, rfl, rfl⟩ := hB hp
    exact h.dropE hu k hk
  · have hl := h.lenk hu (by decide)
    have e : n - k = 0 := by omega
    rw [e, List.drop_of_length_le (by omega)]
    exact Rd.nil _ _ _
set_option maxHeartbeats 2000000 in
theorem without_any (A : Option Addr) (n c : Nat) (es : List (List Int)) (i : Int) (W : World) (hu : Uni 3 es) (hA : Rd W 3 A n (kv es)) (hm : n ≤ 1000) (hcn : n ≤ c) (hc0 : c ≤ maxLen) :
    Calls Tryz.prog 9 #[.slice A n c, .int .i64 i] W fun e W' => ∃ A' c', e = .returned (.slice A' (wo i es).length c') ∧ Row W' W.heap.size 47 3 A' (wo i es).length c' (kv (wo i es)) ∧ Chg (fun _ => False) W W' := by
  have hl := hA.lenk hu (by decide)
  by_cases hi : 0 ≤ i ∧ i < es.length
  · obtain ⟨j, rfl⟩ : ∃ j : Nat, i = j := ⟨i.toNat, by omega⟩
    have hwo : wo (j : Int) es = es.take j ++ es.drop (j + 1) := by
      rw [wo, if_pos hi, Int.toNat_natCast, List.eraseIdx_eq_take_drop_succ]
    have hlen : (wo (j : Int) es).length = j + (n - (j + 1)) := by rw [hwo]; simp; omega
    rw [hlen, hwo]
    obtain ⟨_, b, o, rfl, hb, hcc⟩ := hA.getk hu (by decide) (by omega)
    have i1 : ¬ (j : Int) < 0 := by omega
    have i2 : ¬ (n : Int) ≤ j := by omega
    have i3 : (0 : Int) ≤ j := by omega
    have i4 : (j : Int) < n := by omega
    have i5 : j < n := by omega
    have i6 : (j : Int) ≤ c := by omega
    have i7 : (j : Int) + 1 ≤ n := by omega
    have i8 : (n : Int) ≤ 1000 := by omega
    have hi7 : ((j : Int) + 1).toNat = j + 1 := by omega
    have hi8 : IntKind.i64.wrap ((j : Int) + 1) = (j : Int) + 1 := IntWalk.i64_in _ (by omega)
    have hi9 : (0 : Int) ≤ (j : Int) + 1 := by omega
    by_cases hck : c = j + 1
    · subst hck
      have hn1 : n - (j + 1) = 0 := by omega
      have hRd : Rd W 3 (some ⟨b, o, none⟩) 0 (kv (es.drop (j + 1))) := by
        have := hA.behindE (k := j + 1) hu (by omega) (some ⟨b, o, none⟩) (by omega)
        rwa [hn1] at this
      rw [hn1]
      have HC := Lib.hid (concat_two W.heap.size (some ⟨b, o, none⟩) (some ⟨b, o, none⟩) j (j + 1) 0 0 (es.take j) (es.drop (j + 1)) _ (Blk.new W 22 #[.slice (some ⟨b, o, none⟩) j (j + 1), .slice (some ⟨b, o, none⟩) 0 0]).drew ((hA.takeE hu (by omega)).alloc _).drew (hRd.alloc _).drew (by omega))
      clear hRd hi hwo hlen hcc hA hl
      go_enter Tryz.func9, Tryz.ntmps9
      go_wp2
      go_region_with (go_at_call 22; refine HC.out.mono ?_; rintro e w1 ⟨A3, c3, rfl, hr3, hc3⟩; have HX := Lib.hid hr3; have HY := Lib.hid hc3; clear hr3 hc3)
      all_goals
        go_simp
        go_wp2
        go_ret
        exact ⟨A3, c3, rfl, HX.out.lower (by simp), (((Chg.refl _ _).alloc _).drew).trans HY.out (fun _ _ h => h)⟩
    · have HC := Lib.hid (concat_two W.heap.size (some ⟨b, o, none⟩) (some ⟨b, o + (j + 1) * 3, none⟩) j c (n - (j + 1)) (c - (j + 1)) (es.take j) (es.drop (j + 1)) _ (Blk.new W 22 #[.slice (some ⟨b, o, none⟩) j c, .slice (some ⟨b, o + (j + 1) * 3, none⟩) (n - (j + 1)) (c - (j + 1))]).drew ((hA.takeE hu (by omega)).alloc _).drew ((hA.behindE hu (by omega) _ (fun _ => ⟨b, o, rfl, rfl⟩)).alloc _).drew (by omega))
      clear hi hwo hlen hcc hA hl
      go_enter Tryz.func9, Tryz.ntmps9
      go_wp2
      go_region_with (go_at_call 22; refine HC.out.mono ?_; rintro e w1 ⟨A3, c3, rfl, hr3, hc3⟩; have HX := Lib.hid hr3; have HY := Lib.hid hc3; clear hr3 hc3)
      all_goals
        go_simp
        go_wp2
        go_ret
        exact ⟨A3, c3, rfl, HX.out.lower (by simp), (((Chg.refl _ _).alloc _).drew).trans HY.out (fun _ _ h => h)⟩
  · have hwo : wo i es = es := by rw [wo, if_neg hi]
    rw [hwo, hl]
    have HC := Lib.hid (clone_e A n c es W hu hA (by omega))
    have hcs : i < 0 ∨ (¬ i < 0 ∧ (n : Int) ≤ i) := by omega
    clear hi hA hwo
    rcases hcs with h1 | ⟨h1, h2⟩
    all_goals
      go_enter Tryz.func9, Tryz.ntmps9
      go_wp2_with (go_at_call 21; refine HC.out.mono ?_; rintro e w1 ⟨A3, c3, rfl, hr3, hc3⟩; have HX := Lib.hid hr3; have HY := Lib.hid hc3; clear hr3 hc3)
      go_ret
      exact ⟨A3, c3, rfl, HX.out, HY.out⟩
end Go.Proofs.YtbpppcpndkkbaaaGreatDoor
