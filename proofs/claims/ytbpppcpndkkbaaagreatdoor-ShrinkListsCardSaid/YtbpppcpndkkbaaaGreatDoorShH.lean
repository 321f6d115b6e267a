/- Contracts: the reference's Same over entries; entries that came in; what must come at any rate. -/
import Derived.Test.YtbpppcpndkkbaaaGreatDoorShG
import Derived.Test.YtbpppcpndkkbaaaGreatDoorShE
import Derived.Test.YtbpppcpndkkbaaaGreatDoorShape
namespace Go.Proofs.YtbpppcpndkkbaaaGreatDoor
open Go.ChangeShapes Go.WideShapes Go.ChangeAt Go.RowKit Go.Deep
set_option linter.unusedVariables false

set_option maxHeartbeats 2000000 in
theorem esame_yes (A D : Option Addr) (n m c d : Nat) (es : List (List Int)) (W : World) (hu : Uni 3 es) (hA : Rd W 3 A n (kv es)) (hD : Rd W 3 D m (kv es)) (hm : n ≤ 1048576) :
    Calls Tryz.prog 8 #[.slice A n c, .slice D m d] W fun e W' => e = .returned (.bool true) ∧ ∃ k, W' = W.drewN k := by
  have hn1 := hA.lenk hu (by decide)
  have hn2 := hD.lenk hu (by decide)
  obtain rfl : n = m := by omega
  go_enter Tryz.func8, Tryz.ntmps8
  go_wp2
  go_loopw [5] (fun i wr => (∃ k : Nat, k ≤ n ∧ i = .int .i64 k) ∧ ∃ q, wr = W.drewN q) (fun i _ => n - (intOf i).toNat)
  case atStart => exact ⟨⟨0, Nat.zero_le _, rfl⟩, 0, rfl⟩
  case round =>
    obtain ⟨⟨k, hk, rfl⟩, q, rfl⟩ := hrel
    by_cases hlt : k < n
    · obtain ⟨_, b, o, rfl, hb, hc⟩ := hA.getk hu (by decide) (by omega)
      obtain ⟨_, b', o', rfl, hb', hc'⟩ := hD.getk hu (by decide) (by omega)
      have hke : k < es.length := by omega
      have e0 := hc k hke 0 (by decide)
      have e1 := hc k hke 1 (by decide)
      have e2 := hc k hke 2 (by decide)
      have f0 := hc' k hke 0 (by decide)
      have f1 := hc' k hke 1 (by decide)
      have f2 := hc' k hke 2 (by decide)
      generalize (es[k]).getD 0 0 = z0 at *
      generalize (es[k]).getD 1 0 = z1 at *
      generalize (es[k]).getD 2 0 = z2 at *
      simp only [Nat.add_zero] at e0 f0
      rw [← Nat.add_assoc] at e1 e2 f1 f2
      have hi0 : (0 : Int) ≤ (k : Int) := by omega
      have hi1 : (k : Int) < (n : Int) := by omega
      clear hA hD hc hc' hke
      go_wp2
      go_quiet (fail)
      go_wp2
      go_roundw
      case rel => exact ⟨⟨k + 1, by omega, by go_num⟩, _, rfl⟩
      case measure => simp [intOf]; omega
    · go_wp2
      go_ret
      exact ⟨rfl, q, rfl⟩
abbrev ShE : Sh := .st (.cons (.int .i64) (.cons (.int .i64) (.cons (.int .i64) .nil)))
theorem Rd.of_blk {w : World} {G n : Nat} {t : TypeId} {es : List (List Int)} (h : Blk w G t (kv es).toArray) (hu : Uni 3 es) (hn : es.length = n) : Rd w 3 (some ⟨G, 0, none⟩) n (kv es) := by
  refine ⟨by rw [kv_length hu, hn], fun _ => ⟨G, 0, rfl, h.lt, fun j u hj => ?_⟩⟩
  rw [Nat.zero_add, h.cell]
  simpa using hj
theorem open_entries {w : World} {cs0 : List Value} {d0 : (Sh.sl ShE).Den} (h : Lies w (.sl ShE) cs0 d0) : ∃ A n c es, Sh.val (.sl ShE) cs0 = .slice A n c ∧ n ≤ c ∧ c ≤ maxLen ∧ Uni 3 es ∧ Rd w 3 A n (kv es) := by
  obtain ⟨A, c, rfl, h1, h2, h3⟩ := h
  obtain ⟨l, hl⟩ : ∃ l : List (Int × Int × Int × Unit), l = d0 := ⟨_, rfl⟩
  have hn : @List.length ShE.Den d0 = l.length := by rw [hl]; rfl
  rw [hn] at h1 h3 ⊢
  have hu : Uni 3 (l.map fun e => [e.1, e.2.1, e.2.2.1]) := by
    intro e he
    obtain ⟨x, _, rfl⟩ := List.mem_map.1 he
    rfl
  refine ⟨A, l.length, c, l.map fun e => [e.1, e.2.1, e.2.2.1], rfl, h1, h2, hu, ?_⟩
  refine ⟨by rw [kv_length hu, List.length_map], fun h0 => ?_⟩
  obtain ⟨b, o, rfl, hb, hel⟩ := h3 h0
  refine ⟨b, o, rfl, hb, fun j u hj => ?_⟩
  have hjl : j < l.length * 3 := by
    have := (List.getElem?_eq_some_iff.1 hj).1
    rwa [kv_length hu, List.length_map] at this
  have hi : j / 3 < l.length := by omega
  have hr : j % 3 < 3 := Nat.mod_lt _ (by decide)
  have hg := kv_get hu (j / 3) (j % 3) (by simpa using hi) hr
  rw [show j / 3 * 3 + j % 3 = j by omega, hj] at hg
  have he : (show List ShE.Den from d0)[j / 3]? = some l[j / 3] := by rw [← hl]; exact List.getElem?_eq_getElem hi
  obtain ⟨cs', g1, g2, g3⟩ := hel (j / 3) _ he
  obtain ⟨c1, r1, rfl, _, ⟨rfl, _⟩, c2, r2, rfl, _, ⟨rfl, _⟩, c4, r4, rfl, _, ⟨rfl, _⟩, hnil⟩ := g3
  have hcell : ∀ r, r < 3 → w.cell? ⟨b, o + j / 3 * 3 + r, none⟩ = some (.int .i64 ([l[j / 3].1, l[j / 3].2.1, l[j / 3].2.2.1].getD r 0))
    | 0, _ => g2 0 _ rfl
    | 1, _ => g2 1 _ rfl
    | 2, _ => g2 2 _ rfl
  have := hcell (j % 3) hr
  rw [Nat.add_assoc, show j / 3 * 3 + j % 3 = j by omega] at this
  rw [this, hg]
  simp
end Go.Proofs.YtbpppcpndkkbaaaGreatDoor
