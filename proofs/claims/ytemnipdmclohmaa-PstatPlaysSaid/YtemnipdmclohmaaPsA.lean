/- Processors' statuses: rows of pairs; a change of one of them. -/
import Derived.Test.YtemnipdmclohmaaRowz
import Derived.Handy
import Derived.BigRegion
import Derived.Deep.RegionHeld3
import Derived.Deep.QuietTactic
import Derived.BigQuiet
namespace Go.Proofs.Ytemnipdmclohmaa
open Go.ChangeShapes Go.WideShapes Go.ChangeAt Go.RowKit Go.Deep
set_option linter.unusedVariables false

theorem Chg.pre {S : Nat → Prop} {w w1 w' : World} (h : Chg (fun _ => False) w w1) (h' : Chg S w1 w') : Chg S w w' := (h.mono (fun _ _ hh => hh.elim)).trans h' (fun _ _ hh => hh)
/-- The cells of pairs. -/
def pv (ps : List (Int × Int)) : List Value := ps.flatMap fun q => [.int .i64 q.1, .int .i64 q.2]
@[simp] theorem pv_length (ps : List (Int × Int)) : (pv ps).length = ps.length * 2 := by
  induction ps with
  | nil => rfl
  | cons q ps ih => simp [pv] at ih ⊢; omega
theorem pv_append (a b : List (Int × Int)) : pv (a ++ b) = pv a ++ pv b := by simp [pv]
theorem pv_cons (q : Int × Int) (ps : List (Int × Int)) : pv (q :: ps) = .int .i64 q.1 :: .int .i64 q.2 :: pv ps := rfl
theorem pv_one (ps : List (Int × Int)) : ∀ u ∈ pv ps, u.oneCell' = true := by
  intro u hu
  simp only [pv, List.mem_flatMap, List.mem_cons, List.not_mem_nil, or_false] at hu
  obtain ⟨q, _, rfl | rfl⟩ := hu <;> rfl
theorem pv_get : ∀ (ps : List (Int × Int)) (k : Nat) (hk : k < ps.length), (pv ps)[k * 2]? = some (.int .i64 ps[k].1) ∧ (pv ps)[k * 2 + 1]? = some (.int .i64 ps[k].2)
  | [], k, hk => absurd hk (by simp)
  | q :: ps, 0, hk => by simp [pv_cons]
  | q :: ps, k + 1, hk => by
    have := pv_get ps k (by simpa using hk)
    rw [pv_cons, show (k + 1) * 2 = k * 2 + 1 + 1 by omega]
    simpa using this
theorem pv_set : ∀ (ps : List (Int × Int)) (k : Nat) (a b : Int), ((pv ps).set (k * 2) (.int .i64 a)).set (k * 2 + 1) (.int .i64 b) = pv (ps.set k (a, b))
  | [], k, a, b => by simp [pv]
  | q :: ps, 0, a, b => by simp [pv_cons]
  | q :: ps, k + 1, a, b => by
    have := pv_set ps k a b
    rw [pv_cons, show (k + 1) * 2 = k * 2 + 1 + 1 by omega]
    simp only [List.set_cons_succ, pv_cons]
    rw [this]
theorem Row.open2 {w : World} {base n c : Nat} {E : TypeId} {A : Option Addr} {ps : List (Int × Int)} (h : Row w base E 2 A n c (pv ps)) (hn : 0 < n) :
    ∃ g, A = some ⟨g, 0, none⟩ ∧ base ≤ g ∧ g < w.heap.size ∧ (∀ k (hk : k < ps.length), w.cell? ⟨g, k * 2, none⟩ = some (.int .i64 ps[k].1) ∧ w.cell? ⟨g, k * 2 + 1, none⟩ = some (.int .i64 ps[k].2)) ∧ (∀ k, w.frozen? ⟨g, k, none⟩ = false) ∧
      ∀ k a b, Row ((w.setCell ⟨g, k * 2, none⟩ (.int .i64 a)).setCell ⟨g, k * 2 + 1, none⟩ (.int .i64 b)) base E 2 (some ⟨g, 0, none⟩) n c (pv (ps.set k (a, b))) := by
  have hl : ps.length = n := by have := h.1; simp at this; omega
  rcases h.2.2.2 with ⟨_, h0, _⟩ | ⟨g, cur, rfl, hb, hg, hcs, ht⟩
  · omega
  · have hget : ∀ j u, (pv ps)[j]? = some u → w.cell? ⟨g, j, none⟩ = some u := fun j u hu => by
      rw [hg.cell j]
      rw [← ht, List.getElem?_take] at hu
      split at hu
      · rw [← Array.getElem?_toList]; exact hu
      · cases hu
    refine ⟨g, rfl, hb, hg.lt, fun k hk => ⟨hget _ _ (pv_get ps k hk).1, hget _ _ (pv_get ps k hk).2⟩, hg.frozen, fun k a b => ⟨by simp [hl], h.2.1, h.2.2.1, .inr ⟨g, _, rfl, hb, (hg.set_ (k * 2) (.int .i64 a)).set_ (k * 2 + 1) (.int .i64 b), by simpa using hcs, ?_⟩⟩⟩
    rw [Array.toList_setIfInBounds, Array.toList_setIfInBounds, List.take_set, List.take_set, ht, pv_set]

/-- A table in block T: its row at A: the processors ps. -/
def Tb (w : World) (base T : Nat) (A : Option Addr) (ps : List (Int × Int)) : Prop :=
  base ≤ T ∧ ∃ c, Blk w T 46 #[.slice A ps.length c] ∧ Row w base 48 2 A ps.length c (pv ps) ∧ ps.length ≤ 256
def TA (W W' : World) (base T : Nat) (A : Option Addr) (ps : List (Int × Int)) : Prop :=
  ∃ A', Tb W' base T A' ps ∧ Chg (fun x => x = T ∨ blk A = some x) W W' ∧ ∀ g, blk A' = some g → blk A = some g ∨ W.heap.size ≤ g
section
variable {S : Nat → Prop} {w w' W : World} {base T : Nat} {A : Option Addr} {ps : List (Int × Int)}
theorem Tb.kept (h : Tb w base T A ps) (hc : Chg S w w') (h1 : ¬ S T) (h2 : ∀ g, blk A = some g → ¬ S g) : Tb w' base T A ps := by
  obtain ⟨hb, c, hB, hR, hl⟩ := h
  exact ⟨hb, c, hB.kept hc h1, hR.kept hc h2, hl⟩
theorem Tb.same (h : Tb w base T A ps) (hc : Chg (fun _ => False) w w') : Tb w' base T A ps := h.kept hc (fun h => h) (fun _ _ h => h)
theorem Tb.lt (h : Tb w base T A ps) : T < w.heap.size := by obtain ⟨_, c, hB, _⟩ := h; exact hB.lt
theorem Tb.len (h : Tb w base T A ps) : ps.length ≤ 256 := by obtain ⟨_, c, hB, _, hl⟩ := h; exact hl
theorem Tb.row (h : Tb w base T A ps) : ∃ c, w.cell? ⟨T, 0, none⟩ = some (.slice A ps.length c) := by
  obtain ⟨_, c, hB, _⟩ := h
  exact ⟨c, by rw [hB.cell]; rfl⟩
theorem TA.same (h : Tb w base T A ps) (hc : Chg (fun _ => False) w w') : TA w w' base T A ps := ⟨A, h.same hc, hc.mono (fun _ _ h => h.elim), fun g hg => .inl hg⟩
/-- What stands at a place of a table. -/
theorem Tb.at_ (h : Tb w base T A ps) {k : Nat} (hk : k < ps.length) : ∃ g c, A = some ⟨g, 0, none⟩ ∧ g ≠ T ∧ g < w.heap.size ∧ w.cell? ⟨T, 0, none⟩ = some (.slice (some ⟨g, 0, none⟩) ps.length c) ∧ w.cell? ⟨g, k * 2, none⟩ = some (.int .i64 ps[k].1) ∧ w.cell? ⟨g, k * 2 + 1, none⟩ = some (.int .i64 ps[k].2) ∧ w.frozen? ⟨g, k * 2, none⟩ = false ∧ w.frozen? ⟨g, k * 2 + 1, none⟩ = false := by
  obtain ⟨hb, c, hB, hR, hl⟩ := h
  obtain ⟨g, rfl, hg, hg', hc, hf, _⟩ := hR.open2 (by omega)
  refine ⟨g, c, rfl, ?_, hg', by rw [hB.cell]; rfl, (hc k hk).1, (hc k hk).2, hf _, hf _⟩
  have := hR.blk_ne hB (by decide)
  simpa using this
theorem Tb.set_ (h : Tb w base T A ps) {k g : Nat} (hA : A = some ⟨g, 0, none⟩) (hk : k < ps.length) (a b : Int) : TA w ((w.setCell ⟨g, k * 2, none⟩ (.int .i64 a)).setCell ⟨g, k * 2 + 1, none⟩ (.int .i64 b)) base T A (ps.set k (a, b)) := by
  subst hA
  obtain ⟨hb, c, hB, hR, hl⟩ := h
  have hne := hR.blk_ne hB (by decide)
  obtain ⟨g', e, hg, hg', hc, hf, hs⟩ := hR.open2 (by omega)
  cases e
  have hne' : T ≠ g := by intro e; apply hne; simp [e]
  refine ⟨some ⟨g, 0, none⟩, ⟨hb, c, ?_, ?_, by rw [List.length_set]; exact hl⟩, ((Chg.refl (fun x => x = T ∨ blk (some ⟨g, 0, none⟩) = some x) w).setCell (p := ⟨g, k * 2, none⟩) (.inl (.inr rfl)) (.int .i64 a)).setCell (p := ⟨g, k * 2 + 1, none⟩) (.inl (.inr rfl)) (.int .i64 b), fun x hx => .inl hx⟩
  · rw [List.length_set]
    exact (hB.far (p := ⟨g, k * 2, none⟩) hne' (.int .i64 a)).far (p := ⟨g, k * 2 + 1, none⟩) hne' (.int .i64 b)
  · rw [List.length_set]
    exact hs k a b
end
theorem TA.pre {w w1 w' : World} {base T : Nat} {A : Option Addr} {ps : List (Int × Int)} (hc : Chg (fun _ => False) w w1) (h : TA w1 w' base T A ps) : TA w w' base T A ps := by
  obtain ⟨A', h1, h2, h3⟩ := h
  exact ⟨A', h1, Chg.pre hc h2, fun g hg => (h3 g hg).imp id (fun h => Nat.le_trans hc.size h)⟩
theorem TA.drewN {w w' : World} {base T : Nat} {A : Option Addr} {ps : List (Int × Int)} (h : TA w w' base T A ps) (n : Nat) : TA w (w'.drewN n) base T A ps := by
  obtain ⟨A', h1, h2, h3⟩ := h
  exact ⟨A', h1, h2.drewN n, h3⟩

set_option maxHeartbeats 2000000 in
theorem change_bad (base T k K1 : Nat) (A : Option Addr) (caps1 : Array Value) (then_ : Value) (m : Int) (ps : List (Int × Int)) (W : World) (hT : Tb W base T A ps) (hk : k < ps.length) (hm0 : 0 ≤ m) (hm1 : m < 64)
    (hrun : ∀ args W, (callFunc K1 args).run Try.prog W = .ok (.enter K1 args) W)
    (hmust : Calls Try.prog K1 (#[.agg #[.int .i64 ps[k].1, .int .i64 ps[k].2]] ++ caps1) W fun e W1 => e = .returned (.bool false) ∧ Chg (fun _ => False) W W1) :
    Calls Try.prog 28 #[.pointer (some ⟨T, 0, none⟩), .int .i64 k, .int .i64 m, .func (.func K1) #[] caps1, then_] W fun e W' => e = .returned (.int .i64 9) ∧ Chg (fun _ => False) W W' := by
  obtain ⟨g, c, rfl, hgT, hgl, t0, t1, t2, f1, f2⟩ := hT.at_ hk
  have HM := Lib.hid hmust
  clear hmust
  generalize ps[k].1 = a at t1 HM
  generalize ps[k].2 = b at t2 HM
  have k0 : (0 : Int) ≤ (k : Int) := by omega
  have k1 : (k : Int) < (ps.length : Int) := by omega
  clear hT
  go_enter Try.func28, Try.ntmps28
  go_wp2_with (go_at_call 26; go_in)
  refine HM.out.mono ?_
  rintro e w1 ⟨rfl, hc⟩
  go_wp2
  go_ret
  exact ⟨rfl, hc⟩
theorem held_chg {W W' : World} {T g k n c : Nat} {a b : Int} (h : W.cell? ⟨T, 0, none⟩ = some (.slice (some ⟨g, 0, none⟩) n c) ∧ W.cell? ⟨g, k * 2, none⟩ = some (.int .i64 a) ∧ W.cell? ⟨g, k * 2 + 1, none⟩ = some (.int .i64 b)) (hc : Chg (fun _ => False) W W') :
    W'.cell? ⟨T, 0, none⟩ = some (.slice (some ⟨g, 0, none⟩) n c) ∧ W'.cell? ⟨g, k * 2, none⟩ = some (.int .i64 a) ∧ W'.cell? ⟨g, k * 2 + 1, none⟩ = some (.int .i64 b) := by
  have h1 : T < W.heap.size := World.block_lt_of_cell? W _ h.1
  have h2 : g < W.heap.size := World.block_lt_of_cell? W _ h.2.1
  exact ⟨(hc.cell (p := ⟨T, 0, none⟩) h1 (fun h => h)).trans h.1, (hc.cell (p := ⟨g, k * 2, none⟩) h2 (fun h => h)).trans h.2.1, (hc.cell (p := ⟨g, k * 2 + 1, none⟩) h2 (fun h => h)).trans h.2.2⟩
set_option maxHeartbeats 4000000 in
theorem change_ok (base T k K1 K2 : Nat) (A : Option Addr) (caps1 caps2 : Array Value) (m s' m' : Int) (ps : List (Int × Int)) (W : World) (hT : Tb W base T A ps) (hk : k < ps.length) (hm0 : 0 ≤ m) (hm1 : m < 64)
    (hrun : ∀ args W, (callFunc K1 args).run Try.prog W = .ok (.enter K1 args) W) (hrun2 : ∀ args W, (callFunc K2 args).run Try.prog W = .ok (.enter K2 args) W)
    (hmust : Calls Try.prog K1 (#[.agg #[.int .i64 ps[k].1, .int .i64 ps[k].2]] ++ caps1) W fun e W1 => e = .returned (.bool true) ∧ Chg (fun _ => False) W W1)
    (hthen : ∀ W1, Chg (fun _ => False) W W1 → Calls Try.prog K2 (#[.agg #[.int .i64 ps[k].1, .int .i64 ps[k].2]] ++ caps2) W1 fun e W2 => e = .returned (.agg #[.int .i64 s', .int .i64 m']) ∧ Chg (fun _ => False) W1 W2) :
    Calls Try.prog 28 #[.pointer (some ⟨T, 0, none⟩), .int .i64 k, .int .i64 m, .func (.func K1) #[] caps1, .func (.func K2) #[] caps2] W fun e W' => e = .returned (.int .i64 0) ∧ TA W W' base T A (ps.set k (s', m')) := by
  obtain ⟨g, c, rfl, hgT, hgl, t0, t1, t2, f1, f2⟩ := hT.at_ hk
  have HM := Lib.hid hmust
  have HN := Lib.hid hthen
  have HT := Lib.hid hT
  have HK := Lib.hid hk
  clear hmust hthen
  obtain ⟨a, ha⟩ : ∃ a, (ps[k]'hk).1 = a := ⟨_, rfl⟩
  obtain ⟨b, hb⟩ : ∃ b, (ps[k]'hk).2 = b := ⟨_, rfl⟩
  rw [ha] at t1 HM HN
  rw [hb] at t2 HM HN
  clear ha hb
  have k0 : (0 : Int) ≤ (k : Int) := by omega
  have k1 : (k : Int) < (ps.length : Int) := by omega
  clear hT
  go_enter Try.func28, Try.ntmps28
  go_wp2_with (go_at_call 26; go_in)
  refine HM.out.mono ?_
  rintro e w1 ⟨rfl, hc⟩
  have u0 := (hc.cell (p := ⟨T, 0, none⟩) (World.block_lt_of_cell? W _ t0) (fun h => h)).trans t0
  have u1 := (hc.cell (p := ⟨g, k * 2, none⟩) hgl (fun h => h)).trans t1
  have u2 := (hc.cell (p := ⟨g, k * 2 + 1, none⟩) hgl (fun h => h)).trans t2
  have hgw : g < w1.heap.size := Nat.lt_of_lt_of_le hgl hc.size
  have hc' := Lib.hid (And.intro ((hc.frozen (p := ⟨g, k * 2, none⟩) hgl (fun h => h)).trans f1) ((hc.frozen (p := ⟨g, k * 2 + 1, none⟩) hgl (fun h => h)).trans f2))
  have HC := Lib.hid hc
  clear t0 t1 t2 f1 f2 hc
  go_wp2
  have f1' := hc'.out.1
  have f2' := hc'.out.2
  have hs0 : w1.drew.cell? ⟨T, 0, none⟩ = some (.slice (some ⟨g, 0, none⟩) ps.length c) ∧ w1.drew.cell? ⟨g, k * 2, none⟩ = some (.int .i64 a) ∧ w1.drew.cell? ⟨g, k * 2 + 1, none⟩ = some (.int .i64 b) := ⟨u0, u1, u2⟩
  go_region_with ((with_reducible refine (HN.out _ HC.out.drew).mono ?_); rintro e w2 ⟨rfl, hc2⟩; obtain ⟨v0, v1, v2⟩ := held_chg hs0 hc2; have f3 := (hc2.frozen (p := ⟨g, k * 2, none⟩) hgw (fun h => h)).trans f1'; have f4 := (hc2.frozen (p := ⟨g, k * 2 + 1, none⟩) hgw (fun h => h)).trans f2'; have hT2 := Lib.hid ((HT.out.same HC.out.drew).same hc2))
  all_goals go_wp2
  all_goals go_ret
  all_goals refine ⟨rfl, TA.pre HC.out.drew (TA.pre hc2 (Tb.set_ hT2.out rfl HK.out s' m'))⟩
end Go.Proofs.Ytemnipdmclohmaa
