/- Fill, by the document. -/
import Derived.Test.YtfceebbbhjjnaaaRingT
namespace Go.Proofs.Ytfceebbbhjjnaaa
open Go.ChangeShapes Go.WideShapes Go.ChangeAt Go.RowKit Go.Deep
set_option linter.unusedVariables false

/-- How it stands when k have been put. -/
def RoundRf (W : World) (r n : Nat) (A0 : Option Addr) (nx : Int) (xs l : List Int) (k : Nat) (wr : World) : Prop :=
  xs.length + k ≤ n ∧ ∃ A c, RR wr r n nx A c (xs ++ l.take k) ∧ Chg (fun g => g = r) W wr ∧ ∀ g, blk A = some g → blk A0 = some g ∨ W.heap.size ≤ g
section
variable {W : World} {r n c : Nat} {nx : Int} {A : Option Addr} {xs : List Int}
theorem rfill_end {wr : World} {l : List Int} {k m c2 : Nat} {Ao : Option Addr} (hR : RoundRf W r n A nx xs l k wr) (hm : m = k) (hl : Rd wr 1 Ao (l.length - k) (ints (l.drop k))) :
    RP W r n A nx (xs ++ l.take m) (l.drop m) (.returned (.slice Ao (l.length - k) c2)) wr := by
  subst hm
  obtain ⟨hxk, A', c', hq, hc, hf⟩ := hR
  have e : l.length - m = (l.drop m).length := by simp
  rw [e] at hl ⊢
  exact ⟨Ao, c2, rfl, hl, A', c', hq, hc, hf⟩
theorem RoundRf.drewN {wr : World} {l : List Int} {k : Nat} (h : RoundRf W r n A nx xs l k wr) (q : Nat) : RoundRf W r n A nx xs l k (wr.drewN q) := by
  obtain ⟨h1, A', c', h2, h3, h4⟩ := h
  exact ⟨h1, A', c', h2.same ((Chg.refl _ _).drewN q), h3.drewN q, h4⟩
theorem RoundRf.next {wr w4 : World} {l : List Int} {k c' c4 m : Nat} {A' A4 : Option Addr} (hk : k < l.length) (hx : xs.length + k < n) (hc : Chg (fun g => g = r) W wr) (hkr : r < wr.heap.size)
    (hm : m = (xs ++ l.take k).length) (hb : Blk w4 r 30 #[.int .i64 (n : Int), .int .i64 nx, .slice A' m c']) (hc4 : Chg (fun _ => False) wr w4) (hr : Row w4 wr.heap.size 3 1 A4 (m + 1) c4 (ints ((xs ++ l.take k) ++ [l[k]]))) :
    RoundRf W r n A nx xs l (k + 1) (w4.setCell ⟨r, 2, none⟩ (.slice A4 (m + 1) c4)) := by
  have e : xs ++ l.take (k + 1) = (xs ++ l.take k) ++ [l[k]] := by rw [List.take_succ_eq_append_getElem hk, ← List.append_assoc]
  have hl : m + 1 = (xs ++ l.take (k + 1)).length := by rw [e, hm, List.length_append (bs := [l[k]])]; rfl
  rw [← e] at hr
  rw [hl] at hr ⊢
  have hh := RR.setrow hb (A' := A4) (c' := c4) (ys := xs ++ l.take (k + 1)) hr.2.1 hr.rd (fun g hg => ⟨by have := (hr.blk_lt g hg).1; omega, (hr.blk_lt g hg).2⟩)
  exact ⟨by omega, A4, c4, hh.1, (hc.trans hc4 (fun _ _ h => h.elim)).trans hh.2 (fun _ _ h => h), fun g hg => .inr (Nat.le_trans hc.size (hr.blk_lt g hg).1)⟩
set_option maxRecDepth 100000 in
set_option maxHeartbeats 16000000 in
theorem rfill_any (h : RR W r n nx A c xs) (hn2 : 2 ≤ n) (hn : n ≤ 1000) (hx : xs.length ≤ n) (Al : Option Addr) (cl : Nat) (l : List Int) (hl : Rd W 1 Al l.length (ints l)) (hlc : l.length ≤ cl) (hl30 : l.length ≤ 30) (hAl : 0 < l.length → ∀ g, blk Al = some g → ¬ g = r) :
    Calls Try.prog 25 #[.pointer (some ⟨r, 0, none⟩), .slice Al l.length cl] W (RP W r n A nx (fillF n xs l).2 (fillF n xs l).1) := by
  by_cases hs : small l = true
  · have e : fillF n xs l = ([], xs) := by rw [fillF, if_pos hs]
    rw [e]
    have HE := Lib.hid (RP.same h (Chg.refl _ _))
    have HS := Lib.hid (small_yes hs)
    clear h e hs
    go_enter Try.func25, Try.ntmps25
    go_wp2
    go_loop [5] (fun i => ∃ k : Nat, k ≤ l.length ∧ i = .int .i64 k ∧ Hid (∀ (j : Nat) (hj : j < l.length), j < k → ¬ l[j] < 1)) (fun i => l.length - (intOf i).toNat)
    case atStart => exact ⟨0, Nat.zero_le _, rfl, Lib.hid (fun j _ hj => absurd hj (by omega))⟩
    case round =>
      obtain ⟨k, hk, rfl, hall⟩ := hrel
      have k0 : (0 : Int) ≤ k := by omega
      by_cases hlt : k < l.length
      · have k1 : (k : Int) < l.length := by omega
        obtain ⟨b, o, rfl, hb, hc⟩ := hl.at_ (by omega)
        have e0 := hc k hlt
        have HN := Lib.hid (fun (hz : ¬ l[k] < 1) (j : Nat) (hj : j < l.length) (h2 : j < k + 1) => show ¬ l[j] < 1 from by
          rcases Nat.lt_or_ge j k with h1 | h1
          · exact hall.out j hj h1
          · obtain rfl : j = k := by omega
            exact hz)
        generalize l[k] = z at *
        clear hc hl hAl
        by_cases hz : z < 1
        · go_wp2
          go_ret
          exact HE.out
        · go_wp2
          go_round
          case rel => exact ⟨k + 1, by omega, by go_num, Lib.hid (HN.out hz)⟩
          case measure => simp [intOf]; omega
      · obtain ⟨j, hj, h1⟩ := HS.out
        exact absurd h1 (hall.out j hj (by omega))
  · have hsf : small l = false := by simpa using hs
    obtain ⟨m, hm⟩ : ∃ m, m = min l.length (n - xs.length) := ⟨_, rfl⟩
    have e : fillF n xs l = (l.drop m, xs ++ l.take m) := by rw [fillF, if_neg hs, hm]
    rw [e]
    have HS := Lib.hid (small_no hsf)
    have HL := Lib.hid hl
    have HAL := Lib.hid hAl
    have HR := Lib.hid h
    clear h e hs hsf hl hAl
    go_enter Try.func25, Try.ntmps25
    go_wp2
    go_loop [5] (fun i => ∃ k : Nat, k ≤ l.length ∧ i = .int .i64 k) (fun i => l.length - (intOf i).toNat)
    case atStart => exact ⟨0, Nat.zero_le _, rfl⟩
    case round =>
      obtain ⟨k, hk, rfl⟩ := hrel
      have k0 : (0 : Int) ≤ k := by omega
      by_cases hlt : k < l.length
      · have k1 : (k : Int) < l.length := by omega
        obtain ⟨b, o, rfl, hb, hc⟩ := HL.out.at_ (by omega)
        have e0 := hc k hlt
        have hz := HS.out k hlt
        generalize l[k] = z at *
        clear hc
        go_wp2
        go_round
        case rel => exact ⟨k + 1, by omega, by go_num⟩
        case measure => simp [intOf]; omega
      · obtain rfl : k = l.length := by omega
        clear k0 hk hlt
        go_wp2
        go_loopw [6] (fun i wr => ∃ k : Nat, k ≤ l.length ∧ i = .int .i64 k ∧ Hid (RoundRf W r n A nx xs l k wr)) (fun i _ => l.length - (intOf i).toNat)
        case atStart => exact ⟨0, Nat.zero_le _, rfl, Lib.hid ⟨by omega, A, c, by simpa using HR.out, Chg.refl _ _, fun _ h => .inl h⟩⟩
        case round =>
          obtain ⟨k, hk, rfl, hR⟩ := hrel
          have k0 : (0 : Int) ≤ k := by omega
          by_cases hlt : k < l.length
          · have k1 : decide ((k : Int) < (l.length : Int)) = true := decide_eq_true (by omega)
            obtain ⟨hxk, A', c', hq, hc, hf⟩ := hR.out
            obtain ⟨d0, d1, d2, df, kr⟩ := hq.cells
            have hyl : (xs ++ l.take k).length = xs.length + k := by simp; omega
            by_cases hfull : xs.length + k < n
            · have k2 : decide ((xs ++ l.take k).length < n) = true := decide_eq_true (by omega)
              obtain ⟨b, o, rfl, hb, hcc⟩ := (HL.out.kept hc (fun g hg => HAL.out (by omega) g hg)).at_ (by omega)
              have e0 := hcc k hlt
              have HN := Lib.hid (fun w4 A4 c4 => RoundRf.next (A := A) (nx := nx) (w4 := w4) (A4 := A4) (c4 := c4) (A' := A') (c' := c') hlt hfull hc kr rfl)
              generalize xs ++ l.take k = ys at *
              generalize l[k] = z at *
              clear hcc
              have HYL := Lib.hid hyl
              have hyl2 : ys.length ≤ 1000 := by omega
              clear hyl
              go_wp2
              go_quiet (fail)
              have HRW := Lib.hid hq
              have HEA := Lib.hid (Row.empty wr wr.heap.size 3 (Nat.le_refl _))
              have HEB := Lib.hid ((Row.empty wr wr.heap.size 3 (Nat.le_refl _)).alloc (.cells #[.int .i64 z] 3))
              have HEC := Lib.hid (show Row ((wr.alloc (.cells #[.int .i64 z] 3)).alloc (.cells #[] 3)) wr.heap.size 3 1 (some ⟨wr.heap.size + 1, 0, none⟩) 0 0 (ints []) from by have h := Row.empty (wr.alloc (.cells #[.int .i64 z] 3)) wr.heap.size 3 (by simp); rw [show (wr.alloc (.cells #[.int .i64 z] 3)).heap.size = wr.heap.size + 1 from by simp] at h; exact h)
              have HL1 := Lib.hid (show 0 + ys.length ≤ 1048576 by omega)
              have HL2 := Lib.hid (show ys.length + 1 ≤ 1048576 by omega)
              have HSA := Lib.hid (fun q => show wr.heap.size ≤ ((wr.alloc (.cells #[] 3)).drewN q).heap.size by simp)
              have HSB := Lib.hid (fun q => show wr.heap.size ≤ (((wr.alloc (.cells #[] 3)).alloc (.cells #[.int .i64 z] 3)).drewN q).heap.size by simp; omega)
              have HSC := Lib.hid (fun q => show wr.heap.size ≤ (((wr.alloc (.cells #[.int .i64 z] 3)).alloc (.cells #[] 3)).drewN q).heap.size by simp; omega)
              have HSZ := Lib.hid (fun (w3 : World) (ob : Obj) (h : wr.heap.size ≤ w3.heap.size) => show wr.heap.size ≤ (w3.alloc ob).heap.size by simp; omega)
              have HLB := Lib.hid (fun (q : Nat) (w3 : World) (s2 : (((wr.alloc (.cells #[] 3)).alloc (.cells #[.int .i64 z] 3)).drewN q).grownBy w3 (blk (some ⟨wr.heap.size, 0, none⟩))) => show Rd w3 1 (some ⟨wr.heap.size + 1, 0, none⟩) 1 (ints [z]) from by have h := (Rd.litn (wr.alloc (.cells #[] 3)) z 3 (wr.heap.size + 1) (by simp)).drewN q; exact h.grown s2 (fun g hg e => by have := blk_one hg; have := blk_one e.symm; omega))
              have HLC := Lib.hid (fun (q : Nat) (w3 : World) (s2 : (((wr.alloc (.cells #[.int .i64 z] 3)).alloc (.cells #[] 3)).drewN q).grownBy w3 (blk (some ⟨wr.heap.size + 1, 0, none⟩))) => show Rd w3 1 (some ⟨wr.heap.size, 0, none⟩) 1 (ints [z]) from by have h := ((Rd.lit wr z 3).alloc (.cells #[] 3)).drewN q; exact h.grown s2 (fun g hg e => by have := blk_one hg; have := blk_one e.symm; omega))
              clear hq
              go_wp2
              go_region_law (first
                | (refine step_app rfl (.tmp 40) (.tmp 45) rfl wr.heap.size A3 ys.length c3 ys rfl (HS1.out.alloc _) _ 1 1 [z] rfl (Rd.lit _ _ _) HL2.out (HSZ.out w3 _ hz3) ?_; intro A4 c4 w4 t1 t2 t3; have HB4 := Lib.hid ((HB3.out.alloc _).grown t2 (fun e => by have := (HS1.out.blk_lt r e.symm).1; omega)); have HC4 := Lib.hid (Chg.grown (HC3.out.alloc _) t2 (fun k hk => .inr (HS1.out.blk_lt k hk).1)); have HT1 := Lib.hid t1; have k0 := HB4.out.cell 2; have k1 := HB4.out.frozen 2; have k2 := HB4.out.lt; clear t1 t2 t3)
                | (refine step_app rfl (.tmp 40) (.tmp 45) rfl wr.heap.size A3 ys.length c3 ys rfl HS1.out (some ⟨wr.heap.size + 1, 0, none⟩) 1 1 [z] rfl (HLB.out _ w3 HG.out) HL2.out hz3 ?_; intro A4 c4 w4 t1 t2 t3; have HB4 := Lib.hid (HB3.out.grown t2 (fun e => by have := (HS1.out.blk_lt r e.symm).1; omega)); have HC4 := Lib.hid (Chg.grown HC3.out t2 (fun k hk => .inr (HS1.out.blk_lt k hk).1)); have HT1 := Lib.hid t1; have k0 := HB4.out.cell 2; have k1 := HB4.out.frozen 2; have k2 := HB4.out.lt; clear t1 t2 t3)
                | (refine step_app rfl (.tmp 40) (.tmp 45) rfl wr.heap.size A3 ys.length c3 ys rfl HS1.out (some ⟨wr.heap.size, 0, none⟩) 1 1 [z] rfl (HLC.out _ w3 HG.out) HL2.out hz3 ?_; intro A4 c4 w4 t1 t2 t3; have HB4 := Lib.hid (HB3.out.grown t2 (fun e => by have := (HS1.out.blk_lt r e.symm).1; omega)); have HC4 := Lib.hid (Chg.grown HC3.out t2 (fun k hk => .inr (HS1.out.blk_lt k hk).1)); have HT1 := Lib.hid t1; have k0 := HB4.out.cell 2; have k1 := HB4.out.frozen 2; have k2 := HB4.out.lt; clear t1 t2 t3)
                | (refine step_app rfl (.tmp 35) (.tmp 39) rfl wr.heap.size _ 0 0 [] rfl (HEA.out.drewN (nq + 1)) A' ys.length c' ys rfl ((HRW.out.rd.alloc (.cells #[] 3)).drewN (nq + 1)) HL1.out (HSA.out _) ?_; intro A3 c3 w3 s1 s2 s3; simp only [Nat.zero_add, List.nil_append] at s1; have HB3 := Lib.hid (Blk.grown ((HRW.out.b.alloc (.cells #[] 3)).drewN (nq + 1)) s2 (fun e => by have := blk_one e.symm; omega)); have HC3 := Lib.hid (Chg.grown (((Chg.refl (fun _ => False) wr).alloc (.cells #[] 3)).drewN (nq + 1)) s2 (fun k hk => .inr (by have := blk_one hk; omega))); have HS1 := Lib.hid s1; have e3 := (HC3.out.cell (p := ⟨b, o + k, none⟩) hb (fun h => h)).trans e0; have hz3 := HC3.out.size; have HG := Lib.hid s2; clear s1 s2 s3)
                | (refine step_app rfl (.tmp 35) (.tmp 39) rfl wr.heap.size _ 0 0 [] rfl (HEB.out.drewN (nq + 1)) A' ys.length c' ys rfl (((HRW.out.rd.alloc (.cells #[] 3)).alloc (.cells #[.int .i64 z] 3)).drewN (nq + 1)) HL1.out (HSB.out _) ?_; intro A3 c3 w3 s1 s2 s3; simp only [Nat.zero_add, List.nil_append] at s1; have HB3 := Lib.hid (Blk.grown (((HRW.out.b.alloc (.cells #[] 3)).alloc (.cells #[.int .i64 z] 3)).drewN (nq + 1)) s2 (fun e => by have := blk_one e.symm; omega)); have HC3 := Lib.hid (Chg.grown ((((Chg.refl (fun _ => False) wr).alloc (.cells #[] 3)).alloc (.cells #[.int .i64 z] 3)).drewN (nq + 1)) s2 (fun k hk => .inr (by have := blk_one hk; omega))); have HS1 := Lib.hid s1; have e3 := (HC3.out.cell (p := ⟨b, o + k, none⟩) hb (fun h => h)).trans e0; have hz3 := HC3.out.size; have HG := Lib.hid s2; clear s1 s2 s3)
                | (refine step_app rfl (.tmp 35) (.tmp 39) rfl wr.heap.size _ 0 0 [] rfl (HEC.out.drewN (nq + 1)) A' ys.length c' ys rfl (((HRW.out.rd.alloc (.cells #[.int .i64 z] 3)).alloc (.cells #[] 3)).drewN (nq + 1)) HL1.out (HSC.out _) ?_; intro A3 c3 w3 s1 s2 s3; simp only [Nat.zero_add, List.nil_append] at s1; have HB3 := Lib.hid (Blk.grown (((HRW.out.b.alloc (.cells #[.int .i64 z] 3)).alloc (.cells #[] 3)).drewN (nq + 1)) s2 (fun e => by have := blk_one e.symm; omega)); have HC3 := Lib.hid (Chg.grown ((((Chg.refl (fun _ => False) wr).alloc (.cells #[.int .i64 z] 3)).alloc (.cells #[] 3)).drewN (nq + 1)) s2 (fun k hk => .inr (by have := blk_one hk; omega))); have HS1 := Lib.hid s1; have e3 := (HC3.out.cell (p := ⟨b, o + k, none⟩) hb (fun h => h)).trans e0; have hz3 := HC3.out.size; have HG := Lib.hid s2; clear s1 s2 s3))
              all_goals clear HRW HEA HEB HEC HSA HSB HSC HSZ HLB HLC HG HS1 HB3 HC3
              all_goals go_wp2
              all_goals go_roundw
              all_goals first
                | exact ⟨k + 1, by omega, by go_num, Lib.hid (HN.out w4 A4 c4 HB4.out HC4.out HT1.out)⟩
                | (simp [intOf]; omega)
            · have k2 : decide ((xs ++ l.take k).length < n) = false := decide_eq_false (by omega)
              have hck : ¬ cl = k := by omega
              have hkc : k ≤ cl := by omega
              obtain ⟨b, o, rfl, hb, hcc⟩ := (HL.out.kept hc (fun g hg => HAL.out (by omega) g hg)).at_ (by omega)
              have HD := Lib.hid (fun q => ((HL.out.kept hc (fun g hg => HAL.out (by omega) g hg)).drop_ hk).drewN q)
              have hmk : m = k := by omega
              have HMK := Lib.hid hmk
              generalize xs ++ l.take k = ys at *
              clear hcc hq hc hf hmk hm hyl
              go_wp2
              go_quiet (fail)
              go_wp2
              go_ret
              exact rfill_end (hR.out.drewN _) HMK.out (HD.out _)
          · obtain rfl : k = l.length := by omega
            have k1 : decide ((l.length : Int) < (l.length : Int)) = false := decide_eq_false (by omega)
            have hmk : m = l.length := by obtain ⟨hxk, _⟩ := hR.out; omega
            have HMK := Lib.hid hmk
            have hd0 : l.length - l.length = 0 := by omega
            have HE : Hid (∀ q D c2, RP W r n A nx (xs ++ l.take m) (l.drop m) (.returned (.slice D 0 c2)) (wr.drewN q)) := Lib.hid (fun q D c2 => by
              have := rfill_end (c2 := c2) (Ao := D) (hR.out.drewN q) HMK.out (by rw [hd0, List.drop_length]; exact Rd.nil _ _ _)
              rw [hd0] at this; exact this)
            clear hmk hm hd0
            rcases Al with _ | ⟨ba, oa, sp⟩
            all_goals
              by_cases hck : cl = l.length
              · subst hck
                go_wp2
                go_quiet (fail)
                go_wp2
                go_ret
                exact HE.out _ _ _
              · go_wp2
                go_quiet (fail)
                go_wp2
                go_ret
                exact HE.out _ _ _
end
end Go.Proofs.Ytfceebbbhjjnaaa
