/- Contract: List; the walk of the law GlobOrder. -/
import Derived.Test.YtifflhombjljbaaGlobE
import Derived.Test.YtifflhombjljbaaRrev
import Derived.Test.YtifflhombjljbaaRclone
namespace Go.Proofs.Ytifflhombjljbaa
open Go.ChangeShapes Go.WideShapes Go.ChangeAt Go.RowKit Go.Deep
set_option linter.unusedVariables false

set_option maxHeartbeats 4000000 in
theorem list_any (B K : Nat) (A1 A2 : Option Addr) (L : List Int) (W : World) (hS : GQ W B K A1 A2 L) :
    Calls Try.prog 13 #[.pointer (some ⟨K, 0, none⟩)] W fun e W' => ∃ (Al : Option Addr) (cl : Nat), e = .returned (.slice Al L.length cl) ∧ Row W' W.heap.size 3 1 Al L.length cl (ints L) ∧ Chg (fun _ => False) W W' := by
  obtain ⟨c1, c2, f, b, ⟨h0, hK, h1, h2, hne⟩, hL, hl⟩ := hS
  have hk := hK.lt
  have e0 := hK.cell 0
  have e1 := hK.cell 1
  simp at e0 e1
  have hlen : L.length = f.length + b.length := by rw [hL]; simp
  have HL := Lib.hid hL
  have Hlen := Lib.hid hlen
  have hfb : f.length + b.length ≤ 100000 := by omega
  clear hL hlen hl
  go_enter Try.func13, Try.ntmps13
  go_wp2_with (first
    | (go_at_call 24; refine (clone_any _ _ _ f _ h1.rd (by omega) (fun h => by subst h; exact h1.nilc)).mono ?_; rintro e w1 ⟨D, d, rfl, r1, hb1⟩)
    | (go_at_call 25; refine (reverse_any W.heap.size D _ d f _ r1 (by omega)).mono ?_; rintro e w2 ⟨rfl, r2, hc2⟩; have hc3 : Chg (fun _ => False) W w2 := ((Chg.refl _ _).addBelow hb1 (Nat.le_refl _)).trans hc2 (fun k hk h => by have := (r1.blk_lt k h).1; omega); have hK2 := hK.kept hc3 (fun h => h); have q1 := hK2.cell 1; have q2 := hK2.lt; simp at q1; have h22 := h2.kept hc3 (fun _ _ h => h); have hz2 := hc3.size)
    | (at_builtin; refine wpList_app rfl (.tmp 13) (.tmp 17) rfl W.heap.size D _ d f.reverse rfl r2 A2 _ c2 b rfl h22.rd ?c1 ?c2 ?_; (case c1 => omega); (case c2 => omega); intro D3 d3 w3 s1 s2 s3))
  go_ret
  refine ⟨D3, d3, ?_, ?_, Chg.grown hc3 s2 (fun k hk => .inr (r2.blk_lt k hk).1)⟩
  · rw [Hlen.out]; rfl
  · rw [Hlen.out, HL.out]; exact s1

/-- The queue, whoever was put, whoever has gone. -/
def GO (w wr : World) (E1 E2 Aw : Option Addr) (nw cw : Nat) (ws : List Int) (Ag : Option Addr) (ng cg : Nat) (gs L : List Int) : Prop :=
  GQ wr w.heap.size w.heap.size E1 E2 L ∧ Row wr w.heap.size 3 1 Aw nw cw (ints ws) ∧ Row wr w.heap.size 3 1 Ag ng cg (ints gs) ∧ (∀ g, blk Aw = some g → ¬ Fp w.heap.size E1 E2 g) ∧ (∀ g, blk Ag = some g → ¬ Fp w.heap.size E1 E2 g ∧ blk Aw ≠ some g) ∧ Below w.heap.size w wr
section
variable {w wr w1 w2 V : World} {E1 E2 D1 D2 Aw Ag A3 : Option Addr} {nw cw ng cg n3 c3 : Nat} {ws gs ys L L' : List Int}
theorem GO.same (h : GO w wr E1 E2 Aw nw cw ws Ag ng cg gs L) (hc : Chg (fun _ => False) wr w1) : GO w w1 E1 E2 Aw nw cw ws Ag ng cg gs L := by
  obtain ⟨h1, h2, h3, h4, h5, h6⟩ := h
  exact ⟨h1.same hc, h2.kept hc (fun _ _ h => h), h3.kept hc (fun _ _ h => h), h4, h5, h6.trans (hc.below h6.size (fun _ _ h => h.elim))⟩
theorem GO.queue (h : GO w wr E1 E2 Aw nw cw ws Ag ng cg gs L) (hq : GQ w1 w.heap.size w.heap.size D1 D2 L') (hc : Chg (Fp w.heap.size E1 E2) wr w1) (hf : ∀ g, Fp w.heap.size D1 D2 g → Fp w.heap.size E1 E2 g ∨ wr.heap.size ≤ g) : GO w w1 D1 D2 Aw nw cw ws Ag ng cg gs L' := by
  obtain ⟨h1, h2, h3, h4, h5, h6⟩ := h
  refine ⟨hq, h2.kept hc h4, h3.kept hc (fun g hg => (h5 g hg).1), fun g hg h => ?_, fun g hg => ⟨fun h => ?_, (h5 g hg).2⟩, h6.trans (hc.below h6.size (fun k _ hk => (h1.fp_lt k hk).1))⟩
  · rcases hf g h with h | h
    · exact h4 g hg h
    · have := (h2.blk_lt g hg).2; omega
  · rcases hf g h with h | h
    · exact (h5 g hg).1 h
    · have := (h3.blk_lt g hg).2; omega
theorem GO.want (h : GO w wr E1 E2 Aw nw cw ws Ag ng cg gs L) (hv : Chg (fun _ => False) wr V) (r1 : Row w2 w.heap.size 3 1 A3 n3 c3 (ints ys)) (r2 : V.grownBy w2 (blk Aw)) (r3 : blk A3 = blk Aw ∨ blk A3 = some V.heap.size) : GO w w2 E1 E2 A3 n3 c3 ys Ag ng cg gs L := by
  obtain ⟨h1, h2, h3, h4, h5, h6⟩ := h
  have hc : Chg (fun k => blk Aw = some k) wr w2 := Chg.grown (hv.mono (fun _ _ h => h.elim)) r2 (fun k hk => .inl hk)
  have hvs := hv.size
  refine ⟨h1.kept hc (fun k hk h => h4 k h hk), r1, h3.kept hc (fun g hg => (h5 g hg).2), fun g hg h => ?_, fun g hg => ⟨(h5 g hg).1, fun h => ?_⟩, h6.trans (hc.below h6.size (fun k _ hk => (h2.blk_lt k hk).1))⟩
  · rcases r3 with r3 | r3
    · exact h4 g (r3 ▸ hg) h
    · rw [r3] at hg
      have := (h1.fp_lt g h).2
      injection hg with hg
      omega
  · rcases r3 with r3 | r3
    · exact (h5 g hg).2 (r3 ▸ h)
    · rw [r3] at h
      have := (h3.blk_lt g hg).2
      injection h with h
      omega
theorem GO.got (h : GO w wr E1 E2 Aw nw cw ws Ag ng cg gs L) (hv : Chg (fun _ => False) wr V) (r1 : Row w2 w.heap.size 3 1 A3 n3 c3 (ints ys)) (r2 : V.grownBy w2 (blk Ag)) (r3 : blk A3 = blk Ag ∨ blk A3 = some V.heap.size) : GO w w2 E1 E2 Aw nw cw ws A3 n3 c3 ys L := by
  obtain ⟨h1, h2, h3, h4, h5, h6⟩ := h
  have hc : Chg (fun k => blk Ag = some k) wr w2 := Chg.grown (hv.mono (fun _ _ h => h.elim)) r2 (fun k hk => .inl hk)
  have hvs := hv.size
  refine ⟨h1.kept hc (fun k hk h => (h5 k h).1 hk), h2.kept hc (fun g hg h => (h5 g h).2 hg), r1, h4, fun g hg => ?_, h6.trans (hc.below h6.size (fun k _ hk => (h3.blk_lt k hk).1))⟩
  rcases r3 with r3 | r3
  · exact h5 g (r3 ▸ hg)
  · rw [r3] at hg
    injection hg with hg
    refine ⟨fun h => ?_, fun h => ?_⟩
    · have := (h1.fp_lt g h).2; omega
    · have := (h2.blk_lt g h).2; omega
end
theorem below_cell2 {B b i : Nat} {w w1 w2 : World} {v : Value} (h1 : Below B w w1) (h2 : Below B w w2) (hb : b < B) (h : w1.cell? ⟨b, i, none⟩ = some v) : w2.cell? ⟨b, i, none⟩ = some v := by
  rw [h2.cell (p := ⟨b, i, none⟩) hb, ← h1.cell (p := ⟨b, i, none⟩) hb]; exact h
def Round1 (w : World) (xs : List Int) (wv i : Value) (wr : World) : Prop := ∃ (k : Nat) (E1 E2 Aw : Option Addr) (cw : Nat), k ≤ xs.length ∧ i = .int .i64 k ∧ wv = .slice Aw (right (xs.take k)).length cw ∧ GO w wr E1 E2 Aw (right (xs.take k)).length cw (right (xs.take k)) none 0 0 [] (right (xs.take k))
theorem Round1.step {w wr : World} {xs rs : List Int} {k n cw : Nat} {E1 E2 Aw : Option Addr} (hk : k < xs.length) (hr : right (xs.take (k + 1)) = rs) (hn : rs.length = n) (h : GO w wr E1 E2 Aw n cw rs none 0 0 [] rs) : Round1 w xs (.slice Aw n cw) (.int .i64 ((k : Int) + 1)) wr := by
  subst hn
  subst hr
  exact ⟨k + 1, E1, E2, Aw, cw, by omega, by go_num, rfl, h⟩
theorem lit_far {w : World} {B K : Nat} {E1 E2 : Option Addr} {L : List Int} (h : GQ w B K E1 E2 L) (n : Nat) (hn : n = w.heap.size) : ∀ g, blk (some (⟨n, 0, none⟩ : Addr)) = some g → ¬ Fp K E1 E2 g := by
  intro g hg h'
  have := (h.fp_lt g h').2
  simp at hg
  omega
theorem batch_le {Ld : List Int} {m : Int} {jj : Nat} (h : jj = (manyOf Ld.length 2 m).toNat) : jj ≤ Ld.length := h ▸ (manyOf_le Ld.length 2 m).2
theorem right_one (z : Int) : right [z] = if 0 < z then [z] else [] := by
  by_cases h : 0 < z <;> simp [right, h]
def Round2 (w : World) (len : Nat) (Aw : Option Addr) (nw cw : Nat) (L : List Int) (gv i : Value) (wr : World) : Prop := ∃ (k t : Nat) (E1 E2 Ag : Option Addr) (cg : Nat), k ≤ len ∧ t ≤ L.length ∧ i = .int .i64 k ∧ gv = .slice Ag t cg ∧ GO w wr E1 E2 Aw nw cw L Ag t cg (L.take t) (L.drop t)

set_option maxHeartbeats 16000000 in
theorem walk_globOrder (a0 : Option Addr) (len0 cap0 : Nat) (z0 : Nat → Int) (a1 : Option Addr) (len1 cap1 : Nat) (z1 : Nat → Int) (w : World) (w0 : Ints .i64 w a0 len0 z0) (w1 : Ints .i64 w a1 len1 z1) :
    Calls Try.prog 5 #[.slice a0 len0 cap0, .slice a1 len1 cap1] w fun e w' => e = .returned (.bool true) ∧ Below w.heap.size w w' := by
  have hm0 := w0.1
  have hm1 := w1.1
  unfold maxLen at hm0 hm1
  have hcase : 200 < len0 ∨ (¬ 200 < len0 ∧ 200 < len1) ∨ (¬ 200 < len0 ∧ ¬ 200 < len1) := by omega
  rcases hcase with h1 | ⟨h1, h2⟩ | ⟨h1, h2⟩
  case inr.inr =>
    have hR := Rd.of_ints w0
    have hRl := hR.len
    generalize hxs : (List.range len0).map z0 = xs at hR hRl
    clear hxs
    subst hRl
    go_enter Try.func5, Try.ntmps5
    go_wp2_with (go_at_call 9; refine (new_any _).mono ?_; rintro e u1 ⟨rfl, rfl⟩)
    go_loopw [6, 8] (fun wv i wr => Round1 w xs wv i wr) (fun _ i _ => xs.length - (intOf i).toNat)
    case atStart => exact ⟨0, none, none, none, 0, Nat.zero_le _, rfl, rfl, gq_new w w.heap.size (Nat.le_refl _), Row.nil _ _ _ _, Row.nil _ _ _ _, (fun g hg => by cases hg), (fun g hg => by cases hg), (Below.refl _ _).alloc (Nat.le_refl _) _⟩
    case round =>
      obtain ⟨k, E1, E2, Aw, cw, hk, rfl, rfl, hG⟩ := hrel
      have hb := hG.2.2.2.2.2
      have hsz := hb.size
      by_cases hlt : k < xs.length
      · obtain ⟨b, o, rfl, hbl, hc⟩ := hR.at_ (by omega)
        have e0 : wr.cell? ⟨b, o + k, none⟩ = some (.int .i64 xs[k]) := (hb.cell (p := ⟨b, o + k, none⟩) hbl).trans (hc k hlt)
        have hbw : b < wr.heap.size := by omega
        have hrn := Lib.hid (right_next hlt)
        have hrl : (right (xs.take k)).length ≤ 200 := Nat.le_trans (right_le _) (Nat.le_trans (List.length_take_le _ _) (by omega))
        generalize xs[k] = z at e0 hrn
        clear hc
        generalize right (xs.take k) = rs at *
        by_cases hz : 0 < z
        · have hz1 : 1 ≤ z := by omega
          go_wp2_with (at_builtin; refine wpList_app rfl (.tmp 31) (.tmp 36) rfl w.heap.size Aw _ _ rs rfl (hG.2.1.alloc _) _ 1 1 [z] rfl (Rd.lit _ _ _) ?c1 ?c2 ?_; (case c1 => omega); (case c2 => (simp; omega)); intro A3 c3 w2 r1 r2 r3; have hG2 := hG.want ((Chg.refl _ _).alloc _) r1 r2 r3; have hb2 := hG2.2.2.2.2.2; have c0 := below_cell2 hb hb2 hbl e0; have hbw2 := Nat.lt_of_lt_of_le hbl hb2.size)
          have hG3 := hG2.same ((Chg.refl _ _).alloc (.cells #[.int .i64 z] 3))
          refine (put_any w.heap.size w.heap.size E1 E2 _ 1 1 rs [z] _ hG3.1 (Rd.lit _ _ _) (lit_far hG2.1 _ rfl) hG3.2.2.2.2.2.size (by simp; omega)).mono ?_
          rintro e w3 ⟨rfl, D1, D2, hq3, hc3, hf3⟩
          have hG4 := hG3.queue hq3 hc3 hf3
          go_wp2
          go_roundw
          case rel => exact Round1.step hlt (by rw [hrn.out, if_pos hz]) (by simp) (by rw [right_one, if_pos hz] at hG4; exact hG4)
          case measure => simp [intOf]; omega
        · have hz1 : ¬ 1 ≤ z := by omega
          go_wp2_with fail
          have hG3 := hG.same ((Chg.refl _ _).alloc (.cells #[.int .i64 z] 3))
          refine (put_any w.heap.size w.heap.size E1 E2 _ 1 1 rs [z] _ hG3.1 (Rd.lit _ _ _) (lit_far hG.1 _ rfl) hG3.2.2.2.2.2.size (by simp; omega)).mono ?_
          rintro e w3 ⟨rfl, D1, D2, hq3, hc3, hf3⟩
          have hG4 := hG3.queue hq3 hc3 hf3
          go_wp2
          go_roundw
          case rel => exact Round1.step hlt (by rw [hrn.out, if_neg (by omega), List.append_nil]) rfl (by rw [right_one, if_neg (by omega), List.append_nil] at hG4; exact hG4)
          case measure => simp [intOf]; omega
      · obtain rfl : k = xs.length := by omega
        rw [List.take_length] at hG
        have hrl : (right xs).length ≤ 200 := Nat.le_trans (right_le _) (by omega)
        rw [List.take_length]
        generalize right xs = L at *
        clear hR hlt
        go_wp2
        go_loopw [7, 9] (fun gv i wr => Round2 w len1 Aw L.length cw L gv i wr) (fun _ i _ => len1 - (intOf i).toNat)
        case atStart => exact ⟨0, 0, E1, E2, none, 0, Nat.zero_le _, Nat.zero_le _, rfl, rfl, by simpa using hG⟩
        case round =>
          clear hG hb hsz
          obtain ⟨j, t, E1, E2, Ag, cg, hj, ht, rfl, rfl, hG⟩ := hrel
          have hb := hG.2.2.2.2.2
          have hsz := hb.size
          by_cases hlt : j < len1
          · obtain ⟨b, o, rfl, hbl, hc⟩ := w1.2 (by omega)
            have e0 : wr.cell? ⟨b, o + j, none⟩ = some (.int .i64 (z1 j)) := (hb.cell (p := ⟨b, o + j, none⟩) hbl).trans (hc j hlt).1
            have hzb := i64_le (hc j hlt).2
            generalize z1 j = m at e0 hzb
            clear hc w1 w0
            have hdl : (L.drop t).length = L.length - t := by simp
            have hadd : ∀ jj, L.take (t + jj) = L.take t ++ (L.drop t).take jj := fun jj => List.take_add
            have hdrop : ∀ jj, L.drop (t + jj) = (L.drop t).drop jj := fun jj => (List.drop_drop).symm
            have Hadd := Lib.hid hadd
            have Hdrop := Lib.hid hdrop
            clear hadd hdrop
            generalize L.drop t = Ld at hG Hadd Hdrop hdl
            generalize L.take t = Lt at hG Hadd
            have hdl1 : Ld.length ≤ 200 := by omega
            have Hdl := Lib.hid hdl
            clear hdl
            go_wp2_with (first
              | (go_at_call 17; refine (batch_any w.heap.size w.heap.size E1 E2 2 m Ld _ hG.1 hsz ?_ hzb).mono ?_; omega; rintro e w2 ⟨jj, D1, D2, Al, cl, hjj, rfl, hrow, hq2, hc2, hf2, hd2⟩; have hjl := batch_le hjj; have hG2 := hG.queue hq2 hc2 hf2; have Hjj := Lib.hid hjj; clear hjj)
              | (at_builtin; refine wpList_app rfl (.tmp 51) (.tmp 57) rfl w.heap.size Ag _ _ Lt rfl hG2.2.2.1 Al _ cl (Ld.take jj) rfl hrow.rd ?c1 ?c2 ?_; (case c1 => omega); (case c2 => exact hG2.2.2.2.2.2.size); intro A3 c3 w3 r1 r2 r3; have hG3 := hG2.got (Chg.refl _ _) r1 r2 r3))
            go_roundw
            case rel => exact ⟨j + 1, t + jj, D1, D2, A3, c3, by omega, by have := Hdl.out; omega, by go_num, rfl, by rw [Hadd.out, Hdrop.out]; exact hG3⟩
            case measure => simp [intOf]; omega
          · have hcat : L.take t ++ L.drop t = L := List.take_append_drop t L
            have hds : (L.drop t).length = L.length - t := by simp
            generalize L.drop t = Ld at hG hcat hds
            generalize L.take t = Lt at hG hcat
            have hN : t + Ld.length ≤ 1048576 := by omega
            have Hcat := Lib.hid hcat
            clear hcat hds
            go_wp2_with (first
              | (go_at_call 13; refine (list_any w.heap.size w.heap.size E1 E2 Ld _ hG.1).mono ?_; rintro e w2 ⟨Al, cl, rfl, hrow, hc2⟩; have hG2 := hG.same hc2)
              | (at_builtin; refine wpList_app rfl (.tmp 59) (.tmp 61) rfl w.heap.size Ag _ _ Lt rfl hG2.2.2.1 Al _ cl Ld rfl hrow.rd hN ?c2 ?_; (case c2 => exact hG2.2.2.2.2.2.size); intro A3 c3 w3 r1 r2 r3; have hG3 := hG2.got (Chg.refl _ _) r1 r2 r3; rw [Hcat.out] at hG3)
              | (go_at_call 8; refine (alive_any _).mono ?_; rintro e w5 ⟨rfl, hb5⟩)
              | (go_at_call 12; refine (same_yes _ _ _ _ _ _ L _ hG3.2.2.1.rd hG3.2.1.rd hN).mono ?_; rintro e w4 ⟨rfl, q, rfl⟩))
            go_ret
            exact ⟨rfl, (belowN hG3.2.2.2.2.2 q).trans (hb5.mono hG3.2.2.2.2.2.size)⟩
  all_goals
    go_enter Try.func5, Try.ntmps5
    go_wp2_with (go_at_call 8; refine (alive_any _).mono ?_; rintro e w' ⟨rfl, hb⟩)
    go_ret
    exact ⟨rfl, hb⟩
end Go.Proofs.Ytifflhombjljbaa
