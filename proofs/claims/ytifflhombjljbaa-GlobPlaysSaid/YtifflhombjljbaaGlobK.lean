/- Any act, on the queue and on the list. -/
import Derived.Test.YtifflhombjljbaaGlobI
import Derived.Test.YtifflhombjljbaaRjoin
import Derived.Test.YtifflhombjljbaaRrem
namespace Go.Proofs.Ytifflhombjljbaa
open Go.ChangeShapes Go.WideShapes Go.ChangeAt Go.RowKit Go.Deep
set_option linter.unusedVariables false

/-- A list, as a slice. -/
def Ls (w : World) (Al : Option Addr) (c : Nat) (L : List Int) : Prop := L.length ≤ c ∧ Rd w 1 Al L.length (ints L) ∧ ((Al = none ∧ L = [] ∧ c = 0) ∨ ∃ b o, Al = some ⟨b, o, none⟩ ∧ b < w.heap.size)
theorem Ls.kept {S : Nat → Prop} {w w' : World} {Al : Option Addr} {c : Nat} {L : List Int} (h : Ls w Al c L) (hc : Chg S w w') (hn : ∀ g, blk Al = some g → ¬ S g) : Ls w' Al c L := by
  obtain ⟨h1, h2, h3⟩ := h
  refine ⟨h1, h2.kept hc hn, ?_⟩
  rcases h3 with h3 | ⟨b, o, rfl, hb⟩
  · exact .inl h3
  · exact .inr ⟨b, o, rfl, Nat.lt_of_lt_of_le hb hc.size⟩
theorem Ls.same {w w' : World} {Al : Option Addr} {c : Nat} {L : List Int} (h : Ls w Al c L) (hc : Chg (fun _ => False) w w') : Ls w' Al c L := h.kept hc (fun _ _ h => h)
theorem Ls.of_row {w : World} {base n c : Nat} {A : Option Addr} {L : List Int} (h : Row w base 3 1 A n c (ints L)) : n = L.length ∧ Ls w A c L := by
  have hn := h.rd.len
  subst hn
  refine ⟨rfl, h.2.1, h.rd, ?_⟩
  rcases h.2.2.2 with ⟨rfl, h0, hc⟩ | ⟨g, cur, rfl, hb, hg, _⟩
  · exact .inl ⟨rfl, List.eq_nil_of_length_eq_zero h0, hc⟩
  · exact .inr ⟨g, 0, rfl, hg.lt⟩
theorem Ls.blk_lt {w : World} {Al : Option Addr} {c : Nat} {L : List Int} (h : Ls w Al c L) : ∀ g, blk Al = some g → g < w.heap.size := by
  intro g hg
  rcases h.2.2 with ⟨rfl, _⟩ | ⟨b, o, rfl, hb⟩
  · cases hg
  · simp at hg; omega
def Pos (L : List Int) : Prop := ∀ z ∈ L, 0 < z
theorem Pos.right (L : List Int) : Pos (right L) := fun z hz => by simpa [Go.Proofs.Ytifflhombjljbaa.right] using (List.mem_filter.1 hz).2
theorem Pos.is {L : List Int} (h : Pos L) : Go.Proofs.Ytifflhombjljbaa.right L = L := List.filter_eq_self.2 fun z hz => by simpa using h z hz
theorem Pos.append {a b : List Int} (h : Pos a) (k : Pos b) : Pos (a ++ b) := fun z hz => (List.mem_append.1 hz).elim (h z) (k z)
/-- Behind an act: the queue and the list are alike again. -/
def ActP (W : World) (B K : Nat) (A1 A2 : Option Addr) (Al : Option Addr) (bound : Nat) (e : Ending) (W' : World) : Prop :=
  ∃ (Al' E1 E2 : Option Addr) (c' : Nat) (L' : List Int), e = .returned (.tuple #[.slice Al' L'.length c', .bool true]) ∧ Ls W' Al' c' L' ∧ Pos L' ∧ L'.length ≤ bound ∧ GQ W' B K E1 E2 L' ∧ Chg (Fp K A1 A2) W W' ∧ (∀ g, Fp K E1 E2 g → Fp K A1 A2 g ∨ W.heap.size ≤ g) ∧ (∀ g, blk Al' = some g → ¬ Fp K E1 E2 g)
theorem ActP.mk {W w0 W' : World} {B K c' bound : Nat} {A1 A2 Al Al' : Option Addr} {L' : List Int} (hq0 : Chg (fun _ => False) W w0) (ha : GAft w0 W' B K A1 A2 L') (hl : Ls w0 Al' c' L') (hp : Pos L') (hb : L'.length ≤ bound) (hd : ∀ g, blk Al' = some g → ¬ Fp K A1 A2 g) :
    ActP W B K A1 A2 Al bound (.returned (.tuple #[.slice Al' L'.length c', .bool true])) W' := by
  obtain ⟨E1, E2, hq, hc, hf⟩ := ha
  have hs := hq0.size
  refine ⟨Al', E1, E2, c', L', rfl, hl.kept hc hd, hp, hb, hq, Chg.trans (S := Fp K A1 A2) (S' := Fp K A1 A2) ⟨hq0.os, hq0.tape, hq0.output, hq0.size, fun k hk _ => hq0.block k hk (fun h => h)⟩ hc (fun _ _ h => h), fun g hg => ?_, fun g hg h => ?_⟩
  · rcases hf g hg with h | h
    · exact .inl h
    · right; omega
  · rcases hf g h with h | h
    · exact hd g hg h
    · have := hl.blk_lt g hg; omega
theorem right_app_le (L xs : List Int) {m : Nat} (h : xs.length = m) : (L ++ right xs).length ≤ L.length + m ∧ (right xs ++ L).length ≤ L.length + m := by
  have := right_le xs
  simp; omega
set_option maxHeartbeats 2000000 in
theorem put_some (B K : Nat) (A1 A2 A : Option Addr) (n c : Nat) (L xs : List Int) (W : World) (hS : GQ W B K A1 A2 L) (hA : Rd W 1 A n (ints xs)) (hd : 0 < n → ∀ g, blk A = some g → ¬ Fp K A1 A2 g) (hB : B ≤ W.heap.size) (hl : L.length + n ≤ 50000) :
    Calls Try.prog 16 #[.pointer (some ⟨K, 0, none⟩), .slice A n c] W fun e W' => e = .returned (.int .i64 ((L ++ right xs).length : Int)) ∧ GAft W W' B K A1 A2 (L ++ right xs) := by
  obtain ⟨c1, c2, f, b, hq, rfl, hlL⟩ := hS
  have hn1 := hA.len
  subst hn1
  simp at hl
  go_enter Try.func16, Try.ntmps16
  go_wp2
  go_loopw [11] (fun i wr => RoundPut W B K A1 A2 f b xs i wr) (fun i _ => xs.length - (intOf i).toNat)
  case atStart => exact ⟨0, A1, A2, c1, c2, Nat.zero_le _, rfl, by simpa [right] using hq, Chg.refl _ _, fp_same⟩
  case round =>
    clear hq
    obtain ⟨k, E1, E2, c1, c2, hk, rfl, hq, hc, hf⟩ := hrel
    have hws := hc.size
    by_cases hlt : k < xs.length
    · obtain ⟨bb, o, rfl, hbl, hcc⟩ := (hA.kept hc (hd (by omega))).at_ (by omega)
      have e0 := hcc k hlt
      clear hcc hA hd
      have hno := Lib.hid (fun (h : ¬ 0 < xs[k]) => RoundPut.no (A1 := A1) (A2 := A2) (W := W) (b := b) hlt h hq hc hf)
      have hyes := Lib.hid (fun (h : 0 < xs[k]) (D1 D2 : Option Addr) (d1 d2 : Nat) (w2 : World) hq2 hc2 hf2 => RoundPut.yes (B := B) (f := f) (b := b) (A1 := A1) (A2 := A2) (W := W) (D1 := D1) (D2 := D2) (c1 := d1) (c2 := d2) (w2 := w2) hlt h hq2 hc hf hc2 hf2)
      generalize xs[k] = z at e0 hno hyes
      have hbl : (b ++ right (xs.take k)).length ≤ 100000 := by
        have hrl := right_le (xs.take k)
        have htl : (xs.take k).length ≤ k := List.length_take_le _ _
        simp; omega
      generalize b ++ right (xs.take k) = bs at *
      have hq0 := hq
      obtain ⟨h0, hK, h1, h2, hne⟩ := hq
      have hk := hK.lt
      have p1 := hK.cell 1
      have p3 := hK.frozen 1
      simp at p1
      by_cases hz : 0 < z
      · go_wp2_with (at_builtin; refine wpList_app rfl (.tmp 21) (.tmp 23) rfl B E2 _ _ bs rfl (h2.alloc _) _ 1 1 [z] rfl (Rd.lit _ _ _) ?c1 ?c2 ?_; (case c1 => omega); (case c2 => (simp; omega)); intro D d w2 r1 r2 r3; obtain ⟨s0, s1, s2, s3⟩ := hq0.app2 (by decide) r1 r2 r3; have s4 := s0.cell 1; have s5 := s0.frozen 1; have s6 := s0.lt; simp at s4)
        go_roundw
        case rel => exact hyes.out hz _ _ _ _ _ s1 s2 s3
        case measure => simp [intOf]; omega
      · go_wp2
        go_roundw
        case rel => exact hno.out hz
        case measure => simp [intOf]; omega
    · obtain rfl : k = xs.length := by omega
      rw [List.take_length] at hq
      have hG : GQ wr B K E1 E2 ((f.reverse ++ b) ++ right xs) := by
        have hrl := right_le xs
        refine ⟨c1, c2, f, _, hq, by simp, ?_⟩
        simp; omega
      go_wp2_with (go_at_call 11; refine (len_any B K E1 E2 _ _ hG).mono ?_; rintro e w9 ⟨rfl, q, rfl⟩)
      go_ret
      exact ⟨ret_int (by simp), E1, E2, hG.same ((Chg.refl _ _).drewN q), hc.drewN q, hf⟩
set_option maxHeartbeats 4000000 in
theorem act_put (B K : Nat) (A1 A2 Al As : Option Addr) (c m cs : Nat) (L xs : List Int) (p q : Int) (W : World) (hS : GQ W B K A1 A2 L) (hL : Ls W Al c L) (hp : Pos L) (hd : ∀ g, blk Al = some g → ¬ Fp K A1 A2 g)
    (hA : Rd W 1 As m (ints xs)) (hAl : 0 < m → ∀ g, blk As = some g → g < W.heap.size) (hAd : 0 < m → ∀ g, blk As = some g → ¬ Fp K A1 A2 g) (hB : B ≤ W.heap.size) (hl : L.length ≤ 5000) (hm : m ≤ 30) :
    Calls Try.prog 10 #[.pointer (some ⟨K, 0, none⟩), .slice Al L.length c, .agg #[.int .i64 0, .int .i64 p, .int .i64 q, .slice As m cs]] W (ActP W B K A1 A2 Al (L.length + m)) := by
  have hxl := hA.len
  obtain ⟨hlb1, hlb2⟩ := right_app_le L xs hxl
  have hrl := right_le xs
  obtain ⟨W0, hW0⟩ : ∃ W0, W0 = W.alloc (.cells #[.int .i64 0, .int .i64 p, .int .i64 q, .slice As m cs] 31) := ⟨_, rfl⟩
  have h01 : Blk W0 W.heap.size 31 #[.int .i64 0, .int .i64 p, .int .i64 q, .slice As m cs] := by rw [hW0]; exact Blk.new _ _ _
  have hc0 : Chg (fun _ => False) W W0 := by rw [hW0]; exact (Chg.refl _ _).alloc _
  have hR := Lib.hid (rright_any As m cs xs W0 (hA.kept hc0 (fun _ _ h => h)) (by omega))
  have hJ : ∀ (w1 : World) (A3 : Option Addr) (c3 : Nat), Below W0.heap.size W0 w1 → Row w1 W0.heap.size 3 1 A3 (right xs).length c3 (ints (right xs)) →
      Calls Try.prog 21 #[.slice Al L.length c, .slice A3 (right xs).length c3] w1 (fun e W' => ∃ A' c', e = .returned (.slice A' (L.length + (right xs).length) c') ∧ Row W' w1.heap.size 3 1 A' (L.length + (right xs).length) c' (ints (L ++ right xs)) ∧ Below w1.heap.size w1 W') ∧
      w1.cell? ⟨W.heap.size, 3, none⟩ = some (.slice As m cs) ∧ W.heap.size < w1.heap.size := fun w1 A3 c3 hb1 hr1 => by
    have hc1 : Chg (fun _ => False) W0 w1 := (Chg.refl _ _).addBelow hb1 (Nat.le_refl _)
    have h2 := h01.kept hc1 (fun h => h)
    exact ⟨join_any Al A3 _ _ c c3 L (right xs) w1 ((hL.2.1.kept hc0 (fun _ _ h => h)).kept hc1 (fun _ _ h => h)) hr1.rd (by omega), h2.cell 3, h2.lt⟩
  have key : ∀ (w1 w2 : World) (A3 A4 : Option Addr) (c3 c4 : Nat), Below W0.heap.size W0 w1 → Below w1.heap.size w1 w2 → Row w2 w1.heap.size 3 1 A4 (L.length + (right xs).length) c4 (ints (L ++ right xs)) →
      Calls Try.prog 16 #[.pointer (some ⟨K, 0, none⟩), .slice As m cs] w2 (fun e W' => e = .returned (.int .i64 ((L ++ right xs).length : Int)) ∧ GAft w2 W' B K A1 A2 (L ++ right xs)) ∧ w2.cell? ⟨W.heap.size, 3, none⟩ = some (.slice As m cs) ∧ W.heap.size < w2.heap.size ∧
      ∀ W', GAft w2 W' B K A1 A2 (L ++ right xs) → ActP W B K A1 A2 Al (L.length + m) (.returned (.tuple #[.slice A4 (L.length + (right xs).length) c4, .bool true])) W' := fun w1 w2 A3 A4 c3 c4 hb1 hb2 hr2 => by
    have hc1 : Chg (fun _ => False) W0 w1 := (Chg.refl _ _).addBelow hb1 (Nat.le_refl _)
    have hc2 : Chg (fun _ => False) w1 w2 := (Chg.refl _ _).addBelow hb2 (Nat.le_refl _)
    have hc : Chg (fun _ => False) W w2 := (hc0.trans hc1 (fun _ _ h => h)).trans hc2 (fun _ _ h => h)
    have h2 := (h01.kept hc1 (fun h => h)).kept hc2 (fun h => h)
    have hsz := hc.size
    obtain ⟨hn4, hls4⟩ := Ls.of_row hr2
    refine ⟨put_some B K A1 A2 As m cs L xs w2 (hS.same hc) (hA.kept hc (fun _ _ h => h)) hAd (by omega) (by omega), h2.cell 3, h2.lt, fun W' ha => ?_⟩
    rw [hn4]
    refine ActP.mk hc ha hls4 (hp.append (Pos.right xs)) hlb1 (fun g hg h => ?_)
    have h5 := (hr2.blk_lt g hg).1
    have h6 := (hS.fp_lt g h).2
    have := hc0.size
    have := hc1.size
    omega
  have HJ := Lib.hid hJ
  have KEY := Lib.hid key
  have hlen : ((L.length : Int) + ((right xs).length : Int) == ((L.length : Int) + ((right xs).length : Int))) = true := by simp
  subst hW0
  clear hJ key h01 hc0 hS hL hp hd hA hAl hAd
  go_enter Try.func10, Try.ntmps10
  go_wp2_with (first
    | (go_at_call 22; refine hR.out.mono ?_; rintro e w1 ⟨A3, c3, rfl, r1, b1⟩; obtain ⟨j1, j2, j3⟩ := HJ.out w1 A3 c3 b1 r1; have J1 := Lib.hid j1; have B1 := Lib.hid b1; clear j1 b1 r1)
    | (go_at_call 21; refine J1.out.mono ?_; rintro e w2 ⟨A4, c4, rfl, r2, b2⟩; obtain ⟨k1, k2, k3, k4⟩ := KEY.out w1 w2 A3 A4 c3 c4 B1.out b2 r2; have K1 := Lib.hid k1; have K4 := Lib.hid k4; clear k1 k4 b2 r2)
    | (go_at_call 16; refine K1.out.mono ?_; rintro e w3 ⟨rfl, ha⟩; have HA := Lib.hid (K4.out _ ha); clear ha))
  go_ret2
  exact HA.out
set_option maxHeartbeats 4000000 in
theorem act_front (B K : Nat) (A1 A2 Al As : Option Addr) (c m cs : Nat) (L xs : List Int) (p q : Int) (W : World) (hS : GQ W B K A1 A2 L) (hL : Ls W Al c L) (hp : Pos L) (hd : ∀ g, blk Al = some g → ¬ Fp K A1 A2 g)
    (hA : Rd W 1 As m (ints xs)) (hAl : 0 < m → ∀ g, blk As = some g → g < W.heap.size) (hAd : 0 < m → ∀ g, blk As = some g → ¬ Fp K A1 A2 g) (hB : B ≤ W.heap.size) (hl : L.length ≤ 5000) (hm : m ≤ 30) :
    Calls Try.prog 10 #[.pointer (some ⟨K, 0, none⟩), .slice Al L.length c, .agg #[.int .i64 1, .int .i64 p, .int .i64 q, .slice As m cs]] W (ActP W B K A1 A2 Al (L.length + m)) := by
  have hxl := hA.len
  obtain ⟨hlb1, hlb2⟩ := right_app_le L xs hxl
  have hrl := right_le xs
  obtain ⟨W0, hW0⟩ : ∃ W0, W0 = W.alloc (.cells #[.int .i64 1, .int .i64 p, .int .i64 q, .slice As m cs] 31) := ⟨_, rfl⟩
  have h01 : Blk W0 W.heap.size 31 #[.int .i64 1, .int .i64 p, .int .i64 q, .slice As m cs] := by rw [hW0]; exact Blk.new _ _ _
  have hc0 : Chg (fun _ => False) W W0 := by rw [hW0]; exact (Chg.refl _ _).alloc _
  have hR := Lib.hid (rright_any As m cs xs W0 (hA.kept hc0 (fun _ _ h => h)) (by omega))
  have hJ : ∀ (w1 : World) (A3 : Option Addr) (c3 : Nat), Below W0.heap.size W0 w1 → Row w1 W0.heap.size 3 1 A3 (right xs).length c3 (ints (right xs)) →
      Calls Try.prog 21 #[.slice A3 (right xs).length c3, .slice Al L.length c] w1 (fun e W' => ∃ A' c', e = .returned (.slice A' ((right xs).length + L.length) c') ∧ Row W' w1.heap.size 3 1 A' ((right xs).length + L.length) c' (ints (right xs ++ L)) ∧ Below w1.heap.size w1 W') ∧
      w1.cell? ⟨W.heap.size, 3, none⟩ = some (.slice As m cs) ∧ W.heap.size < w1.heap.size := fun w1 A3 c3 hb1 hr1 => by
    have hc1 : Chg (fun _ => False) W0 w1 := (Chg.refl _ _).addBelow hb1 (Nat.le_refl _)
    have h2 := h01.kept hc1 (fun h => h)
    exact ⟨join_any A3 Al _ _ c3 c (right xs) L w1 hr1.rd ((hL.2.1.kept hc0 (fun _ _ h => h)).kept hc1 (fun _ _ h => h)) (by omega), h2.cell 3, h2.lt⟩
  have key : ∀ (w1 w2 : World) (A3 A4 : Option Addr) (c3 c4 : Nat), Below W0.heap.size W0 w1 → Below w1.heap.size w1 w2 → Row w2 w1.heap.size 3 1 A4 ((right xs).length + L.length) c4 (ints (right xs ++ L)) →
      Calls Try.prog 19 #[.pointer (some ⟨K, 0, none⟩), .slice As m cs] w2 (fun e W' => e = .returned (.int .i64 ((right xs ++ L).length : Int)) ∧ GAft w2 W' B K A1 A2 (right xs ++ L)) ∧ w2.cell? ⟨W.heap.size, 3, none⟩ = some (.slice As m cs) ∧ W.heap.size < w2.heap.size ∧
      ∀ W', GAft w2 W' B K A1 A2 (right xs ++ L) → ActP W B K A1 A2 Al (L.length + m) (.returned (.tuple #[.slice A4 ((right xs).length + L.length) c4, .bool true])) W' := fun w1 w2 A3 A4 c3 c4 hb1 hb2 hr2 => by
    have hc1 : Chg (fun _ => False) W0 w1 := (Chg.refl _ _).addBelow hb1 (Nat.le_refl _)
    have hc2 : Chg (fun _ => False) w1 w2 := (Chg.refl _ _).addBelow hb2 (Nat.le_refl _)
    have hc : Chg (fun _ => False) W w2 := (hc0.trans hc1 (fun _ _ h => h)).trans hc2 (fun _ _ h => h)
    have h2 := (h01.kept hc1 (fun h => h)).kept hc2 (fun h => h)
    have hsz := hc.size
    obtain ⟨hn4, hls4⟩ := Ls.of_row hr2
    refine ⟨front_any B K A1 A2 As m cs L xs w2 (hS.same hc) (hA.kept hc (fun _ _ h => h)) (fun h0 g hg => by have := hAl h0 g hg; omega) hAd (by omega) (by omega), h2.cell 3, h2.lt, fun W' ha => ?_⟩
    rw [hn4]
    refine ActP.mk hc ha hls4 ((Pos.right xs).append hp) hlb2 (fun g hg h => ?_)
    have h5 := (hr2.blk_lt g hg).1
    have h6 := (hS.fp_lt g h).2
    have := hc0.size
    have := hc1.size
    omega
  have HJ := Lib.hid hJ
  have KEY := Lib.hid key
  have hlen : ((L.length : Int) + ((right xs).length : Int) == ((L.length : Int) + ((right xs).length : Int))) = true := by simp
  subst hW0
  clear hJ key h01 hc0 hS hL hp hd hA hAl hAd
  go_enter Try.func10, Try.ntmps10
  go_wp2_with (first
    | (go_at_call 22; refine hR.out.mono ?_; rintro e w1 ⟨A3, c3, rfl, r1, b1⟩; obtain ⟨j1, j2, j3⟩ := HJ.out w1 A3 c3 b1 r1; have J1 := Lib.hid j1; have B1 := Lib.hid b1; clear j1 b1 r1)
    | (go_at_call 21; refine J1.out.mono ?_; rintro e w2 ⟨A4, c4, rfl, r2, b2⟩; obtain ⟨k1, k2, k3, k4⟩ := KEY.out w1 w2 A3 A4 c3 c4 B1.out b2 r2; have K1 := Lib.hid k1; have K4 := Lib.hid k4; clear k1 k4 b2 r2)
    | (go_at_call 19; refine K1.out.mono ?_; rintro e w3 ⟨rfl, ha⟩; have HA := Lib.hid (K4.out _ ha); clear ha))
  go_ret2
  exact HA.out
end Go.Proofs.Ytifflhombjljbaa
