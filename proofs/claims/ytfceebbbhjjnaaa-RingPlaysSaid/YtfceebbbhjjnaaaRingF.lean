/- A ring as a list: take, Put, Get, Grab, Drain, List. -/
import Derived.Test.YtfceebbbhjjnaaaRingE
namespace Go.Proofs.Ytfceebbbhjjnaaa
open Go.ChangeShapes Go.WideShapes Go.ChangeAt Go.RowKit Go.Deep
set_option linter.unusedVariables false

def nxl (nx : Int) : List Int := if nx = 0 then [] else [nx]
section
variable {W : World} {B b n : Nat} {A : Option Addr} {nx : Int} {xs : List Int}
set_option maxRecDepth 100000 in
set_option maxHeartbeats 8000000 in
theorem take_q (h : RQ W B b A n nx xs) (h1 : 1 ≤ n) (h2 : n ≤ 1000) :
    Calls Try.prog 27 #[.pointer (some ⟨b, 0, none⟩)] W fun e W' => ∃ A2 c2, e = .returned (.slice A2 (nxl nx ++ xs).length c2) ∧ Row W' W.heap.size 3 1 A2 (nxl nx ++ xs).length c2 (ints (nxl nx ++ xs)) ∧ RQ W' B b A n 0 [] ∧ Chg (fun g => g = b) W W' := by
  obtain ⟨c0, c1, c4, f0, kb⟩ := h.cells
  have hxn : xs.length ≤ n := h.2.1
  by_cases hnx : nx = 0
  · subst hnx
    have hcut := Lib.hid (cut_q (xs.length) h h1 h2 (Nat.le_refl _))
    rw [List.take_length, List.drop_length] at hcut
    have e0 : nxl 0 ++ xs = xs := rfl
    rw [e0]
    clear h
    go_enter Try.func27, Try.ntmps27
    go_wp2_with (first
      | (go_at_call 29; refine hcut.out.mono ?_; rintro e w3 ⟨rfl, r3, hq3, hc3⟩; have hz3 := hc3.size; have HR3 := Lib.hid r3; have HQ3 := Lib.hid hq3; have HC3 := Lib.hid hc3; clear r3 hq3 hc3)
      | (at_builtin; refine wpList_app rfl (.tmp 16) (.tmp 22) rfl W.heap.size none 0 0 [] rfl (Row.nil _ _ _ _) _ xs.length xs.length xs rfl HR3.out.rd ?_ ?_ ?_; (next => omega); (next => exact hz3); intro A4 c4 w4 s1 s2 s3; have hq4 := HQ3.out.same (Chg.grown (Chg.refl _ _) s2 (fun k hk => by simp [blk] at hk)); obtain ⟨d0, d1, d4, g0, g2⟩ := hq4.cells; have HQ4 := Lib.hid hq4; have HC4 := Lib.hid (HC3.out.grown s2 (fun k hk => by simp [blk] at hk)); have HR4 := Lib.hid s1; clear s1 s2 s3 hq4))
    go_ret
    obtain ⟨q1, q2⟩ := HQ4.out.setnx 0
    refine ⟨A4, c4, by simp, ?_, q1, HC4.out.trans q2 (fun _ _ h => h)⟩
    have := HR4.out.setCell (p := ⟨b, 0, none⟩) (fun e => by have := (HR4.out.blk_lt b e).1; omega) (.int .i64 0)
    simpa using this
  · have x0 : (nx == 0) = false := beq_eq_false_iff_ne.2 hnx
    have x1 : decide (nx = 0) = false := decide_eq_false hnx
    have e0 : nxl nx ++ xs = nx :: xs := by simp [nxl, hnx]
    rw [e0]
    have HQ := Lib.hid h
    have HN := Lib.hid hnx
    clear h hnx
    go_enter Try.func27, Try.ntmps27
    go_wp2_with (first
      | (at_builtin; refine wpList_app rfl (.tmp 16) (.tmp 22) rfl W.heap.size A2 1 c2 [nx] rfl HRow3.out _ xs.length xs.length xs rfl HR3.out.rd ?_ ?_ ?_; (next => omega); (next => omega); intro A4 c4 w4 s1 s2 s3; have hq4 := HQ3.out.kept (Chg.grown (S := fun k => blk A2 = some k) (Chg.refl _ _) s2 (fun k hk => .inl hk)) HF.out; obtain ⟨d0, d1, d4, g0, g2⟩ := hq4.cells; have HQ4 := Lib.hid hq4; have HC4 := Lib.hid (HC3.out.grown s2 (fun k hk => .inr (HRow3.out.blk_lt k hk).1)); have HR4 := Lib.hid s1; clear s1 s2 s3 hq4)
      | (go_at_call 29; refine (HCUT.out).mono ?_; rintro e w3 ⟨rfl, r3, hq3, hc3⟩; rw [List.take_length] at r3; rw [List.drop_length] at hq3; have hz3 := hc3.size; have HR3 := Lib.hid r3; have HRow3 := Lib.hid (HRow2.out.kept hc3 (fun g hg e => by have := (HRow2.out.blk_lt g hg).1; omega)); have HQ3 := Lib.hid hq3; have HC3 := Lib.hid (HCH2.out.trans hc3 (fun _ _ h => h)); clear r3 hq3 hc3)
      | (at_builtin; refine wpList_app rfl (.tmp 9) (.tmp 14) rfl W.heap.size none 0 0 [] rfl (Row.nil _ _ _ _) _ 1 1 [nx] rfl (Rd.lit _ _ _) ?_ ?_ ?_; (next => omega); (next => simp); intro A2 c2 w2 r1 r2 r3; have hch2 := chg_first r2; have hq2 := HQ.out.same hch2; have hz2 := hch2.size; obtain ⟨d0, d1, d4, g0, g2⟩ := hq2.cells; have HCUT := Lib.hid (cut_q xs.length hq2 h1 h2 (Nat.le_refl _)); have HF := Lib.hid (show ∀ k, Fp1 b A k → ¬ blk A2 = some k from fun k hk e => by have h5 := (HQ.out.fp_lt k hk).2; have h6 := (r1.blk_lt k e).1; omega); have HRow2 := Lib.hid r1; have HCH2 := Lib.hid (hch2.mono (S' := fun g => g = b) (fun _ _ h => h.elim)); clear r1 r2 r3 hch2 hq2))
    go_ret
    obtain ⟨q1, q2⟩ := HQ4.out.setnx 0
    refine ⟨A4, c4, ?_, ?_, q1, HC4.out.trans q2 (fun _ _ h => h)⟩
    · rw [show xs.length + 1 = 1 + xs.length from Nat.add_comm _ _]; rfl
    · have := HR4.out.setCell (p := ⟨b, 0, none⟩) (fun e => by have := (HR4.out.blk_lt b e).1; omega) (.int .i64 0)
      rw [show xs.length + 1 = 1 + xs.length from Nat.add_comm _ _]
      simpa using this
/-- What an act hands back, and what it leaves. -/
def OutP (W : World) (B b : Nat) (A : Option Addr) (n : Nat) (nx : Int) (xs o : List Int) (e : Ending) (W' : World) : Prop :=
  ∃ Ao co, e = .returned (.slice Ao o.length co) ∧ Row W' W.heap.size 3 1 Ao o.length co (ints o) ∧ ∃ A', RQ W' B b A' n nx xs ∧ Chg (Fp1 b A) W W' ∧ (∀ g, Fp1 b A' g → Fp1 b A g ∨ W.heap.size ≤ g) ∧ (∀ g, blk Ao = some g → ¬ Fp1 b A' g)
theorem OutP.nil {W W' : World} {B b n : Nat} {A : Option Addr} {nx : Int} {xs : List Int} (h : RAft W W' B b A n nx xs) : OutP W B b A n nx xs [] (.returned (.slice none 0 0)) W' := by
  obtain ⟨A', h1, h2, h3⟩ := h
  exact ⟨Option.none, 0, rfl, Row.nil _ _ _ _, A', h1, h2, h3, fun g hg => by cases hg⟩
theorem OutP.row {W W' : World} {B b n c k : Nat} {A Ao : Option Addr} {nx : Int} {xs o : List Int} (hk : k = o.length) (hq0 : ∀ g, Fp1 b A g → g < W.heap.size) (hr : Row W' W.heap.size 3 1 Ao k c (ints o)) (hq : RQ W' B b A n nx xs) (hc : Chg (fun g => g = b) W W') : OutP W B b A n nx xs o (.returned (.slice Ao k c)) W' := by
  subst hk
  exact ⟨Ao, c, rfl, hr, A, hq, hc.mono (fun _ _ h => .inl h), fun _ h => .inl h, fun g hg h => by have h5 := (hr.blk_lt g hg).1; have h6 := hq0 g h; omega⟩
set_option maxHeartbeats 4000000 in
theorem drain_q (h : RQ W B b A n nx xs) (h1 : 1 ≤ n) (h2 : n ≤ 1000) : Calls Try.prog 19 #[.pointer (Option.some ⟨b, 0, none⟩)] W (OutP W B b A n 0 [] (nxl nx ++ xs)) := by
  obtain ⟨c0, c1, c4, f0, kb⟩ := h.cells
  have n0 : ((n : Int) == 0) = false := by simp; omega
  have ht := take_q h h1 h2
  obtain ⟨L, hL⟩ : ∃ L, L = nxl nx ++ xs := ⟨_, rfl⟩
  rw [← hL] at ht ⊢
  have HT := Lib.hid ht
  clear ht hL
  have HF := Lib.hid (fun g hg => (h.fp_lt g hg).2)
  clear h
  go_enter Try.func19, Try.ntmps19
  go_wp2_with (first
    | (go_at_call 26; go_in)
    | (go_at_call 27; refine HT.out.mono ?_; rintro e w3 ⟨A2, c2, rfl, r3, hq3, hc3⟩; have HR3 := Lib.hid r3; have HQ3 := Lib.hid hq3; have HC3 := Lib.hid hc3; clear r3 hq3 hc3))
  go_ret
  exact OutP.row rfl HF.out HR3.out HQ3.out HC3.out
set_option maxRecDepth 100000 in
set_option maxHeartbeats 4000000 in
theorem list_q (h : RQ W B b A n nx xs) (h1 : 1 ≤ n) (h2 : n ≤ 1000) (hB : B ≤ W.heap.size) : Calls Try.prog 11 #[.pointer (Option.some ⟨b, 0, none⟩)] W fun e W' => ∃ A2 c2, e = .returned (.slice A2 (nxl nx ++ xs).length c2) ∧ Row W' W.heap.size 3 1 A2 (nxl nx ++ xs).length c2 (ints (nxl nx ++ xs)) ∧ Chg (fun _ => False) W W' := by
  obtain ⟨c0, c1, c4, f0, kb⟩ := h.cells
  have n0 : ((n : Int) == 0) = false := by simp; omega
  have key : ∃ (ra : Option Addr) (rn rc f : Nat), W.cell? ⟨b, 2, none⟩ = some (.slice ra rn rc) ∧ W.cell? ⟨b, 3, none⟩ = some (.int .i64 (f : Int)) ∧ RQ (W.alloc (.cells #[.int .i64 nx, .int .i64 (n : Int), .slice ra rn rc, .int .i64 (f : Int), .int .i64 (xs.length : Int)] 44)) B W.heap.size A n nx xs := by
    obtain ⟨h0, hxl, f, hf, h3⟩ := h
    rcases h3 with ⟨rfl, rfl, h4⟩ | ⟨S', vs, rfl, h4, h5, h6, h7, h8⟩
    · exact ⟨_, _, _, f, Blk.cell h4 2, Blk.cell h4 3, hB, hxl, f, hf, .inl ⟨rfl, rfl, Blk.new _ _ _⟩⟩
    · exact ⟨_, _, _, f, Blk.cell h5 2, Blk.cell h5 3, hB, hxl, f, hf, .inr ⟨S', vs, rfl, h4, Blk.new _ _ _, h6.alloc _, h7, h8⟩⟩
  obtain ⟨ra, rn, rc, f, c2, c3, hq⟩ := key
  have ht := take_q hq h1 h2
  obtain ⟨L, hL⟩ : ∃ L, L = nxl nx ++ xs := ⟨_, rfl⟩
  rw [← hL] at ht ⊢
  have HT := Lib.hid ht
  clear ht hL h hq
  go_enter Try.func11, Try.ntmps11
  go_wp2_with (first
    | (go_at_call 26; go_in)
    | (go_at_call 27; refine HT.out.mono ?_; rintro e w3 ⟨A2, c2, rfl, r3, hq3, hc3⟩; have HR3 := Lib.hid r3; have HC3 := Lib.hid hc3; clear r3 hq3 hc3))
  go_ret
  have hc := HC3.out
  exact ⟨A2, c2, rfl, HR3.out.lower (by simp), ⟨hc.os, hc.tape, hc.output, by have := hc.size; simp at this; omega, fun k hk _ => (hc.block k (by simp; omega) (by omega)).trans (Below.heap_alloc W _ k hk)⟩⟩
set_option maxHeartbeats 4000000 in
theorem len_q (h : RQ W B b A n nx xs) (h1 : 1 ≤ n) (h2 : n ≤ 1000) : Calls Try.prog 13 #[.pointer (Option.some ⟨b, 0, none⟩)] W fun e W' => e = .returned (.int .i64 ((nxl nx ++ xs).length : Int)) ∧ W = W' := by
  obtain ⟨c0, c1, c4, f0, kb⟩ := h.cells
  have n0 : ((n : Int) == 0) = false := by simp; omega
  have hxl : (xs.length : Int) ≤ 1000 := by have := h.2.1; omega
  clear h
  by_cases hnx : nx = 0
  · subst hnx
    have e0 : nxl 0 ++ xs = xs := rfl
    rw [e0]
    go_enter Try.func13, Try.ntmps13
    go_wp2_with (go_at_call 26; go_in)
    go_ret
    exact ⟨rfl, rfl⟩
  · have x0 : (nx == 0) = false := beq_eq_false_iff_ne.2 hnx
    have e0 : ((nxl nx ++ xs).length : Int) = xs.length + 1 := by simp [nxl, hnx]
    rw [e0]
    clear e0
    go_enter Try.func13, Try.ntmps13
    go_wp2_with (go_at_call 26; go_in)
    go_ret
    exact ⟨rfl, rfl⟩
/-- Behind the row. -/
def behF (n : Nat) (xs : List Int) (g : Int) : List Int × List Int := if xs.length < n then ([], xs ++ [g]) else (xs.take (n / 2) ++ [g], xs.drop (n / 2))
def putF (n : Nat) (nx : Int) (xs : List Int) (g : Int) (next : Bool) : List Int × Int × List Int :=
  if g < 1 then ([], nx, xs) else if next = true then (if nx = 0 then ([], g, xs) else ((behF n xs nx).1, g, (behF n xs nx).2)) else ((behF n xs g).1, nx, (behF n xs g).2)
set_option maxRecDepth 100000 in
set_option maxHeartbeats 8000000 in
/-- What comes behind the row, whatever was stored ahead of that. -/
theorem put_q (h : RQ W B b A n nx xs) (h1 : 2 ≤ n) (h2 : n ≤ 1000) (hB : B ≤ W.heap.size) (g : Int) (next : Bool) :
    Calls Try.prog 16 #[.pointer (Option.some ⟨b, 0, none⟩), .int .i64 g, .bool next] W (OutP W B b A n (putF n nx xs g next).2.1 (putF n nx xs g next).2.2 (putF n nx xs g next).1) := by
  obtain ⟨c0, c1, c4, f0, kb⟩ := h.cells
  have n0 : ((n : Int) == 0) = false := by simp; omega
  have hxl := h.2.1
  have q1 : Int.tdiv (n : Int) 2 = ((n / 2 : Nat) : Int) := by rw [Int.tdiv_eq_ediv_of_nonneg (by omega)]; simp
  by_cases hg : g < 1
  · have e : putF n nx xs g next = ([], nx, xs) := by rw [putF, if_pos hg]
    rw [e]
    have HE := Lib.hid (OutP.nil (RAft.ofb h (Chg.refl _ _)))
    clear h e
    go_enter Try.func16, Try.ntmps16
    go_wp2_with (go_at_call 26; go_in)
    go_ret
    exact HE.out
  · cases next with
    | true =>
      obtain ⟨hs, hcs⟩ := h.setnx g
      by_cases hnx : nx = 0
      · have e : putF n nx xs g true = ([], g, xs) := by rw [putF, if_neg hg, if_pos rfl, if_pos hnx]
        rw [e]
        have HE := Lib.hid (OutP.nil (RAft.ofb hs hcs))
        subst hnx
        clear h e hs hcs
        go_enter Try.func16, Try.ntmps16
        go_wp2_with (go_at_call 26; go_in)
        go_ret
        exact HE.out
      · have x0 : (nx == 0) = false := beq_eq_false_iff_ne.2 hnx
        have x1 : decide (nx = 0) = false := decide_eq_false hnx
        by_cases hl : xs.length < n
        · have e : putF n nx xs g true = ([], g, xs ++ [nx]) := by rw [putF, if_neg hg, if_pos rfl, if_neg hnx, behF, if_pos hl]
          rw [e]
          have hps := push_q nx hs (by omega) h2 hl (by simpa [World.setCell] using hB)
          have HP := Lib.hid hps
          have HC := Lib.hid hcs
          clear h e hs hcs hps hnx
          go_enter Try.func16, Try.ntmps16
          go_wp2_with (first
            | (go_at_call 26; go_in)
            | (go_at_call 28; refine HP.out.mono ?_; rintro e w3 ⟨rfl, ha⟩; have HA := Lib.hid (RAft.pre HC.out ha); clear ha))
          go_ret
          exact OutP.nil HA.out
        · have e : putF n nx xs g true = (xs.take (n / 2) ++ [nx], g, xs.drop (n / 2)) := by rw [putF, if_neg hg, if_pos rfl, if_neg hnx, behF, if_neg hl]
          rw [e]
          have HP := Lib.hid (push_full nx hs (by omega))
          have HF := Lib.hid (fun g hg => (h.fp_lt g hg).2)
          have HCUT := Lib.hid (fun q : Nat => show Calls Try.prog 29 #[.pointer (Option.some ⟨b, 0, Option.none⟩), .int .i64 ((n / 2 : Nat) : Int)] ((W.setCell ⟨b, 0, Option.none⟩ (.int .i64 g)).drewN q) (fun e W' => e = .returned (.slice (Option.some ⟨W.heap.size, 0, Option.none⟩) (n / 2) (n / 2)) ∧ Row W' W.heap.size 3 1 (Option.some ⟨W.heap.size, 0, Option.none⟩) (n / 2) (n / 2) (ints (xs.take (n / 2))) ∧ RQ W' B b A n g (xs.drop (n / 2)) ∧ Chg (fun g => g = b) W W') from by
            have hsz : ((W.setCell ⟨b, 0, Option.none⟩ (.int .i64 g)).drewN q).heap.size = W.heap.size := by simp [World.setCell]
            have hcq := cut_q (n / 2) (hs.same ((Chg.refl _ _).drewN q)) (by omega) h2 (by omega)
            rw [hsz] at hcq
            refine hcq.mono ?_
            rintro e W' ⟨e1, e2, e3, e4⟩
            exact ⟨e1, e2, e3, (hcs.drewN q).trans e4 (fun _ _ h => h)⟩)
          clear h e hs hcs hnx
          go_enter Try.func16, Try.ntmps16
          go_wp2_with (first
            | (go_at_call 26; go_in)
            | (go_at_call 28; refine HP.out.mono ?_; rintro e w2 ⟨rfl, q, rfl⟩)
            | (go_at_call 29; refine (HCUT.out q).mono ?_; rintro e w3 ⟨rfl, r3, hq3, hc3⟩; have hz3 := hc3.size; have HR3 := Lib.hid r3; have HQ3 := Lib.hid hq3; have HC3 := Lib.hid hc3; clear r3 hq3 hc3)
            | (at_builtin; refine wpList_app rfl (.tmp 35) (.tmp 37) rfl W.heap.size (Option.some ⟨W.heap.size, 0, Option.none⟩) (n / 2) (n / 2) (xs.take (n / 2)) rfl (HR3.out.alloc _) _ 1 1 [nx] rfl (Rd.lit _ _ _) ?_ ?_ ?_; (next => omega); (next => (simp; omega)); intro A4 c4 w4 s1 s2 s3; have HR4 := Lib.hid s1; have HQ4 := Lib.hid (HQ3.out.kept (Chg.grown (S := fun k => k = W.heap.size) ((Chg.refl _ _).alloc _) s2 (fun k hk => .inl (Option.some.inj (show Option.some W.heap.size = Option.some k from hk)).symm)) (fun k hk e => by have := HF.out k hk; omega)); have HC4 := Lib.hid ((HC3.out.alloc _).grown s2 (fun k hk => .inr (by have := Option.some.inj (show Option.some W.heap.size = Option.some k from hk); omega))); clear s1 s2 s3))
          go_ret
          exact OutP.row (by simp; omega) HF.out HR4.out HQ4.out HC4.out
    | false =>
      have x0 : (g == 0) = false := beq_eq_false_iff_ne.2 (by omega)
      have x1 : decide (g = 0) = false := decide_eq_false (by omega)
      have x2 : ¬ g = 0 := by omega
      by_cases hl : xs.length < n
      · have e : putF n nx xs g false = ([], nx, xs ++ [g]) := by rw [putF, if_neg hg, if_neg (by simp), behF, if_pos hl]
        rw [e]
        have hps := push_q g h (by omega) h2 hl hB
        have HP := Lib.hid hps
        clear h e hps
        go_enter Try.func16, Try.ntmps16
        go_wp2_with (first
          | (go_at_call 26; go_in)
          | (go_at_call 28; refine HP.out.mono ?_; rintro e w3 ⟨rfl, ha⟩; have HA := Lib.hid ha; clear ha))
        go_ret
        exact OutP.nil HA.out
      · have e : putF n nx xs g false = (xs.take (n / 2) ++ [g], nx, xs.drop (n / 2)) := by rw [putF, if_neg hg, if_neg (by simp), behF, if_neg hl]
        rw [e]
        have hs := h
        have hcs : Chg (fun g => g = b) W W := Chg.refl _ _
        have HP := Lib.hid (push_full g h (by omega))
        have HF := Lib.hid (fun g hg => (h.fp_lt g hg).2)
        have HCUT := Lib.hid (fun q : Nat => show Calls Try.prog 29 #[.pointer (Option.some ⟨b, 0, Option.none⟩), .int .i64 ((n / 2 : Nat) : Int)] (W.drewN q) (fun e W' => e = .returned (.slice (Option.some ⟨W.heap.size, 0, Option.none⟩) (n / 2) (n / 2)) ∧ Row W' W.heap.size 3 1 (Option.some ⟨W.heap.size, 0, Option.none⟩) (n / 2) (n / 2) (ints (xs.take (n / 2))) ∧ RQ W' B b A n nx (xs.drop (n / 2)) ∧ Chg (fun g => g = b) W W') from by
          have hsz : (W.drewN q).heap.size = W.heap.size := by simp [World.setCell]
          have hcq := cut_q (n / 2) (hs.same ((Chg.refl _ _).drewN q)) (by omega) h2 (by omega)
          rw [hsz] at hcq
          refine hcq.mono ?_
          rintro e W' ⟨e1, e2, e3, e4⟩
          exact ⟨e1, e2, e3, (hcs.drewN q).trans e4 (fun _ _ h => h)⟩)
        clear h e hs hcs
        go_enter Try.func16, Try.ntmps16
        go_wp2_with (first
          | (go_at_call 26; go_in)
          | (go_at_call 28; refine HP.out.mono ?_; rintro e w2 ⟨rfl, q, rfl⟩)
          | (go_at_call 29; refine (HCUT.out q).mono ?_; rintro e w3 ⟨rfl, r3, hq3, hc3⟩; have hz3 := hc3.size; have HR3 := Lib.hid r3; have HQ3 := Lib.hid hq3; have HC3 := Lib.hid hc3; clear r3 hq3 hc3)
          | (at_builtin; refine wpList_app rfl (.tmp 35) (.tmp 37) rfl W.heap.size (Option.some ⟨W.heap.size, 0, Option.none⟩) (n / 2) (n / 2) (xs.take (n / 2)) rfl (HR3.out.alloc _) _ 1 1 [g] rfl (Rd.lit _ _ _) ?_ ?_ ?_; (next => omega); (next => (simp; omega)); intro A4 c4 w4 s1 s2 s3; have HR4 := Lib.hid s1; have HQ4 := Lib.hid (HQ3.out.kept (Chg.grown (S := fun k => k = W.heap.size) ((Chg.refl _ _).alloc _) s2 (fun k hk => .inl (Option.some.inj (show Option.some W.heap.size = Option.some k from hk)).symm)) (fun k hk e => by have := HF.out k hk; omega)); have HC4 := Lib.hid ((HC3.out.alloc _).grown s2 (fun k hk => .inr (by have := Option.some.inj (show Option.some W.heap.size = Option.some k from hk); omega))); clear s1 s2 s3))
        go_ret
        exact OutP.row (by simp; omega) HF.out HR4.out HQ4.out HC4.out
end
end Go.Proofs.Ytfceebbbhjjnaaa
