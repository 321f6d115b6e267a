/- Points at which the order changes: the program's and the document's. -/
import Derived.Test.YtfmjmhnbdceipaaPcC
import Derived.Test.YtfmjmhnbdceipaaRsort
import Derived.Test.YtfmjmhnbdceipaaRins
import Derived.Test.YtfmjmhnbdceipaaRhas
namespace Go.Proofs.Ytfmjmhnbdceipaa
open Go.ChangeShapes Go.WideShapes Go.ChangeAt Go.RowKit Go.Deep
set_option linter.unusedVariables false

/-- What is thrown k times below m. -/
def thr : Nat → Int → Int → List Int
  | 0, _, _ => []
  | k + 1, x, m => thr k x m ++ [bel (Nat.repeat nx k x) m]
@[simp] theorem thr_len : ∀ k x m, (thr k x m).length = k
  | 0, _, _ => rfl
  | k + 1, x, m => by simp [thr, thr_len]
theorem thr_in (m : Int) (hm : 1 ≤ m) (x : Int) : ∀ k, ∀ z ∈ thr k x m, 0 ≤ z ∧ z < m
  | 0, z, hz => by simp [thr] at hz
  | k + 1, z, hz => by
    rcases List.mem_append.1 hz with hz | hz
    · exact thr_in m hm x k z hz
    · rw [List.mem_singleton.1 hz]; exact bel_in _ _ hm
def pointsOf (seed steps : Int) (c : Nat) : List Int := Lib.compact (srt (thr c seed (steps + 1)))
theorem pointsOf_up (seed steps : Int) (c : Nat) : Up (pointsOf seed steps c) := (compact_srt _).1
theorem pointsOf_mem (seed steps : Int) (c : Nat) (z : Int) : z ∈ pointsOf seed steps c ↔ z ∈ thr c seed (steps + 1) := (compact_srt _).2 z
theorem pointsOf_le (seed steps : Int) (c : Nat) : (pointsOf seed steps c).length ≤ c := by
  have := compact_le (srt (thr c seed (steps + 1)))
  simpa [pointsOf] using this
/-- The answer's list behind k throws. -/
def folded : Nat → Int → Int → List Int
  | 0, _, _ => []
  | k + 1, x, m => if bel (Nat.repeat nx k x) m ∈ folded k x m then folded k x m else ins (folded k x m) (bel (Nat.repeat nx k x) m)
theorem folded_up : ∀ k x m, Up (folded k x m) ∧ (folded k x m).length ≤ k ∧ ∀ z, z ∈ folded k x m ↔ z ∈ thr k x m
  | 0, x, m => ⟨Up.nil, Nat.le_refl _, fun z => by simp [folded, thr]⟩
  | k + 1, x, m => by
    obtain ⟨h1, h2, h3⟩ := folded_up k x m
    rw [folded]
    split
    · rename_i hin
      refine ⟨h1, by omega, fun z => ?_⟩
      rw [thr, List.mem_append, h3 z, List.mem_singleton]
      exact ⟨fun h => .inl h, fun h => by rcases h with h | h; exact h; subst h; exact (h3 _).1 hin⟩
    · rename_i hin
      refine ⟨ins_up h1 hin, by rw [ins_len]; omega, fun z => ?_⟩
      rw [ins_mem, thr, List.mem_append, h3 z, List.mem_singleton]
      exact Or.comm
theorem folded_all (c : Nat) (seed steps : Int) : folded c seed (steps + 1) = pointsOf seed steps c :=
  (folded_up c seed (steps + 1)).1.same (pointsOf_up seed steps c) (fun z => by rw [(folded_up c seed (steps + 1)).2.2 z, pointsOf_mem])
theorem rep_succ (k : Nat) (x : Int) : Nat.repeat nx (k + 1) x = nx (Nat.repeat nx k x) := rfl

def RoundTh (W : World) (c : Nat) (seed m : Int) (i : Value) (wr : World) : Prop := ∃ k : Nat, k ≤ c ∧ i = .int .i64 k ∧ Blk wr W.heap.size 60 #[.int .u64 (Nat.repeat nx k seed)] ∧ Blk wr (W.heap.size + 1) 3 (ints (thr k seed m ++ List.replicate (c - k) 0)).toArray ∧ Below W.heap.size W wr
theorem th_step {c k : Nat} {seed m : Int} (hk : k < c) : (thr k seed m ++ List.replicate (c - k) (0 : Int)).set k (bel (Nat.repeat nx k seed) m) = thr (k + 1) seed m ++ List.replicate (c - (k + 1)) 0 := by
  rw [List.set_append_right _ _ (by simp), show c - k = (c - (k + 1)) + 1 by omega, List.replicate_succ, thr]
  simp
theorem RoundTh.step {W wr : World} {c k : Nat} {seed m : Int} (hk : k < c) (hD : Blk wr W.heap.size 60 #[.int .u64 (Nat.repeat nx k seed)]) (hB : Blk wr (W.heap.size + 1) 3 (ints (thr k seed m ++ List.replicate (c - k) 0)).toArray) (hb : Below W.heap.size W wr) :
    RoundTh W c seed m (.int .i64 ((k : Int) + 1)) ((wr.setCell ⟨W.heap.size, 0, none⟩ (.int .u64 (nx (Nat.repeat nx k seed)))).setCell ⟨W.heap.size + 1, k, none⟩ (.int .i64 (bel (Nat.repeat nx k seed) m))) := by
  refine ⟨k + 1, by omega, by go_num, ?_, ?_, (hb.setCell (p := ⟨W.heap.size, 0, none⟩) (Nat.le_refl _) _).setCell (p := ⟨W.heap.size + 1, k, none⟩) (show W.heap.size ≤ W.heap.size + 1 by omega) _⟩
  · have := (hD.set_ 0 (.int .u64 (nx (Nat.repeat nx k seed)))).far (p := ⟨W.heap.size + 1, k, none⟩) (by simp) (.int .i64 (bel (Nat.repeat nx k seed) m))
    simpa [rep_succ] using this
  · have := blk_set (hB.far (p := ⟨W.heap.size, 0, none⟩) (by simp) (.int .u64 (nx (Nat.repeat nx k seed)))) k (bel (Nat.repeat nx k seed) m)
    rw [th_step hk] at this
    exact this
theorem points_no (seed steps c : Int) (W : World) (h : steps < 0 ∨ 65536 < steps ∨ c < 0 ∨ 100 < c) : Calls Try.prog 19 #[.int .u64 seed, .int .i64 steps, .int .i64 c] W fun e W' => e = .returned (.slice none 0 0) ∧ W' = W := by
  have h' : (steps < 0) ∨ (0 ≤ steps ∧ 65536 < steps) ∨ (0 ≤ steps ∧ steps ≤ 65536 ∧ c < 0) ∨ (0 ≤ steps ∧ steps ≤ 65536 ∧ 0 ≤ c ∧ 100 < c) := by omega
  clear h
  rcases h' with h1 | ⟨h1, h2⟩ | ⟨h1, h2, h3⟩ | ⟨h1, h2, h3, h4⟩
  all_goals
    try have g1 : ¬ steps ≤ 65536 := by omega
    try have g2 : ¬ 0 ≤ steps := by omega
    try have g3 : ¬ c ≤ 100 := by omega
    try have g4 : ¬ 0 ≤ c := by omega
    go_enter Try.func19, Try.ntmps19
    go_wp2
    go_ret
    exact ⟨rfl, rfl⟩
theorem rpoints_no (seed steps c : Int) (W : World) (h : steps < 0 ∨ 65536 < steps ∨ c < 0 ∨ 100 < c) : Calls Try.prog 20 #[.int .u64 seed, .int .i64 steps, .int .i64 c] W fun e W' => e = .returned (.slice none 0 0) ∧ W' = W := by
  have h' : (steps < 0) ∨ (0 ≤ steps ∧ 65536 < steps) ∨ (0 ≤ steps ∧ steps ≤ 65536 ∧ c < 0) ∨ (0 ≤ steps ∧ steps ≤ 65536 ∧ 0 ≤ c ∧ 100 < c) := by omega
  clear h
  rcases h' with h1 | ⟨h1, h2⟩ | ⟨h1, h2, h3⟩ | ⟨h1, h2, h3, h4⟩
  all_goals
    try have g1 : ¬ steps ≤ 65536 := by omega
    try have g2 : ¬ 0 ≤ steps := by omega
    try have g3 : ¬ c ≤ 100 := by omega
    try have g4 : ¬ 0 ≤ c := by omega
    go_enter Try.func20, Try.ntmps20
    go_wp2
    go_ret
    exact ⟨rfl, rfl⟩
set_option maxRecDepth 100000 in
set_option maxHeartbeats 8000000 in
theorem points_yes (seed steps : Int) (c : Nat) (W : World) (h0 : 0 ≤ steps) (h1 : steps ≤ 65536) (hc : c ≤ 100) : Calls Try.prog 19 #[.int .u64 seed, .int .i64 steps, .int .i64 c] W fun e W' => ∃ A d, e = .returned (.slice A (pointsOf seed steps c).length d) ∧ Row W' W.heap.size 3 1 A (pointsOf seed steps c).length d (ints (pointsOf seed steps c)) ∧ Below W.heap.size W W' := by
  have hmf : ∀ (fn : Fn) (first cap : Array Value) (W : World), (Instr.makeFunc fn first cap).run Try.prog W = .ok (.func fn first cap) W := fun _ _ _ _ => rfl
  have hmk := run_make_row' (P := Try.prog) 37 3 (.int .i64 0) 8 Try.underlying37 int_info rfl .i64 .i64 c (by omega) (by omega)
  have c0 : (0 : Int) ≤ c := by omega
  have c1 : (c : Int) ≤ 100 := by omega
  have m1 : 1 ≤ steps + 1 := by omega
  obtain ⟨m, hm⟩ : ∃ m, m = steps + 1 := ⟨_, rfl⟩
  have Hm := Lib.hid hm
  have hP := Lib.hid (show pointsOf seed steps c = Lib.compact (srt (thr c seed m)) by rw [hm]; rfl)
  rw [hP.out]
  clear hm
  go_enter Try.func19, Try.ntmps19
  go_wp2_with (first | (go_at_call 26; refine (dnew_any _ _).mono ?_; rintro e w1 ⟨rfl, rfl⟩) | (go_at_call 24; go_in) | (go_at_call 23; go_in))
  go_loopw [21] (fun i wr => RoundTh W c seed m i wr) (fun i _ => c - (intOf i).toNat)
  case atStart => exact ⟨0, Nat.zero_le _, rfl, (Blk.new W _ _).alloc _, by have h := Blk.new (W.alloc (.cells #[.int .u64 seed] 60)) 3 (ints (thr 0 seed m ++ List.replicate (c - 0) 0)).toArray; have e : (W.alloc (.cells #[.int .u64 seed] 60)).heap.size = W.heap.size + 1 := (by simp); rw [e] at h; rw [made_zero]; exact h, ((Below.refl _ _).alloc (Nat.le_refl _) _).alloc (by simp) _⟩
  case round =>
    clear hmk
    obtain ⟨k, hk, rfl, hD, hB, hb⟩ := hrel
    have k0 : (0 : Int) ≤ k := by omega
    by_cases hlt : k < c
    · have k1 : (k : Int) < c := by omega
      have e0 := blk_int hB k (by simp; omega)
      have f0 := hB.frozen k
      generalize (thr k seed m ++ List.replicate (c - k) (0 : Int)).getD k 0 = z at e0
      have H9 := Lib.hid (RoundTh.step hlt hD hB hb)
      have hbel := below_yes (Nat.repeat nx k seed) (steps + 1) W.heap.size wr hD m1 (by omega)
      rw [show bel (Nat.repeat nx k seed) (steps + 1) = bel (Nat.repeat nx k seed) m by rw [Hm.out]] at hbel
      have HBel := Lib.hid hbel
      generalize Nat.repeat nx k seed = x at *
      generalize bel x m = y at *
      generalize nx x = x2 at *
      have hwb : W.heap.size + 1 ≠ W.heap.size := by omega
      clear hbel hD hB hb
      go_wp2_with (go_at_call 27; refine HBel.out.mono ?_; rintro e w1 ⟨rfl, rfl⟩)
      go_roundw
      case measure => simp [intOf]; omega
      case rel => exact H9.out
    · obtain rfl : k = c := by omega
      have hrow : Row wr W.heap.size 3 1 (some ⟨W.heap.size + 1, 0, none⟩) k k (ints (thr k seed m)) := by
        rw [Nat.sub_self, List.replicate_zero, List.append_nil] at hB
        exact ⟨by simp, Nat.le_refl _, by unfold maxLen; omega, .inr ⟨W.heap.size + 1, _, rfl, by omega, hB, by simp, by simp; rw [List.take_of_length_le (by simp)]⟩⟩
      have HR := Lib.hid hrow
      have HB := Lib.hid hb
      clear hD hB hb hrow
      go_wp2_with (first
        | (go_at_call 30; refine (sort_any _ _ _ _ _ _ _ HR.out (by omega)).mono ?_; rintro e w3 ⟨rfl, r3, g3⟩; have HR3 := Lib.hid r3; have HG3 := Lib.hid g3; clear r3 g3)
        | (go_at_call 31; refine (compact_any _ _ _ _ _ _ HR3.out (by omega)).mono ?_; rintro e w4 ⟨rfl, r4, g4⟩; have HR4 := Lib.hid r4; have HG4 := Lib.hid g4; clear r4 g4))
      go_ret
      refine ⟨_, _, rfl, HR4.out, (HB.out.trans (HG3.out.below HB.out.size ?_)).trans (HG4.out.below (Nat.le_trans HB.out.size HG3.out.size) ?_)⟩
      all_goals
        rintro g _ rfl
        omega
def RoundRp (W : World) (c : Nat) (seed m : Int) (out x i : Value) (wr : World) : Prop := ∃ (k : Nat) (A : Option Addr) (d : Nat), k ≤ c ∧ i = .int .i64 k ∧ x = .int .u64 (Nat.repeat nx k seed) ∧ out = .slice A (folded k seed m).length d ∧
  Row wr W.heap.size 3 1 A (folded k seed m).length d (ints (folded k seed m)) ∧ ((folded k seed m).length = 0 → A = none ∧ d = 0) ∧ Chg (fun _ => False) W wr
theorem RoundRp.old {W wr w2 : World} {c k d : Nat} {seed m : Int} {A : Option Addr} (hk : k < c) (hin : bel (Nat.repeat nx k seed) m ∈ folded k seed m) (hR : Row wr W.heap.size 3 1 A (folded k seed m).length d (ints (folded k seed m))) (hz : (folded k seed m).length = 0 → A = none ∧ d = 0) (hc : Chg (fun _ => False) W wr) (q : Nat) :
    RoundRp W c seed m (.slice A (folded k seed m).length d) (.int .u64 (nx (Nat.repeat nx k seed))) (.int .i64 ((k : Int) + 1)) (wr.drewN q) := by
  have e : folded (k + 1) seed m = folded k seed m := by rw [folded, if_pos hin]
  exact ⟨k + 1, A, d, by omega, by go_num, rfl, by rw [e], by rw [e]; exact hR.drewN q, by rw [e]; exact hz, hc.drewN q⟩
theorem RoundRp.new {W wr w2 : World} {c k d : Nat} {seed m : Int} {A : Option Addr} {q : Nat} (hk : k < c) (hin : bel (Nat.repeat nx k seed) m ∉ folded k seed m) (hc : Chg (fun _ => False) W wr) (hc2 : Chg (fun _ => False) (wr.drewN q) w2)
    (hR : Row w2 (wr.drewN q).heap.size 3 1 A ((folded k seed m).length + 1) d (ints (ins (folded k seed m) (bel (Nat.repeat nx k seed) m)))) :
    RoundRp W c seed m (.slice A ((folded k seed m).length + 1) d) (.int .u64 (nx (Nat.repeat nx k seed))) (.int .i64 ((k : Int) + 1)) w2 := by
  have e : folded (k + 1) seed m = ins (folded k seed m) (bel (Nat.repeat nx k seed) m) := by rw [folded, if_neg hin]
  have hl : (folded (k + 1) seed m).length = (folded k seed m).length + 1 := by rw [e, ins_len]
  have hs := hc.size
  exact ⟨k + 1, A, d, by omega, by go_num, rfl, by rw [hl], by rw [hl, e]; exact hR.lower hs, fun h => by omega, (hc.drewN q).trans hc2 (fun _ _ h => h)⟩
set_option maxRecDepth 100000 in
set_option maxHeartbeats 8000000 in
theorem rpoints_yes (seed steps : Int) (c : Nat) (W : World) (h0 : 0 ≤ steps) (h1 : steps ≤ 65536) (hc : c ≤ 100) : Calls Try.prog 20 #[.int .u64 seed, .int .i64 steps, .int .i64 c] W fun e W' => ∃ A d, e = .returned (.slice A (pointsOf seed steps c).length d) ∧ Row W' W.heap.size 3 1 A (pointsOf seed steps c).length d (ints (pointsOf seed steps c)) ∧ Below W.heap.size W W' := by
  have c0 : (0 : Int) ≤ c := by omega
  have c1 : (c : Int) ≤ 100 := by omega
  have m1 : 1 ≤ steps + 1 := by omega
  obtain ⟨m, hm⟩ : ∃ m, m = steps + 1 := ⟨_, rfl⟩
  have Hm := Lib.hid hm
  have hP := Lib.hid (show folded c seed m = pointsOf seed steps c by rw [hm]; exact folded_all c seed steps)
  rw [← hP.out]
  clear hm
  go_enter Try.func20, Try.ntmps20
  go_wp2
  go_loopw [7, 8, 9] (fun out x i wr => RoundRp W c seed m out x i wr) (fun _ _ i _ => c - (intOf i).toNat)
  case atStart => exact ⟨0, none, 0, Nat.zero_le _, rfl, rfl, rfl, Row.nil _ _ _ _, fun _ => ⟨rfl, rfl⟩, Chg.refl _ _⟩
  case round =>
    obtain ⟨k, A, d, hk, rfl, rfl, rfl, hR, hz, hch⟩ := hrel
    have k0 : (0 : Int) ≤ k := by omega
    have hfl := (folded_up k seed m).2.1
    by_cases hlt : k < c
    · have k1 : (k : Int) < c := by omega
      have hbel := rbelow_yes (Nat.repeat nx k seed) (steps + 1) wr m1 (by omega)
      rw [show bel (Nat.repeat nx k seed) (steps + 1) = bel (Nat.repeat nx k seed) m by rw [Hm.out]] at hbel
      have HBel := Lib.hid hbel
      by_cases hin : bel (Nat.repeat nx k seed) m ∈ folded k seed m
      · have H9 := Lib.hid (fun q => RoundRp.old (w2 := wr) hlt hin hR hz hch q)
        have hHas := fun q => has_any A (folded k seed m).length d (bel (Nat.repeat nx k seed) m) (folded k seed m) (wr.drewN q) (hR.rd.drewN q) (by omega)
        rw [decide_eq_true hin] at hHas
        have HHas := Lib.hid hHas
        clear hbel hin hR hz hch hHas
        generalize bel (Nat.repeat nx k seed) m = y at *
        generalize nx (Nat.repeat nx k seed) = x2 at *
        go_wp2_with (first
          | (go_at_call 29; refine HBel.out.mono ?_; rintro e w1 ⟨rfl, q, rfl⟩)
          | (go_at_call 22; refine (HHas.out _).mono ?_; rintro e w1 ⟨rfl, rfl⟩))
        go_roundw
        case measure => simp [intOf]; omega
        case rel => exact H9.out _
      · have H9 := Lib.hid (fun q w2 A2 d2 => RoundRp.new (w2 := w2) (q := q) (A := A2) (d := d2) hlt hin hch)
        have hHas := fun q => has_any A (folded k seed m).length d (bel (Nat.repeat nx k seed) m) (folded k seed m) (wr.drewN q) (hR.rd.drewN q) (by omega)
        rw [decide_eq_false hin] at hHas
        have HHas := Lib.hid hHas
        have HIns := Lib.hid (fun q => insert_any A (folded k seed m).length d (bel (Nat.repeat nx k seed) m) (folded k seed m) (wr.drewN q) (hR.rd.drewN q) (by omega) hR.2.1 hR.2.2.1 hz)
        clear hbel hin hR hz hch hHas
        generalize bel (Nat.repeat nx k seed) m = y at *
        generalize nx (Nat.repeat nx k seed) = x2 at *
        go_wp2_with (first
          | (go_at_call 29; refine HBel.out.mono ?_; rintro e w1 ⟨rfl, q, rfl⟩)
          | (go_at_call 22; refine (HHas.out _).mono ?_; rintro e w1 ⟨rfl, rfl⟩)
          | (go_at_call 32; refine (HIns.out _).mono ?_; rintro e w3 ⟨A3, d3, rfl, r3, g3⟩; have HR3 := Lib.hid r3; have HG3 := Lib.hid g3; clear r3 g3))
        go_roundw
        case measure => simp [intOf]; omega
        case rel => exact H9.out _ _ _ _ HG3.out HR3.out
    · obtain rfl : k = c := by omega
      have HR := Lib.hid hR
      have HC := Lib.hid hch
      clear hR hch hz
      go_wp2
      go_ret
      exact ⟨_, _, rfl, HR.out, HC.out.below (Nat.le_refl _) (fun _ _ h => h.elim)⟩
end Go.Proofs.Ytfmjmhnbdceipaa
