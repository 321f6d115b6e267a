/- Fill, by the program. -/
import Derived.Test.YtfceebbbhjjnaaaRingS
namespace Go.Proofs.Ytfceebbbhjjnaaa
open Go.ChangeShapes Go.WideShapes Go.ChangeAt Go.RowKit Go.Deep
set_option linter.unusedVariables false

def fillF (n : Nat) (xs l : List Int) : List Int × List Int := if small l = true then ([], xs) else (l.drop (min l.length (n - xs.length)), xs ++ l.take (min l.length (n - xs.length)))
/-- How it stands when k have been put. -/
def RoundFi (W : World) (B b : Nat) (A : Option Addr) (n : Nat) (nx : Int) (xs l : List Int) (k : Nat) (wr : World) : Prop :=
  xs.length + k ≤ n ∧ ∃ A', RQ wr B b A' n nx (xs ++ l.take k) ∧ Chg (Fp1 b A) W wr ∧ ∀ g, Fp1 b A' g → Fp1 b A g ∨ W.heap.size ≤ g
section
variable {W : World} {B b n : Nat} {A : Option Addr} {nx : Int} {xs : List Int}
theorem RoundFi.next {wr w' : World} {l : List Int} {k : Nat} {A' : Option Addr} (hk : k < l.length) (hx : xs.length + k < n) (hc : Chg (Fp1 b A) W wr) (hf : ∀ g, Fp1 b A' g → Fp1 b A g ∨ W.heap.size ≤ g) (h : RAft wr w' B b A' n nx ((xs ++ l.take k) ++ [l[k]])) : RoundFi W B b A n nx xs l (k + 1) w' := by
  obtain ⟨A2, h1, h2, h3⟩ := h
  refine ⟨by omega, A2, ?_, hc.trans h2 (fun g hg hh => ?_), fun g hg => ?_⟩
  · rw [List.take_succ_eq_append_getElem hk, ← List.append_assoc]; exact h1
  · rcases hf g hh with h | h
    · exact h
    · omega
  · rcases h3 g hg with h | h
    · exact hf g h
    · have := hc.size; right; omega
theorem fill_end {wr V w4 : World} {l : List Int} {k m co : Nat} {Ao : Option Addr} (hR : RoundFi W B b A n nx xs l k wr) (hv : Chg (fun _ => False) wr V) (hrow : Row w4 V.heap.size 3 1 Ao (l.length - k) co (ints (l.drop k))) (hb : Below V.heap.size V w4) (hm : m = k) :
    OutP W B b A n nx (xs ++ l.take m) (l.drop m) (.returned (.slice Ao (l.length - k) co)) w4 := by
  subst hm
  obtain ⟨hxk, A', hq, hc, hf⟩ := hR
  have hl : l.length - m = (l.drop m).length := by simp
  have hvs := hv.size
  have hcs := hc.size
  have hc4 : Chg (fun _ => False) wr w4 := hv.addBelow hb hvs
  rw [hl] at hrow ⊢
  exact ⟨Ao, co, rfl, hrow.lower (by omega), A', hq.same hc4, hc.trans hc4 (fun _ _ h => h.elim), hf, fun g hg hh => by have := (hrow.blk_lt g hg).1; have := (hq.fp_lt g hh).2; omega⟩
set_option maxHeartbeats 1000000 in
theorem clone_gen (A : Option Addr) (n c : Nat) (xs : List Int) (W : World) (hA : Rd W 1 A n (ints xs)) (hm : n ≤ 100000) :
    Calls Try.prog 33 #[.slice A n c] W fun e W' => ∃ A' c', e = .returned (.slice A' n c') ∧ Row W' W.heap.size 3 1 A' n c' (ints xs) ∧ Below W.heap.size W W' := by
  have hn1 := hA.len
  rcases A with _ | ad
  · rcases Nat.eq_zero_or_pos n with h0 | h0
    · subst h0
      obtain rfl : xs = [] := List.eq_nil_of_length_eq_zero (by omega)
      have heq := fun (W : World) => Lib.run_eql_slice_nil (P := Try.prog) W 28 3 none 0 c 0 0 Try.underlying28
      go_enter Try.func33, Try.ntmps33
      go_wp2
      go_ret
      exact ⟨none, 0, rfl, Row.nil _ _ _ _, Below.refl _ _⟩
    · obtain ⟨b, o, h1, _⟩ := hA.2 h0
      cases h1
  · exact clone_any (some ad) n c xs W hA hm (fun h => by cases h)
set_option maxRecDepth 100000 in
set_option maxHeartbeats 4000000 in
theorem fill_q (h : RQ W B b A n nx xs) (h1 : 2 ≤ n) (h2 : n ≤ 1000) (hB : B ≤ W.heap.size) (Al : Option Addr) (cl : Nat) (l : List Int) (hl : Rd W 1 Al l.length (ints l)) (hlc : l.length ≤ cl) (hl30 : l.length ≤ 30) (hAl : 0 < l.length → ∀ g, blk Al = some g → g < B) :
    Calls Try.prog 21 #[.pointer (some ⟨b, 0, none⟩), .slice Al l.length cl] W (OutP W B b A n nx (fillF n xs l).2 (fillF n xs l).1) := by
  obtain ⟨c0, c1, c4, f0, kb⟩ := h.cells
  have n0 : ((n : Int) == 0) = false := by simp; omega
  have HCF := Lib.hid (contains_any Al cl l W hl (by omega))
  by_cases hs : small l = true
  · have e : fillF n xs l = ([], xs) := by rw [fillF, if_pos hs]
    rw [e]
    rw [hs] at HCF
    have HE := Lib.hid (OutP.nil (RAft.ofb h (Chg.refl _ _)))
    clear h e hs hl
    go_enter Try.func21, Try.ntmps21
    go_wp2_with fail
    go_step3
    go_wp2_with (first
      | (go_at_call 26; go_in)
      | (go_at_call 32; refine HCF.out.mono ?_; rintro e w1 ⟨rfl, rfl⟩))
    rw [Exit.noGoto_ret]
    go_ret
    exact HE.out
  · have hsf : small l = false := by simpa using hs
    obtain ⟨m, hm⟩ : ∃ m, m = min l.length (n - xs.length) := ⟨_, rfl⟩
    have e : fillF n xs l = (l.drop m, xs ++ l.take m) := by rw [fillF, if_neg hs, hm]
    rw [e]
    rw [hsf] at HCF
    have HQ := Lib.hid h
    have HL := Lib.hid hl
    have hxl := h.2.1
    have HAl := Lib.hid hAl
    have HFL := Lib.hid h.fp_lt
    clear h e hs hsf hl hAl
    go_enter Try.func21, Try.ntmps21
    go_wp2_with fail
    go_step3
    go_wp2_with (first
      | (go_at_call 26; go_in)
      | (go_at_call 32; refine HCF.out.mono ?_; rintro e w1 ⟨rfl, rfl⟩))
    go_step3
    go_wp2_with fail
    go_loopg [7, 21] l.length (fun j came i wr => ∃ k : Nat, k ≤ l.length ∧ j + k = l.length ∧ i = .int .i64 k ∧ came = .int .i64 k ∧ Hid (RoundFi W B b A n nx xs l k wr))
    case atStart => exact ⟨0, by omega, by omega, rfl, rfl, Lib.hid ⟨by omega, A, by simpa using HQ.out, Chg.refl _ _, fun _ h => .inl h⟩⟩
    case round =>
      obtain ⟨k, hk, hj, rfl, rfl, HR⟩ := hrel
      have k0 : (0 : Int) ≤ k := by omega
      by_cases hlt : k < l.length
      · have k1 : (k : Int) < l.length := by omega
        obtain ⟨hxk, A', hq, hc, hf⟩ := HR.out
        obtain ⟨g, rfl⟩ : ∃ g, gk = g + 1 := ⟨gk - 1, by omega⟩
        obtain ⟨ba, oa, rfl, hba, hcc⟩ := (HL.out.kept hc (fun g hg hh => by have := HAl.out (by omega) g hg; have := (HFL.out g hh).1; omega)).at_ (by omega)
        have e0 := hcc k hlt
        by_cases hfull : xs.length + k < n
        · have HP := Lib.hid (push_q l[k] hq (by omega) h2 (by simp; omega) (Nat.le_trans hB hc.size))
          have HN := Lib.hid (fun w' => RoundFi.next (B := B) (nx := nx) (w' := w') hlt hfull hc hf)
          generalize l[k] = z at *
          clear hcc hq hc hf
          go_wp2_with (go_at_call 28; refine HP.out.mono ?_; rintro e w3 ⟨rfl, ha⟩; have HA := Lib.hid ha; clear ha)
          go_roundg g
          case rel => exact ⟨k + 1, by omega, by omega, by go_num, by go_num, Lib.hid (HN.out _ HA.out)⟩
          case measure => omega
        · have HP := Lib.hid (push_full l[k] hq (by simp; omega))
          have hck : ¬ cl = k := by omega
          have hkc : k ≤ cl := by omega
          have HV : Hid (∀ qq : Nat, Rd (wr.drewN qq) 1 (some ⟨ba, oa + k, none⟩) (l.length - k) (ints (l.drop k))) := Lib.hid (fun qq => (((HL.out.kept hc (fun g hg hh => by have := HAl.out (by omega) g hg; have := (HFL.out g hh).1; omega)).drop_ hk).drewN qq))
          have hmk : m = k := by omega
          have HMK := Lib.hid hmk
          generalize l[k] = z at *
          clear hcc hq hc hf hmk hm
          go_wp2_with (first
            | (go_at_call 28; refine HP.out.mono ?_; rintro e w3 ⟨rfl, qq, rfl⟩)
            | (go_at_call 33; refine (clone_gen (some ⟨ba, oa + k, none⟩) (l.length - k) (cl - k) (l.drop k) (wr.drewN qq) (HV.out qq) (by omega)).mono ?_; rintro e w4 ⟨Ao, co, rfl, hrow, hb4⟩; have HRO := Lib.hid hrow; have HB4 := Lib.hid hb4; clear hrow hb4))
          rw [Exit.noGoto_ret]
          go_ret
          exact fill_end HR.out ((Chg.refl _ _).drewN qq) HRO.out HB4.out HMK.out
      · obtain rfl : k = l.length := by omega
        obtain ⟨hxk, A', hq, hc, hf⟩ := HR.out
        have hmk : m = l.length := by omega
        have HMK := Lib.hid hmk
        have hd0 : l.length - l.length = 0 := by omega
        have HE : Hid (∀ w4 Ao co, Row w4 wr.heap.size 3 1 Ao 0 co (ints []) → Below wr.heap.size wr w4 → OutP W B b A n nx (xs ++ l.take m) (l.drop m) (.returned (.slice Ao 0 co)) w4) := Lib.hid (fun w4 Ao co hrow hb4 => by
          have hrow' : Row w4 wr.heap.size 3 1 Ao (l.length - l.length) co (ints (l.drop l.length)) := by rw [hd0, List.drop_length]; exact hrow
          have := fill_end HR.out (Chg.refl _ _) hrow' hb4 HMK.out
          rw [hd0] at this; exact this)
        clear hq hc hf hmk hm hd0
        rcases Al with _ | ⟨ba, oa, sp⟩
        · by_cases hck : cl = l.length
          · subst hck
            go_wp2_with (go_at_call 33; refine (clone_gen _ 0 _ [] wr (Rd.nil _ _ _) (by omega)).mono ?_; rintro e w4 ⟨Ao, co, rfl, hrow, hb4⟩; have HRO := Lib.hid hrow; have HB4 := Lib.hid hb4; clear hrow hb4)
            rw [Exit.noGoto_ret]
            go_ret
            exact HE.out _ _ _ HRO.out HB4.out
          · go_wp2_with (go_at_call 33; refine (clone_gen _ 0 _ [] wr (Rd.nil _ _ _) (by omega)).mono ?_; rintro e w4 ⟨Ao, co, rfl, hrow, hb4⟩; have HRO := Lib.hid hrow; have HB4 := Lib.hid hb4; clear hrow hb4)
            rw [Exit.noGoto_ret]
            go_ret
            exact HE.out _ _ _ HRO.out HB4.out
        · by_cases hck : cl = l.length
          · subst hck
            go_wp2_with (go_at_call 33; refine (clone_gen _ 0 _ [] wr (Rd.nil _ _ _) (by omega)).mono ?_; rintro e w4 ⟨Ao, co, rfl, hrow, hb4⟩; have HRO := Lib.hid hrow; have HB4 := Lib.hid hb4; clear hrow hb4)
            rw [Exit.noGoto_ret]
            go_ret
            exact HE.out _ _ _ HRO.out HB4.out
          · go_wp2_with (go_at_call 33; refine (clone_gen _ 0 _ [] wr (Rd.nil _ _ _) (by omega)).mono ?_; rintro e w4 ⟨Ao, co, rfl, hrow, hb4⟩; have HRO := Lib.hid hrow; have HB4 := Lib.hid hb4; clear hrow hb4)
            rw [Exit.noGoto_ret]
            go_ret
            exact HE.out _ _ _ HRO.out HB4.out
end
end Go.Proofs.Ytfceebbbhjjnaaa
