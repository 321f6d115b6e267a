/- The walk of the law RingKeeps. -/
import Derived.Test.YtfceebbbhjjnaaaRingK
namespace Go.Proofs.Ytfceebbbhjjnaaa
open Go.ChangeShapes Go.WideShapes Go.ChangeAt Go.RowKit Go.Deep
set_option linter.unusedVariables false

set_option maxRecDepth 100000 in
set_option maxHeartbeats 16000000 in
theorem walk_ringKeeps' (size : Int) (A0 : Option Addr) (len c : Nat) (kd p : Nat → Int) (As : Nat → Option Addr) (ml cs : Nat → Nat) (xs0 : Nat → List Int) (w : World) (hA : Acts w A0 len kd p As ml cs xs0) (hmx : len ≤ maxLen) (hs0 : (Lit.int .i64 size).wf = true) :
    Calls Try.prog 4 #[.int .i64 size, .slice A0 len c] w fun e w' => e = .returned (.bool true) ∧ Below w.heap.size w w' := by
  by_cases hlight : len ≤ 100 ∧ ∀ i, i < len → ml i ≤ 30
  · have HLI := Lib.hid (light_yes c hA hlight.1 hlight.2)
    have h100 := hlight.1
    clear hlight hmx
    by_cases hr : 2 ≤ size ∧ size ≤ 256 ∧ size % 2 = 0
    · obtain ⟨n, rfl⟩ : ∃ n : Nat, size = n := ⟨size.toNat, by omega⟩
      obtain ⟨r1, r2, r3⟩ := hr
      have h2n : 2 ≤ n := by omega
      have hn1 : n ≤ 1000 := by omega
      have hn2 : n ≤ 256 := by omega
      have HNEW := Lib.hid (fun W => newr_yes n W h2n hn2 (by omega))
      have HA := Lib.hid hA
      clear hA r3 hs0
      go_enter Try.func4, Try.ntmps4
      go_wp2_with (first
        | (go_at_call 6; refine HLI.out.mono ?_; rintro e u1 ⟨rfl, rfl⟩)
        | (go_at_call 8; refine (HNEW.out _).mono ?_; rintro e u1 ⟨rfl, rfl⟩))
      go_loopw [6, 7, 8] (fun iv ov i wr => RoundRK w n len iv ov i wr) (fun _ _ i _ => len - (intOf i).toNat)
      case atStart => exact ⟨0, none, 0, [], none, 0, 0, [], none, 0, 0, [], Nat.zero_le _, rfl, rfl, rfl, ⟨rq_new w w.heap.size n (Nat.le_refl _) (by omega), Row.nil _ _ _ _, Row.nil _ _ _ _, (fun _ h => by cases h), (fun _ h => by cases h), (Below.refl _ _).alloc (Nat.le_refl _) _⟩, by simp [nxl], by simp⟩
      case round =>
        clear HLI HNEW
        obtain ⟨k, A, nx, xs, Ai, ni, ci, ins, Ao, no, co, outs, hk, rfl, rfl, rfl, hK, hperm, hil⟩ := hrel
        have k0 : (0 : Int) ≤ k := by omega
        have hbs := hK.bel.size
        have hni : ni = ins.length := hK.win.rd.len.symm
        have hno : no = outs.length := hK.wout.rd.len.symm
        have hpl0 := perm_len hperm
        simp at hpl0
        by_cases hlt : k < len
        · have k1 : (k : Int) < len := by omega
          obtain ⟨b, o, rfl, hbl, hcc⟩ := (HA.out.below hK.bel).cells (by omega)
          obtain ⟨e0, e1, e2⟩ := hcc k hlt
          clear hcc HA
          generalize kd k = kd at *
          generalize p k = z at *
          generalize As k = As at *
          generalize ml k = ml at *
          generalize cs k = cs at *
          have hni2 : ni ≤ 100 := by omega
          have hno2 : no ≤ 100 := by omega
          have HNI := Lib.hid hni
          have HNO := Lib.hid hno
          clear hni hno hpl0
          by_cases h0 : kd = 0
          · subst h0
            by_cases hzp : 0 < z
            · obtain ⟨hpl, hpl2⟩ : (putF n nx xs z false).1.length ≤ n + 1 ∧ True := ⟨put_len n nx xs z false, trivial⟩
              have hpp := put_perm n nx xs z false
              rw [if_neg (by omega)] at hpp
              have HPP := Lib.hid (perm_step hperm hpp)
              have HPW := Lib.hid (fun (A3 : Option Addr) (c3 : Nat) (w2 : World) (r1 : Row w2 w.heap.size 3 1 A3 (ni + 1) c3 (ints (ins ++ [z]))) (r2 : ((wr.alloc (.cells #[.int .i64 0, .int .i64 z, .slice As ml cs] 33)).alloc (.cells #[.int .i64 z] 3)).grownBy w2 (blk Ai)) (r3 : blk A3 = blk Ai ∨ blk A3 = some ((wr.alloc (.cells #[.int .i64 0, .int .i64 z, .slice As ml cs] 33)).alloc (.cells #[.int .i64 z] 3)).heap.size) => show KS w w2 A n nx xs A3 (ni + 1) c3 (ins ++ [z]) Ao no co outs ∧ w2.cell? ⟨wr.heap.size, 0, none⟩ = some (.int .i64 0) ∧ w2.cell? ⟨wr.heap.size, 1, none⟩ = some (.int .i64 z) ∧ wr.heap.size < w2.heap.size from by
                have hbx := ((Blk.new wr 33 #[.int .i64 0, .int .i64 z, .slice As ml cs]).alloc (.cells #[.int .i64 z] 3)).grown r2 (fun e => by have := (hK.win.blk_lt _ e.symm).2; omega)
                exact ⟨hK.want (((Chg.refl _ _).alloc _).alloc _) r1 r2 r3, hbx.cell 0, hbx.cell 1, hbx.lt⟩)
              have HWIN := Lib.hid ((hK.win.alloc (.cells #[.int .i64 0, .int .i64 z, .slice As ml cs] 33)).alloc (.cells #[.int .i64 z] 3))
              have HLT := Lib.hid (show Rd ((wr.alloc (.cells #[.int .i64 0, .int .i64 z, .slice As ml cs] 33)).alloc (.cells #[.int .i64 z] 3)) 1 (some ⟨wr.heap.size + 1, 0, none⟩) 1 (ints [z]) from by have h := Rd.lit (wr.alloc (.cells #[.int .i64 0, .int .i64 z, .slice As ml cs] 33)) z 3; rw [show (wr.alloc (.cells #[.int .i64 0, .int .i64 z, .slice As ml cs] 33)).heap.size = wr.heap.size + 1 from by simp] at h; exact h)
              have HSZ := Lib.hid (show w.heap.size ≤ ((wr.alloc (.cells #[.int .i64 0, .int .i64 z, .slice As ml cs] 33)).alloc (.cells #[.int .i64 z] 3)).heap.size by have := hK.bel.size; simp; omega)
              generalize hpf : putF n nx xs z false = pf at *
              have HPF := Lib.hid hpf
              clear hpf hK hperm hpp
              go_wp2_with (first
                | (at_builtin; refine wpList_app rfl (.tmp 61) (.tmp 68) rfl w.heap.size Ao no co outs rfl HK3.out.wout _ _ _ _ rfl HO.out.rd ?_ ?_ ?_; (next => omega); (next => exact HK3.out.bel.size); intro A4 c4 w4 s1 s2 s3; have HK4 := Lib.hid (HK3.out.got (Chg.refl _ _) s1 s2 s3); clear s1 s2 s3)
                | (go_at_call 16; refine Calls.mono (put_q (HK2.out.ring) h2n hn1 (HK2.out.bel.size) z false) ?_; rw [HPF.out]; rintro e w3 ⟨Ao2, co2, rfl, hrow, A2, hq, hc, hf, hd⟩; have HK3 := Lib.hid (HK2.out.op hq hc hf); have HO := Lib.hid (hrow.lower HK2.out.bel.size); clear hrow hq hc hf hd)
                | (at_builtin; refine wpList_app rfl (.tmp 56) (.tmp 59) rfl w.heap.size Ai ni ci ins rfl HWIN.out _ 1 1 [z] rfl HLT.out ?_ ?_ ?_; (next => omega); (next => exact HSZ.out); intro A3 c3 w2 r1 r2 r3; obtain ⟨y1, y2, y3, y4⟩ := HPW.out A3 c3 w2 r1 r2 r3; have HK2 := Lib.hid y1; clear r1 r2 r3 y1))
              go_roundw
              case rel => exact RoundRK.step hlt HK4.out HPP.out (by simp; omega)
              case measure => simp [intOf]; omega
            · obtain ⟨hpl, hpl2⟩ : (putF n nx xs z false).1.length ≤ n + 1 ∧ True := ⟨put_len n nx xs z false, trivial⟩
              have hpp := put_perm n nx xs z false
              rw [if_pos (by omega)] at hpp
              have HPP := Lib.hid (perm_step hperm hpp)
              have HK0 := Lib.hid (hK.same ((Chg.refl _ _).alloc (.cells #[.int .i64 0, .int .i64 z, .slice As ml cs] 33)))
              generalize hpf : putF n nx xs z false = pf at *
              have HPF := Lib.hid hpf
              clear hpf hK hperm hpp
              go_wp2_with (first
                | (at_builtin; refine wpList_app rfl (.tmp 61) (.tmp 68) rfl w.heap.size Ao no co outs rfl HK3.out.wout _ _ _ _ rfl HO.out.rd ?_ ?_ ?_; (next => omega); (next => exact HK3.out.bel.size); intro A4 c4 w4 s1 s2 s3; have HK4 := Lib.hid (HK3.out.got (Chg.refl _ _) s1 s2 s3); clear s1 s2 s3)
                | (go_at_call 16; refine Calls.mono (put_q (HK0.out.ring) h2n hn1 (HK0.out.bel.size) z false) ?_; rw [HPF.out]; rintro e w3 ⟨Ao2, co2, rfl, hrow, A2, hq, hc, hf, hd⟩; have HK3 := Lib.hid (HK0.out.op hq hc hf); have HO := Lib.hid (hrow.lower HK0.out.bel.size); clear hrow hq hc hf hd))
              go_roundw
              case rel => exact RoundRK.step hlt HK4.out (by simpa using HPP.out) (by omega)
              case measure => simp [intOf]; omega
          by_cases h1 : kd = 1
          · subst h1
            by_cases hzp : 0 < z
            · obtain ⟨hpl, hpl2⟩ : (putF n nx xs z true).1.length ≤ n + 1 ∧ True := ⟨put_len n nx xs z true, trivial⟩
              have hpp := put_perm n nx xs z true
              rw [if_neg (by omega)] at hpp
              have HPP := Lib.hid (perm_step hperm hpp)
              have HPW := Lib.hid (fun (A3 : Option Addr) (c3 : Nat) (w2 : World) (r1 : Row w2 w.heap.size 3 1 A3 (ni + 1) c3 (ints (ins ++ [z]))) (r2 : ((wr.alloc (.cells #[.int .i64 1, .int .i64 z, .slice As ml cs] 33)).alloc (.cells #[.int .i64 z] 3)).grownBy w2 (blk Ai)) (r3 : blk A3 = blk Ai ∨ blk A3 = some ((wr.alloc (.cells #[.int .i64 1, .int .i64 z, .slice As ml cs] 33)).alloc (.cells #[.int .i64 z] 3)).heap.size) => show KS w w2 A n nx xs A3 (ni + 1) c3 (ins ++ [z]) Ao no co outs ∧ w2.cell? ⟨wr.heap.size, 0, none⟩ = some (.int .i64 1) ∧ w2.cell? ⟨wr.heap.size, 1, none⟩ = some (.int .i64 z) ∧ wr.heap.size < w2.heap.size from by
                have hbx := ((Blk.new wr 33 #[.int .i64 1, .int .i64 z, .slice As ml cs]).alloc (.cells #[.int .i64 z] 3)).grown r2 (fun e => by have := (hK.win.blk_lt _ e.symm).2; omega)
                exact ⟨hK.want (((Chg.refl _ _).alloc _).alloc _) r1 r2 r3, hbx.cell 0, hbx.cell 1, hbx.lt⟩)
              have HWIN := Lib.hid ((hK.win.alloc (.cells #[.int .i64 1, .int .i64 z, .slice As ml cs] 33)).alloc (.cells #[.int .i64 z] 3))
              have HLT := Lib.hid (show Rd ((wr.alloc (.cells #[.int .i64 1, .int .i64 z, .slice As ml cs] 33)).alloc (.cells #[.int .i64 z] 3)) 1 (some ⟨wr.heap.size + 1, 0, none⟩) 1 (ints [z]) from by have h := Rd.lit (wr.alloc (.cells #[.int .i64 1, .int .i64 z, .slice As ml cs] 33)) z 3; rw [show (wr.alloc (.cells #[.int .i64 1, .int .i64 z, .slice As ml cs] 33)).heap.size = wr.heap.size + 1 from by simp] at h; exact h)
              have HSZ := Lib.hid (show w.heap.size ≤ ((wr.alloc (.cells #[.int .i64 1, .int .i64 z, .slice As ml cs] 33)).alloc (.cells #[.int .i64 z] 3)).heap.size by have := hK.bel.size; simp; omega)
              generalize hpf : putF n nx xs z true = pf at *
              have HPF := Lib.hid hpf
              clear hpf hK hperm hpp
              go_wp2_with (first
                | (at_builtin; refine wpList_app rfl (.tmp 61) (.tmp 68) rfl w.heap.size Ao no co outs rfl HK3.out.wout _ _ _ _ rfl HO.out.rd ?_ ?_ ?_; (next => omega); (next => exact HK3.out.bel.size); intro A4 c4 w4 s1 s2 s3; have HK4 := Lib.hid (HK3.out.got (Chg.refl _ _) s1 s2 s3); clear s1 s2 s3)
                | (go_at_call 16; refine Calls.mono (put_q (HK2.out.ring) h2n hn1 (HK2.out.bel.size) z true) ?_; rw [HPF.out]; rintro e w3 ⟨Ao2, co2, rfl, hrow, A2, hq, hc, hf, hd⟩; have HK3 := Lib.hid (HK2.out.op hq hc hf); have HO := Lib.hid (hrow.lower HK2.out.bel.size); clear hrow hq hc hf hd)
                | (at_builtin; refine wpList_app rfl (.tmp 56) (.tmp 59) rfl w.heap.size Ai ni ci ins rfl HWIN.out _ 1 1 [z] rfl HLT.out ?_ ?_ ?_; (next => omega); (next => exact HSZ.out); intro A3 c3 w2 r1 r2 r3; obtain ⟨y1, y2, y3, y4⟩ := HPW.out A3 c3 w2 r1 r2 r3; have HK2 := Lib.hid y1; clear r1 r2 r3 y1))
              go_roundw
              case rel => exact RoundRK.step hlt HK4.out HPP.out (by simp; omega)
              case measure => simp [intOf]; omega
            · obtain ⟨hpl, hpl2⟩ : (putF n nx xs z true).1.length ≤ n + 1 ∧ True := ⟨put_len n nx xs z true, trivial⟩
              have hpp := put_perm n nx xs z true
              rw [if_pos (by omega)] at hpp
              have HPP := Lib.hid (perm_step hperm hpp)
              have HK0 := Lib.hid (hK.same ((Chg.refl _ _).alloc (.cells #[.int .i64 1, .int .i64 z, .slice As ml cs] 33)))
              generalize hpf : putF n nx xs z true = pf at *
              have HPF := Lib.hid hpf
              clear hpf hK hperm hpp
              go_wp2_with (first
                | (at_builtin; refine wpList_app rfl (.tmp 61) (.tmp 68) rfl w.heap.size Ao no co outs rfl HK3.out.wout _ _ _ _ rfl HO.out.rd ?_ ?_ ?_; (next => omega); (next => exact HK3.out.bel.size); intro A4 c4 w4 s1 s2 s3; have HK4 := Lib.hid (HK3.out.got (Chg.refl _ _) s1 s2 s3); clear s1 s2 s3)
                | (go_at_call 16; refine Calls.mono (put_q (HK0.out.ring) h2n hn1 (HK0.out.bel.size) z true) ?_; rw [HPF.out]; rintro e w3 ⟨Ao2, co2, rfl, hrow, A2, hq, hc, hf, hd⟩; have HK3 := Lib.hid (HK0.out.op hq hc hf); have HO := Lib.hid (hrow.lower HK0.out.bel.size); clear hrow hq hc hf hd))
              go_roundw
              case rel => exact RoundRK.step hlt HK4.out (by simpa using HPP.out) (by omega)
              case measure => simp [intOf]; omega
          by_cases h2 : kd = 2
          · subst h2
            have hpp := get_perm nx xs
            have HPP := Lib.hid (perm_step hperm hpp)
            have HK0 := Lib.hid (hK.same ((Chg.refl _ _).alloc (.cells #[.int .i64 2, .int .i64 z, .slice As ml cs] 33)))
            have HC := Lib.hid (get_q HK0.out.ring h2n hn1)
            clear hK hperm hpp
            generalize getF nx xs = gf at *
            obtain ⟨gg, gis, gnx, gxs⟩ := gf
            cases gis with
            | true =>
              go_wp2_with (first
                | (at_builtin; refine wpList_app rfl (.tmp 78) (.tmp 80) rfl w.heap.size Ao no co outs rfl (HK3.out.wout.alloc _) _ 1 1 [gg] rfl (Rd.lit _ _ _) ?_ ?_ ?_; (next => omega); (next => (have := HK3.out.bel.size; simp; omega)); intro A4 c4 w4 s1 s2 s3; have HK4 := Lib.hid (HK3.out.got ((Chg.refl _ _).alloc _) s1 s2 s3); clear s1 s2 s3)
                | (go_at_call 17; refine HC.out.mono ?_; rintro e w3 ⟨rfl, hq, hc⟩; have HK3 := Lib.hid (HK0.out.opb hq hc); clear hq hc))
              go_roundw
              case rel => exact RoundRK.step hlt HK4.out (by simpa using HPP.out) (by omega)
              case measure => simp [intOf]; omega
            | false =>
              go_wp2_with (go_at_call 17; refine HC.out.mono ?_; rintro e w3 ⟨rfl, hq, hc⟩; have HK3 := Lib.hid (HK0.out.opb hq hc); clear hq hc)
              go_roundw
              case rel => exact RoundRK.step hlt HK3.out (by simpa using HPP.out) (by omega)
              case measure => simp [intOf]; omega
          by_cases h3 : kd = 3
          · subst h3
            have hpp := grab_perm nx xs
            have HPP := Lib.hid (perm_step hperm hpp)
            have hgl : (grabF nx xs).1.length ≤ 101 := by have := perm_len hperm; have h9 := hpp.length_eq; simp at h9 this; omega
            have HK0 := Lib.hid (hK.same ((Chg.refl _ _).alloc (.cells #[.int .i64 3, .int .i64 z, .slice As ml cs] 33)))
            have HC := Lib.hid (grab_q HK0.out.ring h2n hn1 HK0.out.bel.size)
            clear hK hperm hpp
            go_wp2_with (first
              | (at_builtin; refine wpList_app rfl (.tmp 84) (.tmp 86) rfl w.heap.size Ao no co outs rfl HK3.out.wout _ _ _ _ rfl HO.out.rd ?_ ?_ ?_; (next => omega); (next => exact HK3.out.bel.size); intro A4 c4 w4 s1 s2 s3; have HK4 := Lib.hid (HK3.out.got (Chg.refl _ _) s1 s2 s3); clear s1 s2 s3)
              | (go_at_call 18; refine HC.out.mono ?_; rintro e w3 ⟨Ao2, co2, rfl, hrow, A2, hq, hc, hf, hd⟩; have HK3 := Lib.hid (HK0.out.op hq hc hf); have HO := Lib.hid (hrow.lower HK0.out.bel.size); clear hrow hq hc hf hd))
            go_roundw
            case rel => exact RoundRK.step hlt HK4.out (by simpa using HPP.out) (by omega)
            case measure => simp [intOf]; omega
          have h0e : ¬ kd = 0 := h0
          have h1e : ¬ kd = 1 := h1
          have h2e : ¬ kd = 2 := h2
          have h3e : ¬ kd = 3 := h3
          have hpp := (show ((nxl nx ++ xs) ++ (nxl 0 ++ [])).Perm ((nxl nx ++ xs) ++ []) by simp [nxl])
          have HPP := Lib.hid (perm_step hperm hpp)
          have hgl : (nxl nx ++ xs).length ≤ 101 := by have := perm_len hperm; omega
          have HK0 := Lib.hid (hK.same ((Chg.refl _ _).alloc (.cells #[.int .i64 kd, .int .i64 z, .slice As ml cs] 33)))
          have HC := Lib.hid (drain_q HK0.out.ring (by omega) hn1)
          clear hK hperm hpp; generalize nxl nx ++ xs = L at *
          go_wp2_with (first
            | (at_builtin; refine wpList_app rfl (.tmp 46) (.tmp 48) rfl w.heap.size Ao no co outs rfl HK3.out.wout _ _ _ _ rfl HO.out.rd ?_ ?_ ?_; (next => omega); (next => exact HK3.out.bel.size); intro A4 c4 w4 s1 s2 s3; have HK4 := Lib.hid (HK3.out.got (Chg.refl _ _) s1 s2 s3); clear s1 s2 s3)
            | (go_at_call 19; refine HC.out.mono ?_; rintro e w3 ⟨Ao2, co2, rfl, hrow, A2, hq, hc, hf, hd⟩; have HK3 := Lib.hid (HK0.out.op hq hc hf); have HO := Lib.hid (hrow.lower HK0.out.bel.size); clear hrow hq hc hf hd))
          go_roundw
          case rel => exact RoundRK.step hlt HK4.out (by simpa using HPP.out) (by omega)
          case measure => simp [intOf]; omega
        · have hll : (nxl nx ++ xs).length ≤ 101 := by have := perm_len hperm; omega
          have hni2 : ni ≤ 100 := by omega
          have hno2 : no ≤ 100 := by omega
          have HQ := Lib.hid (list_q hK.ring (by omega) hn1 hK.bel.size)
          have HE := Lib.hid (isrt_eq hperm)
          have HK := Lib.hid hK
          clear hK hperm hpl0 hni hno HA
          generalize nxl nx ++ xs = L at *
          go_wp2_with (first
            | (go_at_call 11; refine HQ.out.mono ?_; rintro e w3 ⟨Ao2, co2, rfl, hrow, hc⟩; have HK3 := Lib.hid (HK.out.same hc); have HO := Lib.hid (hrow.lower HK.out.bel.size); clear hrow hc)
            | (at_builtin; refine wpList_app rfl (.tmp 88) (.tmp 90) rfl w.heap.size Ao no co outs rfl HK3.out.wout _ _ _ _ rfl HO.out.rd ?_ ?_ ?_; (next => omega); (next => exact HK3.out.bel.size); intro A4 c4 w4 s1 s2 s3; have HK4 := Lib.hid (HK3.out.got (Chg.refl _ _) s1 s2 s3); clear s1 s2 s3)
            | (go_at_call 20; refine HS2.out.mono ?_; rw [HE.out]; rintro e w6 ⟨A6, c6, rfl, hr6, hc6⟩; have HR6 := Lib.hid hr6; have HR56 := Lib.hid (HR5.out.kept hc6 (fun _ _ h => h)); have HK6 := Lib.hid (HK5.out.same hc6); clear hr6 hc6)
            | (go_at_call 20; refine (sorted_any _ _ _ ins _ HK4.out.win.rd ?_).mono ?_; (next => omega); rintro e w5 ⟨A5, c5, rfl, hr5, hc5⟩; have HR5 := Lib.hid hr5; have HK5 := Lib.hid (HK4.out.same hc5); have HS2 := Lib.hid (sorted_any _ _ c4 (outs ++ L) w5 HK5.out.wout.rd (by omega)); clear hr5 hc5)
            | (go_at_call 10; refine (same_yes _ _ _ _ _ _ (isrt ins) _ HR56.out.rd HR6.out.rd ?_).mono ?_; (next => omega); rintro e w7 ⟨rfl, q7, rfl⟩)
            | (go_at_call 7; refine (alive_any _).mono ?_; rintro e w8 ⟨rfl, hb8⟩))
          go_ret
          exact ⟨rfl, (belowN HK6.out.bel q7).trans (hb8.mono (show w.heap.size ≤ (World.heap w6).size from HK6.out.bel.size))⟩
    · have HNEW := Lib.hid (fun W => newr_no size W (by omega))
      have hc : size < 2 ∨ (¬ size < 2 ∧ 256 < size) ∨ (¬ size < 2 ∧ ¬ 256 < size ∧ Int.tmod size 2 = 1) := by
        by_cases h1 : size < 2
        · exact .inl h1
        · by_cases h2 : 256 < size
          · exact .inr (.inl ⟨h1, h2⟩)
          · exact .inr (.inr ⟨h1, h2, by rw [Int.tmod_eq_emod_of_nonneg (by omega)]; omega⟩)
      clear hA hr hs0
      rcases hc with h1 | ⟨h1, h2⟩ | ⟨h1, h2, h3⟩
      all_goals
        go_enter Try.func4, Try.ntmps4
        go_wp2_with (first
          | (go_at_call 6; refine HLI.out.mono ?_; rintro e u1 ⟨rfl, rfl⟩)
          | (go_at_call 8; refine (HNEW.out _).mono ?_; rintro e u1 ⟨rfl, rfl⟩)
          | (go_at_call 7; refine (alive_any _).mono ?_; rintro e w' ⟨rfl, hb⟩))
        go_ret
        exact ⟨rfl, hb⟩
  · have HLI := Lib.hid (light_no c hA hmx hlight)
    clear hA hlight hmx hs0
    go_enter Try.func4, Try.ntmps4
    go_wp2_with (first
      | (go_at_call 6; refine HLI.out.mono ?_; rintro e u1 ⟨rfl, rfl⟩)
      | (go_at_call 7; refine (alive_any _).mono ?_; rintro e w' ⟨rfl, hb⟩))
    go_ret
    exact ⟨rfl, hb⟩
theorem walk_ringKeeps (a0 : Int) (cs1 : List Value) (d1 : (Sh.sl ShAct).Den) (w : World) (w0 : (Lit.int .i64 a0).wf = true) (hL1 : Lies w (.sl ShAct) cs1 d1) :
    Calls Try.prog 4 #[.int .i64 a0, Sh.val (.sl ShAct) cs1] w fun e w' => e = .returned (.bool true) ∧ Below w.heap.size w w' := by
  obtain ⟨A, n, c, kd, p, As, ml, cs, xs, h1, h2, h3⟩ := open_acts hL1
  rw [h1]
  exact walk_ringKeeps' a0 A n c kd p As ml cs xs w h3 h2 w0
end Go.Proofs.Ytfceebbbhjjnaaa
