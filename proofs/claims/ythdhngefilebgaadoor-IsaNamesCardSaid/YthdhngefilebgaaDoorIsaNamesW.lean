/- The walk of the law IsaNames. -/
import Derived.Test.YthdhngefilebgaaDoorIsaF
namespace Go.Proofs.YthdhngefilebgaaDoor
open Go.ChangeShapes Go.WideShapes Go.ChangeAt Go.RowKit Go.Deep
set_option linter.unusedVariables false

def fillL (k : Nat) : List Int := (List.range k).map (fun i : Nat => (i : Int)) ++ List.replicate (24 - k) 0
theorem fill_step : ∀ k : Nat, k < 24 → (fillL k).set k (k : Int) = fillL (k + 1) := by decide
theorem fill_at : ∀ k : Nat, k < 24 → (fillL k)[k]? = some 0 := by decide
theorem fill_end : ∀ k : Nat, k < 24 → (fillL 24)[k]? = some (k : Int) := by decide
theorem int_info_ : (Tryd.prog.info? 3).map (fun i => (i.zero, i.size, i.bytes)) = some (some (.int .i64 0), 1, 8) := by kernel_rfl
theorem fill_0 : madeCells #[.int .i64 0] 24 = (ints (fillL 0)).toArray := by
  apply Array.ext'
  rw [toList_madeCells_one]
  simp [ints, fillL]
theorem ints_cell {w : World} {b k : Nat} {t : TypeId} {xs : List Int} {v : Int} (h : Blk w b t (ints xs).toArray) (hk : xs[k]? = some v) : w.cell? ⟨b, k, none⟩ = some (.int .i64 v) := by
  rw [h.cell]; simp [ints, hk]
set_option maxHeartbeats 1000000 in
theorem all_any (W : World) : Calls Tryd.prog 10 #[] W fun e W' => e = .returned (.slice (some ⟨W.heap.size, 0, none⟩) 24 24) ∧ Blk W' W.heap.size 3 (ints (fillL 24)).toArray ∧ Below W.heap.size W W' := by
  have hmk0 := run_make_row' (P := Tryd.prog) 27 3 (.int .i64 0) 8 Tryd.underlying27 int_info_ rfl .i64 .i64 24 (by omega) (by omega)
  have hmk : ∀ w : World, (Instr.makeSlice 27 (.int .i64 24) (.int .i64 24)).run Tryd.prog w = .ok (.slice (some ⟨w.heap.size, 0, none⟩) 24 24) (w.alloc (.cells (madeCells #[.int .i64 0] 24) 3)) := hmk0
  clear hmk0
  go_enter Tryd.func10, Tryd.ntmps10
  go_wp2
  go_loopw [2, 6] (fun _ i wr => ∃ k : Nat, k ≤ 24 ∧ i = .int .i64 k ∧ Hid (Blk wr W.heap.size 3 (ints (fillL k)).toArray) ∧ Hid (Below W.heap.size W wr)) (fun _ i _ => 24 - (intOf i).toNat)
  case atStart => exact ⟨0, Nat.zero_le _, rfl, by rw [← fill_0]; exact Blk.new _ _ _, (Below.refl _ _).alloc (Nat.le_refl _) _⟩
  case round =>
    obtain ⟨k, hk, rfl, HB, HW⟩ := hrel
    clear hmk
    by_cases hlt : k < 24
    · have k0 : (k : Int) < 24 := by omega
      have k1 : (0 : Int) ≤ (k : Int) := by omega
      have e0 := ints_cell HB.out (fill_at k hlt)
      have f0 := HB.out.frozen k
      go_wp2
      exact ⟨⟨k + 1, by omega, by go_num, by
        have := HB.out.set_ k (.int .i64 k)
        rw [← fill_step k hlt]
        show Blk _ _ _ _
        simpa [ints, List.map_set] using this, (HW.out : Below _ _ _).setCell (Nat.le_refl _) _⟩, by simp [intOf]; omega⟩
    · obtain rfl : k = 24 := by omega
      go_wp2
      go_ret
      exact ⟨rfl, HB.out, HW.out⟩

def AT (j q : Nat) (av : Int) (tv : Bool) : Prop := (j < q ∧ av = j ∧ tv = true) ∨ (q ≤ j ∧ av = 0 ∧ tv = false)
theorem AT.next {j q : Nat} {av : Int} {tv : Bool} (h : AT j q av tv) (hq : ¬ q = j) : AT j (q + 1) av tv := by
  rcases h with ⟨h1, h2⟩ | ⟨h1, h2⟩
  · exact .inl ⟨by omega, h2⟩
  · exact .inr ⟨by omega, h2⟩
theorem AT.fin {j : Nat} {av : Int} {tv : Bool} (h : AT j 24 av tv) (hj : j < 24) : av = j ∧ tv = true := by
  rcases h with ⟨h1, h2⟩ | ⟨h1, h2⟩
  · exact h2
  · omega

set_option maxHeartbeats 8000000 in
theorem names_in_yes (k : Nat) (hk : k < 24) (s : ByteArray) (j : Nat) (hj : j < 24) (hs : (nm j).toList = s.toList) (W : World) (hT : Tab W) : Calls Tryd.prog 3 #[.int .i64 (k : Int), .string s] W fun e W' => e = .returned (.bool true) ∧ Below W.heap.size W W' := by
  have HS := Lib.hid hs
  have HT0 := Lib.hid hT
  clear hs hT
  go_enter Tryd.func3, Tryd.ntmps3
  go_wp2_with fail
  refine (is_in k hk _).mono ?_
  rintro e w1 ⟨rfl, hb1⟩
  have HB1 := Lib.hid hb1
  clear hb1
  have k0 : (0 : Int) ≤ (k : Int) := by omega
  have k1 : (k : Int) < 24 := by omega
  go_wp2_with fail
  refine (names_any w1).mono ?_
  rintro e w2 ⟨rfl, hN2, hb2⟩
  have hc2 := hN2.cell k
  rw [nmV_at k hk] at hc2
  have HB2 := Lib.hid (HB1.out.trans (hb2.mono HB1.out.size))
  clear hb2 hN2 HB1
  go_wp2_with fail
  go_loopw [6, 7, 8] (fun a t i wr => ∃ (q : Nat) (av : Int) (tv : Bool), q ≤ 24 ∧ i = .int .i64 q ∧ a = .int .i64 av ∧ t = .bool tv ∧ Hid (AT j q av tv) ∧ Hid (Below W.heap.size W wr)) (fun _ _ i _ => 24 - (intOf i).toNat)
  case atStart => exact ⟨0, 0, false, Nat.zero_le _, rfl, rfl, rfl, .inr ⟨Nat.zero_le _, rfl, rfl⟩, HB2⟩
  case round =>
    obtain ⟨q, av, tv, hq, rfl, rfl, rfl, HA0, HB⟩ := hrel
    clear HB2 hc2
    by_cases hlt : q < 24
    · have q0 : (0 : Int) ≤ (q : Int) := by omega
      have q1 : (q : Int) < 24 := by omega
      go_wp2_with fail
      refine (names_any wr).mono ?_
      rintro e w3 ⟨rfl, hN3, hb3⟩
      have HB3 := Lib.hid (HB.out.trans (hb3.mono HB.out.size))
      clear hb3 hN3
      go_wp2_with fail
      refine (names_any w3).mono ?_
      rintro e w4 ⟨rfl, hN4, hb4⟩
      have hc4 := hN4.cell q
      rw [nmV_at q hlt] at hc4
      have HB4 := Lib.hid (HB3.out.trans (hb4.mono HB3.out.size))
      clear hb4 hN4 HB3 HB
      by_cases hqj : q = j
      · subst hqj
        have heq : ((nm q).toList == s.toList) = true := by rw [HS.out]; simp
        go_wp2
        exact ⟨⟨q + 1, _, _, by omega, by go_num, rfl, rfl, .inl ⟨Nat.lt_succ_self _, rfl, rfl⟩, HB4⟩, by simp [intOf]; omega⟩
      · have hne : ((nm q).toList == s.toList) = false := by rw [← HS.out]; exact nm_ne q hlt j hj hqj
        go_wp2
        exact ⟨⟨q + 1, _, _, by omega, by go_num, rfl, rfl, HA0.out.next hqj, HB4⟩, by simp [intOf]; omega⟩
    · obtain rfl : q = 24 := by omega
      go_wp2_with fail
      refine (names_any wr).mono ?_
      rintro e w5 ⟨rfl, hN5, hb5⟩
      have HB5 := Lib.hid (HB.out.trans (hb5.mono HB.out.size))
      have HT5 := Lib.hid (HT0.out.below HB5.out)
      clear hb5 hN5 HB hlt
      obtain ⟨rfl, rfl⟩ := HA0.out.fin hj
      clear HA0
      go_wp2_with fail
      refine (op_yes s j hj HS.out w5 HT5.out).mono ?_
      rintro e w6 ⟨rfl, hb6⟩
      have HB6 := Lib.hid (HB5.out.trans (hb6.mono HB5.out.size))
      clear hb6 HB5 HT5
      go_wp2_with fail
      refine (all_any w6).mono ?_
      rintro e w7 ⟨rfl, hA7, hb7⟩
      have HB7 := Lib.hid (HB6.out.trans (hb7.mono HB6.out.size))
      have HT7 := Lib.hid (HT0.out.below HB7.out)
      have HA := Lib.hid hA7
      clear hb7 hA7 HB6 HT0
      go_wp2_with fail
      go_loop [12] (fun i => ∃ p : Nat, p ≤ 24 ∧ i = .int .i64 p) (fun i => 24 - (intOf i).toNat)
      case atStart => exact ⟨0, Nat.zero_le _, rfl⟩
      case round =>
        obtain ⟨p, hp, rfl⟩ := hrel
        by_cases hlt : p < 24
        · have p0 : (0 : Int) ≤ (p : Int) := by omega
          have p1 : (p : Int) < 24 := by omega
          have e0 := ints_cell HA.out (fill_end p hlt)
          go_wp2
          exact ⟨⟨p + 1, by omega, by go_num⟩, by simp [intOf]; omega⟩
        · have p1 : ¬ (p : Int) < 24 := by omega
          go_wp2_with fail
          refine (name_in k hk w7 HT7.out).mono ?_
          rintro e w8 ⟨rfl, hb8⟩
          have HB8 := Lib.hid (HB7.out.trans (hb8.mono HB7.out.size))
          have HT8 := Lib.hid (HT7.out.below hb8)
          clear hb8 HB7 HT7
          go_wp2_with (go_at_call 12; refine (alive_any _ HT8.out).mono ?_; rintro e w9 ⟨rfl, hb9⟩)
          go_ret
          exact ⟨rfl, HB8.out.trans (hb9.mono HB8.out.size)⟩

set_option maxHeartbeats 8000000 in
theorem names_in_no (k : Nat) (hk : k < 24) (s : ByteArray) (hs : ∀ j : Nat, j < 24 → ((nm j).toList == s.toList) = false) (W : World) (hT : Tab W) : Calls Tryd.prog 3 #[.int .i64 (k : Int), .string s] W fun e W' => e = .returned (.bool true) ∧ Below W.heap.size W W' := by
  have HS := Lib.hid hs
  have HT0 := Lib.hid hT
  clear hs hT
  go_enter Tryd.func3, Tryd.ntmps3
  go_wp2_with fail
  refine (is_in k hk _).mono ?_
  rintro e w1 ⟨rfl, hb1⟩
  have HB1 := Lib.hid hb1
  clear hb1
  have k0 : (0 : Int) ≤ (k : Int) := by omega
  have k1 : (k : Int) < 24 := by omega
  go_wp2_with fail
  refine (names_any w1).mono ?_
  rintro e w2 ⟨rfl, hN2, hb2⟩
  have hc2 := hN2.cell k
  rw [nmV_at k hk] at hc2
  have HB2 := Lib.hid (HB1.out.trans (hb2.mono HB1.out.size))
  clear hb2 hN2 HB1
  go_wp2_with fail
  go_loopw [6, 7, 8] (fun a t i wr => ∃ (q : Nat), q ≤ 24 ∧ i = .int .i64 q ∧ a = .int .i64 0 ∧ t = .bool false ∧ Hid (Below W.heap.size W wr)) (fun _ _ i _ => 24 - (intOf i).toNat)
  case atStart => exact ⟨0, Nat.zero_le _, rfl, rfl, rfl, HB2⟩
  case round =>
    obtain ⟨q, hq, rfl, rfl, rfl, HB⟩ := hrel
    clear HB2 hc2
    by_cases hlt : q < 24
    · have q0 : (0 : Int) ≤ (q : Int) := by omega
      have q1 : (q : Int) < 24 := by omega
      go_wp2_with fail
      refine (names_any wr).mono ?_
      rintro e w3 ⟨rfl, hN3, hb3⟩
      have HB3 := Lib.hid (HB.out.trans (hb3.mono HB.out.size))
      clear hb3 hN3
      go_wp2_with fail
      refine (names_any w3).mono ?_
      rintro e w4 ⟨rfl, hN4, hb4⟩
      have hc4 := hN4.cell q
      rw [nmV_at q hlt] at hc4
      have HB4 := Lib.hid (HB3.out.trans (hb4.mono HB3.out.size))
      clear hb4 hN4 HB3 HB
      have hne := HS.out q hlt
      go_wp2
      exact ⟨⟨q + 1, by omega, by go_num, rfl, rfl, HB4⟩, by simp [intOf]; omega⟩
    · obtain rfl : q = 24 := by omega
      go_wp2_with fail
      refine (names_any wr).mono ?_
      rintro e w5 ⟨rfl, hN5, hb5⟩
      have HB5 := Lib.hid (HB.out.trans (hb5.mono HB.out.size))
      have HT5 := Lib.hid (HT0.out.below HB5.out)
      clear hb5 hN5 HB hlt
      go_wp2_with fail
      refine (op_no s HS.out w5 HT5.out).mono ?_
      rintro e w6 ⟨rfl, hb6⟩
      have HB6 := Lib.hid (HB5.out.trans (hb6.mono HB5.out.size))
      clear hb6 HB5 HT5
      go_wp2_with fail
      refine (all_any w6).mono ?_
      rintro e w7 ⟨rfl, hA7, hb7⟩
      have HB7 := Lib.hid (HB6.out.trans (hb7.mono HB6.out.size))
      have HT7 := Lib.hid (HT0.out.below HB7.out)
      have HA := Lib.hid hA7
      clear hb7 hA7 HB6 HT0
      go_wp2_with fail
      go_loop [12] (fun i => ∃ p : Nat, p ≤ 24 ∧ i = .int .i64 p) (fun i => 24 - (intOf i).toNat)
      case atStart => exact ⟨0, Nat.zero_le _, rfl⟩
      case round =>
        obtain ⟨p, hp, rfl⟩ := hrel
        by_cases hlt : p < 24
        · have p0 : (0 : Int) ≤ (p : Int) := by omega
          have p1 : (p : Int) < 24 := by omega
          have e0 := ints_cell HA.out (fill_end p hlt)
          go_wp2
          exact ⟨⟨p + 1, by omega, by go_num⟩, by simp [intOf]; omega⟩
        · have p1 : ¬ (p : Int) < 24 := by omega
          go_wp2_with fail
          refine (name_in k hk w7 HT7.out).mono ?_
          rintro e w8 ⟨rfl, hb8⟩
          have HB8 := Lib.hid (HB7.out.trans (hb8.mono HB7.out.size))
          have HT8 := Lib.hid (HT7.out.below hb8)
          clear hb8 HB7 HT7
          go_wp2_with (go_at_call 12; refine (alive_any _ HT8.out).mono ?_; rintro e w9 ⟨rfl, hb9⟩)
          go_ret
          exact ⟨rfl, HB8.out.trans (hb9.mono HB8.out.size)⟩

set_option maxHeartbeats 8000000 in
theorem names_out_yes (op : Int) (h : op < 0 ∨ 24 ≤ op) (s : ByteArray) (j : Nat) (hj : j < 24) (hs : (nm j).toList = s.toList) (W : World) (hT : Tab W) : Calls Tryd.prog 3 #[.int .i64 op, .string s] W fun e W' => e = .returned (.bool true) ∧ Below W.heap.size W W' := by
  have HS := Lib.hid hs
  have HT0 := Lib.hid hT
  clear hs hT
  have H := Lib.hid h
  clear h
  go_enter Tryd.func3, Tryd.ntmps3
  go_wp2_with fail
  refine (is_out op H.out _).mono ?_
  rintro e w1 ⟨rfl, hb1⟩
  have HB1 := Lib.hid hb1
  clear hb1
  go_wp2_with fail
  go_loopw [6, 7, 8] (fun a t i wr => ∃ (q : Nat) (av : Int) (tv : Bool), q ≤ 24 ∧ i = .int .i64 q ∧ a = .int .i64 av ∧ t = .bool tv ∧ Hid (AT j q av tv) ∧ Hid (Below W.heap.size W wr)) (fun _ _ i _ => 24 - (intOf i).toNat)
  case atStart => exact ⟨0, 0, false, Nat.zero_le _, rfl, rfl, rfl, .inr ⟨Nat.zero_le _, rfl, rfl⟩, HB1⟩
  case round =>
    obtain ⟨q, av, tv, hq, rfl, rfl, rfl, HA0, HB⟩ := hrel
    clear HB1 
    by_cases hlt : q < 24
    · have q0 : (0 : Int) ≤ (q : Int) := by omega
      have q1 : (q : Int) < 24 := by omega
      go_wp2_with fail
      refine (names_any wr).mono ?_
      rintro e w3 ⟨rfl, hN3, hb3⟩
      have HB3 := Lib.hid (HB.out.trans (hb3.mono HB.out.size))
      clear hb3 hN3
      go_wp2_with fail
      refine (names_any w3).mono ?_
      rintro e w4 ⟨rfl, hN4, hb4⟩
      have hc4 := hN4.cell q
      rw [nmV_at q hlt] at hc4
      have HB4 := Lib.hid (HB3.out.trans (hb4.mono HB3.out.size))
      clear hb4 hN4 HB3 HB
      by_cases hqj : q = j
      · subst hqj
        have heq : ((nm q).toList == s.toList) = true := by rw [HS.out]; simp
        go_wp2
        exact ⟨⟨q + 1, _, _, by omega, by go_num, rfl, rfl, .inl ⟨Nat.lt_succ_self _, rfl, rfl⟩, HB4⟩, by simp [intOf]; omega⟩
      · have hne : ((nm q).toList == s.toList) = false := by rw [← HS.out]; exact nm_ne q hlt j hj hqj
        go_wp2
        exact ⟨⟨q + 1, _, _, by omega, by go_num, rfl, rfl, HA0.out.next hqj, HB4⟩, by simp [intOf]; omega⟩
    · obtain rfl : q = 24 := by omega
      go_wp2_with fail
      refine (names_any wr).mono ?_
      rintro e w5 ⟨rfl, hN5, hb5⟩
      have HB5 := Lib.hid (HB.out.trans (hb5.mono HB.out.size))
      have HT5 := Lib.hid (HT0.out.below HB5.out)
      clear hb5 hN5 HB hlt
      obtain ⟨rfl, rfl⟩ := HA0.out.fin hj
      clear HA0
      go_wp2_with fail
      refine (op_yes s j hj HS.out w5 HT5.out).mono ?_
      rintro e w6 ⟨rfl, hb6⟩
      have HB6 := Lib.hid (HB5.out.trans (hb6.mono HB5.out.size))
      clear hb6 HB5 HT5
      go_wp2_with fail
      refine (all_any w6).mono ?_
      rintro e w7 ⟨rfl, hA7, hb7⟩
      have HB7 := Lib.hid (HB6.out.trans (hb7.mono HB6.out.size))
      have HT7 := Lib.hid (HT0.out.below HB7.out)
      have HA := Lib.hid hA7
      clear hb7 hA7 HB6 HT0
      go_wp2_with fail
      go_loop [12] (fun i => ∃ p : Nat, p ≤ 24 ∧ i = .int .i64 p) (fun i => 24 - (intOf i).toNat)
      case atStart => exact ⟨0, Nat.zero_le _, rfl⟩
      case round =>
        obtain ⟨p, hp, rfl⟩ := hrel
        by_cases hlt : p < 24
        · have p0 : (0 : Int) ≤ (p : Int) := by omega
          have p1 : (p : Int) < 24 := by omega
          have e0 := ints_cell HA.out (fill_end p hlt)
          go_wp2
          exact ⟨⟨p + 1, by omega, by go_num⟩, by simp [intOf]; omega⟩
        · have p1 : ¬ (p : Int) < 24 := by omega
          go_wp2_with fail
          refine (name_out op H.out w7).mono ?_
          rintro e w8 ⟨rfl, hb8⟩
          have HB8 := Lib.hid (HB7.out.trans (hb8.mono HB7.out.size))
          have HT8 := Lib.hid (HT7.out.below hb8)
          clear hb8 HB7 HT7
          go_wp2_with (go_at_call 12; refine (alive_any _ HT8.out).mono ?_; rintro e w9 ⟨rfl, hb9⟩)
          go_ret
          exact ⟨rfl, HB8.out.trans (hb9.mono HB8.out.size)⟩

set_option maxHeartbeats 8000000 in
theorem names_out_no (op : Int) (h : op < 0 ∨ 24 ≤ op) (s : ByteArray) (hs : ∀ j : Nat, j < 24 → ((nm j).toList == s.toList) = false) (W : World) (hT : Tab W) : Calls Tryd.prog 3 #[.int .i64 op, .string s] W fun e W' => e = .returned (.bool true) ∧ Below W.heap.size W W' := by
  have HS := Lib.hid hs
  have HT0 := Lib.hid hT
  clear hs hT
  have H := Lib.hid h
  clear h
  go_enter Tryd.func3, Tryd.ntmps3
  go_wp2_with fail
  refine (is_out op H.out _).mono ?_
  rintro e w1 ⟨rfl, hb1⟩
  have HB1 := Lib.hid hb1
  clear hb1
  go_wp2_with fail
  go_loopw [6, 7, 8] (fun a t i wr => ∃ (q : Nat), q ≤ 24 ∧ i = .int .i64 q ∧ a = .int .i64 0 ∧ t = .bool false ∧ Hid (Below W.heap.size W wr)) (fun _ _ i _ => 24 - (intOf i).toNat)
  case atStart => exact ⟨0, Nat.zero_le _, rfl, rfl, rfl, HB1⟩
  case round =>
    obtain ⟨q, hq, rfl, rfl, rfl, HB⟩ := hrel
    clear HB1 
    by_cases hlt : q < 24
    · have q0 : (0 : Int) ≤ (q : Int) := by omega
      have q1 : (q : Int) < 24 := by omega
      go_wp2_with fail
      refine (names_any wr).mono ?_
      rintro e w3 ⟨rfl, hN3, hb3⟩
      have HB3 := Lib.hid (HB.out.trans (hb3.mono HB.out.size))
      clear hb3 hN3
      go_wp2_with fail
      refine (names_any w3).mono ?_
      rintro e w4 ⟨rfl, hN4, hb4⟩
      have hc4 := hN4.cell q
      rw [nmV_at q hlt] at hc4
      have HB4 := Lib.hid (HB3.out.trans (hb4.mono HB3.out.size))
      clear hb4 hN4 HB3 HB
      have hne := HS.out q hlt
      go_wp2
      exact ⟨⟨q + 1, by omega, by go_num, rfl, rfl, HB4⟩, by simp [intOf]; omega⟩
    · obtain rfl : q = 24 := by omega
      go_wp2_with fail
      refine (names_any wr).mono ?_
      rintro e w5 ⟨rfl, hN5, hb5⟩
      have HB5 := Lib.hid (HB.out.trans (hb5.mono HB.out.size))
      have HT5 := Lib.hid (HT0.out.below HB5.out)
      clear hb5 hN5 HB hlt
      go_wp2_with fail
      refine (op_no s HS.out w5 HT5.out).mono ?_
      rintro e w6 ⟨rfl, hb6⟩
      have HB6 := Lib.hid (HB5.out.trans (hb6.mono HB5.out.size))
      clear hb6 HB5 HT5
      go_wp2_with fail
      refine (all_any w6).mono ?_
      rintro e w7 ⟨rfl, hA7, hb7⟩
      have HB7 := Lib.hid (HB6.out.trans (hb7.mono HB6.out.size))
      have HT7 := Lib.hid (HT0.out.below HB7.out)
      have HA := Lib.hid hA7
      clear hb7 hA7 HB6 HT0
      go_wp2_with fail
      go_loop [12] (fun i => ∃ p : Nat, p ≤ 24 ∧ i = .int .i64 p) (fun i => 24 - (intOf i).toNat)
      case atStart => exact ⟨0, Nat.zero_le _, rfl⟩
      case round =>
        obtain ⟨p, hp, rfl⟩ := hrel
        by_cases hlt : p < 24
        · have p0 : (0 : Int) ≤ (p : Int) := by omega
          have p1 : (p : Int) < 24 := by omega
          have e0 := ints_cell HA.out (fill_end p hlt)
          go_wp2
          exact ⟨⟨p + 1, by omega, by go_num⟩, by simp [intOf]; omega⟩
        · have p1 : ¬ (p : Int) < 24 := by omega
          go_wp2_with fail
          refine (name_out op H.out w7).mono ?_
          rintro e w8 ⟨rfl, hb8⟩
          have HB8 := Lib.hid (HB7.out.trans (hb8.mono HB7.out.size))
          have HT8 := Lib.hid (HT7.out.below hb8)
          clear hb8 HB7 HT7
          go_wp2_with (go_at_call 12; refine (alive_any _ HT8.out).mono ?_; rintro e w9 ⟨rfl, hb9⟩)
          go_ret
          exact ⟨rfl, HB8.out.trans (hb9.mono HB8.out.size)⟩

theorem walk_isaNames (a0 : Int) (a1 : ByteArray) (w : World) (w0 : (Lit.int .i64 a0).wf = true) (w1 : a1.size ≤ maxLen) (hL : laidMetH Tryd.prog Rows.isaNamesRow.laid w) :
    Calls Tryd.prog 3 #[.int .i64 a0, .string a1] w fun e w' => e = .returned (.bool true) ∧ Below w.heap.size w w' := by
  have hT : Tab w := tab_of_laid hL
  by_cases hs : ∃ j : Nat, j < 24 ∧ (nm j).toList = a1.toList
  · obtain ⟨j, hj, hs⟩ := hs
    rcases in_out a0 with ⟨k, rfl, hk⟩ | h
    · exact names_in_yes k hk a1 j hj hs w hT
    · exact names_out_yes a0 h a1 j hj hs w hT
  · have hs' : ∀ j : Nat, j < 24 → ((nm j).toList == a1.toList) = false := fun j hj => by
      have : (nm j).toList ≠ a1.toList := fun e => hs ⟨j, hj, e⟩
      simpa using this
    rcases in_out a0 with ⟨k, rfl, hk⟩ | h
    · exact names_in_no k hk a1 hs' w hT
    · exact names_out_no a0 h a1 hs' w hT
end Go.Proofs.YthdhngefilebgaaDoor
