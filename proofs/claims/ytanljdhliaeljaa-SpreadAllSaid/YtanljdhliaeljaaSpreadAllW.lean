/- The walk of the law SpreadAll. -/
import Derived.Test.YtanljdhliaeljaaSpB
import Derived.Test.YtanljdhliaeljaaSpreadE
namespace Go.Proofs.Ytanljdhliaeljaa
open Go.ChangeShapes Go.WideShapes Go.ChangeAt Go.RowKit Go.Deep Go.Maps
set_option linter.unusedVariables false

structure Aft (w wr : World) (K : Nat) (P1 P2 : Value) (A1 A2 : Option Addr) (gs is : List Int) : Prop where
  plan : Blk wr K 25 #[P1, P2]
  r1 : Rd wr 1 A1 gs.length (ints gs)
  r2 : Rd wr 1 A2 is.length (ints is)
  below : Below w.heap.size w wr
set_option maxRecDepth 100000 in
set_option maxHeartbeats 16000000 in
theorem walk_spreadAll (a0 : Option Addr) (len0 cap0 : Nat) (z0 : Nat → Int) (a1 a2 : Int) (w : World) (w0 : Ints .i64 w a0 len0 z0) (w1 : (Lit.int .i64 a1).wf = true) (w2 : (Lit.int .i64 a2).wf = true) :
    Calls Try.prog 4 #[.slice a0 len0 cap0, .int .i64 a1, .int .i64 a2] w fun e w' => e = .returned (.bool true) ∧ Below w.heap.size w w' := by
  have hm := w0.1
  unfold maxLen at hm
  by_cases h100 : 300 < len0
  · go_enter Try.func4, Try.ntmps4
    go_wp2_with (go_at_call 5; refine (alive_any _).mono ?_; rintro e w' ⟨rfl, hb⟩)
    go_ret
    exact ⟨rfl, hb⟩
  · have hp := parted z0 a1 a2 len0
    have hle := spr_le z0 a1 a2 len0
    have hwa := world_any a0 len0 cap0 z0 a1 a2 w w0 (by omega)
    obtain ⟨gi, ii, gu, iu, ap, mn⟩ := hp
    generalize (spr z0 a1 a2 len0).1 = gs at *
    generalize (spr z0 a1 a2 len0).2 = is at *
    have GI := Lib.hid gi
    have II := Lib.hid ii
    have GU := Lib.hid gu
    have IU := Lib.hid iu
    have AP := Lib.hid ap
    have MN := Lib.hid mn
    have WA := Lib.hid hwa
    have g0 : gs.length ≤ 300 := by omega
    have i0 : is.length ≤ 300 := by omega
    have HL := Lib.hid hle
    have W0 := Lib.hid w0
    clear gi ii gu iu ap mn hwa hle w0 w2
    go_enter Try.func4, Try.ntmps4
    go_wp2_with (go_at_call 6; refine WA.out.mono ?_; rintro e u1 ⟨A1, c1, A2, c2, rfl, hr1, hr2, hb1⟩; have HR1 := Lib.hid hr1; have HR2 := Lib.hid hr2; have HB1 := Lib.hid hb1; clear hr1 hr2 hb1)
    refine (check_yes A1 A2 c1 c2 len0 gs is a1 _ (HR1.out.rd.alloc _) (HR2.out.rd.alloc _) (by omega) w1 GU.out IU.out (fun x hx => ⟨(GI.out x hx).1, (GI.out x hx).2.1, (GI.out x hx).2.2.1⟩) (fun x hx => ⟨(II.out x hx).1, (II.out x hx).2.1, (II.out x hx).2.2.1⟩) AP.out (by have := HL.out; omega) (by have := HL.out; omega) MN.out (fun g hg => by have := (HR1.out.blk_lt g hg).2; simp; omega) (fun g hg => by have := (HR2.out.blk_lt g hg).2; simp; omega)).mono ?_
    rintro e u2 ⟨rfl, hb2⟩
    have hA : Aft w u2 u1.heap.size (.slice A1 gs.length c1) (.slice A2 is.length c2) A1 A2 gs is :=
      ⟨(hb2.block u1.heap.size (by simp)).trans (Blk.new u1 _ _), (HR1.out.rd.alloc _).below hb2 (Nat.le_refl _), (HR2.out.rd.alloc _).below hb2 (Nat.le_refl _), (HB1.out.alloc HB1.out.size _).trans (hb2.mono (by have := HB1.out.size; simp; omega))⟩
    obtain ⟨K, hK⟩ : ∃ K, K = u1.heap.size := ⟨_, rfl⟩
    rw [← hK] at hA ⊢
    have HA := Lib.hid hA
    have p0 := hA.plan.cell 0
    have p1 := hA.plan.cell 1
    simp at p0 p1
    have HZ : Hid (∀ v : Nat, v < len0 → ∃ b o, a0 = some ⟨b, o, none⟩ ∧ u2.cell? ⟨b, o + v, none⟩ = some (.int .i64 (z0 v))) := fun v hv => by
      obtain ⟨b, o, e, hlt, hc⟩ := W0.out.2 (by omega)
      exact ⟨b, o, e, (hA.below.cell (p := ⟨b, o + v, none⟩) hlt).trans (hc v hv).1⟩
    clear hA hb2 hK
    go_wp2_with fail
    go_loop [8] (fun i => ∃ k : Nat, k ≤ gs.length ∧ i = .int .i64 k) (fun i => gs.length - (intOf i).toNat)
    case atStart => exact ⟨0, Nat.zero_le _, rfl⟩
    case round =>
      obtain ⟨k, hk, rfl⟩ := hrel
      by_cases hlt : k < gs.length
      · obtain ⟨b, o, rfl, hbl, hcc⟩ := HA.out.r1.at_ (by omega)
        have e0 := hcc k hlt
        obtain ⟨x0, x1, x2, x3⟩ := GI.out _ (List.getElem_mem hlt)
        generalize gs[k] = x at *
        obtain ⟨v, rfl⟩ : ∃ v : Nat, x = v := ⟨x.toNat, by omega⟩
        obtain ⟨b2, o2, rfl, e2⟩ := HZ.out v (by omega)
        simp only [Int.toNat_natCast] at x3
        generalize z0 v = zz at *
        have k0 : (0 : Int) ≤ (k : Int) := by omega
        have k1 : (k : Int) < (gs.length : Int) := by omega
        have x4 : (1 : Int) ≤ zz := by omega
        have d0 : decide ((v : Int) < 0) = false := by simp
        have d1 : decide ((len0 : Int) ≤ (v : Int)) = false := by simp; omega
        have d2 : decide (zz < 1) = false := by simp; omega
        clear hcc x2
        go_wp2_with fail
        go_round
        case measure => simp [intOf]; omega
        case rel => exact ⟨k + 1, by omega, by go_num⟩
      · go_wp2_with fail
        go_loop [9] (fun i => ∃ k : Nat, k ≤ is.length ∧ i = .int .i64 k) (fun i => is.length - (intOf i).toNat)
        case atStart => exact ⟨0, Nat.zero_le _, rfl⟩
        case round =>
          obtain ⟨j, hj, rfl⟩ := hrel
          by_cases hlt2 : j < is.length
          · obtain ⟨b, o, rfl, hbl, hcc⟩ := HA.out.r2.at_ (by omega)
            have e0 := hcc j hlt2
            obtain ⟨x0, x1, x2, x3⟩ := II.out _ (List.getElem_mem hlt2)
            generalize is[j] = x at *
            obtain ⟨v, rfl⟩ : ∃ v : Nat, x = v := ⟨x.toNat, by omega⟩
            obtain ⟨b2, o2, rfl, e2⟩ := HZ.out v (by omega)
            simp only [Int.toNat_natCast] at x3
            generalize z0 v = zz at *
            have k0 : (0 : Int) ≤ (j : Int) := by omega
            have k1 : (j : Int) < (is.length : Int) := by omega
            have d0 : decide ((v : Int) < 0) = false := by simp
            have d1 : decide ((len0 : Int) ≤ (v : Int)) = false := by simp; omega
            clear hcc x2
            by_cases hz : 0 < zz
            · have d2 : decide ((gs.length : Int) < a2) = false := by simp; omega
              clear x3
              go_wp2_with fail
              go_round
              case measure => simp [intOf]; omega
              case rel => exact ⟨j + 1, by omega, by go_num⟩
            · clear x3
              go_wp2_with fail
              go_round
              case measure => simp [intOf]; omega
              case rel => exact ⟨j + 1, by omega, by go_num⟩
          · go_wp2_with (go_at_call 5; refine (alive_any _).mono ?_; rintro e w' ⟨rfl, hb9⟩)
            go_ret
            exact ⟨rfl, HA.out.below.trans (hb9.mono HA.out.below.size)⟩
end Go.Proofs.Ytanljdhliaeljaa
