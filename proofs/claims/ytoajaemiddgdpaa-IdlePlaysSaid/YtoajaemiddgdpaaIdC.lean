/- One goes: the walk along the links. -/
import Derived.Test.YtoajaemiddgdpaaIdB
import Derived.WalkMore
import Derived.Deep.LoopGhost
namespace Go.Proofs.Ytoajaemiddgdpaa
open Go.ChangeShapes Go.WideShapes Go.ChangeAt Go.RowKit Go.Deep
set_option linter.unusedVariables false

def lptr (L R : Nat) (pre : List Nat) : Value := match pre.getLast? with
  | none => .pointer (some ⟨L, 1, none⟩)
  | some y => .pointer (some ⟨R, y, none⟩)
def LinkAt (L R k j : Nat) (xs : List Nat) (p : Value) : Prop := ∃ pre suf : List Nat, xs = pre ++ suf ∧ k ∈ suf ∧ suf.length ≤ j ∧ p = lptr L R pre
theorem drop_no (L R most : Nat) (i : Int) (xs : List Nat) (W : World) (h : Calls Try.prog 13 #[.pointer (some ⟨L, 0, none⟩), .int .i64 i] W fun e W' => e = .returned (.bool false) ∧ W' = W) : Calls Try.prog 18 #[.pointer (some ⟨L, 0, none⟩), .int .i64 i] W fun e W' => e = .returned (.bool false) ∧ W' = W := by
  go_enter Try.func18, Try.ntmps18
  go_wp2_with fail
  go_step3
  go_wp2_with fail
  refine h.mono ?_
  rintro e w1 ⟨rfl, rfl⟩
  go_wp2_with fail
  rw [Exit.noGoto_ret]
  go_ret
  exact ⟨rfl, rfl⟩
set_option maxRecDepth 100000 in
set_option maxHeartbeats 4000000 in
theorem drop_at (L R most k : Nat) (xs : List Nat) (W : World) (h : Il W L R most xs) (hm : most ≤ 1024) (hx : k ∈ xs) : Calls Try.prog 18 #[.pointer (some ⟨L, 0, none⟩), .int .i64 k] W fun e W' => e = .returned (.bool true) ∧ Il W' L R most (xs.erase k) ∧ Chg (fun g => g = L ∨ g = R) W W' := by
  have hk : k < most := h.2.2.2.1 k hx
  have hh := has_at L R most k xs W h hm hk
  rw [decide_eq_true hx] at hh
  have HI := Lib.hid h
  have k0 : (0 : Int) ≤ (k : Int) := by omega
  have k1 : (k : Int) < (most : Int) := by omega
  clear h
  go_enter Try.func18, Try.ntmps18
  go_wp2_with fail
  go_step3
  go_wp2_with fail
  refine hh.mono ?_
  rintro e w1 ⟨rfl, rfl⟩
  go_wp2_with fail
  go_step3
  go_wp2
  go_loopg [5] xs.length (fun j p wr => Hid (Chg (fun _ => False) w1 wr) ∧ LinkAt L R k j xs p)
  case atStart => exact ⟨Chg.refl _ _, [], xs, rfl, hx, Nat.le_refl _, rfl⟩
  case round =>
    obtain ⟨HC, pre, suf, hxs, hks, hj, rfl⟩ := hrel
    obtain ⟨z, t, rfl⟩ : ∃ z t, suf = z :: t := by
      cases suf with
      | nil => simp at hks
      | cons z t => exact ⟨z, t, rfl⟩
    have HJ := Lib.hid (HI.out.kept HC.out (fun h => h) (fun h => h))
    obtain ⟨g, rfl⟩ : ∃ g, gk = g + 1 := ⟨gk - 1, by simp at hj; omega⟩
    have hz : z < most := HI.out.2.2.2.1 z (by rw [hxs]; simp)
    have z0 : (0 : Int) ≤ (z : Int) := by omega
    have z1 : (z : Int) < (most : Int) := by omega
    have c1 := HJ.out.row
    have c2 : wr.cell? ⟨R, z, none⟩ = some (.int .i64 (lnk t)) := by
      have := HJ.out.at_ hz
      rwa [hxs, ah_self pre z t (by rw [← hxs]; exact HI.out.2.2.1)] at this
    have c3 := HJ.out.many
    have hl5 := HI.out.2.2.2.2
    obtain ⟨q, hq⟩ : ∃ q, (xs.length : Int) = q := ⟨_, rfl⟩
    rw [hq] at c3
    have q0 : 1 ≤ q := by rw [← hq, hxs]; simp; omega
    have q1 : q ≤ 1024 := by omega
    have f0 := HJ.out.2.1.frozen z
    have f1 := HJ.out.1.frozen 1
    have f2 := HJ.out.1.frozen 2
    have hne := HJ.out.ne
    rcases List.eq_nil_or_concat pre with rfl | ⟨p, y, rfl⟩
    · obtain rfl : xs = z :: t := hxs
      have c0 : wr.cell? ⟨L, 1, none⟩ = some (.int .i64 z) := HJ.out.last
      simp only [lptr, List.getLast?_nil]
      by_cases hzk : z = k
      · subst hzk
        have HP := Lib.hid (Il.drop_top L R most z t wr HJ.out)
        have e : ((t).length : Int) = q - 1 := by rw [← hq]; first | (simp; done) | (simp; omega)
        have hs : (z :: t).erase z = t := by simp
        rw [e] at HP
        go_wp2_with fail
        go_region
        go_wp2_with fail
        rw [Exit.noGoto_ret]
        go_ret
        rw [hs]
        exact ⟨rfl, HP.out.kept (Chg.drew (Chg.refl (fun _ => False) _)) (fun h => h) (fun h => h), (((((HC.out.mono (fun _ _ h => h.elim)).setCell (p := ⟨L, 1, none⟩) (.inl (.inl rfl)) _).setCell (p := ⟨R, z, none⟩) (.inl (.inr rfl)) _).setCell (p := ⟨L, 2, none⟩) (.inl (.inl rfl)) _).drew : Chg (fun g => g = L ∨ g = R) w1 _)⟩
      · have hzk' : ((z : Int) == (k : Int)) = false := by simp; omega
        go_wp2_with fail
        go_quiet (fail)
        go_wp2_with fail
        go_roundg g
        case rel => exact ⟨HC.out.drewN _, [z], t, rfl, by simpa [Ne.symm hzk] using hks, by simp at hj; omega, rfl⟩
        case measure => exact Nat.lt_succ_self _
    · have hy : y < most := HI.out.2.2.2.1 y (by rw [hxs]; simp)
      have hxs' : xs = p ++ y :: z :: t := by rw [hxs]; simp
      have c0 : wr.cell? ⟨R, y, none⟩ = some (.int .i64 z) := by
        have := HJ.out.at_ hy
        rwa [hxs', ah_self p y (z :: t) (by rw [← hxs']; exact HI.out.2.2.1)] at this
      have f3 := HJ.out.2.1.frozen y
      have hlp : lptr L R (p ++ [y]) = .pointer (some ⟨R, y, none⟩) := by simp [lptr]
      rw [List.concat_eq_append, hlp]
      by_cases hzk : z = k
      · subst hzk
        have hnd : (p ++ y :: z :: t).Nodup := by rw [← hxs']; exact HI.out.2.2.1
        have hnin : z ∉ p ++ [y] := by
          rw [show p ++ y :: z :: t = (p ++ [y]) ++ z :: t by simp] at hnd
          intro h
          exact (List.nodup_append.1 hnd).2.2 z h z (by simp) rfl
        have hyz : y ≠ z := fun e => hnin (by simp [e])
        have hzy : z ≠ y := fun e => hyz e.symm
        have hcz : (wr.setCell ⟨R, y, none⟩ (.int .i64 (lnk t))).cell? ⟨R, z, none⟩ = some (.int .i64 (lnk t)) := by
          rw [World.cell?_setCell_other]
          · exact c2
          · intro e; apply hyz; have := congrArg Addr.off e; exact this
        have HP := Lib.hid (Il.drop_mid L R most y z p t wr (by rw [← hxs']; exact HJ.out))
        have e : ((p ++ y :: t).length : Int) = q - 1 := by rw [← hq, hxs']; simp; omega
        have hs : xs.erase z = p ++ y :: t := by rw [hxs', show p ++ y :: z :: t = (p ++ [y]) ++ z :: t by simp, List.erase_append_right _ hnin]; simp
        rw [e] at HP
        clear hxs hxs' hnd hnin
        go_wp2_with fail
        go_region
        go_wp2_with fail
        rw [Exit.noGoto_ret]
        go_ret
        rw [hs]
        exact ⟨rfl, HP.out.kept (Chg.drew (Chg.refl (fun _ => False) _)) (fun h => h) (fun h => h), (((((HC.out.mono (fun _ _ h => h.elim)).setCell (p := ⟨R, y, none⟩) (.inl (.inr rfl)) _).setCell (p := ⟨R, z, none⟩) (.inl (.inr rfl)) _).setCell (p := ⟨L, 2, none⟩) (.inl (.inl rfl)) _).drew : Chg (fun g => g = L ∨ g = R) w1 _)⟩
      · have hzk' : ((z : Int) == (k : Int)) = false := by simp; omega
        go_wp2_with fail
        go_quiet (fail)
        go_wp2_with fail
        go_roundg g
        case rel => exact ⟨HC.out.drewN _, p ++ [y] ++ [z], t, by rw [hxs']; simp, by simpa [Ne.symm hzk] using hks, by simp at hj; omega, by simp [lptr]⟩
        case measure => exact Nat.lt_succ_self _
end Go.Proofs.Ytoajaemiddgdpaa
