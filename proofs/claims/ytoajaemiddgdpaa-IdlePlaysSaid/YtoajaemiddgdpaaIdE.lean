/- Those that are there; a list of no length. -/
import Derived.Test.YtoajaemiddgdpaaIdD
namespace Go.Proofs.Ytoajaemiddgdpaa
open Go.ChangeShapes Go.WideShapes Go.ChangeAt Go.RowKit Go.Deep
set_option linter.unusedVariables false

theorem inew_out (n : Int) (W : World) (h : n < 0 ∨ 1024 < n) : Calls Try.prog 7 #[.int .i64 n] W fun e W' => e = .returned (.pointer none) ∧ W' = W := by
  go_enter Try.func7, Try.ntmps7
  by_cases h0 : n < 0
  · go_wp2
    go_ret
    exact ⟨rfl, rfl⟩
  · have h1 : 0 ≤ n := by omega
    have h2 : 1024 < n := by omega
    go_wp2
    go_ret
    exact ⟨rfl, rfl⟩
def idl (xs : List Nat) : List Int := xs.map Int.ofNat
@[simp] theorem idl_len (xs : List Nat) : (idl xs).length = xs.length := by simp [idl]
set_option maxHeartbeats 2000000 in
theorem all_none (L R most : Nat) (W : World) (h : Il W L R most []) : Calls Try.prog 11 #[.pointer (some ⟨L, 0, none⟩)] W fun e W' => e = .returned (.slice none 0 0) ∧ W' = W := by
  have hp := peek_none L R most W h
  clear h
  go_enter Try.func11, Try.ntmps11
  go_wp2_with (go_at_call 9; refine hp.mono ?_; rintro e w1 ⟨rfl, rfl⟩)
  go_rounds 1
  go_ret
  exact ⟨rfl, rfl⟩
set_option maxHeartbeats 2000000 in
theorem all_some (L R most x : Nat) (t : List Nat) (W : World) (h : Il W L R most (x :: t)) (hm : most ≤ 1024) : Calls Try.prog 11 #[.pointer (some ⟨L, 0, none⟩)] W fun e W' => ∃ D c, e = .returned (.slice D (x :: t).length c) ∧ Row W' W.heap.size 3 1 D (x :: t).length c (ints (idl (x :: t))) ∧ Chg (fun _ => False) W W' := by
  have hp := peek_some L R most x t W h
  have HI := Lib.hid h
  have hl5 := h.2.2.2.2
  obtain ⟨xs, hxs⟩ : ∃ xs, x :: t = xs := ⟨_, rfl⟩
  rw [hxs] at HI hl5 ⊢
  clear h
  go_enter Try.func11, Try.ntmps11
  go_wp2_with (go_at_call 9; refine hp.mono ?_; rintro e w1 ⟨rfl, rfl⟩)
  go_loopg [3, 4] (xs.length + 1) (fun j d i wr => ∃ (pre suf : List Nat) (D : Option Addr) (c : Nat), xs = pre ++ suf ∧ suf.length < j ∧ d = .slice D pre.length c ∧ i = .int .i64 (lnk suf) ∧ Hid (Row wr w1.heap.size 3 1 D pre.length c (ints (idl pre))) ∧ Hid (Chg (fun _ => False) w1 wr))
  case atStart => exact ⟨[], xs, none, 0, rfl, Nat.lt_succ_self _, rfl, by rw [← hxs]; rfl, (show Row w1 w1.heap.size 3 1 none 0 0 [] from Row.nil _ _ _ _), Chg.refl _ _⟩
  case round =>
    obtain ⟨pre, suf, D, c, he, hj, rfl, rfl, HR, HC⟩ := hrel
    obtain ⟨g, rfl⟩ : ∃ g, gk = g + 1 := ⟨gk - 1, by omega⟩
    rcases suf with _ | ⟨z, s⟩
    · simp only [List.append_nil] at he
      subst he
      simp only [lnk]
      go_wp2
      go_ret
      exact ⟨D, c, rfl, HR.out, HC.out⟩
    · have hz : z < most := HI.out.2.2.2.1 z (by rw [he]; simp)
      have z0 : (0 : Int) ≤ (z : Int) := by omega
      have z1 : (z : Int) < (most : Int) := by omega
      have hz2 : ((z : Int) != -2) = true := by first | (simp; done) | (simp; omega)
      have hpl : pre.length ≤ 1024 := by have := congrArg List.length he; rw [List.length_append] at this; omega
      have hws := HC.out.size
      simp only [lnk]
      go_wp2_with (at_builtin; refine wpList_app rfl (.tmp 23) (.tmp 25) rfl w1.heap.size D pre.length c (idl pre) rfl (HR.out.alloc _) (some ⟨wr.heap.size, 0, none⟩) 1 1 [(z : Int)] rfl (Rd.litn _ _ _ _ rfl) ?c1 ?c2 ?_; (case c1 => omega); (case c2 => simp; omega); intro A2 c2 w2 h1 h2 h3; have hc2 : Chg (fun _ => False) w1 w2 := (HC.out.alloc _).grown h2 (fun g hg => .inr (HR.out.blk_lt g hg).1); have d1 := (HI.out.kept hc2 (fun h => h) (fun h => h)).row; have d2 := (HI.out.kept hc2 (fun h => h) (fun h => h)).at_ hz; rw [he, ah_self pre z s (by rw [← he]; exact HI.out.2.2.1)] at d2)
      go_roundg g
      case rel => exact ⟨pre ++ [z], s, A2, c2, by rw [he]; simp, by rw [List.length_cons] at hj; omega, by simp, rfl, Lib.hid (by simpa [idl] using h1), hc2⟩
      case measure => exact Nat.lt_succ_self _
end Go.Proofs.Ytoajaemiddgdpaa
