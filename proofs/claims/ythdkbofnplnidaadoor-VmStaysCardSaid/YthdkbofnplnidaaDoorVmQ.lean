/- Whoever fits does so behind its instruction. -/
import Derived.Test.YthdkbofnplnidaaDoorVmH
import Derived.Test.YthdkbofnplnidaaDoorVmI
import Derived.Test.YthdkbofnplnidaaDoorVmJ
import Derived.Test.YthdkbofnplnidaaDoorVmP
import Derived.Test.YthdkbofnplnidaaDoorVmG
namespace Go.Proofs.YthdkbofnplnidaaDoor
open Go.ChangeShapes Go.WideShapes Go.ChangeAt Go.RowKit Go.Deep
set_option linter.unusedVariables false
set_option linter.unusedSimpArgs false

section
variable {rs : List Int} {es : List (List Int)}
theorem dook_2 (a b e : Nat) (ha : a < 8) (hb : b < 8) (he : e < 8) (hl : rs.length = 8) (N ans f pc : Int) (hp0 : 0 ≤ pc) (hp : pc ≤ 1000)  : DoOk 2 (a : Int) (b : Int) (e : Int) N ans f pc rs es f (pc + 1) (rs.set a (ofF 2 (rs.getD b 0) (rs.getD e 0))) es false := by
  intro V base D n c hT hR hb'
  refine (do_2 V a b e ha hb he hl hp0 hp).mono ?_
  rintro r V' ⟨rfl, hc⟩
  exact ⟨D, n, c, rfl, hR.kept hc (fun _ _ h => h), hc.mono (fun _ _ h => h.elim)⟩
theorem dook_3 (a b e : Nat) (ha : a < 8) (hb : b < 8) (he : e < 8) (hl : rs.length = 8) (N ans f pc : Int) (hp0 : 0 ≤ pc) (hp : pc ≤ 1000)  : DoOk 3 (a : Int) (b : Int) (e : Int) N ans f pc rs es f (pc + 1) (rs.set a (ofF 3 (rs.getD b 0) (rs.getD e 0))) es false := by
  intro V base D n c hT hR hb'
  refine (do_3 V a b e ha hb he hl hp0 hp).mono ?_
  rintro r V' ⟨rfl, hc⟩
  exact ⟨D, n, c, rfl, hR.kept hc (fun _ _ h => h), hc.mono (fun _ _ h => h.elim)⟩
theorem dook_4 (a b e : Nat) (ha : a < 8) (hb : b < 8) (he : e < 8) (hl : rs.length = 8) (N ans f pc : Int) (hp0 : 0 ≤ pc) (hp : pc ≤ 1000)  : DoOk 4 (a : Int) (b : Int) (e : Int) N ans f pc rs es f (pc + 1) (rs.set a (ofF 4 (rs.getD b 0) (rs.getD e 0))) es false := by
  intro V base D n c hT hR hb'
  refine (do_4 V a b e ha hb he hl hp0 hp).mono ?_
  rintro r V' ⟨rfl, hc⟩
  exact ⟨D, n, c, rfl, hR.kept hc (fun _ _ h => h), hc.mono (fun _ _ h => h.elim)⟩
theorem dook_5 (a b e : Nat) (ha : a < 8) (hb : b < 8) (he : e < 8) (hl : rs.length = 8) (N ans f pc : Int) (hp0 : 0 ≤ pc) (hp : pc ≤ 1000)  : DoOk 5 (a : Int) (b : Int) (e : Int) N ans f pc rs es f (pc + 1) (rs.set a (ofF 5 (rs.getD b 0) (rs.getD e 0))) es false := by
  intro V base D n c hT hR hb'
  refine (do_5 V a b e ha hb he hl hp0 hp).mono ?_
  rintro r V' ⟨rfl, hc⟩
  exact ⟨D, n, c, rfl, hR.kept hc (fun _ _ h => h), hc.mono (fun _ _ h => h.elim)⟩
theorem dook_if0 (a : Nat) (ha : a < 8) (b e : Int) (hl : rs.length = 8) (N ans f pc : Int) (hp0 : 0 ≤ pc) (hp : pc ≤ 1000) (hz : rs.getD a 0 = 0) : DoOk 7 (a : Int) b e N ans f pc rs es f (pc + 1) rs es false := by
  intro V base D n c hT hR hb'
  refine (do_if0 V a ha hl hp0 hp hz).mono ?_
  rintro r V' ⟨rfl, hc⟩
  exact ⟨D, n, c, rfl, hR.kept hc (fun _ _ h => h), hc.mono (fun _ _ h => h.elim)⟩
theorem dook_if1 (a : Nat) (ha : a < 8) (b e : Int) (hl : rs.length = 8) (N ans f pc : Int) (hp0 : 0 ≤ pc) (hp : pc ≤ 1000) (hz : rs.getD a 0 ≠ 0) : DoOk 7 (a : Int) b e N ans f pc rs es f (N) rs es false := by
  intro V base D n c hT hR hb'
  refine (do_if1 V a ha hl hp0 hp hz).mono ?_
  rintro r V' ⟨rfl, hc⟩
  exact ⟨D, n, c, rfl, hR.kept hc (fun _ _ h => h), hc.mono (fun _ _ h => h.elim)⟩
theorem dook_jump (a b e : Int) (hl : rs.length = 8) (N ans f pc : Int) (hp0 : 0 ≤ pc) (hp : pc ≤ 1000)  : DoOk 6 a b e N ans f pc rs es f (N) rs es false := by
  intro V base D n c hT hR hb'
  refine (do_jump V a hl hp0 hp).mono ?_
  rintro r V' ⟨rfl, hc⟩
  exact ⟨D, n, c, rfl, hR.kept hc (fun _ _ h => h), hc.mono (fun _ _ h => h.elim)⟩
theorem dook_asks (op : Int) (a : Nat) (ha : a < 8) (b e : Int) (hl : rs.length = 8) (N ans f pc : Int) (hp0 : 0 ≤ pc) (hp : pc ≤ 1000) (hne : op ≠ 1 ∧ op ≠ 2 ∧ op ≠ 3 ∧ op ≠ 4 ∧ op ≠ 5 ∧ op ≠ 7 ∧ op ≠ 6 ∧ op ≠ 8 ∧ op ≠ 9 ∧ op ≠ 14) (hk : akI op = true) : DoOk op (a : Int) b e N ans f pc rs es f (pc + 1) (rs.set a ans) es false := by
  intro V base D n c hT hR hb'
  refine (do_asks V a op ha hl hp0 hp hT hne hk).mono ?_
  rintro r V' ⟨rfl, hc⟩
  exact ⟨D, n, c, rfl, hR.kept hc (fun _ _ h => h), hc.mono (fun _ _ h => h.elim)⟩
theorem dook_full (a b e N ans f pc : Int) (hl : rs.length = 8) (hp0 : 0 ≤ pc) (hp : pc ≤ 1000) (hu : Uni 2 es) (hn : es.length = 16) : DoOk 8 a b e N ans f pc rs es 0 0 [0, 0, 0, 0, 0, 0, 0, 0] [] true := by
  intro V base D n c hT hR hb
  have hln := hR.rd.lenk hu (by decide)
  refine (do_full V a hl hp0 hp (by omega)).mono ?_
  rintro r V' ⟨rfl, hc⟩
  exact ⟨none, 0, 0, rfl, Row.nil _ _ _ _, hc.mono (fun _ _ h => h.elim)⟩
theorem dook_ret0 (a b e N ans f pc : Int) (hl : rs.length = 8) (hp0 : 0 ≤ pc) (hp : pc ≤ 1000) (hu : Uni 2 es) (hn : es.length = 0) : DoOk 9 a b e N ans f pc rs es 0 0 [0, 0, 0, 0, 0, 0, 0, 0] [] true := by
  intro V base D n c hT hR hb
  have hln := hR.rd.lenk hu (by decide)
  refine (do_ret0 V a hl hp0 hp (by omega)).mono ?_
  rintro r V' ⟨rfl, hc⟩
  exact ⟨none, 0, 0, rfl, Row.nil _ _ _ _, hc.mono (fun _ _ h => h.elim)⟩
theorem dook_call (a b e N ans f pc : Int) (hl : rs.length = 8) (hp0 : 0 ≤ pc) (hp : pc ≤ 1000) (hu : Uni 2 es) (hn : es.length < 16) : DoOk 8 a b e N ans f pc rs es N 0 rs (es ++ [[f, pc + 1]]) false := by
  intro V base D n c hT hR hb
  have hln := hR.rd.lenk hu (by decide)
  exact do_call V a hl hp0 hp (by omega) hu hR hb
theorem dook_ret (a b e N ans f pc : Int) (q : Nat) (hl : rs.length = 8) (hp0 : 0 ≤ pc) (hp : pc ≤ 1000) (hu : Uni 2 es) (hn : es.length = q + 1) (h16 : es.length ≤ 16) : DoOk 9 a b e N ans f pc rs es ((es.getD q []).getD 0 0) ((es.getD q []).getD 1 0) rs (es.take q) false := by
  intro V base D n c hT hR hb
  have hln := hR.rd.lenk hu (by decide)
  exact do_ret V a q hl hp0 hp (by omega) (by omega) hu hR hb
end
theorem dook_fit {m : Nat} {nc : Nat → Nat} {code : Nat → List (List Int)} {safe : Nat → List Bool} (hlc : ∀ i, i < m → (code i).length = nc i) {f pc : Nat} {rs : List Int} {es : List (List Int)} (h : fitsF m nc code safe f pc es false = true) (hl : rs.length = 8) (hu : Uni 2 es) (ans : Int) :
    f < m ∧ pc < nc f ∧ ∃ a : Nat, a < 8 ∧ ipart (code f) pc 1 = a ∧ ∃ (f' pc' : Int) (rs' : List Int) (es' : List (List Int)) (d' : Bool), DoOk (ipart (code f) pc 0) a (ipart (code f) pc 2) (ipart (code f) pc 3) (ipart (code f) pc 4) ans f pc rs es f' pc' rs' es' d' ∧ rs'.length = 8 ∧ Uni 2 es' ∧ es'.length ≤ 16 ∧ fitsF m nc code safe f' pc' es' d' = true := by
  obtain ⟨h0, h1, h16, hany⟩ := fitsF_iff.1 h
  obtain ⟨_, hf, _, hpc⟩ := placeOk_iff.1 h1
  have hfm : f < m := by omega
  have hpn : pc < nc f := by simpa using hpc
  obtain ⟨l0, l64, hpl⟩ := place_ok h0 hfm
  rw [hlc f hfm] at l0 l64 hpl
  obtain ⟨hchk, hend⟩ := hpl pc hpn
  obtain ⟨o0, o24, A0, A8, B0, B8, C0, C8, hj, hc⟩ := chk_ok hchk
  refine ⟨hfm, hpn, ?_⟩
  generalize ipart (code f) pc 0 = op at *
  generalize ipart (code f) pc 1 = A at *
  generalize ipart (code f) pc 2 = B at *
  generalize ipart (code f) pc 3 = C at *
  generalize ipart (code f) pc 4 = N at *
  obtain ⟨a, rfl⟩ : ∃ a : Nat, A = a := ⟨A.toNat, by omega⟩
  obtain ⟨b, rfl⟩ : ∃ a : Nat, B = a := ⟨B.toNat, by omega⟩
  obtain ⟨e, rfl⟩ : ∃ a : Nat, C = a := ⟨C.toNat, by omega⟩
  have ha : a < 8 := by omega
  have hb : b < 8 := by omega
  have he : e < 8 := by omega
  have p0 : (0 : Int) ≤ pc := by omega
  have p1 : (pc : Int) ≤ 1000 := by omega
  have hnext : enI op = false → placeOk m nc f ((pc : Int) + 1) = true := fun h => placeOk_iff.2 ⟨by omega, hf, by omega, by have := hend h; simp; omega⟩
  have hfit : enI op = false → fitsF m nc code safe f ((pc : Int) + 1) es false = true := fun h => fitsF_iff.2 ⟨h0, hnext h, h16, hany⟩
  have hdone : fitsF m nc code safe 0 0 [] true = true := fitsF_done.2 h0
  refine ⟨a, ha, rfl, ?_⟩
  by_cases h_1 : op = 1
  · subst h_1
    exact ⟨f, pc + 1, _, es, false, dook_const a ha hl _ _ _ _ _ _ p0 p1, by simp [hl], hu, h16, hfit (by decide)⟩
  by_cases h_2 : op = 2
  · subst h_2
    exact ⟨f, pc + 1, _, es, false, dook_2 a b e ha hb he hl _ _ _ _ p0 p1, by simp [hl], hu, h16, hfit (by decide)⟩
  by_cases h_3 : op = 3
  · subst h_3
    exact ⟨f, pc + 1, _, es, false, dook_3 a b e ha hb he hl _ _ _ _ p0 p1, by simp [hl], hu, h16, hfit (by decide)⟩
  by_cases h_4 : op = 4
  · subst h_4
    exact ⟨f, pc + 1, _, es, false, dook_4 a b e ha hb he hl _ _ _ _ p0 p1, by simp [hl], hu, h16, hfit (by decide)⟩
  by_cases h_5 : op = 5
  · subst h_5
    exact ⟨f, pc + 1, _, es, false, dook_5 a b e ha hb he hl _ _ _ _ p0 p1, by simp [hl], hu, h16, hfit (by decide)⟩
  by_cases h_7 : op = 7
  · subst h_7
    obtain ⟨N0, N1⟩ := hj (.inr rfl)
    by_cases hz : rs.getD a 0 = 0
    · exact ⟨f, pc + 1, _, es, false, dook_if0 a ha _ _ hl _ _ _ _ p0 p1 hz, hl, hu, h16, hfit (by decide)⟩
    · exact ⟨f, N, _, es, false, dook_if1 a ha _ _ hl _ _ _ _ p0 p1 hz, hl, hu, h16, fitsF_iff.2 ⟨h0, placeOk_iff.2 ⟨by omega, hf, N0, by simpa using N1⟩, h16, hany⟩⟩
  by_cases h_6 : op = 6
  · subst h_6
    obtain ⟨N0, N1⟩ := hj (.inl rfl)
    exact ⟨f, N, _, es, false, dook_jump _ _ _ hl _ _ _ _ p0 p1, hl, hu, h16, fitsF_iff.2 ⟨h0, placeOk_iff.2 ⟨by omega, hf, N0, by simpa using N1⟩, h16, hany⟩⟩
  by_cases h_8 : op = 8
  · subst h_8
    obtain ⟨N0, N1⟩ := hc (.inl rfl)
    by_cases hn : es.length = 16
    · exact ⟨0, 0, _, [], true, dook_full _ _ _ _ _ _ _ hl p0 p1 hu hn, rfl, Uni.nil 2, by decide, hdone⟩
    · obtain ⟨q, rfl⟩ : ∃ q : Nat, N = q := ⟨N.toNat, by omega⟩
      have hqm : q < m := by omega
      have hq0 := (place_ok h0 hqm).1
      rw [hlc q hqm] at hq0
      refine ⟨q, 0, _, es ++ [[(f : Int), (pc : Int) + 1]], false, dook_call _ _ _ _ _ _ _ hl p0 p1 hu (by omega), hl, hu.snoc rfl, by simp; omega, fitsF_iff.2 ⟨h0, placeOk_iff.2 ⟨by omega, by omega, by omega, by simp; omega⟩, by simp; omega, ?_⟩⟩
      rw [List.any_append, hany, Bool.false_or]
      have hw : wrongP m nc [(f : Int), (pc : Int) + 1] = false := by
        show (!placeOk m nc (f : Int) ((pc : Int) + 1)) = false
        rw [hnext (by decide)]; rfl
      simp [hw]
  by_cases h_9 : op = 9
  · subst h_9
    by_cases hn : es.length = 0
    · exact ⟨0, 0, _, [], true, dook_ret0 _ _ _ _ _ _ _ hl p0 p1 hu hn, rfl, Uni.nil 2, by decide, hdone⟩
    · obtain ⟨q, hq⟩ : ∃ q, es.length = q + 1 := ⟨es.length - 1, by omega⟩
      have hqe : q < es.length := by omega
      have hge : es.getD q [] = es[q] := by rw [List.getD_eq_getElem?_getD, List.getElem?_eq_getElem hqe]; rfl
      have hw : wrongP m nc es[q] = false := by
        have := List.any_eq_false.1 hany _ (List.getElem_mem hqe)
        simpa using this
      have hpq : placeOk m nc ((es.getD q []).getD 0 0) ((es.getD q []).getD 1 0) = true := by
        rw [hge]
        have : (!placeOk m nc ((es[q]).getD 0 0) ((es[q]).getD 1 0)) = false := hw
        simpa using this
      refine ⟨_, _, _, es.take q, false, dook_ret _ _ _ _ _ _ _ q hl p0 p1 hu hq h16, hl, fun x hx => hu x (List.mem_of_mem_take hx), by rw [List.length_take]; omega, fitsF_iff.2 ⟨h0, hpq, by rw [List.length_take]; omega, ?_⟩⟩
      rw [List.any_eq_false]
      intro x hx
      exact List.any_eq_false.1 hany x (List.mem_of_mem_take hx)
  by_cases h_14 : op = 14
  · subst h_14
    exact ⟨0, 0, _, [], true, dook_exit hl _ _ _ _ _ _ _ p0 p1, rfl, Uni.nil 2, by decide, hdone⟩
  · have hne : op ≠ 1 ∧ op ≠ 2 ∧ op ≠ 3 ∧ op ≠ 4 ∧ op ≠ 5 ∧ op ≠ 7 ∧ op ≠ 6 ∧ op ≠ 8 ∧ op ≠ 9 ∧ op ≠ 14 := ⟨h_1, h_2, h_3, h_4, h_5, h_7, h_6, h_8, h_9, h_14⟩
    have hen : enI op = false := by unfold enI; rw [decide_eq_false]; omega
    cases hk : akI op with
    | true => exact ⟨f, pc + 1, _, es, false, dook_asks op a ha _ _ hl _ _ _ _ p0 p1 hne hk, by simp [hl], hu, h16, hfit hen⟩
    | false => exact ⟨f, pc + 1, _, es, false, dook_plain hl op _ _ _ _ _ _ _ p0 p1 hne hk, hl, hu, h16, hfit hen⟩
end Go.Proofs.YthdkbofnplnidaaDoor
