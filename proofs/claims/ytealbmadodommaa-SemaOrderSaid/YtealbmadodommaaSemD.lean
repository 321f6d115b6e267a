/- Contracts of a turn: Release. -/
import Derived.Test.YtealbmadodommaaSemC
namespace Go.Proofs.Ytealbmadodommaa
open Go.ChangeShapes Go.WideShapes Go.ChangeAt Go.RowKit Go.Deep
set_option linter.unusedVariables false

def relB (o g : Int) : Bool := decide (1 ≤ g) && decide (o = g)
def relO (o g : Int) (xs : List Int) : Int := if relB o g then xs.headD 0 else o
def relX (o g : Int) (xs : List Int) : List Int := if relB o g then xs.tail else xs
def relV (o g : Int) (xs : List Int) : Int := if relB o g then xs.headD 0 else 0
def relF (o g : Int) : Int := if relB o g then 0 else 9

theorem Sem.owner {W : World} {base K : Nat} {A : Option Addr} {o : Int} {xs : List Int} (o' : Int) (hS : Sem W base K A o xs) : Sem (W.setCell ⟨K, 0, none⟩ (.int .i64 o')) base K A o' xs := by
  obtain ⟨hb, c, hB, hR, hl⟩ := hS
  exact ⟨hb, c, by simpa using hB.set_ 0 (.int .i64 o'), hR.setCell (hR.blk_ne hB (by decide)) _, hl⟩
theorem Aft.after {W W1 W' : World} {base K : Nat} {A : Option Addr} {o : Int} {xs : List Int} (hc : Chg (fun k => k = K ∨ blk A = some k) W W1) (h : Aft W1 W' base K A o xs) : Aft W W' base K A o xs := by
  obtain ⟨A2, hS2, hc2, hg2⟩ := h
  exact ⟨A2, hS2, hc.trans hc2 (fun _ _ h => h), fun g hg => (hg2 g hg).imp_right fun h => by have := hc.size; omega⟩

set_option maxHeartbeats 2000000 in
theorem release_any (base K : Nat) (A : Option Addr) (o g : Int) (xs : List Int) (W : World) (hS : Sem W base K A o xs) :
    Calls Try.prog 10 #[.pointer (some ⟨K, 0, none⟩), .int .i64 g] W fun e W' => e = .returned (.tuple #[.int .i64 (relV o g xs), .int .i64 (relF o g)]) ∧ Aft W W' base K A (relO o g xs) (relX o g xs) := by
  have hS0 := hS
  obtain ⟨hb, c, hB, hR, hl⟩ := hS
  have hK := hB.lt
  have e0 := hB.cell 0
  have e1 := hB.cell 1
  have f0 := hB.frozen 0
  have f1 := hB.frozen 1
  simp at e0 e1
  by_cases h1 : g < 1
  · go_enter Try.func10, Try.ntmps10
    go_wp2
    go_ret2
    have hr : relB o g = false := by simp [relB]; omega
    refine ⟨by simp [relV, relF, hr], ?_⟩
    simp only [relO, relX, hr]
    exact Aft.same hS0 (Chg.refl _ _)
  · by_cases h3 : o = g
    · subst h3
      have h1' : 1 ≤ o := by omega
      have hr : relB o o = true := by simp [relB]; omega
      have Hr := Lib.hid hr
      clear hr h1
      by_cases hnil : xs = []
      · subst hnil
        go_enter Try.func10, Try.ntmps10
        go_wp2
        go_ret2
        refine ⟨by simp [relV, relF, Hr.out], ?_⟩
        simp only [relO, relX, Hr.out, if_true]
        exact Aft.owner (o' := 0) hS0 rfl
      · have hpos : 0 < xs.length := List.length_pos_iff.2 hnil
        obtain ⟨G, rfl, hbG, hGlt⟩ := hR.form hpos
        obtain ⟨b, of, hbo, hblt, hcc⟩ := hR.rd.at_ hpos
        cases hbo
        have e2 := hcc 0 hpos
        simp only [Nat.add_zero] at e2
        have hx : xs[0] = xs.headD 0 := by cases xs; exact absurd rfl hnil; rfl
        have hmem : xs[0] ∈ xs := List.getElem_mem _
        have herase : xs.erase xs[0] = xs.tail := by cases xs; exact absurd rfl hnil; simp
        generalize xs[0] = x at e2 hx hmem herase
        have hne : G ≠ K := fun e => hR.blk_ne hB (by decide) (by simp [e])
        have hne' : K ≠ G := fun e => hne e.symm
        have hlen : (0 : Int) < (xs.length : Int) := by omega
        have hlen' : (xs.length : Int) ≤ 10000 := by omega
        have Hx := Lib.hid hx
        have Her := Lib.hid herase
        clear hcc hx herase
        have hS2 := (hS0.owner 0).owner x
        have hC2 : Chg (fun k => k = K ∨ blk (some ⟨G, 0, none⟩) = some k) W ((W.setCell ⟨K, 0, none⟩ (.int .i64 0)).setCell ⟨K, 0, none⟩ (.int .i64 x)) := ((Chg.refl _ _).setCell (.inl (.inl rfl)) _).setCell (.inl (.inl rfl)) _
        go_enter Try.func10, Try.ntmps10
        go_wp2_with fail
        refine (cut_yes base K (some ⟨G, 0, none⟩) x x xs _ hS2 hmem).mono ?_
        rintro e w3 ⟨rfl, ha⟩
        have ha0 := ha
        obtain ⟨A3, ⟨_, c3, hB3, _, _⟩, _, _⟩ := ha
        have k3 := hB3.lt
        have e3 := hB3.cell 0
        simp at e3
        go_wp2
        go_ret2
        rw [Her.out] at ha0
        have hv : relV o o xs = x := by rw [relV, if_pos Hr.out, ← Hx.out]
        have hf : relF o o = 0 := by rw [relF, if_pos Hr.out]
        have ho : relO o o xs = x := by rw [relO, if_pos Hr.out, ← Hx.out]
        have ht : relX o o xs = xs.tail := by rw [relX, if_pos Hr.out]
        refine ⟨by rw [hv, hf]; rfl, ?_⟩
        rw [ho, ht]
        exact Aft.after hC2 ha0
    · have d3 : (o != g) = true := by simpa using h3
      have d4 : (o == g) = false := by simpa using h3
      have h1' : 1 ≤ g := by omega
      go_enter Try.func10, Try.ntmps10
      go_wp2
      go_ret2
      have hr : relB o g = false := by simp [relB, h3]
      refine ⟨by simp [relV, relF, hr], ?_⟩
      simp only [relO, relX, hr]
      exact Aft.same hS0 (Chg.refl _ _)
end Go.Proofs.Ytealbmadodommaa
