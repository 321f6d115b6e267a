/- Shared cells of any number: each access, in place and out of place. -/
import Derived.Test.YtiabmkhkmhjkpaaCellA
import Derived.BigRegion
namespace Go.Proofs.Ytiabmkhkmhjkpaa
open Go.ChangeShapes Go.WideShapes Go.ChangeAt Go.RowKit Go.Deep
set_option linter.unusedVariables false

section
variable {W W1 : World} {L R d : Nat} {xs : List Int} {n : Int} {u : Value}
theorem Did.d_ (h : Cels W L R xs n) (h1 : d ≠ L) (h2 : d ≠ R) (hd : (W.cell? ⟨d, 0, none⟩).isSome = true) (q : Nat) : Did W ((W.setCell ⟨d, 0, none⟩ u).drewN q) L R d xs n u :=
  ⟨(h.far (p := ⟨d, 0, none⟩) h1 h2 u).drewN q, by have := World.cell?_setCell_same' W ⟨d, 0, none⟩ u hd; simpa [go_sem] using this, ((Chg.refl _ _).setCell (.inl (.inr rfl)) _).drewN q⟩
theorem Did.r_ (h : Cels W L R xs n) (h2 : d ≠ R) (hd : W.cell? ⟨d, 0, none⟩ = some u) (k : Nat) (x : Int) (q : Nat) : Did W ((W.setCell ⟨R, k, none⟩ (.int .i64 x)).drewN q) L R d (xs.set k x) n u :=
  ⟨(h.setR k x).drewN q, by
    have := World.cell?_setCell_other W ⟨R, k, none⟩ ⟨d, 0, none⟩ (.int .i64 x) (by intro e; injection e; omega)
    rw [hd] at this; simpa [go_sem] using this, ((Chg.refl _ _).setCell (.inl (.inl rfl)) _).drewN q⟩
theorem Did.rd_ (h : Cels W L R xs n) (h1 : d ≠ L) (h2 : d ≠ R) (hd : (W.cell? ⟨d, 0, none⟩).isSome = true) (k : Nat) (x : Int) (q : Nat) : Did W (((W.setCell ⟨R, k, none⟩ (.int .i64 x)).setCell ⟨d, 0, none⟩ u).drewN q) L R d (xs.set k x) n u := by
  refine ⟨((h.setR k x).far (p := ⟨d, 0, none⟩) h1 h2 u).drewN q, ?_, (((Chg.refl _ _).setCell (.inl (.inl rfl)) _).setCell (.inl (.inr rfl)) _).drewN q⟩
  have e : (W.setCell ⟨R, k, none⟩ (.int .i64 x)).cell? ⟨d, 0, none⟩ = W.cell? ⟨d, 0, none⟩ := World.cell?_setCell_other W ⟨R, k, none⟩ ⟨d, 0, none⟩ (.int .i64 x) (by intro e; injection e; omega)
  have := World.cell?_setCell_same' (W.setCell ⟨R, k, none⟩ (.int .i64 x)) ⟨d, 0, none⟩ u (by rw [e]; exact hd)
  simpa [go_sem] using this
theorem Did.dr_ (h : Cels W L R xs n) (h1 : d ≠ L) (h2 : d ≠ R) (hd : (W.cell? ⟨d, 0, none⟩).isSome = true) (k : Nat) (x : Int) (q : Nat) : Did W (((W.setCell ⟨d, 0, none⟩ u).setCell ⟨R, k, none⟩ (.int .i64 x)).drewN q) L R d (xs.set k x) n u := by
  refine ⟨((h.far (p := ⟨d, 0, none⟩) h1 h2 u).setR k x).drewN q, ?_, (((Chg.refl _ _).setCell (.inl (.inr rfl)) _).setCell (.inl (.inl rfl)) _).drewN q⟩
  have e : ((W.setCell ⟨d, 0, none⟩ u).setCell ⟨R, k, none⟩ (.int .i64 x)).cell? ⟨d, 0, none⟩ = (W.setCell ⟨d, 0, none⟩ u).cell? ⟨d, 0, none⟩ := World.cell?_setCell_other _ ⟨R, k, none⟩ ⟨d, 0, none⟩ (.int .i64 x) (by intro e; injection e; omega)
  have := World.cell?_setCell_same' W ⟨d, 0, none⟩ u hd
  rw [← e] at this
  simpa [go_sem] using this
theorem Did.n_ (h : Cels W L R xs n) (hd : W.cell? ⟨d, 0, none⟩ = some u) (q : Nat) : Did W (W.drewN q) L R d xs n u := ⟨h.drewN q, hd, (Chg.refl _ _).drewN q⟩
end

def wadd (v x : Int) : Int := wrap64 (v + x)
def wmask (v x y : Int) : Int := bits .or .i64 (bits .andNot .i64 v x) y


set_option maxHeartbeats 1000000 in
theorem load1 (L R k d : Nat) (xs : List Int) (n  : Int) (W : World) (hC : Cels W L R xs n) (hk : k < xs.length) (hd : W.cell? ⟨d, 0, none⟩ = some (.int .i64 0)) (hfd : W.frozen? ⟨d, 0, none⟩ = false) (h1 : d ≠ L) (h2 : d ≠ R) :
    Calls Try.prog 25 #[.pointer (some ⟨R, k, none⟩), .pointer (some ⟨d, 0, none⟩)] W fun e W1 => e = .returned (.tuple #[]) ∧ Did W W1 L R d xs n (.int .i64 xs[k]) := by
  have hr := hC.at_ hk
  have hfr := hC.2.frozen k
  obtain ⟨v, hv⟩ : ∃ v, v = xs[k] := ⟨_, rfl⟩
  rw [← hv] at hr ⊢

  have HC := Lib.hid hC
  have Hv := Lib.hid hv
  clear hC hv
  go_enter Try.func25, Try.ntmps25
  go_wp2
  go_end0
  exact ⟨rfl, Did.d_ HC.out h1 h2 (by rw [hd]; rfl) 0⟩


set_option maxHeartbeats 1000000 in
theorem store1 (L R k d : Nat) (xs : List Int) (n x : Int) (W : World) (hC : Cels W L R xs n) (hk : k < xs.length) (hd : W.cell? ⟨d, 0, none⟩ = some (.int .i64 x)) (h2 : d ≠ R) :
    Calls Try.prog 19 #[.pointer (some ⟨R, k, none⟩), .pointer (some ⟨d, 0, none⟩)] W fun e W1 => e = .returned (.tuple #[]) ∧ Did W W1 L R d (xs.set k x) n (.int .i64 x) := by
  have hr := hC.at_ hk
  have hfr := hC.2.frozen k
  obtain ⟨v, hv⟩ : ∃ v, v = xs[k] := ⟨_, rfl⟩
  rw [← hv] at hr

  have HC := Lib.hid hC
  have Hv := Lib.hid hv
  clear hC hv
  go_enter Try.func19, Try.ntmps19
  go_wp2
  go_end0
  exact ⟨rfl, Did.r_ HC.out h2 hd k x 0⟩


set_option maxHeartbeats 1000000 in
theorem add1 (L R k b d : Nat) (xs : List Int) (n x  : Int) (W : World) (hC : Cels W L R xs n) (hk : k < xs.length) (hb : W.cell? ⟨b, 0, none⟩ = some (.int .i64 x)) (hbR : b ≠ R) (hd : W.cell? ⟨d, 0, none⟩ = some (.int .i64 0)) (hfd : W.frozen? ⟨d, 0, none⟩ = false) (h1 : d ≠ L) (h2 : d ≠ R) :
    Calls Try.prog 29 #[.pointer (some ⟨R, k, none⟩), .pointer (some ⟨b, 0, none⟩), .pointer (some ⟨d, 0, none⟩)] W fun e W1 => e = .returned (.tuple #[]) ∧ Did W W1 L R d (xs.set k (wadd xs[k] x)) n (.int .i64 (wadd xs[k] x)) := by
  have hr := hC.at_ hk
  have hfr := hC.2.frozen k
  obtain ⟨v, hv⟩ : ∃ v, v = xs[k] := ⟨_, rfl⟩
  rw [← hv] at hr ⊢
  have s1 : (W.setCell ⟨R, k, none⟩ (.int .i64 (wadd v x))).cell? ⟨R, k, none⟩ = some (.int .i64 (wadd v x)) := World.cell?_setCell_same' _ _ _ (by rw [hr]; rfl)
  have HC := Lib.hid hC
  have Hv := Lib.hid hv
  clear hC hv
  go_enter Try.func29, Try.ntmps29
  go_wp2
  go_region
  all_goals go_wp2
  all_goals go_end0
  exact ⟨rfl, Did.rd_ HC.out h1 h2 (by rw [hd]; rfl) k _ 1⟩


set_option maxHeartbeats 1000000 in
theorem load_in (L R k : Nat) (xs : List Int) (n : Int) (W : World) (hC : Cels W L R xs n) (hk : k < xs.length) (hm : xs.length ≤ 100000) (hn0 : 0 ≤ n) (hn1 : n < 1000000) :
    Calls Try.prog 13 #[.pointer (some ⟨L, 0, none⟩), .int .i64 k] W fun e W' => e = .returned (.int .i64 xs[k]) ∧ Aft W W' L R xs (n + 1) := by
  have hmf : ∀ (fn : Fn) (first cap : Array Value) (W : World), (Instr.makeFunc fn first cap).run Try.prog W = .ok (.func fn first cap) W := fun _ _ _ _ => rfl
  obtain ⟨hL, hR⟩ := hC.lt_
  have hC2 := (hC.alloc (.cells #[.int .i64 0] 2))
  have n1 : W.heap.size ≠ L := by omega
  have n2 : W.heap.size ≠ R := by omega
  have hdo := load1 L R k W.heap.size xs n _ hC2 hk (by simp [go_sem]) (by simp [go_sem]) n1 n2
  have HK := Lib.hid hk
  have HX := Lib.hid hC2
  have HD := Lib.hid hdo
  clear hC hC2 hdo
  go_enter Try.func13, Try.ntmps13
  go_wp2_with (go_at_call 18; refine (access_in L R k 25 (W.heap.size) #[.pointer (some ⟨W.heap.size, 0, none⟩)] xs _ n _ _ HX.out HK.out hm hn0 hn1 n1 (fun _ _ => rfl) HD.out).mono ?_; rintro e w1 ⟨rfl, hC1, hu1, hc1⟩)
  go_ret
  exact ⟨rfl, hC1, ((Chg.refl _ _).alloc _).trans hc1 (fun g hg h => by rcases h with h | h | h; exact .inl h; exact .inr h; omega)⟩


set_option maxHeartbeats 1000000 in
theorem store_in (L R k : Nat) (xs : List Int) (n x : Int) (W : World) (hC : Cels W L R xs n) (hk : k < xs.length) (hm : xs.length ≤ 100000) (hn0 : 0 ≤ n) (hn1 : n < 1000000) :
    Calls Try.prog 8 #[.pointer (some ⟨L, 0, none⟩), .int .i64 k, .int .i64 x] W fun e W' => e = .returned (.tuple #[]) ∧ Aft W W' L R (xs.set k x) (n + 1) := by
  have hmf : ∀ (fn : Fn) (first cap : Array Value) (W : World), (Instr.makeFunc fn first cap).run Try.prog W = .ok (.func fn first cap) W := fun _ _ _ _ => rfl
  obtain ⟨hL, hR⟩ := hC.lt_
  have hC2 := (hC.alloc (.cells #[.int .i64 x] 2))
  have n1 : W.heap.size ≠ L := by omega
  have n2 : W.heap.size ≠ R := by omega
  have hdo := store1 L R k W.heap.size xs n x _ hC2 hk (by simp [go_sem]) n2
  have HK := Lib.hid hk
  have HX := Lib.hid hC2
  have HD := Lib.hid hdo
  clear hC hC2 hdo
  go_enter Try.func8, Try.ntmps8
  go_wp2_with (go_at_call 18; refine (access_in L R k 19 (W.heap.size) #[.pointer (some ⟨W.heap.size, 0, none⟩)] xs _ n _ _ HX.out HK.out hm hn0 hn1 n1 (fun _ _ => rfl) HD.out).mono ?_; rintro e w1 ⟨rfl, hC1, hu1, hc1⟩)
  go_end0
  exact ⟨rfl, hC1, ((Chg.refl _ _).alloc _).trans hc1 (fun g hg h => by rcases h with h | h | h; exact .inl h; exact .inr h; omega)⟩


set_option maxHeartbeats 1000000 in
theorem add_in (L R k : Nat) (xs : List Int) (n x : Int) (W : World) (hC : Cels W L R xs n) (hk : k < xs.length) (hm : xs.length ≤ 100000) (hn0 : 0 ≤ n) (hn1 : n < 1000000) :
    Calls Try.prog 27 #[.pointer (some ⟨L, 0, none⟩), .int .i64 k, .int .i64 x] W fun e W' => e = .returned (.int .i64 (wadd xs[k] x)) ∧ Aft W W' L R (xs.set k (wadd xs[k] x)) (n + 1) := by
  have hmf : ∀ (fn : Fn) (first cap : Array Value) (W : World), (Instr.makeFunc fn first cap).run Try.prog W = .ok (.func fn first cap) W := fun _ _ _ _ => rfl
  obtain ⟨hL, hR⟩ := hC.lt_
  have hC2 := ((hC.alloc (.cells #[.int .i64 x] 2)).alloc (.cells #[.int .i64 0] 2))
  have n1 : W.heap.size + 1 ≠ L := by omega
  have n2 : W.heap.size + 1 ≠ R := by omega
  have m0 : W.heap.size ≠ R := by omega
  have hdo := add1 L R k W.heap.size (W.heap.size + 1) xs n x _ hC2 hk (by simp [go_sem]) m0 (by simp [go_sem]) (by simp [go_sem]) n1 n2
  have HK := Lib.hid hk
  have HX := Lib.hid hC2
  have HD := Lib.hid hdo
  clear hC hC2 hdo
  go_enter Try.func27, Try.ntmps27
  go_wp2_with (go_at_call 18; refine (access_in L R k 29 (W.heap.size + 1) #[.pointer (some ⟨W.heap.size, 0, none⟩), .pointer (some ⟨W.heap.size + 1, 0, none⟩)] xs _ n _ _ HX.out HK.out hm hn0 hn1 n1 (fun _ _ => rfl) HD.out).mono ?_; rintro e w1 ⟨rfl, hC1, hu1, hc1⟩)
  go_ret
  exact ⟨rfl, hC1, (((Chg.refl _ _).alloc _).alloc _).trans hc1 (fun g hg h => by rcases h with h | h | h; exact .inl h; exact .inr h; omega)⟩


theorem load_at (L R k : Nat) (xs : List Int) (n n' v i : Int) (W : World) (hC : Cels W L R xs n) (hi : i = (k : Int)) (hk : k < xs.length) (hv : xs[k] = v) (hn' : n + 1 = n') (hm : xs.length ≤ 100000) (hn0 : 0 ≤ n) (hn1 : n < 1000000) :
    Calls Try.prog 13 #[.pointer (some ⟨L, 0, none⟩), .int .i64 i] W fun e W' => e = .returned (.int .i64 v) ∧ Aft W W' L R xs n' := by
  subst hi hv hn'
  exact load_in L R k xs n W hC hk hm hn0 hn1


theorem store_at (L R k : Nat) (xs ys : List Int) (n n' x v i : Int) (W : World) (hC : Cels W L R xs n) (hi : i = (k : Int)) (hk : k < xs.length) (hv : xs[k] = v) (hys : (xs.set k x) = ys) (hn' : n + 1 = n') (hm : xs.length ≤ 100000) (hn0 : 0 ≤ n) (hn1 : n < 1000000) :
    Calls Try.prog 8 #[.pointer (some ⟨L, 0, none⟩), .int .i64 i, .int .i64 x] W fun e W' => e = .returned (.tuple #[]) ∧ Aft W W' L R ys n' := by
  subst hi hv hn' hys
  exact store_in L R k xs n x W hC hk hm hn0 hn1


theorem add_at (L R k : Nat) (xs ys : List Int) (n n' x v i : Int) (W : World) (hC : Cels W L R xs n) (hi : i = (k : Int)) (hk : k < xs.length) (hv : xs[k] = v) (hys : (xs.set k (wadd v x)) = ys) (hn' : n + 1 = n') (hm : xs.length ≤ 100000) (hn0 : 0 ≤ n) (hn1 : n < 1000000) :
    Calls Try.prog 27 #[.pointer (some ⟨L, 0, none⟩), .int .i64 i, .int .i64 x] W fun e W' => e = .returned (.int .i64 (wadd v x)) ∧ Aft W W' L R ys n' := by
  subst hi hv hn' hys
  exact add_in L R k xs n x W hC hk hm hn0 hn1


set_option maxHeartbeats 1000000 in
theorem load_out (L R : Nat) (i : Int) (xs : List Int) (n : Int) (W : World) (hC : Cels W L R xs n) (hi : i < 0 ∨ (xs.length : Int) ≤ i) :
    Calls Try.prog 13 #[.pointer (some ⟨L, 0, none⟩), .int .i64 i] W fun e W' => e = .returned (.int .i64 0) ∧ Aft W W' L R xs n := by
  have hmf : ∀ (fn : Fn) (first cap : Array Value) (W : World), (Instr.makeFunc fn first cap).run Try.prog W = .ok (.func fn first cap) W := fun _ _ _ _ => rfl
  have hC2 := (hC.alloc (.cells #[.int .i64 0] 2))
  have HX := Lib.hid hC2
  have HI := Lib.hid hi
  clear hC hC2 hi
  go_enter Try.func13, Try.ntmps13
  go_wp2_with (go_at_call 18; refine (access_out L R i _ xs n _ HX.out HI.out).mono ?_; rintro e w1 ⟨rfl, rfl⟩)
  go_ret
  exact ⟨rfl, HX.out, ((Chg.refl _ _).alloc _)⟩


set_option maxHeartbeats 1000000 in
theorem store_out (L R : Nat) (i : Int) (xs : List Int) (n x : Int) (W : World) (hC : Cels W L R xs n) (hi : i < 0 ∨ (xs.length : Int) ≤ i) :
    Calls Try.prog 8 #[.pointer (some ⟨L, 0, none⟩), .int .i64 i, .int .i64 x] W fun e W' => e = .returned (.tuple #[]) ∧ Aft W W' L R xs n := by
  have hmf : ∀ (fn : Fn) (first cap : Array Value) (W : World), (Instr.makeFunc fn first cap).run Try.prog W = .ok (.func fn first cap) W := fun _ _ _ _ => rfl
  have hC2 := (hC.alloc (.cells #[.int .i64 x] 2))
  have HX := Lib.hid hC2
  have HI := Lib.hid hi
  clear hC hC2 hi
  go_enter Try.func8, Try.ntmps8
  go_wp2_with (go_at_call 18; refine (access_out L R i _ xs n _ HX.out HI.out).mono ?_; rintro e w1 ⟨rfl, rfl⟩)
  go_end0
  exact ⟨rfl, HX.out, ((Chg.refl _ _).alloc _)⟩


set_option maxHeartbeats 1000000 in
theorem add_out (L R : Nat) (i : Int) (xs : List Int) (n x : Int) (W : World) (hC : Cels W L R xs n) (hi : i < 0 ∨ (xs.length : Int) ≤ i) :
    Calls Try.prog 27 #[.pointer (some ⟨L, 0, none⟩), .int .i64 i, .int .i64 x] W fun e W' => e = .returned (.int .i64 0) ∧ Aft W W' L R xs n := by
  have hmf : ∀ (fn : Fn) (first cap : Array Value) (W : World), (Instr.makeFunc fn first cap).run Try.prog W = .ok (.func fn first cap) W := fun _ _ _ _ => rfl
  have hC2 := ((hC.alloc (.cells #[.int .i64 x] 2)).alloc (.cells #[.int .i64 0] 2))
  have HX := Lib.hid hC2
  have HI := Lib.hid hi
  clear hC hC2 hi
  go_enter Try.func27, Try.ntmps27
  go_wp2_with (go_at_call 18; refine (access_out L R i _ xs n _ HX.out HI.out).mono ?_; rintro e w1 ⟨rfl, rfl⟩)
  go_ret
  exact ⟨rfl, HX.out, (((Chg.refl _ _).alloc _).alloc _)⟩

end Go.Proofs.Ytiabmkhkmhjkpaa
