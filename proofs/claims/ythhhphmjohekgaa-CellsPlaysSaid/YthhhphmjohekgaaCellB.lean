/- Shared cells of any number: each access, in place and out of place. -/
import Derived.Test.YthhhphmjohekgaaCellA
import Derived.BigRegion
namespace Go.Proofs.Ythhhphmjohekgaa
open Go.ChangeShapes Go.WideShapes Go.ChangeAt Go.RowKit Go.Deep
set_option linter.unusedVariables false

section
variable {W W1 : World} {L R d : Nat} {xs : List Int} {n : Int} {u : Value}
theorem Did.d_ (h : Cels W L R xs n) (h1 : d ≠ L) (h2 : d ≠ R) (hd : (W.cell? ⟨d, 0, none⟩).isSome = true) (q : Nat) : Did W ((W.setCell ⟨d, 0, none⟩ u).drewN q) L R d xs n u :=
  ⟨(h.far (p := ⟨d, 0, none⟩) h1 h2 u).drewN q, by have := World.cell?_setCell_same' W ⟨d, 0, none⟩ u hd; simpa [go_sem] using this, ((Chg.refl _ _).setCell (.inl (.inr rfl)) _).drewN q⟩
theorem Did.r_ (h : Cels W L R xs n) (h2 : d ≠ R) (hd : W.cell? ⟨d, 0, none⟩ = some u) (k : Nat) (x : Int) (q : Nat) : Did W ((W.setCell ⟨R, k, none⟩ (.int .i64 x)).drewN q) L R d (xs.set k x) n u :=
  ⟨(h.setR k x).drewN q, by
    have := World.cell?_setCell_other W ⟨R, k, none⟩ ⟨d, 0, none⟩ (.int .i64 x) (by intro e; injection e; omega)
    rw [hd] at this; simpa [go_sem] using this, ((Chg.refl _ _).setCell (.inl (.inl rfl)) _).drewN q⟩
theorem Did.rd_ (h : Cels W L R xs n) (h1 : d ≠ L) (h2 : d ≠ R) (hd : (W.cell? ⟨d, 0, none⟩).isSome = true) (k : Nat) (x : Int) (q : Nat) : Did W (((W.setCell ⟨R, k, none⟩ (.int .i64 x)).setCell ⟨d, 0, none⟩ u).drewN q) L R d (xs.set k x) n u := by
  refine ⟨((h.setR k x).far (p := ⟨d, 0, none⟩) h1 h2 u).drewN q, ?_, (((Chg.refl _ _).setCell (.inl (.inl rfl)) _).setCell (.inl (.inr rfl)) _).drewN q⟩
  have e : (W.setCell ⟨R, k, none⟩ (.int .i64 x)).cell? ⟨d, 0, none⟩ = W.cell? ⟨d, 0, none⟩ := World.cell?_setCell_other W ⟨R, k, none⟩ ⟨d, 0, none⟩ (.int .i64 x) (by intro e; injection e; omega)
  have := World.cell?_setCell_same' (W.setCell ⟨R, k, none⟩ (.int .i64 x)) ⟨d, 0, none⟩ u (by rw [e]; exact hd)
  simpa [go_sem] using this
theorem Did.dr_ (h : Cels W L R xs n) (h1 : d ≠ L) (h2 : d ≠ R) (hd : (W.cell? ⟨d, 0, none⟩).isSome = true) (k : Nat) (x : Int) (q : Nat) : Did W (((W.setCell ⟨d, 0, none⟩ u).setCell ⟨R, k, none⟩ (.int .i64 x)).drewN q) L R d (xs.set k x) n u := by
  refine ⟨((h.far (p := ⟨d, 0, none⟩) h1 h2 u).setR k x).drewN q, ?_, (((Chg.refl _ _).setCell (.inl (.inr rfl)) _).setCell (.inl (.inl rfl)) _).drewN q⟩
  have e : ((W.setCell ⟨d, 0, none⟩ u).setCell ⟨R, k, none⟩ (.int .i64 x)).cell? ⟨d, 0, none⟩ = (W.setCell ⟨d, 0, none⟩ u).cell? ⟨d, 0, none⟩ := World.cell?_setCell_other _ ⟨R, k, none⟩ ⟨d, 0, none⟩ (.int .i64 x) (by intro e; injection e; omega)
  have := World.cell?_setCell_same' W ⟨d, 0, none⟩ u hd
  rw [← e] at this
  simpa [go_sem] using this
theorem Did.n_ (h : Cels W L R xs n) (hd : W.cell? ⟨d, 0, none⟩ = some u) (q : Nat) : Did W (W.drewN q) L R d xs n u := ⟨h.drewN q, hd, (Chg.refl _ _).drewN q⟩
end

def wadd (v x : Int) : Int := wrap64 (v + x)
def wmask (v x y : Int) : Int := bits .or .i64 (bits .andNot .i64 v x) y


set_option maxHeartbeats 1000000 in
theorem load1 (L R k d : Nat) (xs : List Int) (n  : Int) (W : World) (hC : Cels W L R xs n) (hk : k < xs.length) (hd : W.cell? ⟨d, 0, none⟩ = some (.int .i64 0)) (hfd : W.frozen? ⟨d, 0, none⟩ = false) (h1 : d ≠ L) (h2 : d ≠ R) :
    Calls Try.prog 21 #[.pointer (some ⟨R, k, none⟩), .pointer (some ⟨d, 0, none⟩)] W fun e W1 => e = .returned (.tuple #[]) ∧ Did W W1 L R d xs n (.int .i64 xs[k]) := by
  have hr := hC.at_ hk
  have hfr := hC.2.frozen k
  obtain ⟨v, hv⟩ : ∃ v, v = xs[k] := ⟨_, rfl⟩
  rw [← hv] at hr ⊢

  have HC := Lib.hid hC
  have Hv := Lib.hid hv
  clear hC hv
  go_enter Try.func21, Try.ntmps21
  go_wp2
  go_end0
  exact ⟨rfl, Did.d_ HC.out h1 h2 (by rw [hd]; rfl) 0⟩


set_option maxHeartbeats 1000000 in
theorem store1 (L R k d : Nat) (xs : List Int) (n x : Int) (W : World) (hC : Cels W L R xs n) (hk : k < xs.length) (hd : W.cell? ⟨d, 0, none⟩ = some (.int .i64 x)) (h2 : d ≠ R) :
    Calls Try.prog 22 #[.pointer (some ⟨R, k, none⟩), .pointer (some ⟨d, 0, none⟩)] W fun e W1 => e = .returned (.tuple #[]) ∧ Did W W1 L R d (xs.set k x) n (.int .i64 x) := by
  have hr := hC.at_ hk
  have hfr := hC.2.frozen k
  obtain ⟨v, hv⟩ : ∃ v, v = xs[k] := ⟨_, rfl⟩
  rw [← hv] at hr

  have HC := Lib.hid hC
  have Hv := Lib.hid hv
  clear hC hv
  go_enter Try.func22, Try.ntmps22
  go_wp2
  go_end0
  exact ⟨rfl, Did.r_ HC.out h2 hd k x 0⟩


set_option maxHeartbeats 1000000 in
theorem swap1 (L R k b d : Nat) (xs : List Int) (n x  : Int) (W : World) (hC : Cels W L R xs n) (hk : k < xs.length) (hb : W.cell? ⟨b, 0, none⟩ = some (.int .i64 x)) (hbR : b ≠ R) (hd : W.cell? ⟨d, 0, none⟩ = some (.int .i64 0)) (hfd : W.frozen? ⟨d, 0, none⟩ = false) (h1 : d ≠ L) (h2 : d ≠ R) (hbd : b ≠ d) :
    Calls Try.prog 25 #[.pointer (some ⟨R, k, none⟩), .pointer (some ⟨b, 0, none⟩), .pointer (some ⟨d, 0, none⟩)] W fun e W1 => e = .returned (.tuple #[]) ∧ Did W W1 L R d (xs.set k x) n (.int .i64 xs[k]) := by
  have hr := hC.at_ hk
  have hfr := hC.2.frozen k
  obtain ⟨v, hv⟩ : ∃ v, v = xs[k] := ⟨_, rfl⟩
  rw [← hv] at hr ⊢

  have HC := Lib.hid hC
  have Hv := Lib.hid hv
  clear hC hv
  go_enter Try.func25, Try.ntmps25
  go_wp2
  go_region
  all_goals go_wp2
  all_goals go_end0
  exact ⟨rfl, Did.dr_ HC.out h1 h2 (by rw [hd]; rfl) k x 1⟩


set_option maxHeartbeats 1000000 in
theorem add1 (L R k b d : Nat) (xs : List Int) (n x  : Int) (W : World) (hC : Cels W L R xs n) (hk : k < xs.length) (hb : W.cell? ⟨b, 0, none⟩ = some (.int .i64 x)) (hbR : b ≠ R) (hd : W.cell? ⟨d, 0, none⟩ = some (.int .i64 0)) (hfd : W.frozen? ⟨d, 0, none⟩ = false) (h1 : d ≠ L) (h2 : d ≠ R) :
    Calls Try.prog 24 #[.pointer (some ⟨R, k, none⟩), .pointer (some ⟨b, 0, none⟩), .pointer (some ⟨d, 0, none⟩)] W fun e W1 => e = .returned (.tuple #[]) ∧ Did W W1 L R d (xs.set k (wadd xs[k] x)) n (.int .i64 (wadd xs[k] x)) := by
  have hr := hC.at_ hk
  have hfr := hC.2.frozen k
  obtain ⟨v, hv⟩ : ∃ v, v = xs[k] := ⟨_, rfl⟩
  rw [← hv] at hr ⊢
  have s1 : (W.setCell ⟨R, k, none⟩ (.int .i64 (wadd v x))).cell? ⟨R, k, none⟩ = some (.int .i64 (wadd v x)) := World.cell?_setCell_same' _ _ _ (by rw [hr]; rfl)
  have HC := Lib.hid hC
  have Hv := Lib.hid hv
  clear hC hv
  go_enter Try.func24, Try.ntmps24
  go_wp2
  go_region
  all_goals go_wp2
  all_goals go_end0
  exact ⟨rfl, Did.rd_ HC.out h1 h2 (by rw [hd]; rfl) k _ 1⟩


set_option maxHeartbeats 1000000 in
theorem mask1 (L R k b c d : Nat) (xs : List Int) (n x y  : Int) (W : World) (hC : Cels W L R xs n) (hk : k < xs.length) (hb : W.cell? ⟨b, 0, none⟩ = some (.int .i64 x)) (hbR : b ≠ R) (hc : W.cell? ⟨c, 0, none⟩ = some (.int .i64 y)) (hcR : c ≠ R) (hd : W.cell? ⟨d, 0, none⟩ = some (.int .i64 0)) (hfd : W.frozen? ⟨d, 0, none⟩ = false) (h1 : d ≠ L) (h2 : d ≠ R) :
    Calls Try.prog 26 #[.pointer (some ⟨R, k, none⟩), .pointer (some ⟨b, 0, none⟩), .pointer (some ⟨c, 0, none⟩), .pointer (some ⟨d, 0, none⟩)] W fun e W1 => e = .returned (.tuple #[]) ∧ Did W W1 L R d (xs.set k (wmask xs[k] x y)) n (.int .i64 xs[k]) := by
  have hr := hC.at_ hk
  have hfr := hC.2.frozen k
  obtain ⟨v, hv⟩ : ∃ v, v = xs[k] := ⟨_, rfl⟩
  rw [← hv] at hr ⊢

  have HC := Lib.hid hC
  have Hv := Lib.hid hv
  clear hC hv
  go_enter Try.func26, Try.ntmps26
  go_wp2
  go_region
  all_goals go_wp2
  all_goals go_end0
  exact ⟨rfl, Did.dr_ HC.out h1 h2 (by rw [hd]; rfl) k _ 1⟩


set_option maxHeartbeats 1000000 in
theorem cas1_hit (L R k o f d : Nat) (xs : List Int) (n x  : Int) (W : World) (hC : Cels W L R xs n) (hk : k < xs.length) (hf : W.cell? ⟨f, 0, none⟩ = some (.int .i64 x)) (hfR : f ≠ R) (ho : W.cell? ⟨o, 0, none⟩ = some (.int .i64 xs[k])) (hd : W.cell? ⟨d, 0, none⟩ = some (.bool false)) (hfd : W.frozen? ⟨d, 0, none⟩ = false) (h1 : d ≠ L) (h2 : d ≠ R) :
    Calls Try.prog 23 #[.pointer (some ⟨R, k, none⟩), .pointer (some ⟨o, 0, none⟩), .pointer (some ⟨f, 0, none⟩), .pointer (some ⟨d, 0, none⟩)] W fun e W1 => e = .returned (.tuple #[]) ∧ Did W W1 L R d (xs.set k x) n (.bool true) := by
  have hr := hC.at_ hk
  have hfr := hC.2.frozen k
  obtain ⟨v, hv⟩ : ∃ v, v = xs[k] := ⟨_, rfl⟩
  rw [← hv] at hr ho

  have HC := Lib.hid hC
  have Hv := Lib.hid hv
  clear hC hv
  go_enter Try.func23, Try.ntmps23
  go_wp2
  go_quiet (fail)
  go_wp2
  go_end0
  exact ⟨rfl, Did.rd_ HC.out h1 h2 (by rw [hd]; rfl) k x _⟩


set_option maxHeartbeats 1000000 in
theorem cas1_miss (L R k o f d : Nat) (xs : List Int) (n y : Int) (W : World) (hC : Cels W L R xs n) (hk : k < xs.length) (hvy : (xs[k] == y) = false) (ho : W.cell? ⟨o, 0, none⟩ = some (.int .i64 y)) (hd : W.cell? ⟨d, 0, none⟩ = some (.bool false)) (hfd : W.frozen? ⟨d, 0, none⟩ = false) (h1 : d ≠ L) (h2 : d ≠ R) :
    Calls Try.prog 23 #[.pointer (some ⟨R, k, none⟩), .pointer (some ⟨o, 0, none⟩), .pointer (some ⟨f, 0, none⟩), .pointer (some ⟨d, 0, none⟩)] W fun e W1 => e = .returned (.tuple #[]) ∧ Did W W1 L R d xs n (.bool false) := by
  have hr := hC.at_ hk
  have hfr := hC.2.frozen k
  obtain ⟨v, hv⟩ : ∃ v, v = xs[k] := ⟨_, rfl⟩
  rw [← hv] at hr hvy

  have HC := Lib.hid hC
  have Hv := Lib.hid hv
  clear hC hv
  go_enter Try.func23, Try.ntmps23
  go_wp2
  go_quiet (fail)
  go_wp2
  go_end0
  exact ⟨rfl, Did.n_ HC.out hd _⟩


set_option maxHeartbeats 1000000 in
theorem load_in (L R k : Nat) (xs : List Int) (n : Int) (W : World) (hC : Cels W L R xs n) (hk : k < xs.length) (hm : xs.length ≤ 100000) (hn0 : 0 ≤ n) (hn1 : n < 1000000) :
    Calls Try.prog 12 #[.pointer (some ⟨L, 0, none⟩), .int .i64 k] W fun e W' => e = .returned (.int .i64 xs[k]) ∧ Aft W W' L R xs (n + 1) := by
  have hmf : ∀ (fn : Fn) (first cap : Array Value) (W : World), (Instr.makeFunc fn first cap).run Try.prog W = .ok (.func fn first cap) W := fun _ _ _ _ => rfl
  obtain ⟨hL, hR⟩ := hC.lt_
  have hC2 := (hC.alloc (.cells #[.int .i64 0] 2))
  have n1 : W.heap.size ≠ L := by omega
  have n2 : W.heap.size ≠ R := by omega
  have hdo := load1 L R k W.heap.size xs n _ hC2 hk (by simp [go_sem]) (by simp [go_sem]) n1 n2
  have HK := Lib.hid hk
  have HX := Lib.hid hC2
  have HD := Lib.hid hdo
  clear hC hC2 hdo
  go_enter Try.func12, Try.ntmps12
  go_wp2_with (go_at_call 20; refine (access_in L R k 21 (W.heap.size) #[.pointer (some ⟨W.heap.size, 0, none⟩)] xs _ n _ _ HX.out HK.out hm hn0 hn1 n1 (fun _ _ => rfl) HD.out).mono ?_; rintro e w1 ⟨rfl, hC1, hu1, hc1⟩)
  go_ret
  exact ⟨rfl, hC1, ((Chg.refl _ _).alloc _).trans hc1 (fun g hg h => by rcases h with h | h | h; exact .inl h; exact .inr h; omega)⟩


set_option maxHeartbeats 1000000 in
theorem store_in (L R k : Nat) (xs : List Int) (n x : Int) (W : World) (hC : Cels W L R xs n) (hk : k < xs.length) (hm : xs.length ≤ 100000) (hn0 : 0 ≤ n) (hn1 : n < 1000000) :
    Calls Try.prog 14 #[.pointer (some ⟨L, 0, none⟩), .int .i64 k, .int .i64 x] W fun e W' => e = .returned (.tuple #[]) ∧ Aft W W' L R (xs.set k x) (n + 1) := by
  have hmf : ∀ (fn : Fn) (first cap : Array Value) (W : World), (Instr.makeFunc fn first cap).run Try.prog W = .ok (.func fn first cap) W := fun _ _ _ _ => rfl
  obtain ⟨hL, hR⟩ := hC.lt_
  have hC2 := (hC.alloc (.cells #[.int .i64 x] 2))
  have n1 : W.heap.size ≠ L := by omega
  have n2 : W.heap.size ≠ R := by omega
  have hdo := store1 L R k W.heap.size xs n x _ hC2 hk (by simp [go_sem]) n2
  have HK := Lib.hid hk
  have HX := Lib.hid hC2
  have HD := Lib.hid hdo
  clear hC hC2 hdo
  go_enter Try.func14, Try.ntmps14
  go_wp2_with (go_at_call 20; refine (access_in L R k 22 (W.heap.size) #[.pointer (some ⟨W.heap.size, 0, none⟩)] xs _ n _ _ HX.out HK.out hm hn0 hn1 n1 (fun _ _ => rfl) HD.out).mono ?_; rintro e w1 ⟨rfl, hC1, hu1, hc1⟩)
  go_end0
  exact ⟨rfl, hC1, ((Chg.refl _ _).alloc _).trans hc1 (fun g hg h => by rcases h with h | h | h; exact .inl h; exact .inr h; omega)⟩


set_option maxHeartbeats 1000000 in
theorem swap_in (L R k : Nat) (xs : List Int) (n x : Int) (W : World) (hC : Cels W L R xs n) (hk : k < xs.length) (hm : xs.length ≤ 100000) (hn0 : 0 ≤ n) (hn1 : n < 1000000) :
    Calls Try.prog 18 #[.pointer (some ⟨L, 0, none⟩), .int .i64 k, .int .i64 x] W fun e W' => e = .returned (.int .i64 xs[k]) ∧ Aft W W' L R (xs.set k x) (n + 1) := by
  have hmf : ∀ (fn : Fn) (first cap : Array Value) (W : World), (Instr.makeFunc fn first cap).run Try.prog W = .ok (.func fn first cap) W := fun _ _ _ _ => rfl
  obtain ⟨hL, hR⟩ := hC.lt_
  have hC2 := ((hC.alloc (.cells #[.int .i64 x] 2)).alloc (.cells #[.int .i64 0] 2))
  have n1 : W.heap.size + 1 ≠ L := by omega
  have n2 : W.heap.size + 1 ≠ R := by omega
  have m0 : W.heap.size ≠ R := by omega
  have hdo := swap1 L R k W.heap.size (W.heap.size + 1) xs n x _ hC2 hk (by simp [go_sem]) m0 (by simp [go_sem]) (by simp [go_sem]) n1 n2 (by omega)
  have HK := Lib.hid hk
  have HX := Lib.hid hC2
  have HD := Lib.hid hdo
  clear hC hC2 hdo
  go_enter Try.func18, Try.ntmps18
  go_wp2_with (go_at_call 20; refine (access_in L R k 25 (W.heap.size + 1) #[.pointer (some ⟨W.heap.size, 0, none⟩), .pointer (some ⟨W.heap.size + 1, 0, none⟩)] xs _ n _ _ HX.out HK.out hm hn0 hn1 n1 (fun _ _ => rfl) HD.out).mono ?_; rintro e w1 ⟨rfl, hC1, hu1, hc1⟩)
  go_ret
  exact ⟨rfl, hC1, (((Chg.refl _ _).alloc _).alloc _).trans hc1 (fun g hg h => by rcases h with h | h | h; exact .inl h; exact .inr h; omega)⟩


set_option maxHeartbeats 1000000 in
theorem add_in (L R k : Nat) (xs : List Int) (n x : Int) (W : World) (hC : Cels W L R xs n) (hk : k < xs.length) (hm : xs.length ≤ 100000) (hn0 : 0 ≤ n) (hn1 : n < 1000000) :
    Calls Try.prog 17 #[.pointer (some ⟨L, 0, none⟩), .int .i64 k, .int .i64 x] W fun e W' => e = .returned (.int .i64 (wadd xs[k] x)) ∧ Aft W W' L R (xs.set k (wadd xs[k] x)) (n + 1) := by
  have hmf : ∀ (fn : Fn) (first cap : Array Value) (W : World), (Instr.makeFunc fn first cap).run Try.prog W = .ok (.func fn first cap) W := fun _ _ _ _ => rfl
  obtain ⟨hL, hR⟩ := hC.lt_
  have hC2 := ((hC.alloc (.cells #[.int .i64 x] 2)).alloc (.cells #[.int .i64 0] 2))
  have n1 : W.heap.size + 1 ≠ L := by omega
  have n2 : W.heap.size + 1 ≠ R := by omega
  have m0 : W.heap.size ≠ R := by omega
  have hdo := add1 L R k W.heap.size (W.heap.size + 1) xs n x _ hC2 hk (by simp [go_sem]) m0 (by simp [go_sem]) (by simp [go_sem]) n1 n2
  have HK := Lib.hid hk
  have HX := Lib.hid hC2
  have HD := Lib.hid hdo
  clear hC hC2 hdo
  go_enter Try.func17, Try.ntmps17
  go_wp2_with (go_at_call 20; refine (access_in L R k 24 (W.heap.size + 1) #[.pointer (some ⟨W.heap.size, 0, none⟩), .pointer (some ⟨W.heap.size + 1, 0, none⟩)] xs _ n _ _ HX.out HK.out hm hn0 hn1 n1 (fun _ _ => rfl) HD.out).mono ?_; rintro e w1 ⟨rfl, hC1, hu1, hc1⟩)
  go_ret
  exact ⟨rfl, hC1, (((Chg.refl _ _).alloc _).alloc _).trans hc1 (fun g hg h => by rcases h with h | h | h; exact .inl h; exact .inr h; omega)⟩


set_option maxHeartbeats 1000000 in
theorem mask_in (L R k : Nat) (xs : List Int) (n x y : Int) (W : World) (hC : Cels W L R xs n) (hk : k < xs.length) (hm : xs.length ≤ 100000) (hn0 : 0 ≤ n) (hn1 : n < 1000000) :
    Calls Try.prog 19 #[.pointer (some ⟨L, 0, none⟩), .int .i64 k, .int .i64 x, .int .i64 y] W fun e W' => e = .returned (.int .i64 xs[k]) ∧ Aft W W' L R (xs.set k (wmask xs[k] x y)) (n + 1) := by
  have hmf : ∀ (fn : Fn) (first cap : Array Value) (W : World), (Instr.makeFunc fn first cap).run Try.prog W = .ok (.func fn first cap) W := fun _ _ _ _ => rfl
  obtain ⟨hL, hR⟩ := hC.lt_
  have hC2 := (((hC.alloc (.cells #[.int .i64 x] 2)).alloc (.cells #[.int .i64 y] 2)).alloc (.cells #[.int .i64 0] 2))
  have n1 : W.heap.size + 2 ≠ L := by omega
  have n2 : W.heap.size + 2 ≠ R := by omega
  have m0 : W.heap.size ≠ R := by omega
  have m1 : W.heap.size + 1 ≠ R := by omega
  have hdo := mask1 L R k W.heap.size (W.heap.size + 1) (W.heap.size + 2) xs n x y _ hC2 hk (by simp [go_sem]) m0 (by simp [go_sem]) m1 (by simp [go_sem]) (by simp [go_sem]) n1 n2
  have HK := Lib.hid hk
  have HX := Lib.hid hC2
  have HD := Lib.hid hdo
  clear hC hC2 hdo
  go_enter Try.func19, Try.ntmps19
  go_wp2_with (go_at_call 20; refine (access_in L R k 26 (W.heap.size + 2) #[.pointer (some ⟨W.heap.size, 0, none⟩), .pointer (some ⟨W.heap.size + 1, 0, none⟩), .pointer (some ⟨W.heap.size + 2, 0, none⟩)] xs _ n _ _ HX.out HK.out hm hn0 hn1 n1 (fun _ _ => rfl) HD.out).mono ?_; rintro e w1 ⟨rfl, hC1, hu1, hc1⟩)
  go_ret
  exact ⟨rfl, hC1, ((((Chg.refl _ _).alloc _).alloc _).alloc _).trans hc1 (fun g hg h => by rcases h with h | h | h; exact .inl h; exact .inr h; omega)⟩


set_option maxHeartbeats 1000000 in
theorem cas_hit_in (L R k : Nat) (xs : List Int) (n o x : Int) (W : World) (hC : Cels W L R xs n) (hk : k < xs.length) (hm : xs.length ≤ 100000) (hn0 : 0 ≤ n) (hn1 : n < 1000000) (ho : xs[k] = o) :
    Calls Try.prog 16 #[.pointer (some ⟨L, 0, none⟩), .int .i64 k, .int .i64 o, .int .i64 x] W fun e W' => e = .returned (.bool true) ∧ Aft W W' L R (xs.set k x) (n + 1) := by
  have hmf : ∀ (fn : Fn) (first cap : Array Value) (W : World), (Instr.makeFunc fn first cap).run Try.prog W = .ok (.func fn first cap) W := fun _ _ _ _ => rfl
  obtain ⟨hL, hR⟩ := hC.lt_
  have hC2 := (((hC.alloc (.cells #[.int .i64 o] 2)).alloc (.cells #[.int .i64 x] 2)).alloc (.cells #[.bool false] 4))
  have n1 : W.heap.size + 2 ≠ L := by omega
  have n2 : W.heap.size + 2 ≠ R := by omega
  have m0 : W.heap.size ≠ R := by omega
  have m1 : W.heap.size + 1 ≠ R := by omega
  have hdo := cas1_hit L R k W.heap.size (W.heap.size + 1) (W.heap.size + 2) xs n x _ hC2 hk (by simp [go_sem]) m1 (by subst ho; simp [go_sem]) (by simp [go_sem]) (by simp [go_sem]) n1 n2
  have HK := Lib.hid hk
  have HX := Lib.hid hC2
  have HD := Lib.hid hdo
  clear hC hC2 hdo
  go_enter Try.func16, Try.ntmps16
  go_wp2_with (go_at_call 20; refine (access_in L R k 23 (W.heap.size + 2) #[.pointer (some ⟨W.heap.size, 0, none⟩), .pointer (some ⟨W.heap.size + 1, 0, none⟩), .pointer (some ⟨W.heap.size + 2, 0, none⟩)] xs _ n _ _ HX.out HK.out hm hn0 hn1 n1 (fun _ _ => rfl) HD.out).mono ?_; rintro e w1 ⟨rfl, hC1, hu1, hc1⟩)
  go_ret
  exact ⟨rfl, hC1, ((((Chg.refl _ _).alloc _).alloc _).alloc _).trans hc1 (fun g hg h => by rcases h with h | h | h; exact .inl h; exact .inr h; omega)⟩


set_option maxHeartbeats 1000000 in
theorem cas_miss_in (L R k : Nat) (xs : List Int) (n o x : Int) (W : World) (hC : Cels W L R xs n) (hk : k < xs.length) (hm : xs.length ≤ 100000) (hn0 : 0 ≤ n) (hn1 : n < 1000000) (ho : (xs[k] == o) = false) :
    Calls Try.prog 16 #[.pointer (some ⟨L, 0, none⟩), .int .i64 k, .int .i64 o, .int .i64 x] W fun e W' => e = .returned (.bool false) ∧ Aft W W' L R xs (n + 1) := by
  have hmf : ∀ (fn : Fn) (first cap : Array Value) (W : World), (Instr.makeFunc fn first cap).run Try.prog W = .ok (.func fn first cap) W := fun _ _ _ _ => rfl
  obtain ⟨hL, hR⟩ := hC.lt_
  have hC2 := (((hC.alloc (.cells #[.int .i64 o] 2)).alloc (.cells #[.int .i64 x] 2)).alloc (.cells #[.bool false] 4))
  have n1 : W.heap.size + 2 ≠ L := by omega
  have n2 : W.heap.size + 2 ≠ R := by omega
  have m0 : W.heap.size ≠ R := by omega
  have m1 : W.heap.size + 1 ≠ R := by omega
  have hdo := cas1_miss L R k W.heap.size (W.heap.size + 1) (W.heap.size + 2) xs n o _ hC2 hk ho (by simp [go_sem]) (by simp [go_sem]) (by simp [go_sem]) n1 n2
  have HK := Lib.hid hk
  have HX := Lib.hid hC2
  have HD := Lib.hid hdo
  clear hC hC2 hdo
  go_enter Try.func16, Try.ntmps16
  go_wp2_with (go_at_call 20; refine (access_in L R k 23 (W.heap.size + 2) #[.pointer (some ⟨W.heap.size, 0, none⟩), .pointer (some ⟨W.heap.size + 1, 0, none⟩), .pointer (some ⟨W.heap.size + 2, 0, none⟩)] xs _ n _ _ HX.out HK.out hm hn0 hn1 n1 (fun _ _ => rfl) HD.out).mono ?_; rintro e w1 ⟨rfl, hC1, hu1, hc1⟩)
  go_ret
  exact ⟨rfl, hC1, ((((Chg.refl _ _).alloc _).alloc _).alloc _).trans hc1 (fun g hg h => by rcases h with h | h | h; exact .inl h; exact .inr h; omega)⟩


theorem load_at (L R k : Nat) (xs : List Int) (n n' v i : Int) (W : World) (hC : Cels W L R xs n) (hi : i = (k : Int)) (hk : k < xs.length) (hv : xs[k] = v) (hn' : n + 1 = n') (hm : xs.length ≤ 100000) (hn0 : 0 ≤ n) (hn1 : n < 1000000) :
    Calls Try.prog 12 #[.pointer (some ⟨L, 0, none⟩), .int .i64 i] W fun e W' => e = .returned (.int .i64 v) ∧ Aft W W' L R xs n' := by
  subst hi hv hn'
  exact load_in L R k xs n W hC hk hm hn0 hn1


theorem store_at (L R k : Nat) (xs ys : List Int) (n n' x v i : Int) (W : World) (hC : Cels W L R xs n) (hi : i = (k : Int)) (hk : k < xs.length) (hv : xs[k] = v) (hys : (xs.set k x) = ys) (hn' : n + 1 = n') (hm : xs.length ≤ 100000) (hn0 : 0 ≤ n) (hn1 : n < 1000000) :
    Calls Try.prog 14 #[.pointer (some ⟨L, 0, none⟩), .int .i64 i, .int .i64 x] W fun e W' => e = .returned (.tuple #[]) ∧ Aft W W' L R ys n' := by
  subst hi hv hn' hys
  exact store_in L R k xs n x W hC hk hm hn0 hn1


theorem swap_at (L R k : Nat) (xs ys : List Int) (n n' x v i : Int) (W : World) (hC : Cels W L R xs n) (hi : i = (k : Int)) (hk : k < xs.length) (hv : xs[k] = v) (hys : (xs.set k x) = ys) (hn' : n + 1 = n') (hm : xs.length ≤ 100000) (hn0 : 0 ≤ n) (hn1 : n < 1000000) :
    Calls Try.prog 18 #[.pointer (some ⟨L, 0, none⟩), .int .i64 i, .int .i64 x] W fun e W' => e = .returned (.int .i64 v) ∧ Aft W W' L R ys n' := by
  subst hi hv hn' hys
  exact swap_in L R k xs n x W hC hk hm hn0 hn1


theorem add_at (L R k : Nat) (xs ys : List Int) (n n' x v i : Int) (W : World) (hC : Cels W L R xs n) (hi : i = (k : Int)) (hk : k < xs.length) (hv : xs[k] = v) (hys : (xs.set k (wadd v x)) = ys) (hn' : n + 1 = n') (hm : xs.length ≤ 100000) (hn0 : 0 ≤ n) (hn1 : n < 1000000) :
    Calls Try.prog 17 #[.pointer (some ⟨L, 0, none⟩), .int .i64 i, .int .i64 x] W fun e W' => e = .returned (.int .i64 (wadd v x)) ∧ Aft W W' L R ys n' := by
  subst hi hv hn' hys
  exact add_in L R k xs n x W hC hk hm hn0 hn1


theorem mask_at (L R k : Nat) (xs ys : List Int) (n n' x y v i : Int) (W : World) (hC : Cels W L R xs n) (hi : i = (k : Int)) (hk : k < xs.length) (hv : xs[k] = v) (hys : (xs.set k (wmask v x y)) = ys) (hn' : n + 1 = n') (hm : xs.length ≤ 100000) (hn0 : 0 ≤ n) (hn1 : n < 1000000) :
    Calls Try.prog 19 #[.pointer (some ⟨L, 0, none⟩), .int .i64 i, .int .i64 x, .int .i64 y] W fun e W' => e = .returned (.int .i64 v) ∧ Aft W W' L R ys n' := by
  subst hi hv hn' hys
  exact mask_in L R k xs n x y W hC hk hm hn0 hn1


theorem cas_hit_at (L R k : Nat) (xs ys : List Int) (n n' o x v i : Int) (W : World) (hC : Cels W L R xs n) (hi : i = (k : Int)) (hk : k < xs.length) (hv : xs[k] = v) (ho : xs[k] = o) (hys : (xs.set k x) = ys) (hn' : n + 1 = n') (hm : xs.length ≤ 100000) (hn0 : 0 ≤ n) (hn1 : n < 1000000) :
    Calls Try.prog 16 #[.pointer (some ⟨L, 0, none⟩), .int .i64 i, .int .i64 o, .int .i64 x] W fun e W' => e = .returned (.bool true) ∧ Aft W W' L R ys n' := by
  subst hi hv hn' hys
  exact cas_hit_in L R k xs n o x W hC hk hm hn0 hn1 ho


theorem cas_miss_at (L R k : Nat) (xs : List Int) (n n' o x v i : Int) (W : World) (hC : Cels W L R xs n) (hi : i = (k : Int)) (hk : k < xs.length) (hv : xs[k] = v) (ho : (xs[k] == o) = false) (hn' : n + 1 = n') (hm : xs.length ≤ 100000) (hn0 : 0 ≤ n) (hn1 : n < 1000000) :
    Calls Try.prog 16 #[.pointer (some ⟨L, 0, none⟩), .int .i64 i, .int .i64 o, .int .i64 x] W fun e W' => e = .returned (.bool false) ∧ Aft W W' L R xs n' := by
  subst hi hv hn'
  exact cas_miss_in L R k xs n o x W hC hk hm hn0 hn1 ho


set_option maxHeartbeats 1000000 in
theorem load_out (L R : Nat) (i : Int) (xs : List Int) (n : Int) (W : World) (hC : Cels W L R xs n) (hi : i < 0 ∨ (xs.length : Int) ≤ i) :
    Calls Try.prog 12 #[.pointer (some ⟨L, 0, none⟩), .int .i64 i] W fun e W' => e = .returned (.int .i64 0) ∧ Aft W W' L R xs n := by
  have hmf : ∀ (fn : Fn) (first cap : Array Value) (W : World), (Instr.makeFunc fn first cap).run Try.prog W = .ok (.func fn first cap) W := fun _ _ _ _ => rfl
  have hC2 := (hC.alloc (.cells #[.int .i64 0] 2))
  have HX := Lib.hid hC2
  have HI := Lib.hid hi
  clear hC hC2 hi
  go_enter Try.func12, Try.ntmps12
  go_wp2_with (go_at_call 20; refine (access_out L R i _ xs n _ HX.out HI.out).mono ?_; rintro e w1 ⟨rfl, rfl⟩)
  go_ret
  exact ⟨rfl, HX.out, ((Chg.refl _ _).alloc _)⟩


set_option maxHeartbeats 1000000 in
theorem store_out (L R : Nat) (i : Int) (xs : List Int) (n x : Int) (W : World) (hC : Cels W L R xs n) (hi : i < 0 ∨ (xs.length : Int) ≤ i) :
    Calls Try.prog 14 #[.pointer (some ⟨L, 0, none⟩), .int .i64 i, .int .i64 x] W fun e W' => e = .returned (.tuple #[]) ∧ Aft W W' L R xs n := by
  have hmf : ∀ (fn : Fn) (first cap : Array Value) (W : World), (Instr.makeFunc fn first cap).run Try.prog W = .ok (.func fn first cap) W := fun _ _ _ _ => rfl
  have hC2 := (hC.alloc (.cells #[.int .i64 x] 2))
  have HX := Lib.hid hC2
  have HI := Lib.hid hi
  clear hC hC2 hi
  go_enter Try.func14, Try.ntmps14
  go_wp2_with (go_at_call 20; refine (access_out L R i _ xs n _ HX.out HI.out).mono ?_; rintro e w1 ⟨rfl, rfl⟩)
  go_end0
  exact ⟨rfl, HX.out, ((Chg.refl _ _).alloc _)⟩


set_option maxHeartbeats 1000000 in
theorem swap_out (L R : Nat) (i : Int) (xs : List Int) (n x : Int) (W : World) (hC : Cels W L R xs n) (hi : i < 0 ∨ (xs.length : Int) ≤ i) :
    Calls Try.prog 18 #[.pointer (some ⟨L, 0, none⟩), .int .i64 i, .int .i64 x] W fun e W' => e = .returned (.int .i64 0) ∧ Aft W W' L R xs n := by
  have hmf : ∀ (fn : Fn) (first cap : Array Value) (W : World), (Instr.makeFunc fn first cap).run Try.prog W = .ok (.func fn first cap) W := fun _ _ _ _ => rfl
  have hC2 := ((hC.alloc (.cells #[.int .i64 x] 2)).alloc (.cells #[.int .i64 0] 2))
  have HX := Lib.hid hC2
  have HI := Lib.hid hi
  clear hC hC2 hi
  go_enter Try.func18, Try.ntmps18
  go_wp2_with (go_at_call 20; refine (access_out L R i _ xs n _ HX.out HI.out).mono ?_; rintro e w1 ⟨rfl, rfl⟩)
  go_ret
  exact ⟨rfl, HX.out, (((Chg.refl _ _).alloc _).alloc _)⟩


set_option maxHeartbeats 1000000 in
theorem add_out (L R : Nat) (i : Int) (xs : List Int) (n x : Int) (W : World) (hC : Cels W L R xs n) (hi : i < 0 ∨ (xs.length : Int) ≤ i) :
    Calls Try.prog 17 #[.pointer (some ⟨L, 0, none⟩), .int .i64 i, .int .i64 x] W fun e W' => e = .returned (.int .i64 0) ∧ Aft W W' L R xs n := by
  have hmf : ∀ (fn : Fn) (first cap : Array Value) (W : World), (Instr.makeFunc fn first cap).run Try.prog W = .ok (.func fn first cap) W := fun _ _ _ _ => rfl
  have hC2 := ((hC.alloc (.cells #[.int .i64 x] 2)).alloc (.cells #[.int .i64 0] 2))
  have HX := Lib.hid hC2
  have HI := Lib.hid hi
  clear hC hC2 hi
  go_enter Try.func17, Try.ntmps17
  go_wp2_with (go_at_call 20; refine (access_out L R i _ xs n _ HX.out HI.out).mono ?_; rintro e w1 ⟨rfl, rfl⟩)
  go_ret
  exact ⟨rfl, HX.out, (((Chg.refl _ _).alloc _).alloc _)⟩


set_option maxHeartbeats 1000000 in
theorem mask_out (L R : Nat) (i : Int) (xs : List Int) (n x y : Int) (W : World) (hC : Cels W L R xs n) (hi : i < 0 ∨ (xs.length : Int) ≤ i) :
    Calls Try.prog 19 #[.pointer (some ⟨L, 0, none⟩), .int .i64 i, .int .i64 x, .int .i64 y] W fun e W' => e = .returned (.int .i64 0) ∧ Aft W W' L R xs n := by
  have hmf : ∀ (fn : Fn) (first cap : Array Value) (W : World), (Instr.makeFunc fn first cap).run Try.prog W = .ok (.func fn first cap) W := fun _ _ _ _ => rfl
  have hC2 := (((hC.alloc (.cells #[.int .i64 x] 2)).alloc (.cells #[.int .i64 y] 2)).alloc (.cells #[.int .i64 0] 2))
  have HX := Lib.hid hC2
  have HI := Lib.hid hi
  clear hC hC2 hi
  go_enter Try.func19, Try.ntmps19
  go_wp2_with (go_at_call 20; refine (access_out L R i _ xs n _ HX.out HI.out).mono ?_; rintro e w1 ⟨rfl, rfl⟩)
  go_ret
  exact ⟨rfl, HX.out, ((((Chg.refl _ _).alloc _).alloc _).alloc _)⟩


set_option maxHeartbeats 1000000 in
theorem cas_out (L R : Nat) (i : Int) (xs : List Int) (n o x : Int) (W : World) (hC : Cels W L R xs n) (hi : i < 0 ∨ (xs.length : Int) ≤ i) :
    Calls Try.prog 16 #[.pointer (some ⟨L, 0, none⟩), .int .i64 i, .int .i64 o, .int .i64 x] W fun e W' => e = .returned (.bool false) ∧ Aft W W' L R xs n := by
  have hmf : ∀ (fn : Fn) (first cap : Array Value) (W : World), (Instr.makeFunc fn first cap).run Try.prog W = .ok (.func fn first cap) W := fun _ _ _ _ => rfl
  have hC2 := (((hC.alloc (.cells #[.int .i64 o] 2)).alloc (.cells #[.int .i64 x] 2)).alloc (.cells #[.bool false] 4))
  have HX := Lib.hid hC2
  have HI := Lib.hid hi
  clear hC hC2 hi
  go_enter Try.func16, Try.ntmps16
  go_wp2_with (go_at_call 20; refine (access_out L R i _ xs n _ HX.out HI.out).mono ?_; rintro e w1 ⟨rfl, rfl⟩)
  go_ret
  exact ⟨rfl, HX.out, ((((Chg.refl _ _).alloc _).alloc _).alloc _)⟩

end Go.Proofs.Ythhhphmjohekgaa
