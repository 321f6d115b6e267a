/- Shared cells of any number: the place in memory, and access with whatever is done there. -/
import Derived.Test.YtiabmkhkmhjkpaaRowz
import Derived.Handy
import Derived.RegionTactic
import Derived.ChangeAlike
import Derived.Defers
import Derived.Deep.QuietTactic
import Derived.BigQuiet
namespace Go.Proofs.Ytiabmkhkmhjkpaa
open Go.ChangeShapes Go.WideShapes Go.ChangeAt Go.RowKit Go.Deep
set_option linter.unusedVariables false

/-- Shared cells: the struct in block L, its row in block R: what they are, xs, and how many accesses there were, n. -/
def Cels (W : World) (L R : Nat) (xs : List Int) (n : Int) : Prop :=
  Blk W L 50 #[.slice (some ⟨R, 0, none⟩) xs.length xs.length, .int .i64 n] ∧ Blk W R 2 (ints xs).toArray
section
variable {S : Nat → Prop} {W W' : World} {L R : Nat} {xs : List Int} {n : Int}
theorem Cels.ne_ (h : Cels W L R xs n) : L ≠ R := h.1.ne_ h.2 (by decide)
theorem Cels.lt_ (h : Cels W L R xs n) : L < W.heap.size ∧ R < W.heap.size := ⟨h.1.lt, h.2.lt⟩
theorem Cels.kept (h : Cels W L R xs n) (hc : Chg S W W') (h1 : ¬ S L) (h2 : ¬ S R) : Cels W' L R xs n := ⟨h.1.kept hc h1, h.2.kept hc h2⟩
theorem Cels.alloc (h : Cels W L R xs n) (o : Obj) : Cels (W.alloc o) L R xs n := ⟨h.1.alloc o, h.2.alloc o⟩
theorem Cels.drewN (h : Cels W L R xs n) (k : Nat) : Cels (W.drewN k) L R xs n := h
theorem Cels.drew (h : Cels W L R xs n) : Cels W.drew L R xs n := h
theorem Cels.far (h : Cels W L R xs n) {p : Addr} (h1 : p.block ≠ L) (h2 : p.block ≠ R) (u : Value) : Cels (W.setCell p u) L R xs n := ⟨h.1.far (fun e => h1 e.symm) u, h.2.far (fun e => h2 e.symm) u⟩
theorem Cels.setR (h : Cels W L R xs n) (k : Nat) (x : Int) : Cels (W.setCell ⟨R, k, none⟩ (.int .i64 x)) L R (xs.set k x) n := by
  refine ⟨?_, ?_⟩
  · have := h.1.far (p := ⟨R, k, none⟩) h.ne_ (.int .i64 x)
    simpa using this
  · have := h.2.set_ k (.int .i64 x)
    simpa [ints, List.map_set] using this
theorem Cels.setN (h : Cels W L R xs n) (x : Int) : Cels (W.setCell ⟨L, 1, none⟩ (.int .i64 x)) L R xs x := by
  refine ⟨?_, h.2.far (p := ⟨L, 1, none⟩) (fun e => h.ne_ e.symm) _⟩
  have := h.1.set_ 1 (.int .i64 x)
  simpa using this
theorem Cels.at_ (h : Cels W L R xs n) {k : Nat} (hk : k < xs.length) : W.cell? ⟨R, k, none⟩ = some (.int .i64 xs[k]) := by
  rw [h.2.cell k]; simp [ints, hk]
theorem Cels.row (h : Cels W L R xs n) : W.cell? ⟨L, 0, none⟩ = some (.slice (some ⟨R, 0, none⟩) xs.length xs.length) := by rw [h.1.cell 0]; rfl
theorem Cels.many (h : Cels W L R xs n) : W.cell? ⟨L, 1, none⟩ = some (.int .i64 n) := by rw [h.1.cell 1]; rfl
end

/-- What is done to a cell: what the captured cell d says then, what the cells are. -/
def Did (W W1 : World) (L R d : Nat) (xs : List Int) (n : Int) (u : Value) : Prop := Cels W1 L R xs n ∧ W1.cell? ⟨d, 0, none⟩ = some u ∧ Chg (fun g => g = R ∨ g = d) W W1
/-- What an access leaves. -/
def Aft (W W' : World) (L R : Nat) (xs : List Int) (n : Int) : Prop := Cels W' L R xs n ∧ Chg (fun g => g = L ∨ g = R) W W'

theorem ctick_d (b : Nat) (n : Int) (u : FrameMode) (W : World) (hc : W.cell? ⟨b, 1, none⟩ = some (.int .i64 n)) (hf : W.frozen? ⟨b, 1, none⟩ = false) (h0 : 0 ≤ n) (h1 : n < 1000000) :
    CallsD Try.prog 28 #[.pointer (some ⟨b, 0, none⟩)] u W fun e u' W' => u' = u ∧ e = .returned (.tuple #[]) ∧ W' = W.setCell ⟨b, 1, none⟩ (.int .i64 (n + 1)) := by
  go_enter_d Try.func28, Try.ntmps28
  go_wp2
  go_end0
  exact ⟨rfl, rfl⟩

theorem access_out (L R : Nat) (i : Int) (f : Value) (xs : List Int) (n : Int) (W : World) (hC : Cels W L R xs n) (hi : i < 0 ∨ (xs.length : Int) ≤ i) :
    Calls Try.prog 18 #[.pointer (some ⟨L, 0, none⟩), .int .i64 i, f] W fun e W' => e = .returned (.tuple #[]) ∧ W' = W := by
  have hrow := hC.row
  rcases hi with h | h
  · go_enter_defers Try.func18, Try.ntmps18
    go_wp2
    exact ⟨_, results_none rfl _ _ _, rfl, rfl⟩
  · have h0 : 0 ≤ i := by omega
    have d : decide (xs.length ≤ i) = true := decide_eq_true h
    go_enter_defers Try.func18, Try.ntmps18
    go_wp2_with (go_at_call 20; go_in)
    exact ⟨_, results_none rfl _ _ _, rfl, rfl⟩

set_option maxHeartbeats 1000000 in
theorem access_in (L R k K d : Nat) (caps : Array Value) (xs xs' : List Int) (n : Int) (u : Value) (W : World) (hC : Cels W L R xs n) (hk : k < xs.length) (hm : xs.length ≤ 100000) (hn0 : 0 ≤ n) (hn1 : n < 1000000) (hdL : d ≠ L)
    (hrun : ∀ args W, (callFunc K args).run Try.prog W = .ok (.enter K args) W)
    (hdo : Calls Try.prog K (#[.pointer (some ⟨R, k, none⟩)] ++ caps) W fun e W1 => e = .returned (.tuple #[]) ∧ Did W W1 L R d xs' n u) :
    Calls Try.prog 18 #[.pointer (some ⟨L, 0, none⟩), .int .i64 k, .func (.func K) #[] caps] W fun e W' => e = .returned (.tuple #[]) ∧ Cels W' L R xs' (n + 1) ∧ W'.cell? ⟨d, 0, none⟩ = some u ∧ Chg (fun g => g = L ∨ g = R ∨ g = d) W W' := by
  have hmf : ∀ (fn : Fn) (first cap : Array Value) (W : World), (Instr.makeFunc fn first cap).run Try.prog W = .ok (.func fn first cap) W := fun _ _ _ _ => rfl
  have hrow := hC.row
  have hi0 : (0 : Int) ≤ (k : Int) := by omega
  have hi1 : (k : Int) < (xs.length : Int) := by omega
  go_enter_defers Try.func18, Try.ntmps18
  go_wp2_with (first | (go_at_call 20; go_in))
  refine hdo.mono ?_
  rintro e w1 ⟨rfl, hC1, hu1, hc1⟩
  go_wp2
  refine leaves_cons (f := 28) (args := #[.pointer (some ⟨L, 0, none⟩)]) (by simp) (by simp [go_sem]) ?_
  refine (ctick_d L n .returning w1 hC1.many (hC1.1.frozen 1) hn0 hn1).mono ?_
  rintro e u' w'' ⟨rfl, rfl, rfl⟩
  refine ⟨_, results_none rfl _ _ _, rfl, hC1.setN _, ?_, ?_⟩
  · rw [World.cell?_setCell_other _ _ _ _ (by intro e; injection e; omega)]; exact hu1
  · exact (hc1.mono (S' := fun g => g = L ∨ g = R ∨ g = d) (fun k _ h => .inr h)).setCell (.inl (.inl rfl)) _
end Go.Proofs.Ytiabmkhkmhjkpaa
