/- Scripts: plain facts. -/
import Derived.Test.YtfmjmhnbdceipaaPcD
import Derived.Test.YtfmjmhnbdceipaaRk
import Derived.Test.YtfmjmhnbdceipaaModN
import Derived.Test.YtfmjmhnbdceipaaModR
namespace Go.Proofs.Ytfmjmhnbdceipaa
open Go.ChangeShapes Go.WideShapes Go.ChangeAt Go.RowKit Go.Deep
set_option linter.unusedVariables false

def rot (o : List Int) : List Int := o.tail ++ [o.headD 0]
theorem rot_len (o : List Int) (h : 0 < o.length) : (rot o).length = o.length := by simp [rot]; omega
/-- The order ahead of step k. -/
def oAt (o P : List Int) : Nat → List Int
  | 0 => o
  | k + 1 => if (k : Int) ∈ P then rot (oAt o P k) else oAt o P k
theorem oAt_len (o P : List Int) (h : 0 < o.length) : ∀ k, (oAt o P k).length = o.length
  | 0 => rfl
  | k + 1 => by
    have ih := oAt_len o P h k
    rw [oAt]
    split
    · rw [rot_len _ (by omega), ih]
    · exact ih
/-- Those that are not behind step k. -/
def restAt (P : List Int) (k : Nat) : List Int := P.filter fun z => decide ((k : Int) ≤ z)
theorem restAt_le (P : List Int) (k : Nat) : (restAt P k).length ≤ P.length := List.length_filter_le _ _
theorem restAt_zero (P : List Int) (h : ∀ z ∈ P, 0 ≤ z) : restAt P 0 = P := by
  unfold restAt
  rw [List.filter_eq_self]
  intro z hz
  simpa using h z hz
theorem restAt_up {P : List Int} (h : Up P) (k : Nat) : Up (restAt P k) := List.Pairwise.filter _ h
theorem restAt_in {P : List Int} (h : Up P) {k : Nat} (hk : (k : Int) ∈ P) : restAt P k = (k : Int) :: restAt P (k + 1) := by
  refine (restAt_up h k).same ?_ ?_
  · refine List.pairwise_cons.2 ⟨fun z hz => ?_, restAt_up h (k + 1)⟩
    have := (List.mem_filter.1 hz).2
    simp at this
    omega
  · intro z
    simp only [restAt, List.mem_cons, List.mem_filter, decide_eq_true_eq]
    constructor
    · rintro ⟨h1, h2⟩
      by_cases e : z = k
      · exact .inl e
      · exact .inr ⟨h1, by omega⟩
    · rintro (e | ⟨h1, h2⟩)
      · subst e; exact ⟨hk, Int.le_refl _⟩
      · exact ⟨h1, by omega⟩
theorem restAt_out {P : List Int} {k : Nat} (hk : (k : Int) ∉ P) : restAt P (k + 1) = restAt P k := by
  unfold restAt
  refine List.filter_congr (fun z hz => ?_)
  have hne : z ≠ k := fun e => hk (e ▸ hz)
  simp only [decide_eq_decide]
  omega
theorem restAt_head {P : List Int} {k : Nat} (hk : (k : Int) ∉ P) (h : 0 < (restAt P k).length) : (restAt P k)[0] ≠ k := by
  intro e
  have := List.getElem_mem h
  rw [e] at this
  exact hk (List.mem_filter.1 this).1
def pickAt (o P : List Int) (every m : Int) (k : Nat) : Int := if ((k : Int) + 1) % every = 0 then ((k : Int) + 1) / every % m else (oAt o P (k + 1)).headD 0
def entAt (o P : List Int) (every m : Int) (k : Nat) : List Int := [pickAt o P every m k, (k : Int) % 8, (k : Int)]
def scr (o P : List Int) (every m : Int) (n : Nat) : List (List Int) := (List.range n).map (entAt o P every m)
@[simp] theorem scr_len (o P : List Int) (every m : Int) (n : Nat) : (scr o P every m n).length = n := by simp [scr]
theorem scr_uni (o P : List Int) (every m : Int) (n : Nat) : Uni 3 (scr o P every m n) := by
  intro e he
  obtain ⟨k, _, rfl⟩ := List.mem_map.1 he
  rfl
theorem scr_snoc (o P : List Int) (every m : Int) (n : Nat) : scr o P every m (n + 1) = scr o P every m n ++ [entAt o P every m n] := by simp [scr, List.range_succ]
/-- The first k of n entries. -/
def esAt (o P : List Int) (every m : Int) (n k : Nat) : List (List Int) := scr o P every m k ++ List.replicate (n - k) [0, 0, 0]
theorem esAt_len (o P : List Int) (every m : Int) {n k : Nat} (hk : k ≤ n) : (esAt o P every m n k).length = n := by simp [esAt]; omega
theorem esAt_uni (o P : List Int) (every m : Int) (n k : Nat) : Uni 3 (esAt o P every m n k) := by
  intro e he
  rcases List.mem_append.1 he with he | he
  · exact scr_uni o P every m k e he
  · rw [List.eq_of_mem_replicate he]; rfl
theorem esAt_set (o P : List Int) (every m : Int) {n k : Nat} (hk : k < n) : (esAt o P every m n k).set k (entAt o P every m k) = esAt o P every m n (k + 1) := by
  unfold esAt
  rw [List.set_append_right _ _ (by simp), show n - k = (n - (k + 1)) + 1 by omega, List.replicate_succ, scr_snoc]
  simp
theorem esAt_all (o P : List Int) (every m : Int) (n : Nat) : esAt o P every m n n = scr o P every m n := by simp [esAt]
theorem esAt_zero (o P : List Int) (every m : Int) (n : Nat) : esAt o P every m n 0 = List.replicate n (List.replicate 3 0) := by simp [esAt, scr]
theorem ent_info : (Try.prog.info? 45).map (fun i => (i.zero, i.size, i.bytes)) = some (some (.agg #[.int .i64 0, .int .i64 0, .int .i64 0]), 3, 24) := by kernel_rfl
theorem make_ents (n : Nat) (hn : n ≤ 1000000) (w : World) : (Instr.makeSlice 26 (.int .i64 (n : Int)) (.int .i64 (n : Int))).run Try.prog w = .ok (.slice (some ⟨w.heap.size, 0, none⟩) n n) (w.alloc (.cells (kv (List.replicate n (List.replicate 3 0))).toArray 45)) :=
  make_k w 26 45 _ 3 24 Try.underlying26 ent_info rfl (by decide) .i64 .i64 n (by omega) (by omega)
end Go.Proofs.Ytfmjmhnbdceipaa
