/- Contracts: the reference's Same over entries, the law's of. -/
import Derived.Test.YtfmjmhnbdceipaaPcJ
namespace Go.Proofs.Ytfmjmhnbdceipaa
open Go.ChangeShapes Go.WideShapes Go.ChangeAt Go.RowKit Go.Deep
set_option linter.unusedVariables false

set_option maxHeartbeats 2000000 in
theorem esame_yes (A D : Option Addr) (n m c d : Nat) (es : List (List Int)) (W : World) (hu : Uni 3 es) (hA : Rd W 3 A n (kv es)) (hD : Rd W 3 D m (kv es)) (hm : n ≤ 1048576) :
    Calls Try.prog 11 #[.slice A n c, .slice D m d] W fun e W' => e = .returned (.bool true) ∧ ∃ k, W' = W.drewN k := by
  have hn1 := hA.lenk hu (by decide)
  have hn2 := hD.lenk hu (by decide)
  obtain rfl : n = m := by omega
  go_enter Try.func11, Try.ntmps11
  go_wp2
  go_loopw [5] (fun i wr => (∃ k : Nat, k ≤ n ∧ i = .int .i64 k) ∧ ∃ q, wr = W.drewN q) (fun i _ => n - (intOf i).toNat)
  case atStart => exact ⟨⟨0, Nat.zero_le _, rfl⟩, 0, rfl⟩
  case round =>
    obtain ⟨⟨k, hk, rfl⟩, q, rfl⟩ := hrel
    by_cases hlt : k < n
    · obtain ⟨_, b, o, rfl, hb, hc⟩ := hA.getk hu (by decide) (by omega)
      obtain ⟨_, b', o', rfl, hb', hc'⟩ := hD.getk hu (by decide) (by omega)
      have hke : k < es.length := by omega
      have e0 := hc k hke 0 (by decide)
      have e1 := hc k hke 1 (by decide)
      have e2 := hc k hke 2 (by decide)
      have f0 := hc' k hke 0 (by decide)
      have f1 := hc' k hke 1 (by decide)
      have f2 := hc' k hke 2 (by decide)
      generalize (es[k]).getD 0 0 = z0 at *
      generalize (es[k]).getD 1 0 = z1 at *
      generalize (es[k]).getD 2 0 = z2 at *
      simp only [Nat.add_zero] at e0 f0
      rw [← Nat.add_assoc] at e1 e2 f1 f2
      have hi0 : (0 : Int) ≤ (k : Int) := by omega
      have hi1 : (k : Int) < (n : Int) := by omega
      clear hA hD hc hc' hke
      go_wp2
      go_quiet (fail)
      go_wp2
      go_roundw
      case rel => exact ⟨⟨k + 1, by omega, by go_num⟩, _, rfl⟩
      case measure => simp [intOf]; omega
    · go_wp2
      go_ret
      exact ⟨rfl, q, rfl⟩
set_option maxHeartbeats 2000000 in
theorem of_any (seed m s c e : Int) (W : World) : Calls Try.prog 10 #[.agg #[.int .u64 seed, .int .i64 m, .int .i64 s, .int .i64 c, .int .i64 e]] W fun en W' => en = .returned (.agg #[.int .u64 seed, .int .i64 m, .int .i64 s, .int .i64 c, .int .i64 e]) ∧ Below W.heap.size W W' := by
  have hnew : ∀ (o : Obj) (cs : Array Value) (t : TypeId), ((W.alloc o).alloc (.cells cs t)).heap[W.heap.size + 1]? = some (.cells cs t (0, 0)) := fun o cs t => by have h := Go.heap_alloc_new (W.alloc o) (.cells cs t); rw [heap_size_alloc_] at h; exact h
  go_enter Try.func10, Try.ntmps10
  go_wp2
  (try simp only [Exit.inBlock, Exit.then])
  refine bodyPost_ret (results_cell_row rfl _ _ (W.heap.size + 1) 31 #[.int .u64 seed, .int .i64 m, .int .i64 s, .int .i64 c, .int .i64 e] (0, 0) _ rfl (hnew _ _ _) Try.underlying31 rfl (by kernel_rfl)) rfl ?_
  exact ⟨rfl, ((Below.refl _ _).alloc (Nat.le_refl _) _).alloc (by simp) _⟩
end Go.Proofs.Ytfmjmhnbdceipaa
