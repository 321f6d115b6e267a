/- Each one once: pure facts of walks, and marks. -/
import Derived.Test.YtobcaohginiegaaDJ
import Derived.Laws.MakeOwn
import Derived.Laws.Entries
namespace Go.Proofs.Ytobcaohginiegaa
open Go.ChangeShapes Go.WideShapes Go.ChangeAt Go.RowKit Go.Deep Go.Shelf
set_option linter.unusedVariables false

theorem wat_eq (n start step : Int) (hn : 1 ≤ n) : ∀ k : Nat, wat n start step k = (start + k * step) % n
  | 0 => by rw [wat, modOf, if_neg (by omega)]; simp
  | k + 1 => by
    rw [wat, modOf, if_neg (by omega), wat_eq n start step hn k, Int.emod_add_emod]
    congr 1
    push_cast
    rw [Int.add_mul, Int.one_mul, Int.add_assoc]
theorem wat_inj {N s : Nat} {start : Int} (hN : 1 ≤ N) (hg : Nat.gcd s N = 1) {i j : Nat} (hij : i < j) (hj : j < N) : wat N start s i ≠ wat N start s j := by
  rw [wat_eq N start s (by omega), wat_eq N start s (by omega)]
  intro h
  have h1 : ((start + j * s) - (start + i * s)) % (N : Int) = 0 := by rw [Int.sub_emod, h]; simp
  have h2 : (N : Int) ∣ (((j - i) * s : Nat) : Int) := by
    have := Int.dvd_of_emod_eq_zero h1
    have e : ((start + (j : Int) * s) - (start + i * s)) = (((j - i) * s : Nat) : Int) := by
      rw [Int.natCast_mul, Int.natCast_sub (by omega), Int.sub_mul]; omega
    rw [e] at this
    exact this
  have h3 : N ∣ (j - i) * s := Int.natCast_dvd_natCast.1 h2
  have h4 : N ∣ (j - i) := Nat.Coprime.dvd_of_dvd_mul_right (by rw [Nat.Coprime, Nat.gcd_comm]; exact hg) h3
  have := Nat.le_of_dvd (by omega) h4
  omega
/-- The marks after k places. -/
def Seen (N : Nat) (L : List Int) (cs : Array Value) : Prop := cs.size = N ∧ ∀ v, v < N → cs[v]? = some (.bool (decide ((v : Int) ∈ L)))
theorem Seen.zero (N : Nat) : Seen N [] (madeCells #[.bool false] N) := by
  refine ⟨by simp [madeCells], fun v hv => ?_⟩
  have := toList_madeCells_one (.bool false) N
  rw [← Array.getElem?_toList, this, List.getElem?_replicate, if_pos hv]
  simp
theorem Seen.step {N : Nat} {L : List Int} {cs : Array Value} {v : Nat} (h : Seen N L cs) (hv : v < N) : Seen N (L ++ [(v : Int)]) (cs.setIfInBounds v (.bool true)) := by
  refine ⟨by simpa using h.1, fun u hu => ?_⟩
  by_cases e : u = v
  · subst e
    rw [Array.getElem?_setIfInBounds_self_of_lt (by rw [h.1]; exact hv)]
    simp
  · rw [Array.getElem?_setIfInBounds_ne (fun h' => e h'.symm), h.2 u hu]
    have : (u : Int) ≠ (v : Int) := by omega
    simp [this]
theorem info_bool : (Try.prog.info? 4).map (fun i => (i.zero, i.size, i.bytes)) = some (some (.bool false), 1, 1) := by kernel_rfl
theorem make_bools (N : Nat) (hN : N ≤ 1000) (W : World) : (Instr.makeSlice 29 (.int .i64 (N : Int)) (.int .i64 (N : Int))).run Try.prog W = .ok (.slice (some ⟨W.heap.size, 0, none⟩) N N) (W.alloc (.cells (madeCells #[.bool false] N) 4)) := by
  obtain ⟨i0, hi, hz0, hz1, hz2⟩ := info_parts info_bool
  have hr := run_make (P := Try.prog) W 29 4 i0 (.bool false) Try.underlying29 hi hz0 .i64 .i64 N N (by omega) (by omega) (by rw [hz2]; omega) (by omega)
  simp only [Int.toNat_natCast, hz1, Nat.mul_one] at hr
  exact hr
theorem wat_new {N s k : Nat} {start : Int} (hN : 1 ≤ N) (hg : Nat.gcd s N = 1) (hk : k < N) : ¬ wat N start s k ∈ wlist N start s k := by
  intro h
  rw [wlist, List.mem_map] at h
  obtain ⟨i, hi, he⟩ := h
  rw [List.mem_range] at hi
  exact wat_inj hN hg hi hk he
theorem wlist_get (n start step : Int) {j k : Nat} (h : j < k) : (ints (wlist n start step k))[j]? = some (.int .i64 (wat n start step j)) := by
  rw [ints_get _ _ (by rw [wlist_len]; exact h)]
  simp [wlist]

theorem wlist_nodup {N s : Nat} {start : Int} (hN : 1 ≤ N) (hg : Nat.gcd s N = 1) : ∀ k, k ≤ N → (wlist N start s k).Nodup
  | 0, _ => by simp [wlist]
  | k + 1, hk => by
    rw [wlist_succ, List.nodup_append]
    refine ⟨wlist_nodup hN hg k (by omega), by simp, ?_⟩
    intro a ha b hb
    rw [List.mem_singleton] at hb
    subst hb
    exact fun e => wat_new hN hg (by omega) (e ▸ ha)
theorem nodup_len : ∀ (l m : List Int), l.Nodup → (∀ x ∈ l, x ∈ m) → l.length ≤ m.length
  | [], m, _, _ => by simp
  | x :: l, m, hl, hm => by
    rw [List.nodup_cons] at hl
    have hx : x ∈ m := hm x (by simp)
    have h1 := nodup_len l (m.erase x) hl.2 (fun y hy => (List.mem_erase_of_ne (fun e => hl.1 (by rw [← e]; exact hy))).2 (hm y (by simp [hy])))
    have h2 := List.length_erase_of_mem hx
    have h3 : 0 < m.length := List.length_pos_of_mem hx
    simp only [List.length_cons]
    omega
def places (N : Nat) : List Int := (List.range N).map fun (i : Nat) => (i : Int)
theorem mem_places {N : Nat} {x : Int} : x ∈ places N ↔ 0 ≤ x ∧ x < N := by
  rw [places, List.mem_map]
  constructor
  · rintro ⟨i, hi, rfl⟩
    rw [List.mem_range] at hi
    omega
  · rintro ⟨h1, h2⟩
    exact ⟨x.toNat, by rw [List.mem_range]; omega, by omega⟩
theorem places_len (N : Nat) : (places N).length = N := by simp [places]
theorem order_nodup (N : Nat) (draw : Int) (h1 : 1 ≤ N) (h2 : N ≤ 256) : (orderOf N draw).Nodup := by
  obtain ⟨s, hs, _, _, hg, _⟩ := step_is N draw h1 h2
  rw [orderOf, hs]
  exact wlist_nodup h1 hg N (Nat.le_refl _)
theorem order_all (N : Nat) (draw : Int) (h1 : 1 ≤ N) (h2 : N ≤ 256) {v : Int} (hv : 0 ≤ v ∧ v < N) : v ∈ orderOf N draw := by
  apply Classical.byContradiction
  intro hno
  have hin : v ∈ places N := mem_places.2 hv
  have h3 := nodup_len (orderOf N draw) ((places N).erase v) (order_nodup N draw h1 h2) (fun y hy => (List.mem_erase_of_ne (fun e => hno (by rw [← e]; exact hy))).2 (mem_places.2 (orderOf_in N draw h1 hy)))
  rw [List.length_erase_of_mem hin, places_len, orderOf_len] at h3
  omega
theorem keep_erase {self : Int} : ∀ {l : List Int}, l.Nodup → (keep self l).length = if self ∈ l then l.length - 1 else l.length
  | [], _ => by simp [keep]
  | x :: l, h => by
    rw [List.nodup_cons] at h
    have ih := keep_erase (self := self) h.2
    by_cases hx : x = self
    · subst hx
      rw [if_neg h.1] at ih
      have : keep x (x :: l) = keep x l := by simp [keep]
      rw [this, ih]
      simp
    · have : keep self (x :: l) = x :: keep self l := by simp [keep, hx]
      rw [this, List.length_cons, ih]
      have hx' : ¬ self = x := fun e => hx e.symm
      by_cases hm : self ∈ l
      · have := List.length_pos_of_mem hm
        simp [hm, hx']
        omega
      · simp [hm, hx']
theorem keep_len (N : Nat) (self draw : Int) (h1 : 1 ≤ N) (h2 : N ≤ 256) : (keep self (orderOf N draw)).length = if 0 ≤ self ∧ self < N then N - 1 else N := by
  rw [keep_erase (order_nodup N draw h1 h2), orderOf_len]
  by_cases h : 0 ≤ self ∧ self < N
  · rw [if_pos h, if_pos (order_all N draw h1 h2 h)]
  · rw [if_neg h, if_neg (fun hm => h (orderOf_in N draw h1 hm))]
theorem nodup_take {l : List Int} (h : l.Nodup) {k : Nat} (hk : k < l.length) : ¬ l[k] ∈ l.take k := by
  intro hm
  obtain ⟨j, hj, he⟩ := List.getElem_of_mem hm
  rw [List.length_take] at hj
  rw [List.getElem_take] at he
  have := (List.nodup_iff_pairwise_ne.1 h)
  exact (List.pairwise_iff_getElem.1 this j k (by omega) hk (by omega)) he
end Go.Proofs.Ytobcaohginiegaa
