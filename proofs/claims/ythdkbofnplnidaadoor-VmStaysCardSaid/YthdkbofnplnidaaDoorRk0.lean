/- Rows of structs of k ints each. -/
import Derived.Test.YthdkbofnplnidaaDoorRowz
import Derived.Laws.IdiomCopy
import Derived.Laws.MakeOwn
namespace Go.Proofs.YthdkbofnplnidaaDoor
open Go.ChangeShapes Go.WideShapes Go.ChangeAt Go.RowKit Go.Deep
set_option linter.unusedVariables false
set_option linter.unusedSimpArgs false

def kv (es : List (List Int)) : List Value := ints es.flatten
def Uni (k : Nat) (es : List (List Int)) : Prop := ∀ e ∈ es, e.length = k
theorem Uni.nil (k : Nat) : Uni k [] := fun e h => absurd h (by simp)
theorem Uni.snoc {k : Nat} {es : List (List Int)} {e : List Int} (h : Uni k es) (he : e.length = k) : Uni k (es ++ [e]) := by
  intro x hx
  rcases List.mem_append.1 hx with hx | hx
  · exact h x hx
  · rw [List.mem_singleton.1 hx]; exact he
theorem Uni.set {k i : Nat} {es : List (List Int)} {e : List Int} (h : Uni k es) (he : e.length = k) : Uni k (es.set i e) := by
  intro x hx
  rcases List.mem_or_eq_of_mem_set hx with hx | hx
  · exact h x hx
  · rw [hx]; exact he
theorem Uni.flat_len {k : Nat} : ∀ {es : List (List Int)}, Uni k es → es.flatten.length = es.length * k
  | [], _ => by simp
  | e :: es, h => by
    have h1 := h e (by simp)
    have h2 := Uni.flat_len (fun x hx => h x (List.mem_cons_of_mem _ hx) : Uni k es)
    rw [List.flatten_cons, List.length_append, h2, h1, List.length_cons, Nat.add_mul]
    omega
theorem kv_length {k : Nat} {es : List (List Int)} (h : Uni k es) : (kv es).length = es.length * k := by rw [kv, ints_length, h.flat_len]
theorem kv_append (a b : List (List Int)) : kv (a ++ b) = kv a ++ kv b := by simp [kv, ints]
theorem kv_one (es : List (List Int)) : ∀ u ∈ kv es, u.oneCell' = true := ints_one _
theorem flat_get {k : Nat} : ∀ {es : List (List Int)}, Uni k es → ∀ i j (hi : i < es.length), j < k → es.flatten[i * k + j]? = some ((es[i]).getD j 0)
  | [], _, i, j, hi, hj => absurd hi (by simp)
  | e :: es, h, 0, j, hi, hj => by
    have h1 := h e (by simp)
    rw [Nat.zero_mul, Nat.zero_add, List.flatten_cons, List.getElem?_append_left (by omega)]
    simp [List.getD, show j < e.length by omega]
  | e :: es, h, i + 1, j, hi, hj => by
    have h1 := h e (by simp)
    have ih := flat_get (fun x hx => h x (List.mem_cons_of_mem _ hx) : Uni k es) i j (by simpa using hi) hj
    have e1 : (i + 1) * k + j = k + (i * k + j) := by rw [Nat.add_mul]; omega
    rw [List.flatten_cons, List.getElem?_append_right (by rw [h1, e1]; omega), h1, show (i + 1) * k + j - k = i * k + j by rw [e1]; omega, ih]
    simp
theorem kv_get {k : Nat} {es : List (List Int)} (h : Uni k es) (i j : Nat) (hi : i < es.length) (hj : j < k) : (kv es)[i * k + j]? = some (.int .i64 ((es[i]).getD j 0)) := by
  have := flat_get h i j hi hj
  rw [kv, ints, List.getElem?_map, this]
  rfl
theorem flat_len_uni {k : Nat} {es : List (List Int)} (h : Uni k es) {i j : Nat} (hi : i < es.length) (hj : j < k) : i * k + j < es.flatten.length := (List.getElem?_eq_some_iff.1 (flat_get h i j hi hj)).1
/-- k cells written at element i. -/
theorem flat_set {k : Nat} : ∀ {es : List (List Int)} {e : List Int}, Uni k es → e.length = k → ∀ i, i < es.length → es.flatten.take (i * k) ++ e ++ es.flatten.drop (i * k + e.length) = (es.set i e).flatten
  | [], e, _, _, i, hi => absurd hi (by simp)
  | x :: es, e, h, he, 0, hi => by
    have h1 := h x (by simp)
    simp only [Nat.zero_mul, List.take_zero, List.nil_append, Nat.zero_add, List.set_cons_zero, List.flatten_cons]
    rw [he, ← h1, List.drop_left]
  | x :: es, e, h, he, i + 1, hi => by
    have h1 := h x (by simp)
    have ih := flat_set (fun y hy => h y (List.mem_cons_of_mem _ hy) : Uni k es) he i (by simpa using hi)
    have e1 : (i + 1) * k = x.length + i * k := by rw [h1, Nat.add_mul]; omega
    rw [List.flatten_cons, List.set_cons_succ, List.flatten_cons, e1, List.take_length_add_append, Nat.add_assoc, List.drop_length_add_append, ← ih]
    simp
theorem setCells_chg {G : Nat} : ∀ (vs : List Value) (o : Nat) (w : World), Chg (fun g => g = G) w (w.setCells G o vs)
  | [], o, w => Chg.refl _ _
  | v :: r, o, w => ((Chg.refl (fun g => g = G) w).setCell (p := ⟨G, o, none⟩) (.inl rfl) v).trans (setCells_chg r (o + 1) _) (fun _ _ h => h)
def laid : List Value → Nat → List Value → List Value
  | cs, _, [] => cs
  | cs, o, v :: r => laid (cs.set o v) (o + 1) r
theorem laid_all : ∀ (ys zs : List Value) (o : Nat), o + ys.length ≤ zs.length → laid zs o ys = zs.take o ++ ys ++ zs.drop (o + ys.length)
  | [], zs, o, h => by simp [laid]
  | y :: r, zs, o, h => by
    simp only [List.length_cons] at h
    rw [laid, laid_all r (zs.set o y) (o + 1) (by simp; omega)]
    have e1 : (zs.set o y).take (o + 1) = zs.take o ++ [y] := by
      rw [List.take_succ_eq_append_getElem (by simp; omega), List.take_set_of_le (Nat.le_refl _)]
      simp
    have e2 : (zs.set o y).drop (o + 1 + r.length) = zs.drop (o + (y :: r).length) := by
      rw [List.drop_set_of_lt (by omega)]
      congr 1
      simp; omega
    rw [e1, e2]
    simp
theorem Blk.cells_ {G : Nat} {t : TypeId} : ∀ (vs : List Value) (cs : List Value) (o : Nat) (w : World), Blk w G t cs.toArray → Blk (w.setCells G o vs) G t (laid cs o vs).toArray
  | [], cs, o, w, h => h
  | v :: r, cs, o, w, h => Blk.cells_ r (cs.set o v) (o + 1) _ (by simpa using h.set_ o v)
/-- A store of a whole struct. -/
theorem Blk.setk {w : World} {G k i : Nat} {t : TypeId} {es : List (List Int)} {e : List Int} (h : Blk w G t (kv es).toArray) (hu : Uni k es) (he : e.length = k) (hi : i < es.length) : Blk (w.setCells G (i * k) (ints e)) G t (kv (es.set i e)).toArray := by
  have h1 := Blk.cells_ (ints e) (kv es) (i * k) w h
  have hfit : i * k + (ints e).length ≤ (kv es).length := by
    rw [ints_length, he, kv_length hu]
    have := Nat.mul_le_mul_right k (show i + 1 ≤ es.length from hi)
    rw [Nat.add_mul] at this
    omega
  rw [laid_all _ _ _ hfit] at h1
  have e1 : (kv es).take (i * k) ++ ints e ++ (kv es).drop (i * k + (ints e).length) = kv (es.set i e) := by
    rw [kv, kv, ints_length, ints_take, ints_drop, ← ints_append, ← ints_append, flat_set hu he i hi]
  rw [e1] at h1
  exact h1
theorem Blk.getk {w : World} {G k i j : Nat} {t : TypeId} {es : List (List Int)} (h : Blk w G t (kv es).toArray) (hu : Uni k es) (hi : i < es.length) (hj : j < k) : w.cell? ⟨G, i * k + j, none⟩ = some (.int .i64 ((es[i]).getD j 0)) := by
  rw [h.cell]
  have := kv_get hu i j hi hj
  simpa using this
theorem Rd.getk {w : World} {A : Option Addr} {n k : Nat} {es : List (List Int)} (h : Rd w k A n (kv es)) (hu : Uni k es) (hk : 0 < k) (hn : 0 < n) : es.length = n ∧ ∃ b o, A = some ⟨b, o, none⟩ ∧ b < w.heap.size ∧ ∀ i (hi : i < es.length) j, j < k → w.cell? ⟨b, o + (i * k + j), none⟩ = some (.int .i64 ((es[i]).getD j 0)) := by
  have hl : es.length = n := by
    have := h.1
    rw [kv_length hu] at this
    exact Nat.eq_of_mul_eq_mul_right hk this
  obtain ⟨b, o, e, hb, hc⟩ := h.2 hn
  exact ⟨hl, b, o, e, hb, fun i hi j hj => hc _ _ (kv_get hu i j hi hj)⟩
theorem Rd.lenk {w : World} {A : Option Addr} {n k : Nat} {es : List (List Int)} (h : Rd w k A n (kv es)) (hu : Uni k es) (hk : 0 < k) : es.length = n := by
  have := h.1
  rw [kv_length hu] at this
  exact Nat.eq_of_mul_eq_mul_right hk this
theorem Rd.litk (w : World) (e : List Int) (E : TypeId) (cs : Array Value) (hcs : cs = (ints e).toArray) (k : Nat) (he : e.length = k) (n : Nat) (hn : n = w.heap.size) : Rd (w.alloc (.cells cs E)) k (some ⟨n, 0, none⟩) 1 (kv [e]) := by
  subst hn hcs
  refine ⟨by simp [kv, he], fun _ => ⟨w.heap.size, 0, rfl, by simp, fun j u hu => ?_⟩⟩
  have h1 := Blk.new w E (ints e).toArray
  rw [Nat.zero_add, h1.cell]
  simpa [kv] using hu
section
variable {P : Program}
theorem wpList_appk {ops : Array Oper} {rest : List Oper} {o : Oper} {a : Act} {V : World} {Q : Exit → Act → World → Prop} (t E : TypeId) (k bytes : Nat) (z : Value) (ht : P.underlying t = some (.slice E))
    (hinfo : (P.info? E).map (fun i => (i.zero, i.size, i.bytes)) = some (some z, k, bytes)) (hzc : z.cells.size = k) (hk : 0 < k) (hby : bytes ≤ 256) (hgd : o.guard = none) (s x : Operand)
    (ho : o.op = .call { callee := .builtin .append, args := #[s, x], argTypes := #[t, t] }) (hE : o.type = t)
    (base : Nat) (A : Option Addr) (n c : Nat) (xs : List (List Int)) (hs : a.eval s = .slice A n c) (hown : Row V base E k A n c (kv xs))
    (D : Option Addr) (m d : Nat) (ys : List (List Int)) (hx : a.eval x = .slice D m d) (hr : Rd V k D m (kv ys))
    (h63 : n + m ≤ 1048576) (hbase : base ≤ V.heap.size)
    (h : ∀ A' c' w', Row w' base E k A' (n + m) c' (kv (xs ++ ys)) → V.grownBy w' (blk A) → (blk A' = blk A ∨ blk A' = some V.heap.size) → wpList P ops Q rest (a.put o.dst (.slice A' (n + m) c')) w') : wpList P ops Q (o :: rest) a V := by
  obtain ⟨i0, hi, hz0, hz1, hz2⟩ := info_parts hinfo
  refine wpList_append_rows V hgd s x t ho base E i0 z k bytes ht hi hz0 hz1 hz2 hzc hk A n c (kv xs) hs hown D m d (kv ys) hx hr (kv_one ys) h63 hby hbase ?_
  intro A' c' w' h1 h2 h3
  exact h A' c' w' (by rw [kv_append]; exact h1) h2 h3
theorem uni_zero (n k : Nat) : Uni k (List.replicate n (List.replicate k 0)) := by
  intro e he
  rw [List.eq_of_mem_replicate he]; simp
theorem kv_zero (n k : Nat) : kv (List.replicate n (List.replicate k 0)) = List.replicate (n * k) (.int .i64 0) := by
  have h : (List.replicate n (List.replicate k (0 : Int))).flatten = List.replicate (n * k) 0 := by
    rw [List.eq_replicate_iff]
    refine ⟨by rw [(uni_zero n k).flat_len]; simp, fun x hx => ?_⟩
    obtain ⟨e, he, hx⟩ := List.mem_flatten.1 hx
    rw [List.eq_of_mem_replicate he] at hx
    exact List.eq_of_mem_replicate hx
  rw [kv, h, ints, List.map_replicate]
theorem make_k (w : World) (t e : TypeId) (z : Value) (k bytes : Nat) (ht : P.underlying t = some (.slice e)) (hinfo : (P.info? e).map (fun i => (i.zero, i.size, i.bytes)) = some (some z, k, bytes)) (hzc : z.cells = (List.replicate k (Value.int .i64 0)).toArray) (hk : 0 < k)
    (kl kc : IntKind) (n : Nat) (hbytes : bytes * n ≤ 281474976710656) (h63 : n ≤ 9223372036854775807) :
    (Instr.makeSlice t (.int kl (n : Int)) (.int kc (n : Int))).run P w = .ok (.slice (some ⟨w.heap.size, 0, none⟩) n n) (w.alloc (.cells (kv (List.replicate n (List.replicate k 0))).toArray e)) := by
  obtain ⟨i, hi, hzz⟩ := Option.map_eq_some_iff.1 hinfo
  simp only [Prod.mk.injEq] at hzz
  obtain ⟨hz, hs, hb⟩ := hzz
  have hb' : (i.bytes : Int) * (n : Int) ≤ 281474976710656 := by
    have h : ((i.bytes * n : Nat) : Int) ≤ 281474976710656 := by rw [hb]; omega
    rwa [Int.natCast_mul] at h
  have hr := run_make (P := P) w t e i z ht hi hz kl kc n n (by omega) (Int.le_refl _) hb' (by omega)
  have e1 : madeCells z.cells ((n : Int).toNat * i.size) = (kv (List.replicate n (List.replicate k 0))).toArray := by
    rw [kv_zero, hs, hzc, Int.toNat_natCast]
    apply Array.ext (by simp [madeCells])
    intro j h1 h2
    simp only [madeCells, Array.getElem_map, List.getElem_toArray, List.getElem_replicate, List.size_toArray, List.length_replicate]
    have hjk : j % k < k := Nat.mod_lt _ hk
    simp [getElem!_pos, hjk]
  rw [e1] at hr
  simpa using hr
/-- An append to ints that fill their capacity. -/
theorem append_full (w : World) (t ty E : TypeId) (i : TypeInfo) (z : Value) (size bytes : Nat) (ht : P.underlying t = some (.slice E)) (hi : P.info? E = some i) (hz : i.zero = some z)
    (hsize : i.size = size) (hby : i.bytes = bytes) (hzs : z.cells.size = size) (hbytes : bytes ≤ 256) (b o n : Nat) (xs : List Value) (hxs : xs.length = n * size) (hc : ∀ j u, xs[j]? = some u → w.cell? ⟨b, o + j, none⟩ = some u)
    (D : Option Addr) (m d : Nat) (ys : List Value) (hr : Rd w size D m ys) (hm : 0 < m) (h63 : n + m ≤ 1048576) :
    ∃ c', (Builtin.append_ #[t, t] ty #[.slice (some ⟨b, o, none⟩) n n, .slice D m d]).run P w = .ok (.slice (some ⟨w.heap.size, 0, none⟩) (n + m) c') (w.drew.alloc (.cells (xs.toArray ++ ys.toArray ++ Builtin.zeroCells z.cells (c' - (n + m))) E)) ∧
      Row (w.drew.alloc (.cells (xs.toArray ++ ys.toArray ++ Builtin.zeroCells z.cells (c' - (n + m))) E)) w.heap.size E size (some ⟨w.heap.size, 0, none⟩) (n + m) c' (xs ++ ys) := by
  obtain ⟨b', o', rfl, hb', hcell⟩ := hr.2 hm
  subst hsize hby
  have hbb : (n + m) * i.bytes ≤ 140737488355328 := Nat.le_trans (Nat.mul_le_mul h63 hbytes) (by decide)
  have hadd : ∀ (q p : Nat) (j : Nat), (⟨q, p, none⟩ : Addr).add j = ⟨q, p + j, none⟩ := fun q p j => by unfold Addr.add; split <;> simp_all
  have hrun := run_append_grow (P := P) w t ty E i z ht hi hz ⟨b, o, none⟩ n n xs hxs (fun j u hu => by rw [hadd]; exact hc j u hu) ⟨b', o', none⟩ m d ys hr.1 (fun j u hu => by rw [hadd]; exact hcell j u hu) (by omega) (by omega) (growslice_fits (by omega) hbb)
  have hge := grownCap_ge w (n + m) n E
  have hcm : grownCap w (n + m) n E ≤ maxLen := grownCap_le_maxLen w (n + m) n E (by simp only [maxLen]; omega)
  have hlen : (xs ++ ys).length = (n + m) * i.size := by rw [List.length_append, hxs, hr.1, Nat.add_mul]
  refine ⟨grownCap w (n + m) n E, hrun, hlen, hge, hcm, .inr ⟨w.heap.size, _, rfl, Nat.le_refl _, heap_alloc_new w.drew _, ?_, ?_⟩⟩
  · simp only [Array.size_append, List.size_toArray, size_zeroCells, hzs, hxs, hr.1, ← Nat.add_mul]
    exact Nat.mul_le_mul_right _ (by omega)
  · simp only [Array.toList_append, List.append_assoc]
    rw [← List.append_assoc, ← hlen]
    exact List.take_left
theorem step_append_full {ops : Array Oper} {o : Oper} {a : Act} {K : Act → World → Prop} {Q : Exit → Act → World → Prop} {F : Prop} (w : World) (hgd : o.guard = none) (s x : Operand) (t : TypeId)
    (ho : o.op = .call { callee := .builtin .append, args := #[s, x], argTypes := #[t, t] })
    (E : TypeId) (i : TypeInfo) (z : Value) (size bytes : Nat) (ht : P.underlying t = some (.slice E)) (hi : P.info? E = some i) (hz : i.zero = some z)
    (hsize : i.size = size) (hby : i.bytes = bytes) (hzs : z.cells.size = size) (hbytes : bytes ≤ 256)
    (b p n : Nat) (xs : List Value) (hs : a.eval s = .slice (some ⟨b, p, none⟩) n n) (hxs : xs.length = n * size) (hc : ∀ j u, xs[j]? = some u → w.cell? ⟨b, p + j, none⟩ = some u)
    (D : Option Addr) (m d : Nat) (ys : List Value) (hx : a.eval x = .slice D m d) (hr : Rd w size D m ys) (hm : 0 < m) (h63 : n + m ≤ 1048576)
    (h : ∀ c' w', Row w' w.heap.size E size (some ⟨w.heap.size, 0, none⟩) (n + m) c' (xs ++ ys) → w.grownBy w' none → K (a.put o.dst (.slice (some ⟨w.heap.size, 0, none⟩) (n + m) c')) w') :
    if Region.wanted o (yielded ops a.tmps) = true then Oper.wp P o a w K Q else F := by
  have hw : Region.wanted o (yielded ops a.tmps) = true := by simp [Region.wanted, hgd]
  rw [if_pos hw]
  obtain ⟨c', hrun, h2⟩ := append_full (P := P) w t o.type E i z size bytes ht hi hz hsize hby hzs hbytes b p n xs hxs hc D m d ys hr hm h63
  unfold Oper.wp execOp
  simp only [ho, resolve, invoke, builtin, Sem.run_bind, Sem.run_pure, Result.andThen_ok, List.map_toArray, List.map_cons, List.map_nil, hs, hx, hrun]
  exact h c' _ h2 ⟨rfl, rfl, rfl, by simp, fun k hk _ => Below.heap_alloc w.drew _ k hk⟩
end
end Go.Proofs.YthdkbofnplnidaaDoor
