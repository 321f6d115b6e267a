/- A program is mended, by the document. -/
import Derived.Test.YtkpipoicobmjkaaDoorVaT
import Derived.Deep.RegionLaw
namespace Go.Proofs.YtkpipoicobmjkaaDoor
open Go.ChangeShapes Go.WideShapes Go.ChangeAt Go.RowKit Go.Deep
set_option linter.unusedVariables false
set_option linter.unusedSimpArgs false

theorem bls_append (a b : List Bool) : bls (a ++ b) = bls a ++ bls b := by simp [bls]
theorem bls_one (l : List Bool) : ∀ u ∈ bls l, u.oneCell' = true := by
  intro u hu
  simp only [bls, List.mem_map] at hu
  obtain ⟨z, _, rfl⟩ := hu
  rfl
theorem step_apB {ops : Array Oper} {o : Oper} {a : Act} {V : World} {K : Act → World → Prop} {Q : Exit → Act → World → Prop} {F : Prop} (hgd : o.guard = none) (s x : Operand)
    (ho : o.op = .call { callee := .builtin .append, args := #[s, x], argTypes := #[31, 31] })
    (base : Nat) (A : Option Addr) (n c : Nat) (xs : List Bool) (hs : a.eval s = .slice A n c) (hown : Row V base 4 1 A n c (bls xs))
    (D : Option Addr) (m d : Nat) (ys : List Bool) (hx : a.eval x = .slice D m d) (hr : Rd V 1 D m (bls ys))
    (h63 : n + m ≤ 1048576) (hbase : base ≤ V.heap.size)
    (h : ∀ A' c' w', Row w' base 4 1 A' (n + m) c' (bls (xs ++ ys)) → V.grownBy w' (blk A) → (blk A' = blk A ∨ blk A' = some V.heap.size) → K (a.put o.dst (.slice A' (n + m) c')) w') :
    if Region.wanted o (yielded ops a.tmps) = true then Oper.wp Tryd.prog o a V K Q else F := by
  obtain ⟨i0, hi, hz0, hz1, hz2⟩ := info_parts boolT_info
  refine step_append_rows V hgd s x 31 ho base 4 i0 (.bool false) 1 1 Tryd.underlying31 hi hz0 hz1 hz2 rfl (by decide) A n c (bls xs) hs hown D m d (bls ys) hx hr (bls_one ys) h63 (by decide) hbase ?_
  intro A' c' w' h1 h2 h3
  exact h A' c' w' (by rw [bls_append]; exact h1) h2 h3
theorem wpList_apF {ops : Array Oper} {rest : List Oper} {o : Oper} {a : Act} {V : World} {Q : Exit → Act → World → Prop} (hgd : o.guard = none) (s x : Operand)
    (ho : o.op = .call { callee := .builtin .append, args := #[s, x], argTypes := #[22, 22] }) (hE : o.type = 22)
    (base : Nat) (A : Option Addr) (n c : Nat) (xs : List Value) (hs : a.eval s = .slice A n c) (hown : Row V base 33 2 A n c xs)
    (D : Option Addr) (m d : Nat) (ys : List Value) (hx : a.eval x = .slice D m d) (hr : Rd V 2 D m ys) (h1 : ∀ u ∈ ys, u.oneCell' = true)
    (h63 : n + m ≤ 1048576) (hbase : base ≤ V.heap.size)
    (h : ∀ A' c' w', Row w' base 33 2 A' (n + m) c' (xs ++ ys) → V.grownBy w' (blk A) → (blk A' = blk A ∨ blk A' = some V.heap.size) → wpList Tryd.prog ops Q rest (a.put o.dst (.slice A' (n + m) c')) w') : wpList Tryd.prog ops Q (o :: rest) a V := by
  obtain ⟨i0, hi, hz0, hz1, hz2⟩ := info_parts func_info
  exact wpList_append_rows V hgd s x 22 ho base 33 i0 (.agg #[.slice none 0 0, .slice none 0 0]) 2 48 Tryd.underlying22 hi hz0 hz1 hz2 (by kernel_rfl) (by decide) A n c xs hs hown D m d ys hx hr h1 h63 (by decide) hbase h
theorem Row.ne_row {w : World} {b1 b2 s1 s2 n1 n2 c1 c2 : Nat} {E1 E2 : TypeId} {A D : Option Addr} {xs ys : List Value} (h : Row w b1 E1 s1 A n1 c1 xs) (h' : Row w b2 E2 s2 D n2 c2 ys) (hne : E1 ≠ E2) : ∀ g, blk A = some g → some g ≠ blk D := by
  intro g hg e
  rcases h.2.2.2 with ⟨rfl, _⟩ | ⟨g1, cur1, rfl, _, hb1, _⟩
  · cases hg
  · rcases h'.2.2.2 with ⟨rfl, _⟩ | ⟨g2, cur2, rfl, _, hb2, _⟩
    · cases e
    · have e1 : g1 = g := Option.some.inj (show some g1 = some g from hg)
      have e2 : g = g2 := Option.some.inj (show some g = some g2 from e)
      exact (Blk.ne_ hb1 hb2 hne) (e1.trans e2)
theorem Row.ne_blk {w : World} {b1 s1 n1 c1 K : Nat} {E1 t : TypeId} {A : Option Addr} {xs : List Value} {cs : Array Value} (h : Row w b1 E1 s1 A n1 c1 xs) (hK : Blk w K t cs) (hne : E1 ≠ t) : ∀ g, blk A = some g → ¬ g = K := by
  intro g hg e
  exact h.blk_ne hK hne (by rw [hg, e])
def msafe (code : List (List Int)) (safe : List Bool) (i : Nat) : Bool := safe.getD i false || (decide (0 < i) && wtI (ipart code (i - 1) 0)) || wtI (ipart code i 0)
theorem mendS_take (code : List (List Int)) (safe : List Bool) (n j : Nat) (h : j < n) : (mendS code safe n).take (j + 1) = (mendS code safe n).take j ++ [msafe code safe j] := by
  rw [List.take_succ_eq_append_getElem (by rw [mendS_len]; exact h)]
  simp [mendS, msafe]
/-- How the mended function stands behind j places. -/
structure RG (wo wq : World) (X5 X6 n j : Nat) (Ak : Option Addr) (ck : Nat) (Sk : Option Addr) (mk dk : Nat) (A3 : Option Addr) (c3 : Nat) (Sg : Option Addr) (cg : Nat) (code : List (List Int)) (safe : List Bool) : Prop where
  b5 : Blk wq X5 33 #[.slice Ak n ck, .slice Sk mk dk]
  b6 : Blk wq X6 33 #[.slice A3 n c3, .slice Sg j cg]
  ra : Row wq wo.heap.size 43 5 A3 n c3 (kv code)
  rs : Row wq wo.heap.size 4 1 Sg j cg (bls ((mendS code safe n).take j))
  chg : Chg (fun _ => False) wo wq
  x5 : wo.heap.size ≤ X5
  x6 : wo.heap.size ≤ X6
  ne : X5 ≠ X6
section
variable {wo wq V w7 : World} {X5 X6 n j ck mk dk c3 cg c7 : Nat} {Ak Sk A3 Sg A7 : Option Addr} {code : List (List Int)} {safe : List Bool}
theorem RG.same (h : RG wo wq X5 X6 n j Ak ck Sk mk dk A3 c3 Sg cg code safe) (hc : Chg (fun _ => False) wq V) : RG wo V X5 X6 n j Ak ck Sk mk dk A3 c3 Sg cg code safe :=
  ⟨h.b5.kept hc (fun h => h), h.b6.kept hc (fun h => h), h.ra.kept hc (fun _ _ h => h), h.rs.kept hc (fun _ _ h => h), h.chg.trans hc (fun _ _ h => h.elim), h.x5, h.x6, h.ne⟩
theorem RG.next (h : RG wo V X5 X6 n j Ak ck Sk mk dk A3 c3 Sg cg code safe) (hj : j < n) {V' : World} (hv : Chg (fun _ => False) V V') (r1 : Row w7 wo.heap.size 4 1 A7 (j + 1) c7 (bls ((mendS code safe n).take j ++ [msafe code safe j]))) (r2 : V'.grownBy w7 (blk Sg)) :
    RG wo (w7.setCell ⟨X6, 1, none⟩ (.slice A7 (j + 1) c7)) X5 X6 n (j + 1) Ak ck Sk mk dk A3 c3 A7 c7 code safe := by
  have h' := h.same hv
  have hc : Chg (fun g => blk Sg = some g) V' w7 := Chg.grown (Chg.refl _ _) r2 (fun k hk => .inl hk)
  have n5 : ¬ blk Sg = some X5 := h'.rs.blk_ne h'.b5 (by decide)
  have n6 : ¬ blk Sg = some X6 := h'.rs.blk_ne h'.b6 (by decide)
  have k5 := h'.b5.kept hc n5
  have k6 := h'.b6.kept hc n6
  have ka := h'.ra.kept hc (fun g hg e => (h'.ra.ne_row h'.rs (by decide) g hg) e.symm)
  have hch : Chg (fun g => g = X6) w7 (w7.setCell ⟨X6, 1, none⟩ (.slice A7 (j + 1) c7)) := Chg.setCell (S := fun g => g = X6) (Chg.refl _ _) (p := ⟨X6, 1, none⟩) (.inl rfl) _
  refine ⟨k5.kept hch h.ne, by simpa using k6.set_ 1 (.slice A7 (j + 1) c7), ka.kept hch (ka.ne_blk k6 (by decide)), ?_, ?_, h.x5, h.x6, h.ne⟩
  · rw [mendS_take _ _ _ _ hj]
    exact r1.kept hch (r1.ne_blk k6 (by decide))
  · exact (h'.chg.trans hc (fun g hg e => by have := (h'.rs.blk_lt g e).1; omega)).trans hch (fun g hg e => by have := h.x6; omega)
end
section
variable {W : World} {A : Option Addr} {m : Nat} {Ac : Nat → Option Addr} {nc cc : Nat → Nat} {As : Nat → Option Addr} {ns cs : Nat → Nat} {code : Nat → List (List Int)} {safe : Nat → List Bool}
/-- Functions that have been mended so far: who holds the row of them is block X. -/
structure RE (w0 w : World) (X k : Nat) (Ao : Option Addr) (co : Nat) (fv : List Value) (Bc : Nat → Option Addr) (dc : Nat → Nat) (Bs : Nat → Option Addr) (ds : Nat → Nat) (nc : Nat → Nat) (code : Nat → List (List Int)) (safe : Nat → List Bool) : Prop where
  x : Blk w X 24 #[.slice Ao k co]
  o : Row w w0.heap.size 33 2 Ao k co fv
  at_ : ∀ i, i < k → fv[i * 2]? = some (.slice (Bc i) (nc i) (dc i)) ∧ fv[i * 2 + 1]? = some (.slice (Bs i) (nc i) (ds i))
  fm : ∀ i, i < k → Row w w0.heap.size 43 5 (Bc i) (nc i) (dc i) (kv (code i)) ∧ Uni 5 (code i) ∧ Row w w0.heap.size 4 1 (Bs i) (nc i) (ds i) (bls (mendS (code i) (safe i) (nc i)))
  chg : Chg (fun g => g = X) w0 w
  xl : X < w0.heap.size
theorem RE.same {w0 w V : World} {X k co : Nat} {Ao : Option Addr} {fv : List Value} {Bc Bs : Nat → Option Addr} {dc ds : Nat → Nat} (h : RE w0 w X k Ao co fv Bc dc Bs ds nc code safe) (hc : Chg (fun _ => False) w V) : RE w0 V X k Ao co fv Bc dc Bs ds nc code safe :=
  ⟨h.x.kept hc (fun h => h), h.o.kept hc (fun _ _ h => h), h.at_, fun i hi => ⟨(h.fm i hi).1.kept hc (fun _ _ h => h), (h.fm i hi).2.1, (h.fm i hi).2.2.kept hc (fun _ _ h => h)⟩, h.chg.trans hc (fun _ _ h => h.elim), h.xl⟩
theorem RE.next {w0 w V w8 : World} {X k co c1 c2 c8 : Nat} {Ao A1 A2 A8 : Option Addr} {fv : List Value} {Bc Bs : Nat → Option Addr} {dc ds : Nat → Nat} (h : RE w0 w X k Ao co fv Bc dc Bs ds nc code safe) (hv : Chg (fun _ => False) w V)
    (h1 : Row V w0.heap.size 43 5 A1 (nc k) c1 (kv (code k))) (hu : Uni 5 (code k)) (h2 : Row V w0.heap.size 4 1 A2 (nc k) c2 (bls (mendS (code k) (safe k) (nc k))))
    (r1 : Row w8 w0.heap.size 33 2 A8 (k + 1) c8 (fv ++ [.slice A1 (nc k) c1, .slice A2 (nc k) c2])) (r2 : V.grownBy w8 (blk Ao)) :
    RE w0 (w8.setCell ⟨X, 0, none⟩ (.slice A8 (k + 1) c8)) X (k + 1) A8 c8 (fv ++ [.slice A1 (nc k) c1, .slice A2 (nc k) c2]) (upd Bc k A1) (upd dc k c1) (upd Bs k A2) (upd ds k c2) nc code safe := by
  have h' := h.same hv
  have hc : Chg (fun g => blk Ao = some g) V w8 := Chg.grown (Chg.refl _ _) r2 (fun k hk => .inl hk)
  have nx : ¬ blk Ao = some X := h'.o.blk_ne h'.x (by decide)
  have kx := h'.x.kept hc nx
  have hch : Chg (fun g => g = X) w8 (w8.setCell ⟨X, 0, none⟩ (.slice A8 (k + 1) c8)) := Chg.setCell (S := fun g => g = X) (Chg.refl _ _) (p := ⟨X, 0, none⟩) (.inl rfl) _
  have hfl : fv.length = k * 2 := h.o.1
  refine ⟨by simpa using kx.set_ 0 (.slice A8 (k + 1) c8), r1.kept hch (r1.ne_blk kx (by decide)), fun i hi => ?_, fun i hi => ?_, ((h'.chg.trans hc (fun g hg e => by have := (h'.o.blk_lt g e).1; omega)).trans hch (fun g hg e => e)), h.xl⟩
  · by_cases e : i = k
    · subst e
      rw [upd_eq, upd_eq, upd_eq, upd_eq]
      refine ⟨?_, ?_⟩
      · rw [List.getElem?_append_right (by omega), hfl, Nat.sub_self]; rfl
      · rw [List.getElem?_append_right (by omega), hfl, show i * 2 + 1 - i * 2 = 1 by omega]; rfl
    · rw [upd_ne _ _ e, upd_ne _ _ e, upd_ne _ _ e, upd_ne _ _ e]
      obtain ⟨a1, a2⟩ := h.at_ i (by omega)
      exact ⟨by rw [List.getElem?_append_left (by omega)]; exact a1, by rw [List.getElem?_append_left (by omega)]; exact a2⟩
  · by_cases e : i = k
    · subst e
      rw [upd_eq, upd_eq, upd_eq, upd_eq]
      have g1 := h1.kept hc (fun g hg e => (h1.ne_row h'.o (by decide) g hg) e.symm)
      have g2 := h2.kept hc (fun g hg e => (h2.ne_row h'.o (by decide) g hg) e.symm)
      exact ⟨g1.kept hch (g1.ne_blk kx (by decide)), hu, g2.kept hch (g2.ne_blk kx (by decide))⟩
    · rw [upd_ne _ _ e, upd_ne _ _ e, upd_ne _ _ e, upd_ne _ _ e]
      obtain ⟨f1, f2, f3⟩ := h'.fm i (by omega)
      have g1 := f1.kept hc (fun g hg e => (f1.ne_row h'.o (by decide) g hg) e.symm)
      have g2 := f3.kept hc (fun g hg e => (f3.ne_row h'.o (by decide) g hg) e.symm)
      exact ⟨g1.kept hch (g1.ne_blk kx (by decide)), f2, g2.kept hch (g2.ne_blk kx (by decide))⟩
theorem RE.pm {w0 w X' : World} {X k co R : Nat} {Ao : Option Addr} {fv : List Value} {Bc Bs : Nat → Option Addr} {dc ds : Nat → Nat} (h : RE w0 w X k Ao co fv Bc dc Bs ds nc code safe) (hl : ∀ i, i < k → nc i ≤ 1000) (hX : Chg (fun g => g = R) w X') (hR : R < w0.heap.size) :
    PM X' Ao k Bc nc dc Bs nc ds code (fun i => mendS (code i) (safe i) (nc i)) := by
  have kill : ∀ {E s n c} {D : Option Addr} {xs : List Value}, Row w w0.heap.size E s D n c xs → Row X' w0.heap.size E s D n c xs := fun hr => hr.kept hX (fun g hg e => by have := (hr.blk_lt g hg).1; omega)
  have ho := kill h.o
  refine ⟨fun h0 => ?_, fun i hi => ?_, fun i hi => ?_⟩
  · obtain ⟨b, o, e, hb, hc⟩ := ho.rd.2 h0
    refine ⟨b, o, e, hb, fun i hi => ?_⟩
    obtain ⟨a1, a2⟩ := h.at_ i hi
    exact ⟨hc _ _ a1, by have := hc _ _ a2; rwa [← Nat.add_assoc] at this⟩
  · obtain ⟨f1, f2, f3⟩ := h.fm i hi
    exact ⟨(kill f1).rd, f2, (kill f3).rd⟩
  · obtain ⟨f1, f2, f3⟩ := h.fm i hi
    have := hl i hi
    exact ⟨by unfold maxLen; omega, by unfold maxLen; omega, f1.2.1, f3.2.1⟩
end
end Go.Proofs.YtkpipoicobmjkaaDoor
