/- Contracts of a plan: who goes, and who is idle: the program's and the document's. -/
import Derived.Test.YtanljdhliaeljaaRapp
import Derived.Test.YtanljdhliaeljaaRsame
namespace Go.Proofs.Ytanljdhliaeljaa
open Go.ChangeShapes Go.WideShapes Go.ChangeAt Go.RowKit Go.Deep
set_option linter.unusedVariables false

/-- The first k places, parted. -/
def spr (z : Nat → Int) (self machines : Int) : Nat → List Int × List Int
  | 0 => ([], [])
  | k + 1 => if (k : Int) = self then spr z self machines k else
      if 0 < z k ∧ ((spr z self machines k).1.length : Int) < machines then ((spr z self machines k).1 ++ [(k : Int)], (spr z self machines k).2)
      else ((spr z self machines k).1, (spr z self machines k).2 ++ [(k : Int)])
theorem spr_le (z : Nat → Int) (self machines : Int) : ∀ k, (spr z self machines k).1.length ≤ k ∧ (spr z self machines k).2.length ≤ k
  | 0 => by simp [spr]
  | k + 1 => by
    have := spr_le z self machines k
    rw [spr]
    split
    · omega
    · split <;> (simp; omega)
theorem spr_self {z : Nat → Int} {self machines : Int} {k : Nat} (h : (k : Int) = self) : spr z self machines (k + 1) = spr z self machines k := by rw [spr, if_pos h]
theorem spr_go {z : Nat → Int} {self machines : Int} {k : Nat} (h : ¬ (k : Int) = self) (h1 : 0 < z k) (h2 : ((spr z self machines k).1.length : Int) < machines) : spr z self machines (k + 1) = ((spr z self machines k).1 ++ [(k : Int)], (spr z self machines k).2) := by rw [spr, if_neg h, if_pos ⟨h1, h2⟩]
theorem spr_idle {z : Nat → Int} {self machines : Int} {k : Nat} (h : ¬ (k : Int) = self) (h1 : ¬ (0 < z k ∧ ((spr z self machines k).1.length : Int) < machines)) : spr z self machines (k + 1) = ((spr z self machines k).1, (spr z self machines k).2 ++ [(k : Int)]) := by rw [spr, if_neg h, if_neg h1]

/-- Two rows in a struct of block P; the result's block R is empty yet. -/
def Pl (T : TypeId) (w wr : World) (A1 A2 : Option Addr) (c1 c2 : Nat) (gs is : List Int) : Prop :=
  Blk wr w.heap.size T #[.slice none 0 0, .slice none 0 0] ∧ Blk wr (w.heap.size + 1) T #[.slice A1 gs.length c1, .slice A2 is.length c2] ∧ Row wr w.heap.size 3 1 A1 gs.length c1 (ints gs) ∧ Row wr w.heap.size 3 1 A2 is.length c2 (ints is) ∧ (∀ g, blk A1 = some g → blk A2 ≠ some g) ∧ Below w.heap.size w wr
theorem Pl.app1 {T : TypeId} (hT : 3 ≠ T) {w wr w2 : World} {A1 A2 B1 : Option Addr} {c1 c2 d1 : Nat} {gs is : List Int} {v : Int} {ob : Obj} (h : Pl T w wr A1 A2 c1 c2 gs is) (hr : Row w2 w.heap.size 3 1 B1 (gs.length + 1) d1 (ints (gs ++ [v]))) (hg : (wr.alloc ob).grownBy w2 (blk A1))
    (h3 : blk B1 = blk A1 ∨ blk B1 = some (wr.alloc ob).heap.size) : Blk w2 (w.heap.size + 1) T #[.slice A1 gs.length c1, .slice A2 is.length c2] ∧ Pl T w (w2.setCell ⟨w.heap.size + 1, 0, none⟩ (.slice B1 (gs.length + 1) d1)) B1 A2 d1 c2 (gs ++ [v]) is := by
  obtain ⟨hR, hP, h1, h2, hne, hb⟩ := h
  have hc : Chg (fun k => blk A1 = some k) wr w2 := Chg.grown ((Chg.refl _ _).alloc ob) hg (fun k hk => .inl hk)
  have hP2 := hP.kept hc (fun h => h1.blk_ne hP hT h)
  have hR2 := hR.kept hc (fun h => h1.blk_ne hR hT h)
  have h22 := h2.kept hc (fun g hg h => hne g h hg)
  refine ⟨hP2, hR2.far (by simp) _, by simpa using hP2.set_ 0 (.slice B1 (gs.length + 1) d1), ?_, h22.setCell (h22.blk_ne hP2 hT) _, fun g hg hg2 => ?_, (hb.trans (hc.below hb.size (fun k _ hk => (h1.blk_lt k hk).1))).setCell (by simp) _⟩
  · have := hr.setCell (p := ⟨w.heap.size + 1, 0, none⟩) (hr.blk_ne hP2 hT) (.slice B1 (gs.length + 1) d1)
    simpa using this
  · rcases h3 with h3 | h3
    · exact hne g (h3 ▸ hg) hg2
    · rw [h3] at hg
      have := (h2.blk_lt g hg2).2
      simp at hg
      omega
theorem Pl.app2 {T : TypeId} (hT : 3 ≠ T) {w wr w2 : World} {A1 A2 B2 : Option Addr} {c1 c2 d2 : Nat} {gs is : List Int} {v : Int} {ob : Obj} (h : Pl T w wr A1 A2 c1 c2 gs is) (hr : Row w2 w.heap.size 3 1 B2 (is.length + 1) d2 (ints (is ++ [v]))) (hg : (wr.alloc ob).grownBy w2 (blk A2))
    (h3 : blk B2 = blk A2 ∨ blk B2 = some (wr.alloc ob).heap.size) : Blk w2 (w.heap.size + 1) T #[.slice A1 gs.length c1, .slice A2 is.length c2] ∧ Pl T w (w2.setCell ⟨w.heap.size + 1, 1, none⟩ (.slice B2 (is.length + 1) d2)) A1 B2 c1 d2 gs (is ++ [v]) := by
  obtain ⟨hR, hP, h1, h2, hne, hb⟩ := h
  have hc : Chg (fun k => blk A2 = some k) wr w2 := Chg.grown ((Chg.refl _ _).alloc ob) hg (fun k hk => .inl hk)
  have hP2 := hP.kept hc (fun h => h2.blk_ne hP hT h)
  have hR2 := hR.kept hc (fun h => h2.blk_ne hR hT h)
  have h11 := h1.kept hc (fun g hg h => hne g hg h)
  refine ⟨hP2, hR2.far (by simp) _, by simpa using hP2.set_ 1 (.slice B2 (is.length + 1) d2), h11.setCell (h11.blk_ne hP2 hT) _, ?_, fun g hg hg2 => ?_, (hb.trans (hc.below hb.size (fun k _ hk => (h2.blk_lt k hk).1))).setCell (by simp) _⟩
  · have := hr.setCell (p := ⟨w.heap.size + 1, 1, none⟩) (hr.blk_ne hP2 hT) (.slice B2 (is.length + 1) d2)
    simpa using this
  · rcases h3 with h3 | h3
    · exact hne g hg (h3 ▸ hg2)
    · rw [h3] at hg2
      have := (h1.blk_lt g hg).2
      simp at hg2
      omega
def RoundP (T : TypeId) (w : World) (z : Nat → Int) (self machines : Int) (len : Nat) (i : Value) (wr : World) : Prop := ∃ (k : Nat) (A1 A2 : Option Addr) (c1 c2 : Nat), k ≤ len ∧ i = .int .i64 k ∧ Pl T w wr A1 A2 c1 c2 (spr z self machines k).1 (spr z self machines k).2
theorem RoundP.self_ {T : TypeId} {w wr : World} {z : Nat → Int} {self machines : Int} {len k : Nat} {A1 A2 : Option Addr} {c1 c2 : Nat} (hk : k < len) (hs : (k : Int) = self) (h : Pl T w wr A1 A2 c1 c2 (spr z self machines k).1 (spr z self machines k).2) : RoundP T w z self machines len (.int .i64 ((k : Int) + 1)) wr :=
  ⟨k + 1, A1, A2, c1, c2, by omega, by go_num, by rw [spr_self hs]; exact h⟩
theorem RoundP.go_ {T : TypeId} {w wr : World} {z : Nat → Int} {self machines : Int} {len k : Nat} {A1 A2 : Option Addr} {c1 c2 : Nat} (hk : k < len) (hs : ¬ (k : Int) = self) (h1 : 0 < z k) (h2 : ((spr z self machines k).1.length : Int) < machines) (h : Pl T w wr A1 A2 c1 c2 ((spr z self machines k).1 ++ [(k : Int)]) (spr z self machines k).2) : RoundP T w z self machines len (.int .i64 ((k : Int) + 1)) wr :=
  ⟨k + 1, A1, A2, c1, c2, by omega, by go_num, by rw [spr_go hs h1 h2]; exact h⟩
theorem RoundP.idle_ {T : TypeId} {w wr : World} {z : Nat → Int} {self machines : Int} {len k : Nat} {A1 A2 : Option Addr} {c1 c2 : Nat} (hk : k < len) (hs : ¬ (k : Int) = self) (h1 : ¬ (0 < z k ∧ ((spr z self machines k).1.length : Int) < machines)) (h : Pl T w wr A1 A2 c1 c2 (spr z self machines k).1 ((spr z self machines k).2 ++ [(k : Int)])) : RoundP T w z self machines len (.int .i64 ((k : Int) + 1)) wr :=
  ⟨k + 1, A1, A2, c1, c2, by omega, by go_num, by rw [spr_idle hs h1]; exact h⟩

set_option maxHeartbeats 4000000 in
theorem world_any (A : Option Addr) (n c : Nat) (z : Nat → Int) (self machines : Int) (w : World) (hA : Ints .i64 w A n z) (hn : n ≤ 1000) :
    Calls Try.prog 6 #[.slice A n c, .int .i64 self, .int .i64 machines] w fun e w' => ∃ A1 c1 A2 c2, e = .returned (.agg #[.slice A1 (spr z self machines n).1.length c1, .slice A2 (spr z self machines n).2.length c2]) ∧
      Row w' w.heap.size 3 1 A1 (spr z self machines n).1.length c1 (ints (spr z self machines n).1) ∧ Row w' w.heap.size 3 1 A2 (spr z self machines n).2.length c2 (ints (spr z self machines n).2) ∧ Below w.heap.size w w' := by
  have hP0 : Pl 25 w ((w.alloc (.cells #[.slice none 0 0, .slice none 0 0] 25)).alloc (.cells #[.slice none 0 0, .slice none 0 0] 25)) none none 0 0 [] [] := by
    refine ⟨(Blk.new _ _ _).alloc _, by simpa using Blk.new (w.alloc (.cells #[.slice none 0 0, .slice none 0 0] 25)) 25 #[.slice none 0 0, .slice none 0 0], Row.nil _ _ _ _, Row.nil _ _ _ _, (fun g hg => by cases hg), ((Below.refl _ _).alloc (Nat.le_refl _) _).alloc (by simp) _⟩
  go_enter Try.func6, Try.ntmps6
  go_wp2
  go_loopw [12] (fun i wr => RoundP 25 w z self machines n i wr) (fun i _ => n - (intOf i).toNat)
  case atStart => exact ⟨0, none, none, 0, 0, Nat.zero_le _, rfl, hP0⟩
  case round =>
    clear hP0
    obtain ⟨k, A1, A2, c1, c2, hk, rfl, hPl⟩ := hrel
    have hle := spr_le z self machines k
    have hP0 := hPl
    obtain ⟨hR, hP, h1, h2, hne, hb⟩ := id hPl
    have hbs := hb.size
    by_cases hlt : k < n
    · obtain ⟨b, o, rfl, hbl, hc⟩ := hA.2 (by omega)
      have e0 : wr.cell? ⟨b, o + k, none⟩ = some (.int .i64 (z k)) := (hb.cell (p := ⟨b, o + k, none⟩) hbl).trans (hc k hlt).1
      have hbw : b < wr.heap.size := by omega
      clear hA hc
      have p0 := hP.cell 0
      have p1 := hP.cell 1
      have p2 := hP.frozen 0
      have p3 := hP.frozen 1
      have pk := hP.lt
      simp at p0 p1
      have hP1 := h1
      have hP3 := h2
      by_cases hs : (k : Int) = self
      · have ds : ((k : Int) == self) = true := by simpa using hs
        have Hs := Lib.hid hs
        clear hs
        have dd : decide ((k : Int) = self) = true := by simpa using Hs.out
        go_wp2
        go_roundw
        case rel => exact RoundP.self_ hlt Hs.out hP0
        case measure => simp [intOf]; omega
      · have ds : ((k : Int) == self) = false := by simpa using hs
        have dd : decide ((k : Int) = self) = false := by simpa using hs
        by_cases hg : 0 < z k ∧ ((spr z self machines k).1.length : Int) < machines
        · have Hstep := Lib.hid (fun (wr' : World) (B1 B2 : Option Addr) (d1 d2 : Nat) (h : Pl 25 w wr' B1 B2 d1 d2 ((spr z self machines k).1 ++ [(k : Int)]) (spr z self machines k).2) => RoundP.go_ (len := n) hlt hs hg.1 hg.2 h)
          obtain ⟨hg1, hg2⟩ := hg
          generalize z k = zk at e0 hg1
          generalize (spr z self machines k).1 = gs at *
          generalize (spr z self machines k).2 = is at *
          clear hP0 hR hP h1 h2 hs
          go_wp2_with (at_builtin; refine wpList_app rfl (.tmp 38) (.tmp 40) rfl w.heap.size A1 _ _ gs rfl (hP1.alloc _) _ 1 1 [(k : Int)] rfl (Rd.lit _ _ _) ?c1 ?c2 ?_; (case c1 => omega); (case c2 => (have := hb.size; simp; omega)); intro D d w2 r1 r2 r3; obtain ⟨q0, hP2⟩ := hPl.app1 (by decide) r1 r2 r3; have q1 := q0.cell 0; have q2 := q0.frozen 0; simp at q1)
          go_roundw
          case rel => exact Hstep.out _ _ _ _ _ hP2
          case measure => simp [intOf]; omega
        · have Hstep := Lib.hid (fun (wr' : World) (B1 B2 : Option Addr) (d1 d2 : Nat) (h : Pl 25 w wr' B1 B2 d1 d2 (spr z self machines k).1 ((spr z self machines k).2 ++ [(k : Int)])) => RoundP.idle_ (len := n) hlt hs hg h)
          generalize z k = zk at e0 hg
          generalize (spr z self machines k).1 = gs at *
          generalize (spr z self machines k).2 = is at *
          clear hP0 hR hP h1 h2 hs
          by_cases hz : 0 < zk
          · have hz2 : ¬ (gs.length : Int) < machines := fun h => hg ⟨hz, h⟩
            clear hg
            go_wp2_with (at_builtin; refine wpList_app rfl (.tmp 18) (.tmp 20) rfl w.heap.size A2 _ _ is rfl (hP3.alloc _) _ 1 1 [(k : Int)] rfl (Rd.lit _ _ _) ?c1 ?c2 ?_; (case c1 => omega); (case c2 => (have := hb.size; simp; omega)); intro D d w2 r1 r2 r3; obtain ⟨q0, hP2⟩ := hPl.app2 (by decide) r1 r2 r3; have q1 := q0.cell 1; have q2 := q0.frozen 1; simp at q1)
            go_roundw
            case rel => exact Hstep.out _ _ _ _ _ hP2
            case measure => simp [intOf]; omega
          · clear hg
            go_wp2_with (at_builtin; refine wpList_app rfl (.tmp 18) (.tmp 20) rfl w.heap.size A2 _ _ is rfl (hP3.alloc _) _ 1 1 [(k : Int)] rfl (Rd.lit _ _ _) ?c1 ?c2 ?_; (case c1 => omega); (case c2 => (have := hb.size; simp; omega)); intro D d w2 r1 r2 r3; obtain ⟨q0, hP2⟩ := hPl.app2 (by decide) r1 r2 r3; have q1 := q0.cell 1; have q2 := q0.frozen 1; simp at q1)
            go_roundw
            case rel => exact Hstep.out _ _ _ _ _ hP2
            case measure => simp [intOf]; omega
    · obtain rfl : k = n := by omega
      have r0 := hR.cell 0
      have r1 := hR.cell 1
      have r2 := hR.frozen 0
      have r3 := hR.frozen 1
      have rk := hR.lt
      have p0 := hP.cell 0
      have p1 := hP.cell 1
      have pk := hP.lt
      simp at r0 r1 p0 p1
      go_wp2
      have s0 := (hR.set_ 0 (.slice A1 (spr z self machines k).1.length c1)).cell 0
      have s1 := ((hR.set_ 0 (.slice A1 (spr z self machines k).1.length c1)).set_ 1 (.slice A2 (spr z self machines k).2.length c2)).cell 1
      simp at s0 s1
      refine bodyPost_ret (v := .agg #[.slice A1 (spr z self machines k).1.length c1, .slice A2 (spr z self machines k).2.length c2]) (by simp [results, Try.results6, go_sem, s0, s1]) rfl ⟨A1, c1, A2, c2, rfl, (h1.setCell (p := ⟨w.heap.size, 0, none⟩) (h1.blk_ne hR (by decide)) _).setCell (p := ⟨w.heap.size, 1, none⟩) (h1.blk_ne hR (by decide)) _, (h2.setCell (p := ⟨w.heap.size, 0, none⟩) (h2.blk_ne hR (by decide)) _).setCell (p := ⟨w.heap.size, 1, none⟩) (h2.blk_ne hR (by decide)) _, (hb.setCell (p := ⟨w.heap.size, 0, none⟩) (Nat.le_refl _) _).setCell (p := ⟨w.heap.size, 1, none⟩) (Nat.le_refl _) _⟩

set_option maxHeartbeats 4000000 in
theorem rworld_any (A : Option Addr) (n c : Nat) (z : Nat → Int) (self machines : Int) (w : World) (hA : Ints .i64 w A n z) (hn : n ≤ 1000) :
    Calls Try.prog 7 #[.slice A n c, .int .i64 self, .int .i64 machines] w fun e w' => ∃ A1 c1 A2 c2, e = .returned (.agg #[.slice A1 (spr z self machines n).1.length c1, .slice A2 (spr z self machines n).2.length c2]) ∧
      Row w' w.heap.size 3 1 A1 (spr z self machines n).1.length c1 (ints (spr z self machines n).1) ∧ Row w' w.heap.size 3 1 A2 (spr z self machines n).2.length c2 (ints (spr z self machines n).2) ∧ Below w.heap.size w w' := by
  have hP0 : Pl 27 w ((w.alloc (.cells #[.slice none 0 0, .slice none 0 0] 27)).alloc (.cells #[.slice none 0 0, .slice none 0 0] 27)) none none 0 0 [] [] := by
    refine ⟨(Blk.new _ _ _).alloc _, by simpa using Blk.new (w.alloc (.cells #[.slice none 0 0, .slice none 0 0] 27)) 27 #[.slice none 0 0, .slice none 0 0], Row.nil _ _ _ _, Row.nil _ _ _ _, (fun g hg => by cases hg), ((Below.refl _ _).alloc (Nat.le_refl _) _).alloc (by simp) _⟩
  go_enter Try.func7, Try.ntmps7
  go_wp2
  go_loopw [8] (fun i wr => RoundP 27 w z self machines n i wr) (fun i _ => n - (intOf i).toNat)
  case atStart => exact ⟨0, none, none, 0, 0, Nat.zero_le _, rfl, hP0⟩
  case round =>
    clear hP0
    obtain ⟨k, A1, A2, c1, c2, hk, rfl, hPl⟩ := hrel
    have hle := spr_le z self machines k
    have hP0 := hPl
    obtain ⟨hR, hP, h1, h2, hne, hb⟩ := id hPl
    have hbs := hb.size
    by_cases hlt : k < n
    · obtain ⟨b, o, rfl, hbl, hc⟩ := hA.2 (by omega)
      have e0 : wr.cell? ⟨b, o + k, none⟩ = some (.int .i64 (z k)) := (hb.cell (p := ⟨b, o + k, none⟩) hbl).trans (hc k hlt).1
      have hbw : b < wr.heap.size := by omega
      clear hA hc
      have p0 := hP.cell 0
      have p1 := hP.cell 1
      have p2 := hP.frozen 0
      have p3 := hP.frozen 1
      have pk := hP.lt
      simp at p0 p1
      have hP1 := h1
      have hP3 := h2
      by_cases hs : (k : Int) = self
      · have ds : ((k : Int) == self) = true := by simpa using hs
        have Hs := Lib.hid hs
        clear hs
        have dd : decide ((k : Int) = self) = true := by simpa using Hs.out
        go_wp2
        go_roundw
        case rel => exact RoundP.self_ hlt Hs.out hP0
        case measure => simp [intOf]; omega
      · have ds : ((k : Int) == self) = false := by simpa using hs
        have dd : decide ((k : Int) = self) = false := by simpa using hs
        by_cases hg : 0 < z k ∧ ((spr z self machines k).1.length : Int) < machines
        · have Hstep := Lib.hid (fun (wr' : World) (B1 B2 : Option Addr) (d1 d2 : Nat) (h : Pl 27 w wr' B1 B2 d1 d2 ((spr z self machines k).1 ++ [(k : Int)]) (spr z self machines k).2) => RoundP.go_ (len := n) hlt hs hg.1 hg.2 h)
          obtain ⟨hg1, hg2⟩ := hg
          generalize z k = zk at e0 hg1
          generalize (spr z self machines k).1 = gs at *
          generalize (spr z self machines k).2 = is at *
          clear hP0 hR hP h1 h2 hs
          go_wp2_with (at_builtin; refine wpList_app rfl (.tmp 31) (.tmp 33) rfl w.heap.size A1 _ _ gs rfl (hP1.alloc _) _ 1 1 [(k : Int)] rfl (Rd.lit _ _ _) ?c1 ?c2 ?_; (case c1 => omega); (case c2 => (have := hb.size; simp; omega)); intro D d w2 r1 r2 r3; obtain ⟨q0, hP2⟩ := hPl.app1 (by decide) r1 r2 r3; have q1 := q0.cell 0; have q2 := q0.frozen 0; simp at q1)
          go_roundw
          case rel => exact Hstep.out _ _ _ _ _ hP2
          case measure => simp [intOf]; omega
        · have Hstep := Lib.hid (fun (wr' : World) (B1 B2 : Option Addr) (d1 d2 : Nat) (h : Pl 27 w wr' B1 B2 d1 d2 (spr z self machines k).1 ((spr z self machines k).2 ++ [(k : Int)])) => RoundP.idle_ (len := n) hlt hs hg h)
          generalize z k = zk at e0 hg
          generalize (spr z self machines k).1 = gs at *
          generalize (spr z self machines k).2 = is at *
          clear hP0 hR hP h1 h2 hs
          by_cases hz : 0 < zk
          · have hz2 : ¬ (gs.length : Int) < machines := fun h => hg ⟨hz, h⟩
            clear hg
            go_wp2_with (at_builtin; refine wpList_app rfl (.tmp 37) (.tmp 39) rfl w.heap.size A2 _ _ is rfl (hP3.alloc _) _ 1 1 [(k : Int)] rfl (Rd.lit _ _ _) ?c1 ?c2 ?_; (case c1 => omega); (case c2 => (have := hb.size; simp; omega)); intro D d w2 r1 r2 r3; obtain ⟨q0, hP2⟩ := hPl.app2 (by decide) r1 r2 r3; have q1 := q0.cell 1; have q2 := q0.frozen 1; simp at q1)
            go_roundw
            case rel => exact Hstep.out _ _ _ _ _ hP2
            case measure => simp [intOf]; omega
          · clear hg
            go_wp2_with (at_builtin; refine wpList_app rfl (.tmp 37) (.tmp 39) rfl w.heap.size A2 _ _ is rfl (hP3.alloc _) _ 1 1 [(k : Int)] rfl (Rd.lit _ _ _) ?c1 ?c2 ?_; (case c1 => omega); (case c2 => (have := hb.size; simp; omega)); intro D d w2 r1 r2 r3; obtain ⟨q0, hP2⟩ := hPl.app2 (by decide) r1 r2 r3; have q1 := q0.cell 1; have q2 := q0.frozen 1; simp at q1)
            go_roundw
            case rel => exact Hstep.out _ _ _ _ _ hP2
            case measure => simp [intOf]; omega
    · obtain rfl : k = n := by omega
      have r0 := hR.cell 0
      have r1 := hR.cell 1
      have r2 := hR.frozen 0
      have r3 := hR.frozen 1
      have rk := hR.lt
      have p0 := hP.cell 0
      have p1 := hP.cell 1
      have pk := hP.lt
      simp at r0 r1 p0 p1
      go_wp2
      have s0 := (hR.set_ 0 (.slice A1 (spr z self machines k).1.length c1)).cell 0
      have s1 := ((hR.set_ 0 (.slice A1 (spr z self machines k).1.length c1)).set_ 1 (.slice A2 (spr z self machines k).2.length c2)).cell 1
      simp at s0 s1
      refine bodyPost_ret (v := .agg #[.slice A1 (spr z self machines k).1.length c1, .slice A2 (spr z self machines k).2.length c2]) (by simp [results, Try.results7, go_sem, s0, s1]) rfl ⟨A1, c1, A2, c2, rfl, (h1.setCell (p := ⟨w.heap.size, 0, none⟩) (h1.blk_ne hR (by decide)) _).setCell (p := ⟨w.heap.size, 1, none⟩) (h1.blk_ne hR (by decide)) _, (h2.setCell (p := ⟨w.heap.size, 0, none⟩) (h2.blk_ne hR (by decide)) _).setCell (p := ⟨w.heap.size, 1, none⟩) (h2.blk_ne hR (by decide)) _, (hb.setCell (p := ⟨w.heap.size, 0, none⟩) (Nat.le_refl _) _).setCell (p := ⟨w.heap.size, 1, none⟩) (Nat.le_refl _) _⟩
end Go.Proofs.Ytanljdhliaeljaa
