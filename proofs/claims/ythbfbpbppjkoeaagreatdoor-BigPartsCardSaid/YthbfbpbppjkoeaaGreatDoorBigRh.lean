/- A drawn region, move by move: the loads first, then what is left, and a panic may close it. -/
import Derived.Test.YthbfbpbppjkoeaaGreatDoorBigQ
import Derived.Deep.DrawnRows
namespace Go.Proofs.YthbfbpbppjkoeaaGreatDoor
open Go.RowKit Go.Shelf

/-- The operation with this number, told by what is left of the list. -/
theorem AllReadyH.one {P : Program} {ops : Array Oper} {Q : Exit → Act → World → Prop} {md : Region.Mode} {S : World → Prop} {fuel : Nat} {listed : Array Bool} {a : Act} {w : World} {i : Nat} {o : Oper} {rest : List Oper} {rs : List Nat} (ho : ops.toList.drop i = o :: rest)
    (h : ∀ K' : Act → World → Prop, Shut (∀ a w, S w → (S w → wpAnyH P md ops Q S fuel (listed.setIfInBounds i true) a w) → K' a w) → if Region.wanted o (yielded ops a.tmps) = true then Oper.wp P o a w K' Q else K' (a.put o.dst undef) w)
    (hs : AllReadyH P md ops Q S fuel listed a w rs) : AllReadyH P md ops Q S fuel listed a w (i :: rs) := by
  refine AllReadyH.cons (o := o) ?_ h hs
  have e : (ops.toList.drop i)[0]? = some o := by rw [ho]; rfl
  rw [List.getElem?_drop, Nat.add_zero] at e
  rw [← Array.getElem?_toList]
  exact e
/-- What is kept in a region: the first two boxes, and what was there before. -/
def S2 (w : World) (u v x y : Value) (W : World) : Prop := W.cell? ⟨w.heap.size, 0, none⟩ = some u ∧ W.cell? ⟨w.heap.size, 1, none⟩ = some v ∧ W.cell? ⟨w.heap.size + 1, 0, none⟩ = some x ∧ W.cell? ⟨w.heap.size + 1, 1, none⟩ = some y ∧ Below w.heap.size w W ∧ w.heap.size + 2 ≤ W.heap.size
theorem S2.mk {w W : World} {u v x y : Value} (hA : NB W w.heap.size u v) (hB : NB W (w.heap.size + 1) x y) (hb : Below w.heap.size w W) : S2 w u v x y W := ⟨hA.c0, hA.c1, hB.c0, hB.c1, hb, by have := hB.lt; omega⟩
theorem S2.put {w W : World} {u v x y : Value} (h : S2 w u v x y W) (B : Nat) (hB : w.heap.size + 2 ≤ B) (p q : Value) : S2 w u v x y ((W.setCell ⟨B, 0, none⟩ p).setCell ⟨B, 1, none⟩ q) := by
  obtain ⟨h1, h2, h3, h4, h5, h6⟩ := h
  refine ⟨?_, ?_, ?_, ?_, below_put h5 (by omega) _ _, by simpa [World.setCell] using h6⟩
  all_goals
    rw [World.cell?_setCell_far _ _ _ _ (by simp; omega), World.cell?_setCell_far _ _ _ _ (by simp; omega)]
    assumption
theorem boxes3 (w : World) (u v x y p q : Value) :
    NB (((w.alloc (.cells #[u, v] 61)).alloc (.cells #[x, y] 61)).alloc (.cells #[p, q] 61)) w.heap.size u v ∧
    NB (((w.alloc (.cells #[u, v] 61)).alloc (.cells #[x, y] 61)).alloc (.cells #[p, q] 61)) (w.heap.size + 1) x y ∧
    NB (((w.alloc (.cells #[u, v] 61)).alloc (.cells #[x, y] 61)).alloc (.cells #[p, q] 61)) (w.heap.size + 1 + 1) p q ∧
    Below w.heap.size w (((w.alloc (.cells #[u, v] 61)).alloc (.cells #[x, y] 61)).alloc (.cells #[p, q] 61)) := by
  refine ⟨((NB.new w u v).alloc _).alloc _, NB.alloc (show NB ((w.alloc (.cells #[u, v] 61)).alloc (.cells #[x, y] 61)) (w.heap.size + 1) x y from heap2 _ _ _) _, ?_, (((Below.refl _ w).alloc (Nat.le_refl _) _).alloc (by simp) _).alloc (by simp; omega) _⟩
  have := NB.new ((w.alloc (.cells #[u, v] 61)).alloc (.cells #[x, y] 61)) p q
  rwa [World.size_alloc, World.size_alloc] at this

theorem boxes2 (w : World) (u v x y : Value) :
    NB ((w.alloc (.cells #[u, v] 61)).alloc (.cells #[x, y] 61)) w.heap.size u v ∧
    NB ((w.alloc (.cells #[u, v] 61)).alloc (.cells #[x, y] 61)) (w.heap.size + 1) x y ∧
    Below w.heap.size w ((w.alloc (.cells #[u, v] 61)).alloc (.cells #[x, y] 61)) :=
  ⟨(NB.new w u v).alloc _, heap2 _ _ _, ((Below.refl _ w).alloc (Nat.le_refl _) _).alloc (by simp) _⟩

/-- What is kept in a region: two boxes, and what was there before the call. -/
def SM (m n : Nat) (w : World) (u v x y : Value) (W : World) : Prop := W.cell? ⟨m, 0, none⟩ = some u ∧ W.cell? ⟨m, 1, none⟩ = some v ∧ W.cell? ⟨m + 1, 0, none⟩ = some x ∧ W.cell? ⟨m + 1, 1, none⟩ = some y ∧ Below n w W ∧ m + 2 ≤ W.heap.size
theorem SM.mk {m n : Nat} {w W : World} {u v x y : Value} (hA : NB W m u v) (hB : NB W (m + 1) x y) (hb : Below n w W) : SM m n w u v x y W := ⟨hA.c0, hA.c1, hB.c0, hB.c1, hb, by have := hB.lt; omega⟩
theorem SM.kept {m n : Nat} (hn : n ≤ m) {w W W' : World} {u v x y : Value} (h : SM m n w u v x y W) (hb : Below W.heap.size W W') : SM m n w u v x y W' := by
  obtain ⟨h1, h2, h3, h4, h5, h6⟩ := h
  exact ⟨(hb.cell (p := ⟨m, 0, none⟩) (by simp; omega)).trans h1, (hb.cell (p := ⟨m, 1, none⟩) (by simp; omega)).trans h2, (hb.cell (p := ⟨m + 1, 0, none⟩) (by simp; omega)).trans h3, (hb.cell (p := ⟨m + 1, 1, none⟩) (by simp; omega)).trans h4, h5.trans (hb.mono (by omega)), Nat.le_trans h6 hb.size⟩
theorem SM.put {m n : Nat} {w W : World} {u v x y : Value} (h : SM m n w u v x y W) (B : Nat) (h1 : B ≠ m) (h2 : B ≠ m + 1) (hB : n ≤ B) (p q : Value) : SM m n w u v x y ((W.setCell ⟨B, 0, none⟩ p).setCell ⟨B, 1, none⟩ q) := by
  obtain ⟨h1, h2, h3, h4, h5, h6⟩ := h
  refine ⟨?_, ?_, ?_, ?_, below_put h5 (by omega) _ _, by simpa [World.setCell] using h6⟩
  all_goals
    rw [World.cell?_setCell_far _ _ _ _ (by simp; omega), World.cell?_setCell_far _ _ _ _ (by simp; omega)]
    assumption

theorem boxes4 (w : World) (u v x y p q s t : Value) :
    NB ((((w.alloc (.cells #[u, v] 61)).alloc (.cells #[x, y] 61)).alloc (.cells #[p, q] 61)).alloc (.cells #[s, t] 61)) w.heap.size u v ∧
    NB ((((w.alloc (.cells #[u, v] 61)).alloc (.cells #[x, y] 61)).alloc (.cells #[p, q] 61)).alloc (.cells #[s, t] 61)) (w.heap.size + 1) x y ∧
    NB ((((w.alloc (.cells #[u, v] 61)).alloc (.cells #[x, y] 61)).alloc (.cells #[p, q] 61)).alloc (.cells #[s, t] 61)) (w.heap.size + 1 + 1) p q ∧
    NB ((((w.alloc (.cells #[u, v] 61)).alloc (.cells #[x, y] 61)).alloc (.cells #[p, q] 61)).alloc (.cells #[s, t] 61)) (w.heap.size + 1 + 1 + 1) s t ∧
    Below w.heap.size w ((((w.alloc (.cells #[u, v] 61)).alloc (.cells #[x, y] 61)).alloc (.cells #[p, q] 61)).alloc (.cells #[s, t] 61)) := by
  obtain ⟨h1, h2, h3, h4⟩ := boxes3 w u v x y p q
  refine ⟨h1.alloc _, h2.alloc _, h3.alloc _, ?_, h4.alloc (by simp; omega) _⟩
  have := NB.new (((w.alloc (.cells #[u, v] 61)).alloc (.cells #[x, y] 61)).alloc (.cells #[p, q] 61)) s t
  rwa [World.size_alloc, World.size_alloc, World.size_alloc] at this

/-- What is kept in a region: three boxes, and what was there before the call. -/
def S3 (n A B C : Nat) (w : World) (u v x y p q : Value) (W : World) : Prop := W.cell? ⟨A, 0, none⟩ = some u ∧ W.cell? ⟨A, 1, none⟩ = some v ∧ W.cell? ⟨B, 0, none⟩ = some x ∧ W.cell? ⟨B, 1, none⟩ = some y ∧ W.cell? ⟨C, 0, none⟩ = some p ∧ W.cell? ⟨C, 1, none⟩ = some q ∧ Below n w W ∧ A < W.heap.size ∧ B < W.heap.size ∧ C < W.heap.size
theorem S3.mk {n A B C : Nat} {w W : World} {u v x y p q : Value} (hA : NB W A u v) (hB : NB W B x y) (hC : NB W C p q) (hb : Below n w W) : S3 n A B C w u v x y p q W := ⟨hA.c0, hA.c1, hB.c0, hB.c1, hC.c0, hC.c1, hb, hA.lt, hB.lt, hC.lt⟩
theorem S3.kept {n A B C : Nat} {w W W' : World} {u v x y p q : Value} (h : S3 n A B C w u v x y p q W) (hn : n ≤ W.heap.size) (hb : Below W.heap.size W W') : S3 n A B C w u v x y p q W' := by
  obtain ⟨h1, h2, h3, h4, h5, h6, h7, a1, a2, a3⟩ := h
  exact ⟨(hb.cell (p := ⟨A, 0, none⟩) a1).trans h1, (hb.cell (p := ⟨A, 1, none⟩) a1).trans h2, (hb.cell (p := ⟨B, 0, none⟩) a2).trans h3, (hb.cell (p := ⟨B, 1, none⟩) a2).trans h4, (hb.cell (p := ⟨C, 0, none⟩) a3).trans h5, (hb.cell (p := ⟨C, 1, none⟩) a3).trans h6, h7.trans (hb.mono hn), Nat.lt_of_lt_of_le a1 hb.size, Nat.lt_of_lt_of_le a2 hb.size, Nat.lt_of_lt_of_le a3 hb.size⟩
theorem S3.put {n A B C : Nat} {w W : World} {u v x y p q : Value} (h : S3 n A B C w u v x y p q W) (D : Nat) (d1 : D ≠ A) (d2 : D ≠ B) (d3 : D ≠ C) (hD : n ≤ D) (s t : Value) : S3 n A B C w u v x y p q ((W.setCell ⟨D, 0, none⟩ s).setCell ⟨D, 1, none⟩ t) := by
  obtain ⟨h1, h2, h3, h4, h5, h6, h7, a1, a2, a3⟩ := h
  refine ⟨?_, ?_, ?_, ?_, ?_, ?_, below_put h7 hD _ _, by simpa [World.setCell] using a1, by simpa [World.setCell] using a2, by simpa [World.setCell] using a3⟩
  all_goals
    rw [World.cell?_setCell_far _ _ _ _ (by simp; omega), World.cell?_setCell_far _ _ _ _ (by simp; omega)]
    assumption
end Go.Proofs.YthbfbpbppjkoeaaGreatDoor
