/- Slices of integers that a call has left; what the contracts of package big speak with. No conditions. -/
import Derived.Test.YthbfbpbppjkoeaaGreatDoorBigPc
import Derived.Test.YthbfbpbppjkoeaaGreatDoorProg
import Derived.RangeFuncNested
import Derived.RangeFuncBound
import Derived.RangeFuncCalls
import Derived.RangeFuncLeaves
import Derived.Shelf.Abstract
import Derived.WalkKit
import Derived.WalkSpells
import Derived.OwnWalk
import Derived.OwnWalkIn
import Derived.TacticsInMore
import Derived.LoopNIn
import Derived.LoopIn
import Derived.Lib.Hide
import Derived.BigQuiet
import Derived.Deep.QuietTactic
import Derived.Deep.RegionHeld3
namespace Go.Proofs.YthbfbpbppjkoeaaGreatDoor
open Go.RowKit

theorem ret_bool {a b : Bool} (h : a = b) : Ending.returned (.bool a) = .returned (.bool b) := by rw [h]
theorem ret_int {k : IntKind} {a b : Int} (h : a = b) : Ending.returned (.int k a) = .returned (.int k b) := by rw [h]
theorem ret_str {a b : List UInt8} (h : a = b) : Ending.returned (.string ⟨a.toArray⟩) = .returned (.string ⟨b.toArray⟩) := by rw [h]

/-- At a slice's address a list of integers lies. -/
def IntAt (w : World) (o : Option Addr) (l : List Int) : Prop :=
  ∀ (k : Nat) n, l[k]? = some n → ∃ b, o = some ⟨b, 0, none⟩ ∧ b < w.heap.size ∧ w.cell? ⟨b, k, none⟩ = some (.int .i64 n)
theorem IntAt.mono {w w' : World} {o : Option Addr} {l : List Int} (h : IntAt w o l) (hb : Below w.heap.size w w') : IntAt w' o l := by
  intro k n hn
  obtain ⟨b, e, hl, hc⟩ := h k n hn
  exact ⟨b, e, Nat.lt_of_lt_of_le hl hb.size, (hb.cell (p := ⟨b, _, none⟩) hl).trans hc⟩
theorem IntAt.nil (w : World) (o : Option Addr) : IntAt w o [] := fun k n h => by simp at h
theorem IntAt.get {w : World} {o : Option Addr} {l : List Int} (h : IntAt w o l) {k : Nat} (hk : k < l.length) : ∃ b, o = some ⟨b, 0, none⟩ ∧ b < w.heap.size ∧ w.cell? ⟨b, k, none⟩ = some (.int .i64 l[k]) :=
  h k _ (List.getElem?_eq_getElem hk)
theorem IntAt.take {w : World} {o : Option Addr} {l : List Int} (h : IntAt w o l) (m : Nat) : IntAt w o (l.take m) := by
  intro k n hn
  rw [List.getElem?_take] at hn
  split at hn
  · exact h k n hn
  · cases hn
theorem IntAt.lt {w : World} {o : Option Addr} {l : List Int} (h : IntAt w o l) (hp : 0 < l.length) (b : Nat) (e : o = some ⟨b, 0, none⟩) : b < w.heap.size := by
  obtain ⟨b', e', hb', _⟩ := h.get hp
  rw [e] at e'
  injection e' with e'
  injection e' with e'
  omega
/-- A value that holds a list of integers. -/
def IntsV (w : World) (v : Value) (l : List Int) : Prop := ∃ o c, v = .slice o l.length c ∧ IntAt w o l
theorem IntsV.mono {w w' : World} {v : Value} {l : List Int} (h : IntsV w v l) (hb : Below w.heap.size w w') : IntsV w' v l := by
  obtain ⟨o, c, e, h⟩ := h
  exact ⟨o, c, e, h.mono hb⟩
theorem intAt_owns {w : World} {base e n : Nat} {o : Option Addr} {c : Nat} {l : List Int} (h : w.ownsRow base e 1 (.slice o n c) n (l.map (Value.int .i64))) : IntAt w o l := by
  intro k x hx
  have hk : k < l.length := (List.getElem?_eq_some_iff.1 hx).1
  have h1 := h.1
  rw [List.length_map, Nat.mul_one] at h1
  rcases h.2 with ⟨hv, h0⟩ | ⟨g, cap, cur, hv, hg, hgb, hrest⟩
  · omega
  · injection hv with e1 e2 e3
    refine ⟨g, e1, (Array.getElem?_eq_some_iff.1 hgb).1, ?_⟩
    subst e1
    rw [h.cellAt k (by omega), List.getElem?_map, hx]
    rfl
theorem intsV_owns {w : World} {base e : Nat} {o : Option Addr} {n c : Nat} {l : List Int} (h : w.ownsRow base e 1 (.slice o n c) n (l.map (Value.int .i64))) : IntsV w (.slice o n c) l := by
  have h1 := h.1
  rw [List.length_map, Nat.mul_one] at h1
  exact ⟨o, c, by rw [h1], intAt_owns h⟩
/-- What a loop's body keeps for an iterator: the blocks below a number, and one box more. -/
def KeepB (n₀ Bs : Nat) (W W' : World) : Prop := ∀ b, b < n₀ ∨ b = Bs → W'.heap[b]? = W.heap[b]?
theorem KeepB.refl (n₀ Bs : Nat) (W : World) : KeepB n₀ Bs W W := fun _ _ => rfl
theorem KeepB.trans {n₀ Bs : Nat} {A B C : World} (h : KeepB n₀ Bs A B) (k : KeepB n₀ Bs B C) : KeepB n₀ Bs A C := fun b hb => (k b hb).trans (h b hb)
theorem KeepB.cell {n₀ Bs : Nat} {A B : World} (h : KeepB n₀ Bs A B) {b o : Nat} (hb : b < n₀ ∨ b = Bs) : B.cell? ⟨b, o, none⟩ = A.cell? ⟨b, o, none⟩ := World.cell?_of_block (w := A) (h b hb)
theorem KeepB.b {n₀ Bs : Nat} {w : World} (hn : n₀ ≤ w.heap.size) (hB : Bs < w.heap.size) (W : World) (l : Nat) (o o' : Obj) (hl : w.heap.size ≤ l) (_ : W.heap[l]? = some o) (_ : o.isCells = false) (_ : o.isWalk = false) : KeepB n₀ Bs W (W.putObj l o') :=
  fun b hb => World.putObj_heap_other (by omega)
/-- A list of integers has been returned. -/
def RetInts (l : List Int) (w : World) (e : Ending) (w' : World) : Prop := ∃ o c, e = .returned (.slice o l.length c) ∧ IntAt w' o l ∧ Below w.heap.size w w' ∧ ∀ b, o = some ⟨b, 0, none⟩ → w.heap.size ≤ b
/-- An integer's element. -/
theorem info_int : (Tryz.prog.info? 3).map (fun i => (i.zero, i.size, i.bytes)) = some (some (.int .i64 0), 1, 8) := by kernel_rfl
end Go.Proofs.YthbfbpbppjkoeaaGreatDoor
