/- A region that draws its order, whose operations only read and whose callees leave what was there before: one walk in the order of the text. Conditions: those in the statements. -/
import Derived.Test.YthbfbpbppjkoeaaGreatDoorBigLt
import Derived.Test.YthbfbpbppjkoeaaGreatDoorBigRh
import Derived.Deep.Quiet
namespace Go.Proofs.YthbfbpbppjkoeaaGreatDoor
open Go.RowKit Go.Shelf

theorem quiet_wanted {P : Program} {ops : Array Oper} {C : World → Prop} {Q : Act → Prop} {a : Act} {o : Oper} {rest : List Oper} {v : Value}
    (hw : Region.wanted o (yielded ops a.tmps) = true) (hv : ∀ W, C W → o.quietAt P a C W v) (h : wpQuiet P ops C Q rest (a.put o.dst v)) : wpQuiet P ops C Q (o :: rest) a := by
  unfold wpQuiet; rw [if_pos hw]; exact ⟨v, hv, h⟩
theorem quiet_unwanted {P : Program} {ops : Array Oper} {C : World → Prop} {Q : Act → Prop} {a : Act} {o : Oper} {rest : List Oper}
    (hw : Region.wanted o (yielded ops a.tmps) = false) (h : wpQuiet P ops C Q rest (a.put o.dst undef)) : wpQuiet P ops C Q (o :: rest) a := by
  unfold wpQuiet; rw [if_neg (by rw [hw]; decide)]; exact h
/-- From the world U on: what was there is there. -/
def Grown (U W : World) : Prop := Below U.heap.size U W
theorem Grown.trans {U W W' : World} (h : Grown U W) (hb : Below W.heap.size W W') : Grown U W' := Below.trans h (hb.mono (Below.size h))
theorem region_grown {id : Nat} {Q : Exit → Act → World → Prop} {a : Act} {w : World} {l : List Oper} (hB : Region.lexB .any l.toArray = true)
    (h : wpQuiet Tryz.prog l.toArray (Grown w) (fun a' => ∀ w', Grown w w' → Q .normal a' w') l a) : (Code.region id l.toArray true).wp Tryz.prog Q a w :=
  wp_region_quiet (C := Grown w) (by kernel_rfl) hB ((Below.refl w.heap.size w).drew) (by simpa using h)
end Go.Proofs.YthbfbpbppjkoeaaGreatDoor
