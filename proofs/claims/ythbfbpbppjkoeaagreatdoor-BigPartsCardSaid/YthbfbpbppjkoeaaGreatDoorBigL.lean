/- Contracts of cmp.Or at two strings and of decimal of package big. Conditions: those in the statements. -/
import Derived.Test.YthbfbpbppjkoeaaGreatDoorBigF
import Derived.Test.YthbfbpbppjkoeaaGreatDoorBigJ
import Derived.Test.YthbfbpbppjkoeaaGreatDoorBigPe
import Derived.Lib.OthersKept
namespace Go.Proofs.YthbfbpbppjkoeaaGreatDoor
open Go.RowKit Go.Shelf

set_option maxRecDepth 100000 in
set_option maxHeartbeats 1000000 in
theorem or_c (X : Nat) (a : List UInt8) (w : World) (h0 : w.cell? ⟨X, 0, none⟩ = some (.string ⟨a.toArray⟩)) (h1 : w.cell? ⟨X, 1, none⟩ = some (.string ⟨#[48]⟩)) :
    Calls Tryz.prog 128 #[.slice (some ⟨X, 0, none⟩) 2 2] w fun e w' => e = .returned (.string ⟨(if a = [] then [48] else a).toArray⟩) ∧ w' = w := by
  by_cases ha : a = []
  · subst ha
    rw [if_pos rfl]
    go_enter Tryz.func128, Tryz.ntmps128
    go_wp2
    go_loop [5, 8] (fun _ i => i = .int .i64 0 ∨ i = .int .i64 1) (fun _ i => 2 - (intOf i).toNat)
    case atStart => exact .inl rfl
    case round =>
      rcases hrel with rfl | rfl
      · go_wp2
        go_round
        case rel => exact .inr rfl
        case measure => simp [intOf]
      · go_wp2
        go_ret
        exact ⟨rfl, rfl⟩
  · rw [if_neg ha]
    have d1 : a.isEmpty = false := by simpa using ha
    go_enter Tryz.func128, Tryz.ntmps128
    go_wp2
    go_loop [5, 8] (fun _ i => i = .int .i64 0) (fun _ i => 2 - (intOf i).toNat)
    case atStart => rfl
    case round =>
      obtain rfl := hrel
      go_wp2
      go_ret
      exact ⟨rfl, rfl⟩

theorem builder_turn {B b : Nat} {bs : List Value} {W W' : World} (h : Lib.IsBuilderF 145 5 B b bs W) {row : Option Nat} (hg : W.grownBy W' row) (hr : ∀ r, row = some r → ∃ o : Obj, W.heap[r]? = some o ∧ o.isCells = false) : Lib.IsBuilderF 145 5 B b bs W' := by
  have key : ∀ {p : Value}, Lib.BuilderAtF 145 5 B b p bs W → Lib.BuilderAtF 145 5 B b p bs W' := by
    rintro p ⟨hB, v, hb, hown, hne⟩
    refine ⟨hB, v, (hg.block b (Array.getElem?_eq_some_iff.1 hb).1 (fun e => ?_)).trans hb, hown.kept hg ?_, hne⟩
    · obtain ⟨o, ho, hc⟩ := hr b e.symm
      rw [hb] at ho; cases ho; cases hc
    · cases hv : v.ownBlock with
      | none => exact .inl rfl
      | some g =>
        refine .inr (fun e => ?_)
        obtain ⟨o, ho, hc⟩ := hr g e.symm
        obtain ⟨c, fz, hk⟩ := Lib.ownsRowF_kind hown g hv
        rw [hk] at ho; cases ho; cases hc
  exact h.elim (fun x => .inl (key x)) (fun x => .inr (key x))
theorem builder_below {B b : Nat} {bs : List Value} {W W' : World} (h : Lib.IsBuilderF 145 5 B b bs W) (hb : Below W.heap.size W W') : Lib.IsBuilderF 145 5 B b bs W' := by
  have key : ∀ {p : Value}, Lib.BuilderAtF 145 5 B b p bs W → Lib.BuilderAtF 145 5 B b p bs W' := by
    rintro p ⟨hB, v, hbk, hown, hne⟩
    refine ⟨hB, v, (hb.block b (Array.getElem?_eq_some_iff.1 hbk).1).trans hbk, ⟨hown.1, ?_⟩, hne⟩
    rcases hown.2 with h0 | ⟨g, cap, cur, fz, rfl, h1, h2, h3⟩
    · exact .inl h0
    · exact .inr ⟨g, cap, cur, fz, rfl, h1, (hb.block g (Array.getElem?_eq_some_iff.1 h2).1).trans h2, h3⟩
  exact h.elim (fun x => .inl (key x)) (fun x => .inr (key x))
theorem builder_lt {B b : Nat} {bs : List Value} {W : World} (h : Lib.IsBuilderF 145 5 B b bs W) : b < W.heap.size := h.elim (·.lt) (·.lt)
theorem builder_cells {B b : Nat} {bs : List Value} {W : World} (h : Lib.IsBuilderF 145 5 B b bs W) : ∃ c, W.heap[b]? = some (.cells c 145 (0, 0)) := by
  rcases h with ⟨_, v, hb, _⟩ | ⟨_, v, hb, _⟩ <;> exact ⟨_, hb⟩
theorem others_keep {B b : Nat} {bs : List Value} {W W' : World} (h : Lib.IsBuilderF 145 5 B b bs W) (ho : Lib.OthersKept 5 (some b) W W') (hs : W.heap.size ≤ W'.heap.size) : KeepsOthers W W' :=
  ⟨hs, fun k o hk hc => ho k o hk (fun e => by
    obtain ⟨c, hb⟩ := builder_cells h
    injection e with e
    subst e
    rw [hb] at hk; cases hk; cases hc) (fun c fz e => by subst e; cases hc)⟩

/-- Between two digits that are written. -/
structure DS (B b Bs : Nat) (txt : List UInt8) (vS : Value) (w Ws W : World) : Prop where
  bd : Lib.IsBuilderF 145 5 B b (Lib.byteCells txt) W
  ne : Bs ≠ b
  bS : Boxed W Bs 59 vS
  below : Below B w W
  k : KeepsOthers Ws W
  kb : KeepB B Bs Ws W
theorem DS.turn {B b Bs : Nat} {txt : List UInt8} {vS : Value} {w W W' : World} (h : DS B b Bs txt vS w W W) {row : Option Nat} (hg : W.grownBy W' row) (hr : ∀ r, row = some r → B ≤ r ∧ ∃ o : Obj, W.heap[r]? = some o ∧ o.isCells = false) (hB : B ≤ W.heap.size) : DS B b Bs txt vS w W' W' where
  bd := builder_turn h.bd hg (fun r e => (hr r e).2)
  ne := h.ne
  bS := h.bS.kept hg (fun e => by obtain ⟨o, ho, hc⟩ := (hr _ e.symm).2; rw [show W.heap[Bs]? = _ from h.bS] at ho; cases ho; cases hc)
  below := h.below.grown hg hB (fun k e => (hr k e).1)
  k := KeepsOthers.refl _
  kb := KeepB.refl _ _ _
theorem DS.next {B b Bs : Nat} {txt : List UInt8} {vS : Value} {w Ws W W' : World} (h : DS B b Bs txt vS w Ws W) (hb : Below W.heap.size W W') (hB : B ≤ W.heap.size) : DS B b Bs txt vS w Ws W' where
  bd := builder_below h.bd hb
  ne := h.ne
  bS := (hb.block Bs h.bS.lt).trans h.bS
  below := h.below.trans (hb.mono hB)
  k := h.k.trans (KeepsOthers.of_below hb)
  kb := h.kb.trans (fun b hb' => hb.block b (by rcases hb' with h1 | h1; omega; rw [h1]; exact h.bS.lt))
theorem DS.write {B b Bs : Nat} {txt m : List UInt8} {vS : Value} {w Ws W W' : World} (h : DS B b Bs txt vS w Ws W) (hbd : Lib.IsBuilderF 145 5 B b (Lib.byteCells (txt ++ m)) W') (hb : Below B W W') (ho : Lib.OthersKept 5 (some b) W W') : DS B b Bs (txt ++ m) vS w Ws W' where
  bd := hbd
  ne := h.ne
  bS := ho Bs _ h.bS (fun e => h.ne (Option.some.inj e)) (fun c fz e => by cases e)
  below := h.below.trans hb
  k := h.k.trans (others_keep h.bd ho hb.size)
  kb := h.kb.trans (fun k hk => by
    rcases hk with h1 | rfl
    · exact hb.block k h1
    · exact (ho k _ h.bS (fun e => h.ne (Option.some.inj e)) (fun c fz e => by cases e)).trans (show W.heap[k]? = _ from h.bS).symm)
end Go.Proofs.YthbfbpbppjkoeaaGreatDoor
