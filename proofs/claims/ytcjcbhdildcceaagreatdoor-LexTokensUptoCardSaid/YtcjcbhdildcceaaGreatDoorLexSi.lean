/- Contract of SameInts of the specification's package; slices of tokens and of integers that a call has left. Conditions: those in the statements. -/
import Derived.Test.YtcjcbhdildcceaaGreatDoorLexPr
import Derived.Test.YtcjcbhdildcceaaGreatDoorLexEn
namespace Go.Proofs.YtcjcbhdildcceaaGreatDoor
open Go.RowKit

/-- A slice's address at which a list of integers lies. -/
def IntAt (w : World) (o : Option Addr) (l : List Int) : Prop :=
  ∀ k n, l[k]? = some n → ∃ b a, o = some ⟨b, a, none⟩ ∧ b < w.heap.size ∧ w.cell? ⟨b, a + k, none⟩ = some (.int .i64 n)
theorem intAt_mono {w w' : World} {o : Option Addr} {l : List Int} (h : IntAt w o l) (hb : Below w.heap.size w w') : IntAt w' o l := by
  intro k n hn
  obtain ⟨b, a, e, hl, hc⟩ := h k n hn
  exact ⟨b, a, e, Nat.lt_of_lt_of_le hl hb.size, (hb.cell (p := ⟨b, _, none⟩) hl).trans hc⟩
theorem take_ne {α : Type} {a b : List α} {k : Nat} {x y : α} (hx : a[k]? = some x) (hy : b[k]? = some y) (h : x ≠ y) : a ≠ b := by
  rintro rfl
  rw [hx] at hy; injection hy with hy; exact h hy
theorem take_step {α : Type} {a b : List α} {k : Nat} {x : α} (hx : a[k]? = some x) (hy : b[k]? = some x) (h : a.take k = b.take k) : a.take (k + 1) = b.take (k + 1) := by
  rw [List.take_add_one, List.take_add_one, h, hx, hy]

set_option maxHeartbeats 4000000 in
set_option maxRecDepth 100000 in
theorem sameInts_c (x y : List Int) (o o' : Option Addr) (c c' : Nat) (w : World) (h : IntAt w o x) (h' : IntAt w o' y) (hn : x.length ≤ 1000000) :
    Calls Tryz.prog 12 #[.slice o x.length c, .slice o' y.length c'] w fun e w' => e = .returned (.bool (decide (x = y))) ∧ Below w.heap.size w w' := by
  have HA := Lib.hid h
  have HB := Lib.hid h'
  clear h h'
  by_cases hl : x.length = y.length
  · have dl : ((x.length : Int) != (y.length : Int)) = false := by rw [hl]; simp
    have HL := Lib.hid hl
    clear hl
    go_enter Tryz.func12, Tryz.ntmps12
    go_wp2_with fail
    go_loopg [5] x.length (fun g i wr => ∃ k : Nat, k ≤ x.length ∧ i = .int .i64 k ∧ Hid (x.take k = y.take k) ∧ Hid (Below w.heap.size w wr) ∧ g = x.length - k)
    case atStart => exact ⟨0, Nat.zero_le _, rfl, Lib.hid rfl, Lib.hid (Below.refl _ _), rfl⟩
    case round =>
      obtain ⟨k, hk, rfl, HK, HW, hg⟩ := hrel
      by_cases hE : k = x.length
      · have dE : decide ((k : Int) < (x.length : Int)) = false := decide_eq_false (by omega)
        have HX := Lib.hid (show decide (x = y) = true by
          have := HK.out
          rw [hE, List.take_length] at this
          rw [HL.out, List.take_length] at this
          exact decide_eq_true this)
        have HE := Lib.hid hE
        clear hE
        go_wp2_with fail
        all_goals (try (exfalso; have := HE.out; omega))
        refine bodyPost_ret (v := .bool true) ?_ rfl ⟨by rw [HX.out], HW.out⟩
        simp [results, Tryz.results12, go_sem]
      · have hlt : k < x.length := by omega
        have hlt2 : k < y.length := by have := HL.out; omega
        have dE : decide ((k : Int) < (x.length : Int)) = true := decide_eq_true (by omega)
        obtain ⟨p, hp⟩ : ∃ p, x[k]? = some p := ⟨_, List.getElem?_eq_getElem hlt⟩
        obtain ⟨q, hq⟩ : ∃ q, y[k]? = some q := ⟨_, List.getElem?_eq_getElem hlt2⟩
        obtain ⟨b, a, rfl, hb, x0⟩ := HA.out k p hp
        obtain ⟨b', a', rfl, hb', y0⟩ := HB.out k q hq
        replace x0 := (HW.out.cell (p := ⟨b, _, none⟩) hb).trans x0
        replace y0 := (HW.out.cell (p := ⟨b', _, none⟩) hb').trans y0
        by_cases hpq : p = q
        · subst hpq
          have d : (p != p) = false := by simp
          have HK2 := Lib.hid (take_step hp hq HK.out)
          clear hp hq hE
          go_wp2_with fail
          go_quiet (fail)
          have HW2 := Lib.hid (below_dn HW.out nq)
          go_wp2_with fail
          go_roundg (x.length - (k + 1))
          case rel => exact ⟨k + 1, by omega, rfl, HK2, HW2, rfl⟩
          case measure => omega
        · have d : (p != q) = true := bne_iff_ne.2 hpq
          have HX := Lib.hid (show decide (x = y) = false from decide_eq_false (take_ne hp hq hpq))
          clear hp hq hE hpq
          go_wp2_with fail
          go_quiet (fail)
          have HW2 := Lib.hid (below_dn HW.out nq)
          go_wp2_with fail
          refine bodyPost_ret (v := .bool false) ?_ rfl ⟨by rw [HX.out], HW2.out⟩
          simp [results, Tryz.results12, go_sem]
  · have dl : ((x.length : Int) != (y.length : Int)) = true := bne_iff_ne.2 (by omega)
    have HX := Lib.hid (show decide (x = y) = false from decide_eq_false (fun e => hl (by rw [e])))
    clear hl
    go_enter Tryz.func12, Tryz.ntmps12
    go_wp2_with fail
    refine bodyPost_ret (v := .bool false) ?_ rfl ⟨by rw [HX.out], Below.refl _ _⟩
    simp [results, Tryz.results12, go_sem]

/-- A token that was read, as a list holds it. -/
def Lx.Sp.tok (t : Sp) : Tk := ⟨t.kind, t.text, t.line, t.col⟩
def Lx.toks (l : List Sp) : List Tk := l.map Sp.tok
theorem toks_len (l : List Lx.Sp) : (Lx.toks l).length = l.length := List.length_map ..
theorem toks_at (l : List Lx.Sp) (k : Nat) : (Lx.toks l)[k]? = l[k]?.map Lx.Sp.tok := List.getElem?_map ..
def Lx.endsOf (l : List Sp) : List Int := l.map fun t => (t.to : Int)
theorem endsOf_len (l : List Lx.Sp) : (Lx.endsOf l).length = l.length := List.length_map ..
theorem endsOf_at (l : List Lx.Sp) (k : Nat) : (Lx.endsOf l)[k]? = l[k]?.map fun t => (t.to : Int) := List.getElem?_map ..
theorem tkCells_at : ∀ (l : List Lx.Sp) (k j : Nat) (t : Lx.Sp), l[k]? = some t → j < 4 → (tkCells l)[k * 4 + j]? = t.tk[j]?
  | [], k, j, t, h, _ => by simp at h
  | a :: l, 0, j, t, h, hj => by
    simp at h; subst h
    simp only [tkCells, List.flatMap_cons, Nat.zero_mul, Nat.zero_add]
    rw [List.getElem?_append_left (by simpa [Lx.Sp.tk] using hj)]
  | a :: l, k + 1, j, t, h, hj => by
    have ih := tkCells_at l k j t (by simpa using h) hj
    simp only [tkCells, List.flatMap_cons] at ih ⊢
    rw [List.getElem?_append_right (by simp [Lx.Sp.tk]; omega), ← ih]
    congr 1
    simp [Lx.Sp.tk]; omega
theorem add_plain (g j : Nat) : ((⟨g, 0, none⟩ : Addr).add j) = ⟨g, j, none⟩ := by unfold Addr.add; split <;> simp_all
/-- What Lex has left is a slice at which the tokens lie. -/
theorem slice_of_lex {w : World} {B : Nat} {v : Value} {l : List Lx.Sp} (h : w.ownsRow B 45 4 v l.length (tkCells l)) :
    ∃ o c, v = .slice o (Lx.toks l).length c ∧ TokAt w o (Lx.toks l) ∧ l.length ≤ c ∧ c ≤ maxLen ∧ ((o = none ∧ c = 0) ∨ ∃ g, o = some ⟨g, 0, none⟩ ∧ B ≤ g ∧ g < w.heap.size) := by
  rw [toks_len]
  rcases h.2 with ⟨rfl, h0⟩ | ⟨g, c, cur, hv, hbg, hg, hnc, hcm, hcs, htk⟩
  · refine ⟨none, 0, by rw [h0], ?_, by omega, by simp [maxLen], .inl ⟨rfl, rfl⟩⟩
    intro k t ht
    have := (List.getElem?_eq_some_iff.1 ht).1
    rw [toks_len] at this; omega
  · have hlt : g < w.heap.size := (Array.getElem?_eq_some_iff.1 hg).1
    refine ⟨_, _, hv, ?_, hnc, hcm, .inr ⟨g, rfl, hbg, hlt⟩⟩
    intro k t ht
    rw [toks_at] at ht
    obtain ⟨u, hu, rfl⟩ := Option.map_eq_some_iff.1 ht
    subst hv
    have hc : ∀ j v, j < 4 → u.tk[j]? = some v → w.cell? ⟨g, k * 4 + j, none⟩ = some v := fun j v hj hv => by
      rw [← add_plain]
      exact h.cells (g := g) rfl _ _ ((tkCells_at l k j u hu hj).trans hv)
    exact ⟨g, 0, rfl, hlt, by rw [Nat.zero_add]; exact hc 0 _ (by decide) rfl, by rw [Nat.zero_add]; exact hc 1 _ (by decide) rfl, by rw [Nat.zero_add]; exact hc 2 _ (by decide) rfl, by rw [Nat.zero_add]; exact hc 3 _ (by decide) rfl⟩
/-- What Ends has left is a slice at which the indices lie. -/
theorem slice_of_ends {w : World} {B : Nat} {v : Value} {l : List Lx.Sp} (h : w.ownsRow B 3 1 v l.length (endCells l)) :
    ∃ o c, v = .slice o (Lx.endsOf l).length c ∧ IntAt w o (Lx.endsOf l) := by
  rw [endsOf_len]
  rcases h.2 with ⟨rfl, h0⟩ | ⟨g, c, cur, hv, hbg, hg, hnc, hcm, hcs, htk⟩
  · refine ⟨none, 0, by rw [h0], ?_⟩
    intro k t ht
    have := (List.getElem?_eq_some_iff.1 ht).1
    rw [endsOf_len] at this; omega
  · have hlt : g < w.heap.size := (Array.getElem?_eq_some_iff.1 hg).1
    refine ⟨_, _, hv, ?_⟩
    intro k t ht
    rw [endsOf_at] at ht
    obtain ⟨u, hu, rfl⟩ := Option.map_eq_some_iff.1 ht
    subst hv
    refine ⟨g, 0, rfl, hlt, ?_⟩
    rw [Nat.zero_add, ← add_plain]
    exact h.cells (g := g) rfl k _ (by unfold endCells; rw [List.getElem?_map, hu]; rfl)
end Go.Proofs.YtcjcbhdildcceaaGreatDoor
