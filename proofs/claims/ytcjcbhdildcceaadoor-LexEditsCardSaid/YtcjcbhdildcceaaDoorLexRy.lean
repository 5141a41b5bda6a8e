/- Contracts, joined of several texts: Pq, Rv, Re, Wt, Eq. Conditions: those in the statements. -/
import Derived.Test.YtcjcbhdildcceaaDoorLexPk
import Derived.Test.YtcjcbhdildcceaaDoorLexRz
import Derived.Test.YtcjcbhdildcceaaDoorLexEd
import Derived.BigQuiet
import Derived.Test.YtcjcbhdildcceaaDoorLexRp
import Derived.Test.YtcjcbhdildcceaaDoorLexPw
import Derived.Test.YtcjcbhdildcceaaDoorLexAk
/- Plain truths: how many tokens stay at the end of an edited text, counted one by one. Nothing is said of the program here. -/
namespace Go.Proofs.YtcjcbhdildcceaaDoor
set_option linter.unusedVariables false

/-- Whether a token behind the change is the same in the new text. -/
def Lx.stay (b n n' : Int) (x y : Lx.Sp) : Bool := ((x.kind : Int) == (y.kind : Int)) && (x.text == y.text) && !(decide ((x.frm : Int) < b)) && (n - (x.frm : Int) == n' - (y.frm : Int))

theorem rev_at {α : Type} (l : List α) (k : Nat) (x : α) (h : l.reverse[k]? = some x) : k < l.length ∧ l[l.length - 1 - k]? = some x := by
  have hk : k < l.reverse.length := (List.getElem?_eq_some_iff.1 h).1
  rw [List.length_reverse] at hk
  rw [List.getElem?_reverse hk] at h
  exact ⟨hk, h⟩
theorem tw_lt {α : Type} (p : α → Bool) (l : List α) (k : Nat) (h : k < (l.takeWhile p).length) : ∃ x, l[k]? = some x ∧ p x = true := by
  have hk : k < l.length := Nat.lt_of_lt_of_le h (List.takeWhile_prefix p).length_le
  exact ⟨_, List.getElem?_eq_getElem hk, tw_at p l k _ h (List.getElem?_eq_getElem hk)⟩

theorem edit_tail (s wi : List UInt8) (a b : Nat) (hab : a ≤ b) (hb : b ≤ s.length) (h1 : (Lx.divide s).2.1 = 0) (h2 : (Lx.divide (Lx.edited s wi a b)).2.1 = 0)
    (A B : List Lx.Sp) (hA : (Lx.divide s).1 = A) (hB : (Lx.divide (Lx.edited s wi a b)).1 = B) (H T : Nat) (hH : (A.takeWhile fun t => decide ((t.to : Int) < (a : Int))).length = H)
    (hT : Lx.sameEnd (A.drop (A.takeWhile fun t => decide ((t.frm : Int) < (b : Int))).length) B (((Lx.edited s wi a b).length : Int) - (s.length : Int)) = T) :
    H ≤ A.length ∧ H + T ≤ A.length ∧ H + T ≤ B.length ∧ (∀ k, k < T → ∃ x y, A[A.length - 1 - k]? = some x ∧ B[B.length - 1 - k]? = some y ∧ Lx.stay b s.length (Lx.edited s wi a b).length x y = true) ∧
      (H + T < A.length → H + T < B.length → ∃ x y, A[A.length - 1 - T]? = some x ∧ B[B.length - 1 - T]? = some y ∧ Lx.stay b s.length (Lx.edited s wi a b).length x y = false) := by
  have hel := edited_len s wi a b hab hb
  have hfA := divide_frm s h1
  have hfB := divide_frm (Lx.edited s wi a b) h2
  have hup := chain_up s (Lx.divide s).1 (divide_chain s h1)
  have hhd := heads_kept s wi a b hab hb h1 h2
  rw [hA] at hfA hup hhd
  rw [hB] at hfB hhd
  generalize hP : (A.takeWhile fun t => decide ((t.frm : Int) < (b : Int))).length = P at hT
  generalize hn : (Lx.edited s wi a b).length = n' at *
  have hHP : H ≤ P := by
    rw [← hH, ← hP]
    exact tw_mono _ _ A (fun t ht h => by have := hfA t ht; simp only [decide_eq_true_eq] at h ⊢; omega)
  have hPA : P ≤ A.length := by rw [← hP]; exact (List.takeWhile_prefix _).length_le
  have hge : ∀ (i : Nat) x, A[i]? = some x → P ≤ i → (b : Int) ≤ (x.frm : Int) := by
    intro i x hx hi
    have hlt : P < A.length := by have := (List.getElem?_eq_some_iff.1 hx).1; omega
    have hp := tw_end (fun t : Lx.Sp => decide ((t.frm : Int) < (b : Int))) A A[P] (by rw [hP]; exact List.getElem?_eq_getElem hlt)
    have hx2 := (hup (i - P) P A[P] x (List.getElem?_eq_getElem hlt) (by rw [show P + (i - P) = i by omega]; exact hx)).1
    simp only [decide_eq_false_iff_not] at hp
    omega
  have hlt : ∀ (i : Nat) x, A[i]? = some x → i < P → (x.frm : Int) < (b : Int) := by
    intro i x hx hi
    have := tw_at (fun t : Lx.Sp => decide ((t.frm : Int) < (b : Int))) A i x (by rw [hP]; exact hi) hx
    simpa using this
  have hT' : (((A.drop P).reverse.zip B.reverse).takeWhile (Lx.pairSame ((n' : Int) - (s.length : Int)))).length = T := hT
  have hzl : T ≤ min (A.length - P) B.length := by
    have h := (List.takeWhile_prefix (l := (A.drop P).reverse.zip B.reverse) (Lx.pairSame ((n' : Int) - (s.length : Int)))).length_le
    rw [hT', List.length_zip, List.length_reverse, List.length_reverse, List.length_drop] at h
    exact h
  have hin : ∀ k, k < T → ∃ x y, A[A.length - 1 - k]? = some x ∧ B[B.length - 1 - k]? = some y ∧ Lx.stay b s.length n' x y = true := by
    intro k hk
    obtain ⟨⟨x, y⟩, hz, hp⟩ := tw_lt (Lx.pairSame ((n' : Int) - (s.length : Int))) ((A.drop P).reverse.zip B.reverse) k (by rw [hT']; exact hk)
    rw [List.getElem?_zip_eq_some] at hz
    obtain ⟨hk1, hx⟩ := rev_at _ _ _ hz.1
    obtain ⟨hk2, hy⟩ := rev_at _ _ _ hz.2
    rw [List.length_drop] at hk1 hx
    rw [List.getElem?_drop, show P + (A.length - P - 1 - k) = A.length - 1 - k by omega] at hx
    refine ⟨x, y, hx, hy, ?_⟩
    have hfr := hge _ x hx (by omega)
    unfold Lx.pairSame at hp
    unfold Lx.stay
    simp only [Bool.and_eq_true, beq_iff_eq, Bool.not_eq_true', decide_eq_false_iff_not] at hp ⊢
    exact ⟨⟨hp.1, by omega⟩, by omega⟩
  have hHB : H ≤ B.length := by
    obtain ⟨r, hr⟩ := hhd
    rw [hr, List.length_append, hH]; omega
  have hTB : H + T ≤ B.length := by
    by_cases hc : H + T ≤ B.length
    · exact hc
    · exfalso
      obtain ⟨x, y, hx, hy, hs⟩ := hin (T - 1) (by omega)
      have hj : B.length - 1 - (T - 1) < H := by omega
      have hxg := hge _ x hx (by omega)
      obtain ⟨r, hr⟩ := hhd
      have hy2 := hy
      rw [hr, List.getElem?_append_left (by rw [hH]; rw [hr] at hj; exact hj)] at hy2
      have hto := mem_tw (List.mem_of_getElem? hy2)
      have hyf := hfB y (List.mem_of_getElem? hy)
      unfold Lx.stay at hs
      simp only [Bool.and_eq_true, beq_iff_eq, Bool.not_eq_true', decide_eq_false_iff_not] at hs
      simp only [decide_eq_true_eq] at hto
      omega
  refine ⟨by omega, by omega, hTB, hin, ?_⟩
  intro hcA hcB
  have hx : A[A.length - 1 - T]? = some A[A.length - 1 - T] := List.getElem?_eq_getElem (by omega)
  have hy : B[B.length - 1 - T]? = some B[B.length - 1 - T] := List.getElem?_eq_getElem (by omega)
  refine ⟨_, _, hx, hy, ?_⟩
  generalize A[A.length - 1 - T] = x at *
  generalize B[B.length - 1 - T] = y at *
  cases hs : Lx.stay b s.length n' x y with
  | false => rfl
  | true =>
    exfalso
    unfold Lx.stay at hs
    simp only [Bool.and_eq_true, beq_iff_eq, Bool.not_eq_true', decide_eq_false_iff_not] at hs
    have hiP : P ≤ A.length - 1 - T := by
      by_cases h : A.length - 1 - T < P
      · have := hlt _ x hx h; omega
      · omega
    have hz : ((A.drop P).reverse.zip B.reverse)[T]? = some (x, y) := by
      rw [List.getElem?_zip_eq_some]
      constructor
      · rw [List.getElem?_reverse (by rw [List.length_drop]; omega), List.length_drop, List.getElem?_drop, show P + (A.length - P - 1 - T) = A.length - 1 - T by omega]; exact hx
      · rw [List.getElem?_reverse (by omega)]; exact hy
    have hp := tw_end (Lx.pairSame ((n' : Int) - (s.length : Int))) ((A.drop P).reverse.zip B.reverse) (x, y) (by rw [hT']; exact hz)
    unfold Lx.pairSame at hp
    have : ((((x.kind : Int) == (y.kind : Int)) && (x.text == y.text)) && ((x.frm : Int) + ((n' : Int) - (s.length : Int)) == (y.frm : Int))) = true := by
      simp only [Bool.and_eq_true, beq_iff_eq]
      exact ⟨hs.1.1, by omega⟩
    rw [this] at hp
    cases hp
end Go.Proofs.YtcjcbhdildcceaaDoor
/- Contract of Divide of the specification's package. Conditions: those in the statement. -/
namespace Go.Proofs.YtcjcbhdildcceaaDoor
open Go.RowKit
set_option linter.unusedVariables false
set_option linter.unusedSimpArgs false

theorem info_piece : (Tryd.prog.info? 65).map (fun i => (i.zero, i.size, i.bytes)) = some (some (.agg #[.int .i64 0, .string ⟨#[]⟩, .int .i64 0, .int .i64 0, .int .i64 0, .int .i64 0]), 6, 56) := by kernel_rfl
theorem spRowP_cell {w : World} {b g c : Nat} {l : List Lx.Sp} (h : w.ownsRow b 65 6 (.slice (some ⟨g, 0, none⟩) l.length c) l.length (spCells l)) (k j : Nat) (t : Lx.Sp) (hk : l[k]? = some t) (hj : j < 6) :
    w.cell? ⟨g, k * 6 + j, none⟩ = t.cells[j]? := by
  have h1 := spCells_at l k j t hk hj
  have hjl : j < t.cells.length := by simpa [Lx.Sp.cells] using hj
  rw [List.getElem?_eq_getElem hjl] at h1 ⊢
  have := h.cells (g := g) rfl (k * 6 + j) _ h1
  rwa [show (⟨g, 0, none⟩ : Addr).add (k * 6 + j) = ⟨g, k * 6 + j, none⟩ from by unfold Addr.add; split <;> simp_all] at this
theorem meas_small {s : List UInt8} {ix e : Nat} (h : Lx.measure s ix 0 0 = .bad e) : e ≤ 12 := by
  unfold Lx.measure at h
  simp only at h
  split at h
  · unfold Lx.word at h; simp only at h; split at h <;> cases h; omega
  · split at h
    · unfold Lx.number at h; split at h <;> cases h; omega
    · split at h
      · unfold Lx.quoted at h; split at h <;> cases h; omega
      · split at h
        · unfold Lx.operation at h; split at h <;> cases h; omega
        · split at h
          · cases h
          · split at h <;> cases h; omega
theorem place_bg (s : List UInt8) : ∀ i, i ≤ s.length → (Lx.placeAt s i).bg ≤ i ∧ (Lx.placeAt s i).ln ≤ i
  | 0, _ => ⟨Nat.le_refl _, Nat.le_refl _⟩
  | i + 1, h => by
    obtain ⟨h1, h2⟩ := place_bg s i (by omega)
    have hix : (Lx.placeAt s i).ix = i := by unfold Lx.placeAt; rw [pass_ix]; simp only [List.length_take]; omega
    rw [placeAt_step s i (by omega)]
    unfold Lx.Place.step
    simp only [hix]
    split <;> exact ⟨by omega, by omega⟩
theorem row_set {W : World} {base n : Nat} {e : TypeId} {size : Nat} {v : Value} {xs : List Value} (h : W.ownsRow base e size v n xs) (B i : Nat) (hB : W.heap.size ≤ B ∨ ∀ g, v.ownBlock = some g → g ≠ B) (y : Value) : (W.setCell ⟨B, i, none⟩ y).ownsRow base e size v n xs := by
  refine ⟨h.1, ?_⟩
  rcases h.2 with hn | ⟨g, cap, cur, rfl, hbg, hg, rest⟩
  · exact .inl hn
  · refine .inr ⟨g, cap, cur, rfl, hbg, (Below.heap_setCell W ⟨B, i, none⟩ y g (fun e => ?_)).trans hg, rest⟩
    have hlt := (Array.getElem?_eq_some_iff.1 hg).1
    rcases hB with hB | hB
    · have : g = B := e
      omega
    · exact hB g rfl e
theorem row_below {W W' : World} {base : Nat} {e : TypeId} {size : Nat} {v : Value} {k : Nat} {xs : List Value} (h : W.ownsRow base e size v k xs) (hb : Below W.heap.size W W') : W'.ownsRow base e size v k xs := by
  refine ⟨h.1, ?_⟩
  rcases h.2 with hn | ⟨g, cap, cur, rfl, hbg, hg, rest⟩
  · exact .inl hn
  · exact .inr ⟨g, cap, cur, rfl, hbg, (hb.block g (Array.getElem?_eq_some_iff.1 hg).1).trans hg, rest⟩
theorem meas_kind {s : List UInt8} {ix k n : Nat} (h : Lx.measure s ix 0 0 = .ok k n) : k ≤ 9 := by
  unfold Lx.measure at h
  simp only at h
  split at h
  · unfold Lx.word at h; simp only at h
    split at h
    · cases h
    · cases h
      unfold Lx.wordKind
      simp only
      repeat' split
      all_goals decide
  · split at h
    · unfold Lx.number at h; split at h <;> cases h; decide
    · split at h
      · unfold Lx.quoted at h; split at h <;> cases h; decide
      · split at h
        · unfold Lx.operation at h; split at h <;> cases h; decide
        · split at h
          · cases h; decide
          · split at h <;> cases h; decide
theorem txt_dot {s : List UInt8} {j : Nat} {b : UInt8} (hb : s[j]? = some b) : Lx.txt s j 8 1 = [b] := by
  unfold Lx.txt
  rw [if_neg (by decide), drop_some s j b hb]; rfl
theorem txt_is_dot {s : List UInt8} {j : Nat} (hj : j < s.length) (h : (⟨(Lx.txt s j 8 1).toArray⟩ : ByteArray) = ⟨#[46]⟩) : s[j]? = some 46 := by
  obtain ⟨b, hb⟩ : ∃ b, s[j]? = some b := ⟨_, List.getElem?_eq_getElem hj⟩
  rw [txt_dot hb] at h
  injection h with h
  have h2 := congrArg Array.toList h
  have h3 : b = 46 := by simpa using h2
  rw [hb, h3]
theorem dot_eqs (tx : ByteArray) (b : Bool) (h : tx = ⟨#[46]⟩ ↔ b = true) : (tx.toList == (⟨#[46]⟩ : ByteArray).toList) = b ∧ (tx.toList == [46]) = b ∧ (tx.data.toList == [46]) = b := by
  have k : tx.data.toList = [46] ↔ tx = ⟨#[46]⟩ := ⟨fun h => ByteArray.ext (Array.ext' h), fun h => by rw [h]⟩
  have e : (tx.data.toList == [46]) = b := by rw [Bool.eq_iff_iff, beq_iff_eq, k, h]
  exact ⟨by rw [ByteArray.toList_eq, ByteArray.toList_eq]; exact e, by rw [ByteArray.toList_eq]; exact e, e⟩
theorem spAt_below {w W : World} {o : Option Addr} {l : List Lx.Sp} (hb : Below w.heap.size w W) (h : SpAt w o l) : SpAt W o l := by
  intro k t ht
  obtain ⟨g, e, hg, hc⟩ := h k t ht
  exact ⟨g, e, Nat.lt_of_lt_of_le hg hb.size, fun i hi => (hb.cell (p := ⟨g, k * 6 + i, none⟩) hg).trans (hc i hi)⟩
theorem spAt_piece {w : World} {b : Nat} {o : Option Addr} {c : Nat} {l : List Lx.Sp} (h : w.ownsRow b 65 6 (.slice o l.length c) l.length (spCells l)) : SpAt w o l := by
  intro k t ht
  have hk : k < l.length := (List.getElem?_eq_some_iff.1 ht).1
  rcases h.2 with ⟨_, h0⟩ | ⟨g, c', cur, e, _⟩
  · omega
  · injection e with e1 e2 e3
    subst e1
    exact ⟨g, rfl, (h.lt g rfl).2, fun j hj => spRowP_cell h k j t ht hj⟩
theorem row_piece {w : World} {base n : Nat} {v : Value} {l : List Lx.Sp} (hn : l.length = n) (h : w.ownsRow base 65 6 v n (spCells l)) : ∃ o c, v = .slice o l.length c ∧ SpAt w o l := by
  subst hn
  rcases h.2 with ⟨rfl, h0⟩ | ⟨g, c, cur, rfl, _⟩
  · rw [h0]; exact ⟨none, 0, rfl, spAt_piece (c := 0) (by rw [h0]; rw [h0] at h; exact h)⟩
  · exact ⟨_, c, rfl, spAt_piece h⟩
theorem meas_bad {s : List UInt8} {ix E : Nat} (lk lt : Nat) (h : Lx.measure s ix 0 0 = .bad E) : Lx.measure s ix lk lt = .bad E := by
  rw [measure_L] at h ⊢
  unfold Lx.measureL at h ⊢
  simp only [show ((0 : Nat) == 1) = false from rfl, Bool.false_and] at h
  have hj : Lx.joinsL (s.drop ix) false = false := rfl
  rw [hj, Bool.and_false] at h
  dsimp only
  split
  · rename_i h1; rw [if_pos h1] at h; exact h
  · rename_i h1; rw [if_neg h1] at h
    split
    · rename_i h2; rw [if_pos h2] at h; exact h
    · rename_i h2; rw [if_neg h2] at h
      split
      · rename_i h3; rw [if_pos h3] at h; exact h
      · rename_i h3; rw [if_neg h3] at h
        split
        · rename_i h4; rw [if_pos h4] at h; exact h
        · rename_i h4; rw [if_neg h4] at h
          simp only [Bool.false_eq_true, if_false] at h
          split
          · rename_i h5
            exfalso
            have hb : ((s.drop ix)[0]?.getD 0) = 46 := by
              simp only [Bool.and_eq_true, beq_iff_eq] at h5; exact h5.1
            rw [hb, if_pos (by decide)] at h
            cases h
          · exact h
theorem meas_ok {s : List UInt8} {ix k n : Nat} (lk lt : Nat) (h : Lx.measure s ix 0 0 = .ok k n) :
    (k = 8 → n = 1) ∧ ((k = 8 ∧ s[ix]? = some 46 ∧ Lx.joins s ix lk lt = true ∧ Lx.measure s ix lk lt = .ok 9 1) ∨ (¬ (k = 8 ∧ s[ix]? = some 46 ∧ Lx.joins s ix lk lt = true) ∧ Lx.measure s ix lk lt = .ok k n)) := by
  unfold Lx.measure at h ⊢
  simp only at h ⊢
  rw [show Lx.joins s ix 0 0 = false from rfl, Bool.and_false] at h
  have nw : ∀ m : Lx.M, (∀ k n, m = .ok k n → k ≠ 8) → m = .ok k n → k ≠ 8 := fun m hm e => hm k n e
  split
  · rename_i h1; rw [if_pos h1] at h
    have h8 : k ≠ 8 := by
      unfold Lx.word at h
      simp only at h
      split at h
      · cases h
      · cases h
        unfold Lx.wordKind
        simp only
        repeat' split
        all_goals decide
    exact ⟨fun e => absurd e h8, .inr ⟨fun e => h8 e.1, h⟩⟩
  · rename_i h1; rw [if_neg h1] at h
    split
    · rename_i h2; rw [if_pos h2] at h
      have h8 : k ≠ 8 := by
        unfold Lx.number at h
        split at h
        · cases h
        · cases h; decide
      exact ⟨fun e => absurd e h8, .inr ⟨fun e => h8 e.1, h⟩⟩
    · rename_i h2; rw [if_neg h2] at h
      split
      · rename_i h3; rw [if_pos h3] at h
        have h8 : k ≠ 8 := by
          unfold Lx.quoted at h
          split at h
          · cases h; decide
          · cases h
        exact ⟨fun e => absurd e h8, .inr ⟨fun e => h8 e.1, h⟩⟩
      · rename_i h3; rw [if_neg h3] at h
        split
        · rename_i h4; rw [if_pos h4] at h
          have h8 : k ≠ 8 := by
            unfold Lx.operation at h
            split at h
            · cases h
            · cases h; decide
          exact ⟨fun e => absurd e h8, .inr ⟨fun e => h8 e.1, h⟩⟩
        · rename_i h4; rw [if_neg h4] at h
          simp only [Bool.false_eq_true, if_false] at h
          split at h
          · rename_i h6
            cases h
            refine ⟨fun _ => rfl, ?_⟩
            by_cases hc : (s[ix]?.getD 0 == 46 && Lx.joins s ix lk lt) = true
            · left
              simp only [Bool.and_eq_true, beq_iff_eq] at hc
              refine ⟨rfl, ?_, hc.2, by rw [if_pos (by simp [hc.1, hc.2])]⟩
              cases hx : s[ix]? with
              | none => rw [hx] at hc; exact absurd hc.1 (by decide)
              | some c => rw [hx] at hc; rw [show c = 46 from hc.1]
            · right
              refine ⟨fun e => hc ?_, by rw [if_neg hc, if_pos h6]⟩
              rw [e.2.1, e.2.2]; rfl
          · cases h
theorem piece_new (W : World) (t : Lx.Sp) (B : Nat) (hB : B = W.heap.size) : ∀ j u, t.cells[j]? = some u → (W.alloc (.cells #[.int .i64 t.kind, .string ⟨t.text.toArray⟩, .int .i64 t.line, .int .i64 t.col, .int .i64 t.frm, .int .i64 t.to] 65)).cell? ((⟨B, 0, none⟩ : Addr).add j) = some u := by
  intro j u hj
  subst hB
  rw [show ((⟨W.heap.size, 0, none⟩ : Addr).add j) = ⟨W.heap.size, j, none⟩ from by unfold Addr.add; split <;> simp_all, Lib.cell_of_heap (World.alloc_heap_new _ _)]
  simpa [Lx.Sp.cells] using hj
theorem cells_one (t : Lx.Sp) : ∀ u ∈ t.cells, u.oneCell' = true := by simp [Lx.Sp.cells, Value.oneCell']
/-- What Divide answers. -/
def RetDiv (s : List UInt8) (w : World) (e : Ending) (w' : World) : Prop := ∃ o c, e = .returned (.tuple #[.slice o (Lx.divide s).1.length c, .int .i64 ((Lx.divide s).2.1 : Nat), .int .i64 ((Lx.divide s).2.2 : Nat)]) ∧ SpAt w' o (Lx.divide s).1 ∧ Below w.heap.size w w'
theorem retDiv_bad {s : List UInt8} {w w' : World} {E i : Nat} (h : Lx.divide s = ([], E, i)) (hb : Below w.heap.size w w') : RetDiv s w (.returned (.tuple #[.slice none 0 0, .int .i64 (E : Nat), .int .i64 (i : Nat)])) w' := by
  refine ⟨none, 0, by rw [h]; rfl, ?_, hb⟩
  rw [h]; intro k t ht; simp at ht
theorem divide_at {s : List UInt8} {l : List Lx.Sp} (hl : s.length ≤ 20000) (h : Lx.spans s = (l, none)) : Lx.divide s = (l, 0, 0) := divide_of_spans s l hl h

set_option maxHeartbeats 1000000 in
theorem refDivide_long (s : List UInt8) (w : World) (h : 20000 < s.length) : Calls Tryd.prog 33 #[.string ⟨s.toArray⟩] w (RetDiv s w) := by
  have hss : (⟨s.toArray⟩ : ByteArray).size = s.length := by simp [ByteArray.size]
  have d1 : decide ((20000 : Int) < (s.length : Int)) = true := decide_eq_true (by omega)
  have HD := Lib.hid (show Lx.divide s = ([], 2, 0) by unfold Lx.divide; rw [if_pos h])
  clear h
  go_enter Tryd.func33, Tryd.ntmps33
  go_wp2_with fail
  refine bodyPost_ret (v := .tuple #[.slice none 0 0, .int .i64 2, .int .i64 0]) ?_ rfl (retDiv_bad HD.out (Below.refl _ _))
  simp [results, Tryd.results33, go_sem]

set_option maxHeartbeats 4000000 in
set_option maxRecDepth 100000 in
theorem refDivide_c (s : List UInt8) (w : World) (hs : s.length ≤ 20000) (h6 : (Lx.spans s).1.length ≤ 6000) : Calls Tryd.prog 33 #[.string ⟨s.toArray⟩] w (RetDiv s w) := by
  have hss : (⟨s.toArray⟩ : ByteArray).size = s.length := by simp [ByteArray.size]
  have d1 : decide ((20000 : Int) < (s.length : Int)) = false := decide_eq_false (by omega)
  have H6 := Lib.hid h6
  have HFi := Lib.hid (fun (ix : Nat) (h : ix < s.length) (W : World) => refFirst_c s ix W (by omega) h)
  have HPa := Lib.hid (fun (ix : Nat) (h : ix ≤ s.length) (W : World) => refPassed_c s ix W h (by omega))
  clear h6
  go_enter Tryd.func33, Tryd.ntmps33
  go_wp2_with fail
  go_loopg [5, 6, 7, 8, 9, 10, 11, 12, 13, 14, 15] s.length (fun g ov av lv cv x9 x10 x11 x12 x13 x14 x15 wr => ∃ (ix f ln cl : Nat) (pre : List Lx.Sp) (last : Lx.Sp), ix ≤ s.length ∧ av = .int .i64 ix ∧ lv = .int .i64 (ln : Nat) ∧ cv = .int .i64 (cl : Nat) ∧ ln ≤ 20001 ∧ cl ≤ 20001 ∧ Hid (ln = (Lx.placeAt s ix).ln + 1 ∧ cl = ix - (Lx.placeAt s ix).bg + 1) ∧ Hid (s.length - ix < f) ∧
      Hid (Lx.spans s = (pre ++ (Lx.spansN s f ix last).1, (Lx.spansN s f ix last).2)) ∧ Hid ((pre = [] ∧ last = Lx.noSp) ∨ pre.getLast? = some last) ∧ Hid (wr.ownsRow w.heap.size 65 6 ov pre.length (spCells pre)) ∧ Hid (Below w.heap.size w wr) ∧ g = s.length - ix)
  case atStart => exact ⟨0, s.length + 1, 1, 1, [], Lx.noSp, Nat.zero_le _, rfl, rfl, rfl, by omega, by omega, Lib.hid ⟨rfl, rfl⟩, Lib.hid (by omega), Lib.hid rfl, Lib.hid (.inl ⟨rfl, rfl⟩), Lib.hid (World.ownsRow_nil _ _ _ _), Lib.hid (Below.refl _ _), rfl⟩
  case round =>
    obtain ⟨ix, f, ln, cl, pre, last, hix, rfl, rfl, rfl, hln, hcl, HPl, HF, HSp, HLa, HR, HW, hg⟩ := hrel
    have HP := Lib.hid (HPa.out ix hix wr)
    obtain ⟨f', hf'⟩ : ∃ f', f = f' + 1 := ⟨f - 1, by have := HF.out; omega⟩
    have hsp := HSp.out
    rw [hf', spansN_succ] at hsp
    obtain ⟨o, c, rfl, hat⟩ := row_piece rfl HR.out
    have HAt := Lib.hid hat
    have hpl6 : pre.length ≤ 6000 := by
      have h := H6.out
      rw [HSp.out] at h
      simp only [List.length_append] at h
      omega
    clear hat HSp
    cases hB : Lx.blanks none ix (s.drop ix) with
    | «open» q =>
      rw [hB] at hsp HP
      have HD := Lib.hid (show Lx.divide s = ([], 11, q) from divide_of_bad s _ 11 q hs (by rw [hsp]))
      clear hB hsp hf'
      unfold Lx.B.told at HP
      go_wp2_with fail
      refine HP.out.mono ?_
      rintro e w1 ⟨rfl, hw1⟩
      rw [hw1]
      clear hw1
      go_wp2_with fail
      refine bodyPost_ret (v := .tuple #[.slice none 0 0, .int .i64 11, .int .i64 (q : Nat)]) ?_ rfl (retDiv_bad HD.out HW.out)
      simp [results, Tryd.results33, go_sem]
    | «at» j =>
      have hj1 := blanks_ge _ _ _ _ hB
      have hj2 := blanks_le _ _ _ _ hB
      rw [List.length_drop] at hj2
      rw [hB] at hsp HP
      unfold Lx.B.told at HP
      simp only at hsp HP
      unfold tailN at hsp
      by_cases hje : j = s.length
      · rw [if_pos hje] at hsp
        have HD := Lib.hid (show Lx.divide s = (pre, 0, 0) from divide_at hs (by rw [hsp]; simp))
        have dj : ((j : Int) == (s.length : Int)) = true := by rw [hje]; simp
        have HJ := Lib.hid hje
        clear hB hsp hf' hje
        go_wp2_with fail
        refine HP.out.mono ?_
        rintro e w1 ⟨rfl, hw1⟩
        rw [hw1]
        clear hw1
        go_wp2_with fail
        all_goals first
          | (refine bodyPost_ret (v := .tuple #[.slice o pre.length c, .int .i64 0, .int .i64 0]) ?_ rfl ⟨o, c, by rw [HD.out]; rfl, by rw [HD.out]; exact HAt.out, HW.out⟩
             simp [results, Tryd.results33, go_sem])
          | (exfalso; have := HJ.out; omega)
      · have hjl : j < s.length := by omega
        rw [if_neg hje] at hsp
        have dj : ((j : Int) == (s.length : Int)) = false := beq_eq_false_iff_ne.2 (by omega)
        have HF1 := Lib.hid (HFi.out j hjl wr)
        have HJl := Lib.hid hjl
        clear hB hje
        go_wp2_with fail
        refine HP.out.mono ?_
        rintro e w1 ⟨rfl, hw1⟩
        rw [hw1]
        clear hw1
        go_wp2_with fail
        refine HF1.out.mono ?_
        rintro e w2 ⟨hb2, hcase⟩
        have hW2 := HW.out.trans (hb2.mono HW.out.size)
        rcases hcase with ⟨E, hm, k, x, p, q, n, rfl⟩ | ⟨k, n, hm, rfl⟩
        · have hE10 := measure_code s j 0 0 E hm
          have hE99 : E ≤ 100 := Nat.le_trans (meas_small hm) (by decide)
          have hnx : Lx.next s j last = .error E := by unfold Lx.next; rw [meas_bad last.kind last.to hm]
          rw [hnx] at hsp
          have HD := Lib.hid (show Lx.divide s = ([], E, j) from divide_of_bad s _ E j hs (by rw [hsp]))
          have dE : ((E : Int) == 0) = false := beq_eq_false_iff_ne.2 (by omega)
          have dEn : (E == 0) = false := beq_eq_false_iff_ne.2 (by omega)
          have dE2 : ((E : Int) != 0) = true := bne_iff_ne.2 (by omega)
          have HW2 := Lib.hid (hW2.alloc hW2.size (.cells #[.int .i64 k, .string x, .int .i64 p, .int .i64 q] 36))
          clear hm hnx hsp hf' hE10 hb2 hW2
          go_wp2_with fail
          refine bodyPost_ret (v := .tuple #[.slice none 0 0, .int .i64 (E : Nat), .int .i64 (j : Nat)]) ?_ rfl (retDiv_bad HD.out HW2.out)
          simp [results, Tryd.results33, go_sem]
        · have hjl2 := HJl.out
          have hml := measure_len s j 0 0 k n hjl2 hm
          have hk9 : k ≤ 9 := meas_kind hm
          obtain ⟨h8, hmo⟩ := meas_ok last.kind last.to hm
          have hflat : ∀ q c, q < n → s[j + q]? = some c → c ≠ 10 := fun q c hq hc => by
            have hm2 := hm
            rw [measure_L] at hm2
            exact measure_flat _ _ k n hm2 q c hq (by rw [List.getElem?_drop]; exact hc)
          obtain ⟨p1, p2, p3⟩ := place_go s ix j hj1 (by omega)
          obtain ⟨pf1, pf2⟩ := place_flat s j n hml.2.1 hflat
          have pb := place_bg s ix hix
          have pbj := place_bg s j (by omega)
          obtain ⟨m, hmm⟩ : ∃ m, j - ix = m := ⟨_, rfl⟩
          have hxl : ((s.take j).drop ix).length = m := by rw [List.length_drop, List.length_take]; omega
          have pbx := place_bg ((s.take j).drop ix) m (by omega)
          have HPc := Lib.hid (fun W => refPlaced_c ((s.take j).drop ix) m W (by omega) (by omega))
          rw [hmm] at p1 p2 p3
          rw [← ba_slice s ix j] at HPc
          generalize (Lx.placeAt ((s.take j).drop ix) m).ln = l0 at *
          generalize (Lx.placeAt ((s.take j).drop ix) m).bg = b0 at *
          obtain ⟨hpl1, hpl2⟩ := HPl.out
          obtain ⟨ln2, hln2⟩ : ∃ z : Nat, (Lx.placeAt s j).ln + 1 = z := ⟨_, rfl⟩
          obtain ⟨cl2, hcl2⟩ : ∃ z : Nat, j - (Lx.placeAt s j).bg + 1 = z := ⟨_, rfl⟩
          obtain ⟨Lz, hLz⟩ : ∃ z : Int, ((l0 + 1 : Nat) : Int) = z := ⟨_, rfl⟩
          obtain ⟨Cz, hCz⟩ : ∃ z : Int, ((m - b0 + 1 : Nat) : Int) = z := ⟨_, rfl⟩
          rw [hLz, hCz] at HPc
          have s1 : (j : Int) - (ix : Int) = (m : Int) := by omega
          obtain ⟨L0, s2⟩ : ∃ z : Int, Lz - 1 = z := ⟨_, rfl⟩
          have s3 : (ln : Int) + L0 = (ln2 : Int) := by omega
          have hL00 : 0 ≤ L0 := by omega
          have hL01 : L0 ≤ 20000 := by omega
          have hLz0 : 0 ≤ Lz := by omega
          have hLz1 : Lz ≤ 20001 := by omega
          have hCz0 : 0 ≤ Cz := by omega
          have hCz1 : Cz ≤ 20001 := by omega
          have hln21 : ln2 ≤ 20001 := by omega
          have hcl21 : cl2 ≤ 20001 := by omega
          have hcl22 : cl2 + n ≤ 20001 := by omega
          have HPn := Lib.hid (show ln2 = (Lx.placeAt s (j + n)).ln + 1 ∧ cl2 + n = (j + n) - (Lx.placeAt s (j + n)).bg + 1 from ⟨by omega, by omega⟩)
          have HCol := Lib.hid (show (l0 = 0 → (cl : Int) + (Cz - 1) = (cl2 : Int)) ∧ (l0 ≠ 0 → Cz = (cl2 : Int)) from ⟨fun h0 => by have := (p2 h0).1; have := (p2 h0).2; omega, fun h0 => by have := p3 h0; omega⟩)
          have HL0 := Lib.hid hLz
          obtain ⟨jn, hjn⟩ : ∃ z, j + n = z := ⟨_, rfl⟩
          obtain ⟨cn, hcn⟩ : ∃ z, cl2 + n = z := ⟨_, rfl⟩
          rw [hjn, hcn] at HPn
          have hjnl : jn ≤ s.length := by omega
          have hjn1 : j < jn := by omega
          have hcnl : cn ≤ 20001 := by omega
          obtain ⟨C0, s4⟩ : ∃ z : Int, Cz - 1 = z := ⟨_, rfl⟩
          rw [s4] at HCol
          have v1 : IntKind.i64.wrap ((j : Int) - (ix : Int)) = (m : Int) := by rw [s1]; exact IntWalk.i64_in _ (by omega)
          have v2 : IntKind.i64.wrap (Lz - 1) = L0 := by rw [s2]; exact IntWalk.i64_in _ (by omega)
          have v3 : IntKind.i64.wrap ((ln : Int) + L0) = (ln2 : Int) := by rw [s3]; exact IntWalk.i64_in _ (by omega)
          have v4 : IntKind.i64.wrap (Cz - 1) = C0 := by rw [s4]; exact IntWalk.i64_in _ (by omega)
          have v6 : IntKind.i64.wrap ((j : Int) + (n : Int)) = (jn : Int) := by rw [show (j : Int) + (n : Int) = (jn : Int) by omega]; exact IntWalk.i64_in _ (by omega)
          have v7 : IntKind.i64.wrap ((cl2 : Int) + (n : Int)) = (cn : Int) := by rw [show (cl2 : Int) + (n : Int) = (cn : Int) by omega]; exact IntWalk.i64_in _ (by omega)
          have b1 : (0 : Int) ≤ (ix : Int) := Int.natCast_nonneg _
          have b2 : (ix : Int) ≤ (j : Int) := by omega
          have b3 : (j : Int) ≤ (s.length : Int) := by omega
          have s6' : (j : Int) + (n : Int) = (jn : Int) := by omega
          have s7' : (cl2 : Int) + (n : Int) = (cn : Int) := by omega
          obtain ⟨i0, hi, hz0, hz1, hz2⟩ := info_parts info_piece
          have hwz : w.heap.size ≤ w2.heap.size := hW2.size
          obtain ⟨tx, htx⟩ : ∃ z : ByteArray, (⟨(Lx.txt s j k n).toArray⟩ : ByteArray) = z := ⟨_, rfl⟩
          rw [htx]
          have HTx := Lib.hid htx
          have HR2 := Lib.hid (row_below HR.out hb2)
          have HB2' := Lib.hid hb2
          have HW2 := Lib.hid hW2
          have HFl := Lib.hid (show s.length - jn < f' by have := HF.out; omega)
          have hh8 := h8
          have hln2' := hln2
          have hcl2' := hcl2
          clear hLz hCz HPl hpl1 hpl2 p1 p2 p3 pf1 pf2 pb pbj pbx hxl hmm hflat hml hln2 hcl2 h8 HFi HPa HP HF1 HR HF HW hb2 hW2 htx
          rcases hmo with ⟨hk8, h46, hjo, hm9⟩ | ⟨hno, hmk⟩
          · skip
            have hnx : Lx.next s j last = .ok ⟨9, Lx.txt s j k n, ln2, cl2, j, jn⟩ := by
              unfold Lx.next
              rw [hm9, ← hjn]
              show Except.ok (_ : Lx.Sp) = _
              rw [← hcl2', ← hln2']
              rw [hk8, hh8 hk8]
              rfl
            have hk0 := hk8
            have hn1 := hh8 hk8
            have hdt : tx = ⟨#[46]⟩ := by rw [← HTx.out, hk8, hn1, txt_dot h46]
            obtain ⟨e1, e2, e3⟩ := dot_eqs tx true ⟨fun _ => rfl, fun _ => hdt⟩
            have d8 : ((k : Int) == 8) = true := by rw [hk8]; rfl
            have d8n : (k == 8) = true := by rw [hk8]; rfl
            have HAt2 : Hid (∀ W : World, Below w2.heap.size w2 W → SpAt W o pre) := Lib.hid (fun W hb => spAt_below hb (spAt_below HB2'.out HAt.out))
            have HJo := Lib.hid (fun (W : World) (hb : Below w2.heap.size w2 W) => refJoins_c s j W pre last o c (by omega) HJl.out (by omega) (HAt2.out W hb) HLa.out)
            have hjo2 : Lx.joins s j last.kind last.to = true := hjo
            rw [hjo2] at HJo
            clear hln2' hcl2' hm hk8 hh8 hdt hn1 hk0 hjo hjo2 h46
            clear hm9
            obtain ⟨T, hT⟩ : ∃ T : Lx.Sp, T = ⟨9, Lx.txt s j k n, ln2, cl2, j, jn⟩ := ⟨_, rfl⟩
            have hnx2 : Lx.next s j last = .ok T := hnx.trans (by rw [hT])
            rw [hnx2] at hsp
            have HSp2 := Lib.hid (show Lx.spans s = ((pre ++ [T]) ++ (Lx.spansN s f' jn T).1, (Lx.spansN s f' jn T).2) by rw [hsp, hT, List.append_assoc]; rfl)
            have hpl : pre.length + 1 ≤ 6000 := by
              have h := H6.out
              rw [HSp2.out] at h
              simp only [List.length_append, List.length_cons, List.length_nil] at h
              omega
            have d6 : ((pre.length : Int) == 6000) = false := beq_eq_false_iff_ne.2 (by omega)
            have d6n : (pre.length == 6000) = false := beq_eq_false_iff_ne.2 (by omega)
            have hTc : T.cells = [.int .i64 9, .string tx, .int .i64 ln2, .int .i64 cl2, .int .i64 j, .int .i64 jn] := by rw [hT, ← HTx.out]; rfl
            have HTc := Lib.hid hTc
            have H1c := Lib.hid (cells_one T)
            have HCn : Hid (∀ W : World, ∀ B, B = W.heap.size → ∀ i u, T.cells[i]? = some u → (W.alloc (.cells #[.int .i64 9, .string tx, .int .i64 ln2, .int .i64 cl2, .int .i64 j, .int .i64 jn] 65)).cell? ((⟨B, 0, none⟩ : Addr).add i) = some u) := Lib.hid (by
              have h := fun W B hB => piece_new W T B hB
              rw [hT] at h ⊢
              rw [← HTx.out]
              exact h)
            have HTt := Lib.hid (show T.to = jn by rw [hT])
            rw [show T.cells = [.int .i64 9, .string tx, .int .i64 ln2, .int .i64 cl2, .int .i64 j, .int .i64 jn] from hTc] at H1c HCn
            clear hsp hnx hnx2 hT hTc
            go_wp2_with fail
            refine (HJo.out _ ((Below.refl _ _).alloc (Nat.le_refl _) _)).mono ?_
            rintro e w3 ⟨rfl, hb3⟩
            have hT3 : TB w3 w2.heap.size k tx 0 0 := (TB.new w2 k tx 0 0).below hb3 (by simp)
            have HR3 := Lib.hid (row_below (HR2.out.alloc (.cells #[.int .i64 k, .string tx, .int .i64 0, .int .i64 0] 36)) hb3)
            have HB3 := Lib.hid ((HW2.out.alloc hwz (.cells #[.int .i64 k, .string tx, .int .i64 0, .int .i64 0] 36)).trans (hb3.mono (by simp; omega)))
            have hz3 : w2.heap.size + 1 ≤ w3.heap.size := by have := hb3.size; simpa using this
            have c0 := hT3.c0
            have c1 := hT3.c1
            have c2 := hT3.c2
            have c3 := hT3.c3
            have f0 := hT3.fz 0
            have f1 := hT3.fz 1
            have f2 := hT3.fz 2
            have f3 := hT3.fz 3
            clear hT3 hb3 HJo HAt2
            by_cases hl0 : l0 = 0
            · have dL : decide ((1 : Int) < Lz) = false := decide_eq_false (by have := HL0.out; omega)
              have v5 : IntKind.i64.wrap ((cl : Int) + C0) = (cl2 : Int) := by rw [HCol.out.1 hl0]; exact IntWalk.i64_in _ (by omega)
              have s5 : (cl : Int) + C0 = (cl2 : Int) := HCol.out.1 hl0
              clear hl0 HCol
              go_wp2_with fail
              refine (HPc.out _).mono ?_
              rintro e w5 ⟨rfl, hw5⟩
              rw [hw5]
              clear hw5
              go_wp2_with (at_builtin; refine wpList_append_own _ rfl _ _ 61 rfl w.heap.size 65 i0 _ 6 56 Tryd.underlying61 hi hz0 hz1 hz2 rfl (by decide) (.slice o pre.length c) pre.length (spCells pre) rfl ((row_set (row_set (row_set HR3.out w2.heap.size 0 (.inr (fun g e he => by have := (HR2.out.lt g e).2; omega)) _) w2.heap.size 2 (.inr (fun g e he => by have := (HR2.out.lt g e).2; omega)) _) w2.heap.size 3 (.inr (fun g e he => by have := (HR2.out.lt g e).2; omega)) _).alloc _) ⟨w3.heap.size, 0, none⟩ 1 1 _ rfl rfl (HCn.out _ _ (by simp)) H1c.out (by show _ ≤ 9223372036854775807; omega) (by omega) (by simp; omega) ?_; intro v' w4 hown' hgrow _; have HOw := Lib.hid hown'; have HGw := Lib.hid hgrow; clear hown' hgrow)
              have HR4 : Hid (w4.ownsRow w.heap.size 65 6 v' (pre ++ [T]).length (spCells (pre ++ [T]))) := Lib.hid (by
                rw [spCells_snoc, HTc.out, List.length_append]
                exact HOw.out)
              have HB4 : Hid (Below w.heap.size w w4) := Lib.hid (((((HB3.out.setCell (p := ⟨w2.heap.size, 0, none⟩) hwz _).setCell (p := ⟨w2.heap.size, 2, none⟩) hwz _).setCell (p := ⟨w2.heap.size, 3, none⟩) hwz _).alloc (by simp; omega) _).grown HGw.out (by simp; omega) (fun b e => (HR2.out.lt b e).1))
              clear HOw HGw HCn H1c
              go_roundg (s.length - jn)
              case rel => exact ⟨jn, f', ln2, cn, pre ++ [T], T, hjnl, rfl, rfl, rfl, hln21, hcnl, HPn, HFl, HSp2, Lib.hid (.inr (by simp)), HR4, HB4, rfl⟩
              case measure => omega
            · have dL : decide ((1 : Int) < Lz) = true := decide_eq_true (by have := HL0.out; omega)
              have s5 : Cz = (cl2 : Int) := HCol.out.2 hl0
              clear hl0 HCol
              go_wp2_with fail
              refine (HPc.out _).mono ?_
              rintro e w5 ⟨rfl, hw5⟩
              rw [hw5]
              clear hw5
              go_wp2_with (at_builtin; refine wpList_append_own _ rfl _ _ 61 rfl w.heap.size 65 i0 _ 6 56 Tryd.underlying61 hi hz0 hz1 hz2 rfl (by decide) (.slice o pre.length c) pre.length (spCells pre) rfl ((row_set (row_set (row_set HR3.out w2.heap.size 0 (.inr (fun g e he => by have := (HR2.out.lt g e).2; omega)) _) w2.heap.size 2 (.inr (fun g e he => by have := (HR2.out.lt g e).2; omega)) _) w2.heap.size 3 (.inr (fun g e he => by have := (HR2.out.lt g e).2; omega)) _).alloc _) ⟨w3.heap.size, 0, none⟩ 1 1 _ rfl rfl (HCn.out _ _ (by simp)) H1c.out (by show _ ≤ 9223372036854775807; omega) (by omega) (by simp; omega) ?_; intro v' w4 hown' hgrow _; have HOw := Lib.hid hown'; have HGw := Lib.hid hgrow; clear hown' hgrow)
              have HR4 : Hid (w4.ownsRow w.heap.size 65 6 v' (pre ++ [T]).length (spCells (pre ++ [T]))) := Lib.hid (by
                rw [spCells_snoc, HTc.out, List.length_append]
                exact HOw.out)
              have HB4 : Hid (Below w.heap.size w w4) := Lib.hid (((((HB3.out.setCell (p := ⟨w2.heap.size, 0, none⟩) hwz _).setCell (p := ⟨w2.heap.size, 2, none⟩) hwz _).setCell (p := ⟨w2.heap.size, 3, none⟩) hwz _).alloc (by simp; omega) _).grown HGw.out (by simp; omega) (fun b e => (HR2.out.lt b e).1))
              clear HOw HGw HCn H1c
              go_roundg (s.length - jn)
              case rel => exact ⟨jn, f', ln2, cn, pre ++ [T], T, hjnl, rfl, rfl, rfl, hln21, hcnl, HPn, HFl, HSp2, Lib.hid (.inr (by simp)), HR4, HB4, rfl⟩
              case measure => omega
          · by_cases hk8 : k = 8
            · by_cases h46 : s[j]? = some 46
              · have hjo : Lx.joins s j last.kind last.to = false := by
                  cases hh : Lx.joins s j last.kind last.to with
                  | false => rfl
                  | true => exact absurd ⟨hk8, h46, hh⟩ hno
                have hnx : Lx.next s j last = .ok ⟨k, Lx.txt s j k n, ln2, cl2, j, jn⟩ := by
                  unfold Lx.next
                  rw [hmk, ← hjn]
                  show Except.ok (_ : Lx.Sp) = _
                  rw [← hcl2', ← hln2']
                  rfl
                have hk0 := hk8
                have hn1 := hh8 hk8
                have hdt : tx = ⟨#[46]⟩ := by rw [← HTx.out, hk8, hn1, txt_dot h46]
                obtain ⟨e1, e2, e3⟩ := dot_eqs tx true ⟨fun _ => rfl, fun _ => hdt⟩
                have d8 : ((k : Int) == 8) = true := by rw [hk8]; rfl
                have d8n : (k == 8) = true := by rw [hk8]; rfl
                have HAt2 : Hid (∀ W : World, Below w2.heap.size w2 W → SpAt W o pre) := Lib.hid (fun W hb => spAt_below hb (spAt_below HB2'.out HAt.out))
                have HJo := Lib.hid (fun (W : World) (hb : Below w2.heap.size w2 W) => refJoins_c s j W pre last o c (by omega) HJl.out (by omega) (HAt2.out W hb) HLa.out)
                have hjo2 : Lx.joins s j last.kind last.to = false := hjo
                rw [hjo2] at HJo
                clear hln2' hcl2' hm hk8 hh8 hdt hn1 hk0 hjo hjo2 h46
                clear hmk hno
                obtain ⟨T, hT⟩ : ∃ T : Lx.Sp, T = ⟨k, Lx.txt s j k n, ln2, cl2, j, jn⟩ := ⟨_, rfl⟩
                have hnx2 : Lx.next s j last = .ok T := hnx.trans (by rw [hT])
                rw [hnx2] at hsp
                have HSp2 := Lib.hid (show Lx.spans s = ((pre ++ [T]) ++ (Lx.spansN s f' jn T).1, (Lx.spansN s f' jn T).2) by rw [hsp, hT, List.append_assoc]; rfl)
                have hpl : pre.length + 1 ≤ 6000 := by
                  have h := H6.out
                  rw [HSp2.out] at h
                  simp only [List.length_append, List.length_cons, List.length_nil] at h
                  omega
                have d6 : ((pre.length : Int) == 6000) = false := beq_eq_false_iff_ne.2 (by omega)
                have d6n : (pre.length == 6000) = false := beq_eq_false_iff_ne.2 (by omega)
                have hTc : T.cells = [.int .i64 k, .string tx, .int .i64 ln2, .int .i64 cl2, .int .i64 j, .int .i64 jn] := by rw [hT, ← HTx.out]; rfl
                have HTc := Lib.hid hTc
                have H1c := Lib.hid (cells_one T)
                have HCn : Hid (∀ W : World, ∀ B, B = W.heap.size → ∀ i u, T.cells[i]? = some u → (W.alloc (.cells #[.int .i64 k, .string tx, .int .i64 ln2, .int .i64 cl2, .int .i64 j, .int .i64 jn] 65)).cell? ((⟨B, 0, none⟩ : Addr).add i) = some u) := Lib.hid (by
                  have h := fun W B hB => piece_new W T B hB
                  rw [hT] at h ⊢
                  rw [← HTx.out]
                  exact h)
                have HTt := Lib.hid (show T.to = jn by rw [hT])
                rw [show T.cells = [.int .i64 k, .string tx, .int .i64 ln2, .int .i64 cl2, .int .i64 j, .int .i64 jn] from hTc] at H1c HCn
                clear hsp hnx hnx2 hT hTc
                go_wp2_with fail
                refine (HJo.out _ ((Below.refl _ _).alloc (Nat.le_refl _) _)).mono ?_
                rintro e w3 ⟨rfl, hb3⟩
                have hT3 : TB w3 w2.heap.size k tx 0 0 := (TB.new w2 k tx 0 0).below hb3 (by simp)
                have HR3 := Lib.hid (row_below (HR2.out.alloc (.cells #[.int .i64 k, .string tx, .int .i64 0, .int .i64 0] 36)) hb3)
                have HB3 := Lib.hid ((HW2.out.alloc hwz (.cells #[.int .i64 k, .string tx, .int .i64 0, .int .i64 0] 36)).trans (hb3.mono (by simp; omega)))
                have hz3 : w2.heap.size + 1 ≤ w3.heap.size := by have := hb3.size; simpa using this
                have c0 := hT3.c0
                have c1 := hT3.c1
                have c2 := hT3.c2
                have c3 := hT3.c3
                have f0 := hT3.fz 0
                have f1 := hT3.fz 1
                have f2 := hT3.fz 2
                have f3 := hT3.fz 3
                clear hT3 hb3 HJo HAt2
                by_cases hl0 : l0 = 0
                · have dL : decide ((1 : Int) < Lz) = false := decide_eq_false (by have := HL0.out; omega)
                  have v5 : IntKind.i64.wrap ((cl : Int) + C0) = (cl2 : Int) := by rw [HCol.out.1 hl0]; exact IntWalk.i64_in _ (by omega)
                  have s5 : (cl : Int) + C0 = (cl2 : Int) := HCol.out.1 hl0
                  clear hl0 HCol
                  go_wp2_with fail
                  refine (HPc.out _).mono ?_
                  rintro e w5 ⟨rfl, hw5⟩
                  rw [hw5]
                  clear hw5
                  go_wp2_with (at_builtin; refine wpList_append_own _ rfl _ _ 61 rfl w.heap.size 65 i0 _ 6 56 Tryd.underlying61 hi hz0 hz1 hz2 rfl (by decide) (.slice o pre.length c) pre.length (spCells pre) rfl ((row_set (row_set HR3.out w2.heap.size 2 (.inr (fun g e he => by have := (HR2.out.lt g e).2; omega)) _) w2.heap.size 3 (.inr (fun g e he => by have := (HR2.out.lt g e).2; omega)) _).alloc _) ⟨w3.heap.size, 0, none⟩ 1 1 _ rfl rfl (HCn.out _ _ (by simp)) H1c.out (by show _ ≤ 9223372036854775807; omega) (by omega) (by simp; omega) ?_; intro v' w4 hown' hgrow _; have HOw := Lib.hid hown'; have HGw := Lib.hid hgrow; clear hown' hgrow)
                  have HR4 : Hid (w4.ownsRow w.heap.size 65 6 v' (pre ++ [T]).length (spCells (pre ++ [T]))) := Lib.hid (by
                    rw [spCells_snoc, HTc.out, List.length_append]
                    exact HOw.out)
                  have HB4 : Hid (Below w.heap.size w w4) := Lib.hid ((((HB3.out.setCell (p := ⟨w2.heap.size, 2, none⟩) hwz _).setCell (p := ⟨w2.heap.size, 3, none⟩) hwz _).alloc (by simp; omega) _).grown HGw.out (by simp; omega) (fun b e => (HR2.out.lt b e).1))
                  clear HOw HGw HCn H1c
                  go_roundg (s.length - jn)
                  case rel => exact ⟨jn, f', ln2, cn, pre ++ [T], T, hjnl, rfl, rfl, rfl, hln21, hcnl, HPn, HFl, HSp2, Lib.hid (.inr (by simp)), HR4, HB4, rfl⟩
                  case measure => omega
                · have dL : decide ((1 : Int) < Lz) = true := decide_eq_true (by have := HL0.out; omega)
                  have s5 : Cz = (cl2 : Int) := HCol.out.2 hl0
                  clear hl0 HCol
                  go_wp2_with fail
                  refine (HPc.out _).mono ?_
                  rintro e w5 ⟨rfl, hw5⟩
                  rw [hw5]
                  clear hw5
                  go_wp2_with (at_builtin; refine wpList_append_own _ rfl _ _ 61 rfl w.heap.size 65 i0 _ 6 56 Tryd.underlying61 hi hz0 hz1 hz2 rfl (by decide) (.slice o pre.length c) pre.length (spCells pre) rfl ((row_set (row_set HR3.out w2.heap.size 2 (.inr (fun g e he => by have := (HR2.out.lt g e).2; omega)) _) w2.heap.size 3 (.inr (fun g e he => by have := (HR2.out.lt g e).2; omega)) _).alloc _) ⟨w3.heap.size, 0, none⟩ 1 1 _ rfl rfl (HCn.out _ _ (by simp)) H1c.out (by show _ ≤ 9223372036854775807; omega) (by omega) (by simp; omega) ?_; intro v' w4 hown' hgrow _; have HOw := Lib.hid hown'; have HGw := Lib.hid hgrow; clear hown' hgrow)
                  have HR4 : Hid (w4.ownsRow w.heap.size 65 6 v' (pre ++ [T]).length (spCells (pre ++ [T]))) := Lib.hid (by
                    rw [spCells_snoc, HTc.out, List.length_append]
                    exact HOw.out)
                  have HB4 : Hid (Below w.heap.size w w4) := Lib.hid ((((HB3.out.setCell (p := ⟨w2.heap.size, 2, none⟩) hwz _).setCell (p := ⟨w2.heap.size, 3, none⟩) hwz _).alloc (by simp; omega) _).grown HGw.out (by simp; omega) (fun b e => (HR2.out.lt b e).1))
                  clear HOw HGw HCn H1c
                  go_roundg (s.length - jn)
                  case rel => exact ⟨jn, f', ln2, cn, pre ++ [T], T, hjnl, rfl, rfl, rfl, hln21, hcnl, HPn, HFl, HSp2, Lib.hid (.inr (by simp)), HR4, HB4, rfl⟩
                  case measure => omega
              · skip
                have hnx : Lx.next s j last = .ok ⟨k, Lx.txt s j k n, ln2, cl2, j, jn⟩ := by
                  unfold Lx.next
                  rw [hmk, ← hjn]
                  show Except.ok (_ : Lx.Sp) = _
                  rw [← hcl2', ← hln2']
                  rfl
                have d8 : ((k : Int) == 8) = true := by rw [hk8]; rfl
                have d8n : (k == 8) = true := by rw [hk8]; rfl
                have hdt : tx ≠ ⟨#[46]⟩ := fun e => h46 (txt_is_dot hjl2 (by rw [← hk8, ← hh8 hk8, HTx.out, e]))
                obtain ⟨e1, e2, e3⟩ := dot_eqs tx false ⟨fun e => absurd e hdt, fun e => absurd e (by decide)⟩
                clear hln2' hcl2' hmk hm hno hk8 hh8 h46 hdt
                obtain ⟨T, hT⟩ : ∃ T : Lx.Sp, T = ⟨k, Lx.txt s j k n, ln2, cl2, j, jn⟩ := ⟨_, rfl⟩
                have hnx2 : Lx.next s j last = .ok T := hnx.trans (by rw [hT])
                rw [hnx2] at hsp
                have HSp2 := Lib.hid (show Lx.spans s = ((pre ++ [T]) ++ (Lx.spansN s f' jn T).1, (Lx.spansN s f' jn T).2) by rw [hsp, hT, List.append_assoc]; rfl)
                have hpl : pre.length + 1 ≤ 6000 := by
                  have h := H6.out
                  rw [HSp2.out] at h
                  simp only [List.length_append, List.length_cons, List.length_nil] at h
                  omega
                have d6 : ((pre.length : Int) == 6000) = false := beq_eq_false_iff_ne.2 (by omega)
                have d6n : (pre.length == 6000) = false := beq_eq_false_iff_ne.2 (by omega)
                have hTc : T.cells = [.int .i64 k, .string tx, .int .i64 ln2, .int .i64 cl2, .int .i64 j, .int .i64 jn] := by rw [hT, ← HTx.out]; rfl
                have HTc := Lib.hid hTc
                have H1c := Lib.hid (cells_one T)
                have HCn : Hid (∀ W : World, ∀ B, B = W.heap.size → ∀ i u, T.cells[i]? = some u → (W.alloc (.cells #[.int .i64 k, .string tx, .int .i64 ln2, .int .i64 cl2, .int .i64 j, .int .i64 jn] 65)).cell? ((⟨B, 0, none⟩ : Addr).add i) = some u) := Lib.hid (by
                  have h := fun W B hB => piece_new W T B hB
                  rw [hT] at h ⊢
                  rw [← HTx.out]
                  exact h)
                have HTt := Lib.hid (show T.to = jn by rw [hT])
                rw [show T.cells = [.int .i64 k, .string tx, .int .i64 ln2, .int .i64 cl2, .int .i64 j, .int .i64 jn] from hTc] at H1c HCn
                clear hsp hnx hnx2 hT hTc
                by_cases hl0 : l0 = 0
                · have dL : decide ((1 : Int) < Lz) = false := decide_eq_false (by have := HL0.out; omega)
                  have v5 : IntKind.i64.wrap ((cl : Int) + C0) = (cl2 : Int) := by rw [HCol.out.1 hl0]; exact IntWalk.i64_in _ (by omega)
                  have s5 : (cl : Int) + C0 = (cl2 : Int) := HCol.out.1 hl0
                  clear hl0 HCol
                  go_wp2_with fail
                  refine (HPc.out _).mono ?_
                  rintro e w3 ⟨rfl, hw3⟩
                  rw [hw3]
                  clear hw3
                  go_wp2_with (at_builtin; refine wpList_append_own _ rfl _ _ 61 rfl w.heap.size 65 i0 _ 6 56 Tryd.underlying61 hi hz0 hz1 hz2 rfl (by decide) (.slice o pre.length c) pre.length (spCells pre) rfl ((HR2.out.alloc _).alloc _) ⟨w2.heap.size + 1, 0, none⟩ 1 1 _ rfl rfl (HCn.out _ _ (by simp)) H1c.out (by show _ ≤ 9223372036854775807; omega) (by omega) (by simp; omega) ?_; intro v' w4 hown' hgrow _; have HOw := Lib.hid hown'; have HGw := Lib.hid hgrow; clear hown' hgrow)
                  have HR4 : Hid (w4.ownsRow w.heap.size 65 6 v' (pre ++ [T]).length (spCells (pre ++ [T]))) := Lib.hid (by
                    rw [spCells_snoc, HTc.out, List.length_append]
                    exact HOw.out)
                  have HB4 : Hid (Below w.heap.size w w4) := Lib.hid (((HW2.out.alloc hwz _).alloc (by simp; omega) _).grown HGw.out (by simp; omega) (fun b e => (HR2.out.lt b e).1))
                  clear HOw HGw HCn H1c
                  go_roundg (s.length - jn)
                  case rel => exact ⟨jn, f', ln2, cn, pre ++ [T], T, hjnl, rfl, rfl, rfl, hln21, hcnl, HPn, HFl, HSp2, Lib.hid (.inr (by simp)), HR4, HB4, rfl⟩
                  case measure => omega
                · have dL : decide ((1 : Int) < Lz) = true := decide_eq_true (by have := HL0.out; omega)
                  have s5 : Cz = (cl2 : Int) := HCol.out.2 hl0
                  clear hl0 HCol
                  go_wp2_with fail
                  refine (HPc.out _).mono ?_
                  rintro e w3 ⟨rfl, hw3⟩
                  rw [hw3]
                  clear hw3
                  go_wp2_with (at_builtin; refine wpList_append_own _ rfl _ _ 61 rfl w.heap.size 65 i0 _ 6 56 Tryd.underlying61 hi hz0 hz1 hz2 rfl (by decide) (.slice o pre.length c) pre.length (spCells pre) rfl ((HR2.out.alloc _).alloc _) ⟨w2.heap.size + 1, 0, none⟩ 1 1 _ rfl rfl (HCn.out _ _ (by simp)) H1c.out (by show _ ≤ 9223372036854775807; omega) (by omega) (by simp; omega) ?_; intro v' w4 hown' hgrow _; have HOw := Lib.hid hown'; have HGw := Lib.hid hgrow; clear hown' hgrow)
                  have HR4 : Hid (w4.ownsRow w.heap.size 65 6 v' (pre ++ [T]).length (spCells (pre ++ [T]))) := Lib.hid (by
                    rw [spCells_snoc, HTc.out, List.length_append]
                    exact HOw.out)
                  have HB4 : Hid (Below w.heap.size w w4) := Lib.hid (((HW2.out.alloc hwz _).alloc (by simp; omega) _).grown HGw.out (by simp; omega) (fun b e => (HR2.out.lt b e).1))
                  clear HOw HGw HCn H1c
                  go_roundg (s.length - jn)
                  case rel => exact ⟨jn, f', ln2, cn, pre ++ [T], T, hjnl, rfl, rfl, rfl, hln21, hcnl, HPn, HFl, HSp2, Lib.hid (.inr (by simp)), HR4, HB4, rfl⟩
                  case measure => omega
            · skip
              have hnx : Lx.next s j last = .ok ⟨k, Lx.txt s j k n, ln2, cl2, j, jn⟩ := by
                unfold Lx.next
                rw [hmk, ← hjn]
                show Except.ok (_ : Lx.Sp) = _
                rw [← hcl2', ← hln2']
                rfl
              have d8 : ((k : Int) == 8) = false := beq_eq_false_iff_ne.2 (by omega)
              have d8n : (k == 8) = false := beq_eq_false_iff_ne.2 hk8
              clear hln2' hcl2' hmk hm hno hk8 hh8
              obtain ⟨T, hT⟩ : ∃ T : Lx.Sp, T = ⟨k, Lx.txt s j k n, ln2, cl2, j, jn⟩ := ⟨_, rfl⟩
              have hnx2 : Lx.next s j last = .ok T := hnx.trans (by rw [hT])
              rw [hnx2] at hsp
              have HSp2 := Lib.hid (show Lx.spans s = ((pre ++ [T]) ++ (Lx.spansN s f' jn T).1, (Lx.spansN s f' jn T).2) by rw [hsp, hT, List.append_assoc]; rfl)
              have hpl : pre.length + 1 ≤ 6000 := by
                have h := H6.out
                rw [HSp2.out] at h
                simp only [List.length_append, List.length_cons, List.length_nil] at h
                omega
              have d6 : ((pre.length : Int) == 6000) = false := beq_eq_false_iff_ne.2 (by omega)
              have d6n : (pre.length == 6000) = false := beq_eq_false_iff_ne.2 (by omega)
              have hTc : T.cells = [.int .i64 k, .string tx, .int .i64 ln2, .int .i64 cl2, .int .i64 j, .int .i64 jn] := by rw [hT, ← HTx.out]; rfl
              have HTc := Lib.hid hTc
              have H1c := Lib.hid (cells_one T)
              have HCn : Hid (∀ W : World, ∀ B, B = W.heap.size → ∀ i u, T.cells[i]? = some u → (W.alloc (.cells #[.int .i64 k, .string tx, .int .i64 ln2, .int .i64 cl2, .int .i64 j, .int .i64 jn] 65)).cell? ((⟨B, 0, none⟩ : Addr).add i) = some u) := Lib.hid (by
                have h := fun W B hB => piece_new W T B hB
                rw [hT] at h ⊢
                rw [← HTx.out]
                exact h)
              have HTt := Lib.hid (show T.to = jn by rw [hT])
              rw [show T.cells = [.int .i64 k, .string tx, .int .i64 ln2, .int .i64 cl2, .int .i64 j, .int .i64 jn] from hTc] at H1c HCn
              clear hsp hnx hnx2 hT hTc
              by_cases hl0 : l0 = 0
              · have dL : decide ((1 : Int) < Lz) = false := decide_eq_false (by have := HL0.out; omega)
                have v5 : IntKind.i64.wrap ((cl : Int) + C0) = (cl2 : Int) := by rw [HCol.out.1 hl0]; exact IntWalk.i64_in _ (by omega)
                have s5 : (cl : Int) + C0 = (cl2 : Int) := HCol.out.1 hl0
                clear hl0 HCol
                go_wp2_with fail
                refine (HPc.out _).mono ?_
                rintro e w3 ⟨rfl, hw3⟩
                rw [hw3]
                clear hw3
                go_wp2_with (at_builtin; refine wpList_append_own _ rfl _ _ 61 rfl w.heap.size 65 i0 _ 6 56 Tryd.underlying61 hi hz0 hz1 hz2 rfl (by decide) (.slice o pre.length c) pre.length (spCells pre) rfl ((HR2.out.alloc _).alloc _) ⟨w2.heap.size + 1, 0, none⟩ 1 1 _ rfl rfl (HCn.out _ _ (by simp)) H1c.out (by show _ ≤ 9223372036854775807; omega) (by omega) (by simp; omega) ?_; intro v' w4 hown' hgrow _; have HOw := Lib.hid hown'; have HGw := Lib.hid hgrow; clear hown' hgrow)
                have HR4 : Hid (w4.ownsRow w.heap.size 65 6 v' (pre ++ [T]).length (spCells (pre ++ [T]))) := Lib.hid (by
                  rw [spCells_snoc, HTc.out, List.length_append]
                  exact HOw.out)
                have HB4 : Hid (Below w.heap.size w w4) := Lib.hid (((HW2.out.alloc hwz _).alloc (by simp; omega) _).grown HGw.out (by simp; omega) (fun b e => (HR2.out.lt b e).1))
                clear HOw HGw HCn H1c
                go_roundg (s.length - jn)
                case rel => exact ⟨jn, f', ln2, cn, pre ++ [T], T, hjnl, rfl, rfl, rfl, hln21, hcnl, HPn, HFl, HSp2, Lib.hid (.inr (by simp)), HR4, HB4, rfl⟩
                case measure => omega
              · have dL : decide ((1 : Int) < Lz) = true := decide_eq_true (by have := HL0.out; omega)
                have s5 : Cz = (cl2 : Int) := HCol.out.2 hl0
                clear hl0 HCol
                go_wp2_with fail
                refine (HPc.out _).mono ?_
                rintro e w3 ⟨rfl, hw3⟩
                rw [hw3]
                clear hw3
                go_wp2_with (at_builtin; refine wpList_append_own _ rfl _ _ 61 rfl w.heap.size 65 i0 _ 6 56 Tryd.underlying61 hi hz0 hz1 hz2 rfl (by decide) (.slice o pre.length c) pre.length (spCells pre) rfl ((HR2.out.alloc _).alloc _) ⟨w2.heap.size + 1, 0, none⟩ 1 1 _ rfl rfl (HCn.out _ _ (by simp)) H1c.out (by show _ ≤ 9223372036854775807; omega) (by omega) (by simp; omega) ?_; intro v' w4 hown' hgrow _; have HOw := Lib.hid hown'; have HGw := Lib.hid hgrow; clear hown' hgrow)
                have HR4 : Hid (w4.ownsRow w.heap.size 65 6 v' (pre ++ [T]).length (spCells (pre ++ [T]))) := Lib.hid (by
                  rw [spCells_snoc, HTc.out, List.length_append]
                  exact HOw.out)
                have HB4 : Hid (Below w.heap.size w w4) := Lib.hid (((HW2.out.alloc hwz _).alloc (by simp; omega) _).grown HGw.out (by simp; omega) (fun b e => (HR2.out.lt b e).1))
                clear HOw HGw HCn H1c
                go_roundg (s.length - jn)
                case rel => exact ⟨jn, f', ln2, cn, pre ++ [T], T, hjnl, rfl, rfl, rfl, hln21, hcnl, HPn, HFl, HSp2, Lib.hid (.inr (by simp)), HR4, HB4, rfl⟩
                case measure => omega
end Go.Proofs.YtcjcbhdildcceaaDoor
/- Contract of Edit of the specification's package. Conditions: those in the statement. -/
namespace Go.Proofs.YtcjcbhdildcceaaDoor
open Go.RowKit
set_option linter.unusedVariables false
set_option linter.unusedSimpArgs false

theorem tw_no {α : Type} (p : α → Bool) : ∀ (l : List α) (t : α), l[(l.takeWhile p).length]? = some t → p t = false
  | [], t, h => by simp at h
  | x :: r, t, h => by
    rw [List.takeWhile_cons] at h
    cases hx : p x with
    | false => rw [hx] at h; simp at h; rw [← h]; exact hx
    | true =>
      rw [hx, if_pos rfl, List.length_cons, List.getElem?_cons_succ] at h
      exact tw_no p r t h
theorem refDiv_any (s : List UInt8) (w : World) (h6 : s.length ≤ 20000 → (Lx.spans s).1.length ≤ 6000) : Calls Tryd.prog 33 #[.string ⟨s.toArray⟩] w (RetDiv s w) := by
  by_cases h : s.length ≤ 20000
  · exact refDivide_c s w h (h6 h)
  · exact refDivide_long s w (by omega)
/-- What Edit answers. -/
def RetEd (R : List UInt8 × Nat × Nat × Nat × Nat) (w : World) (e : Ending) (w' : World) : Prop := e = .returned (.tuple #[.string ⟨R.1.toArray⟩, .int .i64 R.2.1, .int .i64 R.2.2.1, .int .i64 R.2.2.2.1, .int .i64 R.2.2.2.2]) ∧ Below w.heap.size w w'

set_option maxHeartbeats 1000000 in
set_option maxRecDepth 100000 in
theorem refEdit_bad (s wi : List UInt8) (from_ to_ : Int) (w : World) (hsl : s.length ≤ 1000000) (h0 : from_ < 0 ∨ to_ < from_ ∨ (s.length : Int) < to_) :
    Calls Tryd.prog 14 #[.string ⟨s.toArray⟩, .int .i64 from_, .int .i64 to_, .string ⟨wi.toArray⟩] w (RetEd (Lx.editOf s from_ to_ wi) w) := by
  have hss : (⟨s.toArray⟩ : ByteArray).size = s.length := by simp [ByteArray.size]
  have HX := Lib.hid (show Lx.editOf s from_ to_ wi = ([], 0, 0, 1, 0) by unfold Lx.editOf; rw [if_pos h0])
  by_cases d0 : from_ < 0
  · have e0 : decide (from_ < 0) = true := decide_eq_true d0
    clear h0 d0
    go_enter Tryd.func14, Tryd.ntmps14
    go_wp2_with fail
    refine bodyPost_ret (v := .tuple #[.string ⟨#[]⟩, .int .i64 0, .int .i64 0, .int .i64 1, .int .i64 0]) ?_ rfl ⟨by rw [HX.out]; rfl, Below.refl _ _⟩
    simp [results, Tryd.results14, go_sem]
  · have e0 : decide (from_ < 0) = false := decide_eq_false d0
    by_cases d1 : to_ < from_
    · have e1 : decide (to_ < from_) = true := decide_eq_true d1
      clear h0 d0 d1
      go_enter Tryd.func14, Tryd.ntmps14
      go_wp2_with fail
      refine bodyPost_ret (v := .tuple #[.string ⟨#[]⟩, .int .i64 0, .int .i64 0, .int .i64 1, .int .i64 0]) ?_ rfl ⟨by rw [HX.out]; rfl, Below.refl _ _⟩
      simp [results, Tryd.results14, go_sem]
    · have e1 : decide (to_ < from_) = false := decide_eq_false d1
      have e2 : decide ((s.length : Int) < to_) = true := decide_eq_true (by omega)
      clear h0 d0 d1
      go_enter Tryd.func14, Tryd.ntmps14
      go_wp2_with fail
      refine bodyPost_ret (v := .tuple #[.string ⟨#[]⟩, .int .i64 0, .int .i64 0, .int .i64 1, .int .i64 0]) ?_ rfl ⟨by rw [HX.out]; rfl, Below.refl _ _⟩
      simp [results, Tryd.results14, go_sem]

set_option maxHeartbeats 4000000 in
set_option maxRecDepth 100000 in
theorem refEdit_ok (s wi : List UInt8) (a b : Nat) (w : World) (hsl : s.length ≤ 1000000) (hwl : wi.length ≤ 1000000) (hab : a ≤ b) (hbs : b ≤ s.length)
    (h6 : s.length ≤ 20000 → (Lx.spans s).1.length ≤ 6000) (he : (Lx.edited s wi a b).length ≤ 20000 → (Lx.spans (Lx.edited s wi a b)).1.length ≤ 6000) :
    Calls Tryd.prog 14 #[.string ⟨s.toArray⟩, .int .i64 (a : Int), .int .i64 (b : Int), .string ⟨wi.toArray⟩] w (RetEd (Lx.editOf s (a : Int) (b : Int) wi) w) := by
  have hss : (⟨s.toArray⟩ : ByteArray).size = s.length := by simp [ByteArray.size]
  have hsw : (⟨wi.toArray⟩ : ByteArray).size = wi.length := by simp [ByteArray.size]
  have has : a ≤ s.length := by omega
  have e0 : decide ((a : Int) < 0) = false := decide_eq_false (by omega)
  have e1 : decide ((b : Int) < (a : Int)) = false := decide_eq_false (by omega)
  have e2 : decide ((s.length : Int) < (b : Int)) = false := decide_eq_false (by omega)
  have HX := Lib.hid (show Lx.editOf s (a : Int) (b : Int) wi = _ from by unfold Lx.editOf; rw [if_neg (by omega)])
  simp only [Int.toNat_natCast] at HX
  have HD := Lib.hid (fun W => refDiv_any s W h6)
  have hdl := divide_len s h6
  have HDE := Lib.hid (fun W => refDiv_any (Lx.edited s wi a b) W he)
  have hdl2 := divide_len (Lx.edited s wi a b) he
  have HT := Lib.hid (edit_tail s wi a b hab hbs)
  have HEL := edited_len s wi a b hab hbs
  have HDF := Lib.hid (divide_frm s)
  have HDF2 := Lib.hid (divide_frm (Lx.edited s wi a b))
  have hex : (⟨s.toArray⟩ : ByteArray).extract 0 a ++ ⟨wi.toArray⟩ ++ (⟨s.toArray⟩ : ByteArray).extract b s.length = ⟨(Lx.edited s wi a b).toArray⟩ := by
    rw [ba_take, ba_drop, ba_append, ba_append]; unfold Lx.edited; rw [List.append_assoc]
  have hz1 : ((⟨s.toArray⟩ : ByteArray).extract 0 a).size = a := by rw [ba_take]; simp [ByteArray.size]; omega
  have hz2 : ((⟨s.toArray⟩ : ByteArray).extract b s.length).size = s.length - b := by rw [ba_drop]; simp [ByteArray.size]
  have hz3 : ((⟨s.toArray⟩ : ByteArray).extract 0 a ++ ⟨wi.toArray⟩).size = a + wi.length := by rw [ByteArray.size_append, hz1, hsw]
  unfold RetDiv at HD HDE
  have hez : (⟨(Lx.edited s wi a b).toArray⟩ : ByteArray).size = (Lx.edited s wi a b).length := by simp [ByteArray.size]
  clear h6 he
  generalize hed : Lx.edited s wi a b = ed at *
  have hel2 : ed.length ≤ 2000000 := by omega
  generalize Lx.divide s = R at *
  obtain ⟨l, c, ix⟩ := R
  generalize Lx.divide ed = R2 at *
  obtain ⟨l2, c2, ix2⟩ := R2
  dsimp only at HD HDE hdl hdl2 HX HT HDF HDF2
  have a0 : (0 : Int) ≤ (a : Int) := Int.natCast_nonneg _
  have a1 : (a : Int) ≤ (s.length : Int) := by omega
  have b0 : (0 : Int) ≤ (b : Int) := Int.natCast_nonneg _
  have b1 : (b : Int) ≤ (s.length : Int) := by omega
  have c0 : (0 : Int) ≤ (s.length : Int) := Int.natCast_nonneg _
  have HEx := Lib.hid hex
  clear hex hed
  by_cases hc : c = 0
  · subst hc
    rw [if_neg (by simp)] at HX
    go_enter Tryd.func14, Tryd.ntmps14
    go_wp2_with fail
    refine (HD.out _).mono ?_
    rintro e w1 ⟨o, cp, rfl, hs1, hb1⟩
    have HS1 := Lib.hid hs1
    have HB1 := Lib.hid hb1
    clear hs1 hb1 HD
    go_wp2_with fail
    go_quiet (fail)
    go_wp2_with fail
    rw [HEx.out]
    have hq : Below w1.heap.size w1 (w1.drewN nq) := below_dn (Below.refl _ w1) nq
    refine (HDE.out (w1.drewN nq)).mono ?_
    rintro e w2 ⟨o2, cp2, rfl, hs2, hb2⟩
    have hb3 : Below w1.heap.size w1 w2 := hq.trans (hb2.mono hq.size)
    have HS2 := Lib.hid hs2
    have HSA := Lib.hid (spAt_below hb3 HS1.out)
    have HB2 := Lib.hid (HB1.out.trans (hb3.mono HB1.out.size))
    clear hs2 hb2 hb3 hq HDE
    by_cases hc2 : c2 = 0
    · subst hc2
      rw [if_neg (by simp)] at HX
      obtain ⟨H, hH⟩ : ∃ z, (l.takeWhile fun t => decide ((t.to : Int) < (a : Int))).length = z := ⟨_, rfl⟩
      obtain ⟨T, hT⟩ : ∃ z, Lx.sameEnd (l.drop (l.takeWhile fun t => decide ((t.frm : Int) < (b : Int))).length) l2 ((ed.length : Int) - (s.length : Int)) = z := ⟨_, rfl⟩
      rw [hH, hT] at HX
      obtain ⟨t1, t2, t3, t4, t5⟩ := HT.out (by trivial) (by trivial) l l2 rfl rfl H T hH hT
      have T4 := Lib.hid t4
      have T5 := Lib.hid t5
      have HH := Lib.hid hH
      have HDFa := Lib.hid (HDF.out (by trivial))
      have HDFb := Lib.hid (HDF2.out (by trivial))
      clear t4 t5 hH hT HT HDF HDF2
      go_wp2_with fail
      go_loopg [18] l.length (fun g v wr => ∃ k : Nat, k ≤ H ∧ v = .int .i64 k ∧ wr = w2 ∧ g = l.length - k)
      case atStart => exact ⟨0, Nat.zero_le _, rfl, rfl, rfl⟩
      case round =>
        obtain ⟨k, hk, rfl, rfl, hg⟩ := hrel
        by_cases hkH : k = H
        · replace hkH := hkH.symm
          subst hkH
          clear hk
          by_cases hHl : H = l.length
          · have dl : decide ((H : Int) < (l.length : Int)) = false := decide_eq_false (by omega)
            have dln : decide (H < l.length) = false := decide_eq_false (by omega)
            clear hHl
            go_wp2_with fail
            go_loopg [19, 20, 21] (T + 1) (fun gg v q1 q2 wr => ∃ k : Nat, k ≤ T ∧ v = .int .i64 k ∧ Hid (SpAt wr o l) ∧ Hid (SpAt wr o2 l2) ∧ Hid (Below w.heap.size w wr) ∧ gg = T + 1 - k)
            case atStart => exact ⟨0, Nat.zero_le _, rfl, HSA, HS2, HB2, rfl⟩
            case round =>
              obtain ⟨k, hk, rfl, HA, HBb, HW, hg⟩ := hrel
              have wr1 : IntKind.i64.wrap ((l.length : Int) - (H : Int)) = (l.length : Int) - (H : Int) := IntWalk.i64_in _ (by omega)
              have wr2 : IntKind.i64.wrap ((l2.length : Int) - (H : Int)) = (l2.length : Int) - (H : Int) := IntWalk.i64_in _ (by omega)
              by_cases hA : (k : Int) < (l.length : Int) - (H : Int)
              · have dA : decide ((k : Int) < (l.length : Int) - (H : Int)) = true := decide_eq_true hA
                by_cases hB : (k : Int) < (l2.length : Int) - (H : Int)
                · have dB : decide ((k : Int) < (l2.length : Int) - (H : Int)) = true := decide_eq_true hB
                  have hkl : l.length - 1 - k < l.length := by omega
                  have hkl2 : l2.length - 1 - k < l2.length := by omega
                  obtain ⟨x, y, hx, hy, hst⟩ : ∃ x y, l[l.length - 1 - k]? = some x ∧ l2[l2.length - 1 - k]? = some y ∧ Lx.stay (b : Int) s.length ed.length x y = decide (k < T) := by
                    by_cases hkT : k < T
                    · obtain ⟨x, y, h1, h2, h3⟩ := T4.out k hkT
                      exact ⟨x, y, h1, h2, by rw [h3, decide_eq_true hkT]⟩
                    · have e : k = T := by omega
                      obtain ⟨x, y, h1, h2, h3⟩ := T5.out (by omega) (by omega)
                      rw [← e] at h1 h2
                      exact ⟨x, y, h1, h2, by rw [h3, decide_eq_false hkT]⟩
                  have hfx := HDFa.out x (List.mem_of_getElem? hx)
                  have hfy := HDFb.out y (List.mem_of_getElem? hy)
                  obtain ⟨i, hi⟩ : ∃ z, l.length - 1 - k = z := ⟨_, rfl⟩
                  obtain ⟨j, hj⟩ : ∃ z, l2.length - 1 - k = z := ⟨_, rfl⟩
                  rw [hi] at hx hkl
                  rw [hj] at hy hkl2
                  obtain ⟨gA, rfl, hgA, hcA⟩ := HA.out i x hx
                  obtain ⟨gB, rfl, hgB, hcB⟩ := HBb.out j y hy
                  have hwz : w.heap.size ≤ wr.heap.size := HW.out.size
                  have hb0 : Below wr.heap.size wr (wr.alloc (.cells #[.int .i64 x.kind, .string ⟨x.text.toArray⟩, .int .i64 x.line, .int .i64 x.col, .int .i64 x.frm, .int .i64 x.to] 65)) := (Below.refl _ wr).alloc (Nat.le_refl _) _
                  have hcB2 : ∀ q, q < 6 → (wr.alloc (.cells #[.int .i64 x.kind, .string ⟨x.text.toArray⟩, .int .i64 x.line, .int .i64 x.col, .int .i64 x.frm, .int .i64 x.to] 65)).cell? ⟨gB, j * 6 + q, none⟩ = y.cells[q]? := fun q hq => (hb0.cell (p := ⟨gB, j * 6 + q, none⟩) hgB).trans (hcB q hq)
                  have hb2 : Below wr.heap.size wr ((wr.alloc (.cells #[.int .i64 x.kind, .string ⟨x.text.toArray⟩, .int .i64 x.line, .int .i64 x.col, .int .i64 x.frm, .int .i64 x.to] 65)).alloc (.cells #[.int .i64 y.kind, .string ⟨y.text.toArray⟩, .int .i64 y.line, .int .i64 y.col, .int .i64 y.frm, .int .i64 y.to] 65)) := hb0.alloc (by simp) _
                  have x0 := hcA 0 (by decide)
                  have x1 := hcA 1 (by decide)
                  have x2 := hcA 2 (by decide)
                  have x3 := hcA 3 (by decide)
                  have x4 := hcA 4 (by decide)
                  have x5 := hcA 5 (by decide)
                  have y0 := hcB2 0 (by decide)
                  have y1 := hcB2 1 (by decide)
                  have y2 := hcB2 2 (by decide)
                  have y3 := hcB2 3 (by decide)
                  have y4 := hcB2 4 (by decide)
                  have y5 := hcB2 5 (by decide)
                  simp only [Lx.Sp.cells, List.getElem?_cons_succ, List.getElem?_cons_zero, Nat.add_zero] at x0 x1 x2 x3 x4 x5 y0 y1 y2 y3 y4 y5
                  have v1 : IntKind.i64.wrap ((l.length : Int) - 1) = (l.length : Int) - 1 := IntWalk.i64_in _ (by omega)
                  have v2 : IntKind.i64.wrap ((l.length : Int) - 1 - (k : Int)) = (i : Int) := by rw [show (l.length : Int) - 1 - (k : Int) = (i : Int) by omega]; exact IntWalk.i64_in _ (by omega)
                  have v3 : IntKind.i64.wrap ((l2.length : Int) - 1) = (l2.length : Int) - 1 := IntWalk.i64_in _ (by omega)
                  have v4 : IntKind.i64.wrap ((l2.length : Int) - 1 - (k : Int)) = (j : Int) := by rw [show (l2.length : Int) - 1 - (k : Int) = (j : Int) by omega]; exact IntWalk.i64_in _ (by omega)
                  have s2 : (l.length : Int) - 1 - (k : Int) = (i : Int) := by omega
                  have s4 : (l2.length : Int) - 1 - (k : Int) = (j : Int) := by omega
                  have i0' : (0 : Int) ≤ (i : Int) := Int.natCast_nonneg _
                  have i1' : (i : Int) < (l.length : Int) := by omega
                  have j0' : (0 : Int) ≤ (j : Int) := Int.natCast_nonneg _
                  have j1' : (j : Int) < (l2.length : Int) := by omega
                  have u1 : IntKind.i64.wrap ((s.length : Int) - (x.frm : Int)) = (s.length : Int) - (x.frm : Int) := IntWalk.i64_in _ (by omega)
                  have u2 : IntKind.i64.wrap ((ed.length : Int) - (y.frm : Int)) = (ed.length : Int) - (y.frm : Int) := IntWalk.i64_in _ (by omega)
                  have u3 : IntKind.i64.wrap ((k : Int) + 1) = (k : Int) + 1 := IntWalk.i64_in _ (by omega)
                  clear hcA hcB hcB2 hx hy hb0 hi hj hfx hfy
                  by_cases q1 : x.kind = y.kind
                  · have m1 : ((x.kind : Int) != (y.kind : Int)) = false := by rw [q1]; simp
                    have m1n : (x.kind != y.kind) = false := by rw [q1]; simp
                    by_cases q2 : x.text = y.text
                    · have m2 : ((⟨x.text.toArray⟩ : ByteArray).toList == (⟨y.text.toArray⟩ : ByteArray).toList) = true := by rw [q2]; simp
                      have m2n : (x.text == y.text) = true := by rw [q2]; simp
                      by_cases q3 : x.frm < b
                      · have m3 : decide ((x.frm : Int) < (b : Int)) = true := decide_eq_true (by omega)
                        have m3n : decide (x.frm < b) = true := decide_eq_true q3
                        have HK := Lib.hid (show k = T by
                          have hs : Lx.stay (b : Int) s.length ed.length x y = false := by unfold Lx.stay; simp [q1, q2, q3]
                          rw [hs] at hst
                          have := of_decide_eq_false hst.symm
                          omega)
                        clear hst q1 q2 q3
                        go_wp2_with fail
                        refine bodyPost_ret (v := .tuple #[.string ⟨ed.toArray⟩, .int .i64 H, .int .i64 k, .int .i64 0, .int .i64 0]) ?_ rfl ⟨by rw [HX.out, HK.out]; rfl, ((HW.out.alloc hwz _).alloc (by simp; omega) _)⟩
                        simp [results, Tryd.results14, go_sem]
                      · have m3 : decide ((x.frm : Int) < (b : Int)) = false := decide_eq_false (by omega)
                        have m3n : decide (x.frm < b) = false := decide_eq_false q3
                        by_cases q4 : (s.length : Int) - (x.frm : Int) = (ed.length : Int) - (y.frm : Int)
                        · have m4 : (((s.length : Int) - (x.frm : Int)) != ((ed.length : Int) - (y.frm : Int))) = false := by rw [q4]; simp
                          have hkT : k < T := by
                            have hs : Lx.stay (b : Int) s.length ed.length x y = true := by unfold Lx.stay; simp [q1, q2, q4]; omega
                            rw [hs] at hst
                            exact of_decide_eq_true hst.symm
                          clear hst q1 q2 q3 q4
                          go_wp2_with fail
                          go_roundg (T + 1 - (k + 1))
                          case rel => exact ⟨k + 1, by omega, by go_num, Lib.hid (spAt_below hb2 HA.out), Lib.hid (spAt_below hb2 HBb.out), Lib.hid (HW.out.trans (hb2.mono hwz)), rfl⟩
                          case measure => omega
                        · have m4 : (((s.length : Int) - (x.frm : Int)) != ((ed.length : Int) - (y.frm : Int))) = true := bne_iff_ne.2 q4
                          have HK := Lib.hid (show k = T by
                            have hs : Lx.stay (b : Int) s.length ed.length x y = false := by unfold Lx.stay; simp [q1, q2, q3, q4]
                            rw [hs] at hst
                            have := of_decide_eq_false hst.symm
                            omega)
                          clear hst q1 q2 q3 q4
                          go_wp2_with fail
                          refine bodyPost_ret (v := .tuple #[.string ⟨ed.toArray⟩, .int .i64 H, .int .i64 k, .int .i64 0, .int .i64 0]) ?_ rfl ⟨by rw [HX.out, HK.out]; rfl, ((HW.out.alloc hwz _).alloc (by simp; omega) _)⟩
                          simp [results, Tryd.results14, go_sem]
                    · have m2 : ((⟨x.text.toArray⟩ : ByteArray).toList == (⟨y.text.toArray⟩ : ByteArray).toList) = false := beq_eq_false_iff_ne.2 (fun e => q2 (by rw [ByteArray.toList_eq, ByteArray.toList_eq] at e; simpa using e))
                      have m2n : (x.text == y.text) = false := beq_eq_false_iff_ne.2 q2
                      have HK := Lib.hid (show k = T by
                        have hs : Lx.stay (b : Int) s.length ed.length x y = false := by unfold Lx.stay; simp [q1, q2]
                        rw [hs] at hst
                        have := of_decide_eq_false hst.symm
                        omega)
                      clear hst q1 q2
                      go_wp2_with fail
                      refine bodyPost_ret (v := .tuple #[.string ⟨ed.toArray⟩, .int .i64 H, .int .i64 k, .int .i64 0, .int .i64 0]) ?_ rfl ⟨by rw [HX.out, HK.out]; rfl, ((HW.out.alloc hwz _).alloc (by simp; omega) _)⟩
                      simp [results, Tryd.results14, go_sem]
                  · have m1 : ((x.kind : Int) != (y.kind : Int)) = true := bne_iff_ne.2 (by omega)
                    have m1n : (x.kind != y.kind) = true := bne_iff_ne.2 q1
                    have HK := Lib.hid (show k = T by
                      have hs : Lx.stay (b : Int) s.length ed.length x y = false := by unfold Lx.stay; simp [q1]; try omega
                      rw [hs] at hst
                      have := of_decide_eq_false hst.symm
                      omega)
                    clear hst q1
                    go_wp2_with fail
                    refine bodyPost_ret (v := .tuple #[.string ⟨ed.toArray⟩, .int .i64 H, .int .i64 k, .int .i64 0, .int .i64 0]) ?_ rfl ⟨by rw [HX.out, HK.out]; rfl, ((HW.out.alloc hwz _).alloc (by simp; omega) _)⟩
                    simp [results, Tryd.results14, go_sem]
                · have dB : decide ((k : Int) < (l2.length : Int) - (H : Int)) = false := decide_eq_false hB
                  have hkT : k = T := by omega
                  have HK := Lib.hid hkT
                  clear hA hB hkT
                  go_wp2_with fail
                  refine bodyPost_ret (v := .tuple #[.string ⟨ed.toArray⟩, .int .i64 H, .int .i64 k, .int .i64 0, .int .i64 0]) ?_ rfl ⟨by rw [HX.out, HK.out]; rfl, HW.out⟩
                  simp [results, Tryd.results14, go_sem]
              · have dA : decide ((k : Int) < (l.length : Int) - (H : Int)) = false := decide_eq_false hA
                have hkT : k = T := by omega
                have HK := Lib.hid hkT
                clear hA hkT
                go_wp2_with fail
                refine bodyPost_ret (v := .tuple #[.string ⟨ed.toArray⟩, .int .i64 H, .int .i64 k, .int .i64 0, .int .i64 0]) ?_ rfl ⟨by rw [HX.out, HK.out]; rfl, HW.out⟩
                simp [results, Tryd.results14, go_sem]
          · have hkl : H < l.length := by omega
            have dl : decide ((H : Int) < (l.length : Int)) = true := decide_eq_true (by omega)
            have dln : decide (H < l.length) = true := decide_eq_true hkl
            obtain ⟨t, ht⟩ : ∃ t, l[H]? = some t := ⟨_, List.getElem?_eq_getElem hkl⟩
            have hp : decide ((t.to : Int) < (a : Int)) = false := tw_no (fun t : Lx.Sp => decide ((t.to : Int) < (a : Int))) l t (by rw [HH.out]; exact ht)
            have hpn : decide (t.to < a) = false := decide_eq_false (fun h => absurd hp (by simp [h]))
            obtain ⟨g, rfl, hgl, hcell⟩ := HSA.out H t ht
            have x5 := hcell 5 (by decide)
            simp only [Lx.Sp.cells, List.getElem?_cons_succ, List.getElem?_cons_zero, Nat.add_zero] at x5
            have hl0 : (0 : Int) ≤ (H : Int) := Int.natCast_nonneg _
            have hl1 : (H : Int) < (l.length : Int) := by omega
            clear hcell ht
            go_wp2_with fail
            go_loopg [19, 20, 21] (T + 1) (fun gg v q1 q2 wr => ∃ k : Nat, k ≤ T ∧ v = .int .i64 k ∧ Hid (SpAt wr (some ⟨g, 0, none⟩) l) ∧ Hid (SpAt wr o2 l2) ∧ Hid (Below w.heap.size w wr) ∧ gg = T + 1 - k)
            case atStart => exact ⟨0, Nat.zero_le _, rfl, HSA, HS2, HB2, rfl⟩
            case round =>
              obtain ⟨k, hk, rfl, HA, HBb, HW, hg⟩ := hrel
              have wr1 : IntKind.i64.wrap ((l.length : Int) - (H : Int)) = (l.length : Int) - (H : Int) := IntWalk.i64_in _ (by omega)
              have wr2 : IntKind.i64.wrap ((l2.length : Int) - (H : Int)) = (l2.length : Int) - (H : Int) := IntWalk.i64_in _ (by omega)
              by_cases hA : (k : Int) < (l.length : Int) - (H : Int)
              · have dA : decide ((k : Int) < (l.length : Int) - (H : Int)) = true := decide_eq_true hA
                by_cases hB : (k : Int) < (l2.length : Int) - (H : Int)
                · have dB : decide ((k : Int) < (l2.length : Int) - (H : Int)) = true := decide_eq_true hB
                  have hkl : l.length - 1 - k < l.length := by omega
                  have hkl2 : l2.length - 1 - k < l2.length := by omega
                  obtain ⟨x, y, hx, hy, hst⟩ : ∃ x y, l[l.length - 1 - k]? = some x ∧ l2[l2.length - 1 - k]? = some y ∧ Lx.stay (b : Int) s.length ed.length x y = decide (k < T) := by
                    by_cases hkT : k < T
                    · obtain ⟨x, y, h1, h2, h3⟩ := T4.out k hkT
                      exact ⟨x, y, h1, h2, by rw [h3, decide_eq_true hkT]⟩
                    · have e : k = T := by omega
                      obtain ⟨x, y, h1, h2, h3⟩ := T5.out (by omega) (by omega)
                      rw [← e] at h1 h2
                      exact ⟨x, y, h1, h2, by rw [h3, decide_eq_false hkT]⟩
                  have hfx := HDFa.out x (List.mem_of_getElem? hx)
                  have hfy := HDFb.out y (List.mem_of_getElem? hy)
                  obtain ⟨i, hi⟩ : ∃ z, l.length - 1 - k = z := ⟨_, rfl⟩
                  obtain ⟨j, hj⟩ : ∃ z, l2.length - 1 - k = z := ⟨_, rfl⟩
                  rw [hi] at hx hkl
                  rw [hj] at hy hkl2
                  obtain ⟨gA, eA, hgA, hcA⟩ := HA.out i x hx
                  injection eA with eA
                  injection eA with eA1 eA2 eA3
                  subst eA1
                  obtain ⟨gB, rfl, hgB, hcB⟩ := HBb.out j y hy
                  have hwz : w.heap.size ≤ wr.heap.size := HW.out.size
                  have hb0 : Below wr.heap.size wr (wr.alloc (.cells #[.int .i64 x.kind, .string ⟨x.text.toArray⟩, .int .i64 x.line, .int .i64 x.col, .int .i64 x.frm, .int .i64 x.to] 65)) := (Below.refl _ wr).alloc (Nat.le_refl _) _
                  have hcB2 : ∀ q, q < 6 → (wr.alloc (.cells #[.int .i64 x.kind, .string ⟨x.text.toArray⟩, .int .i64 x.line, .int .i64 x.col, .int .i64 x.frm, .int .i64 x.to] 65)).cell? ⟨gB, j * 6 + q, none⟩ = y.cells[q]? := fun q hq => (hb0.cell (p := ⟨gB, j * 6 + q, none⟩) hgB).trans (hcB q hq)
                  have hb2 : Below wr.heap.size wr ((wr.alloc (.cells #[.int .i64 x.kind, .string ⟨x.text.toArray⟩, .int .i64 x.line, .int .i64 x.col, .int .i64 x.frm, .int .i64 x.to] 65)).alloc (.cells #[.int .i64 y.kind, .string ⟨y.text.toArray⟩, .int .i64 y.line, .int .i64 y.col, .int .i64 y.frm, .int .i64 y.to] 65)) := hb0.alloc (by simp) _
                  have x0 := hcA 0 (by decide)
                  have x1 := hcA 1 (by decide)
                  have x2 := hcA 2 (by decide)
                  have x3 := hcA 3 (by decide)
                  have x4 := hcA 4 (by decide)
                  have x5 := hcA 5 (by decide)
                  have y0 := hcB2 0 (by decide)
                  have y1 := hcB2 1 (by decide)
                  have y2 := hcB2 2 (by decide)
                  have y3 := hcB2 3 (by decide)
                  have y4 := hcB2 4 (by decide)
                  have y5 := hcB2 5 (by decide)
                  simp only [Lx.Sp.cells, List.getElem?_cons_succ, List.getElem?_cons_zero, Nat.add_zero] at x0 x1 x2 x3 x4 x5 y0 y1 y2 y3 y4 y5
                  have v1 : IntKind.i64.wrap ((l.length : Int) - 1) = (l.length : Int) - 1 := IntWalk.i64_in _ (by omega)
                  have v2 : IntKind.i64.wrap ((l.length : Int) - 1 - (k : Int)) = (i : Int) := by rw [show (l.length : Int) - 1 - (k : Int) = (i : Int) by omega]; exact IntWalk.i64_in _ (by omega)
                  have v3 : IntKind.i64.wrap ((l2.length : Int) - 1) = (l2.length : Int) - 1 := IntWalk.i64_in _ (by omega)
                  have v4 : IntKind.i64.wrap ((l2.length : Int) - 1 - (k : Int)) = (j : Int) := by rw [show (l2.length : Int) - 1 - (k : Int) = (j : Int) by omega]; exact IntWalk.i64_in _ (by omega)
                  have s2 : (l.length : Int) - 1 - (k : Int) = (i : Int) := by omega
                  have s4 : (l2.length : Int) - 1 - (k : Int) = (j : Int) := by omega
                  have i0' : (0 : Int) ≤ (i : Int) := Int.natCast_nonneg _
                  have i1' : (i : Int) < (l.length : Int) := by omega
                  have j0' : (0 : Int) ≤ (j : Int) := Int.natCast_nonneg _
                  have j1' : (j : Int) < (l2.length : Int) := by omega
                  have u1 : IntKind.i64.wrap ((s.length : Int) - (x.frm : Int)) = (s.length : Int) - (x.frm : Int) := IntWalk.i64_in _ (by omega)
                  have u2 : IntKind.i64.wrap ((ed.length : Int) - (y.frm : Int)) = (ed.length : Int) - (y.frm : Int) := IntWalk.i64_in _ (by omega)
                  have u3 : IntKind.i64.wrap ((k : Int) + 1) = (k : Int) + 1 := IntWalk.i64_in _ (by omega)
                  clear hcA hcB hcB2 hx hy hb0 hi hj hfx hfy
                  by_cases q1 : x.kind = y.kind
                  · have m1 : ((x.kind : Int) != (y.kind : Int)) = false := by rw [q1]; simp
                    have m1n : (x.kind != y.kind) = false := by rw [q1]; simp
                    by_cases q2 : x.text = y.text
                    · have m2 : ((⟨x.text.toArray⟩ : ByteArray).toList == (⟨y.text.toArray⟩ : ByteArray).toList) = true := by rw [q2]; simp
                      have m2n : (x.text == y.text) = true := by rw [q2]; simp
                      by_cases q3 : x.frm < b
                      · have m3 : decide ((x.frm : Int) < (b : Int)) = true := decide_eq_true (by omega)
                        have m3n : decide (x.frm < b) = true := decide_eq_true q3
                        have HK := Lib.hid (show k = T by
                          have hs : Lx.stay (b : Int) s.length ed.length x y = false := by unfold Lx.stay; simp [q1, q2, q3]
                          rw [hs] at hst
                          have := of_decide_eq_false hst.symm
                          omega)
                        clear hst q1 q2 q3
                        go_wp2_with fail
                        refine bodyPost_ret (v := .tuple #[.string ⟨ed.toArray⟩, .int .i64 H, .int .i64 k, .int .i64 0, .int .i64 0]) ?_ rfl ⟨by rw [HX.out, HK.out]; rfl, ((HW.out.alloc hwz _).alloc (by simp; omega) _)⟩
                        simp [results, Tryd.results14, go_sem]
                      · have m3 : decide ((x.frm : Int) < (b : Int)) = false := decide_eq_false (by omega)
                        have m3n : decide (x.frm < b) = false := decide_eq_false q3
                        by_cases q4 : (s.length : Int) - (x.frm : Int) = (ed.length : Int) - (y.frm : Int)
                        · have m4 : (((s.length : Int) - (x.frm : Int)) != ((ed.length : Int) - (y.frm : Int))) = false := by rw [q4]; simp
                          have hkT : k < T := by
                            have hs : Lx.stay (b : Int) s.length ed.length x y = true := by unfold Lx.stay; simp [q1, q2, q4]; omega
                            rw [hs] at hst
                            exact of_decide_eq_true hst.symm
                          clear hst q1 q2 q3 q4
                          go_wp2_with fail
                          go_roundg (T + 1 - (k + 1))
                          case rel => exact ⟨k + 1, by omega, by go_num, Lib.hid (spAt_below hb2 HA.out), Lib.hid (spAt_below hb2 HBb.out), Lib.hid (HW.out.trans (hb2.mono hwz)), rfl⟩
                          case measure => omega
                        · have m4 : (((s.length : Int) - (x.frm : Int)) != ((ed.length : Int) - (y.frm : Int))) = true := bne_iff_ne.2 q4
                          have HK := Lib.hid (show k = T by
                            have hs : Lx.stay (b : Int) s.length ed.length x y = false := by unfold Lx.stay; simp [q1, q2, q3, q4]
                            rw [hs] at hst
                            have := of_decide_eq_false hst.symm
                            omega)
                          clear hst q1 q2 q3 q4
                          go_wp2_with fail
                          refine bodyPost_ret (v := .tuple #[.string ⟨ed.toArray⟩, .int .i64 H, .int .i64 k, .int .i64 0, .int .i64 0]) ?_ rfl ⟨by rw [HX.out, HK.out]; rfl, ((HW.out.alloc hwz _).alloc (by simp; omega) _)⟩
                          simp [results, Tryd.results14, go_sem]
                    · have m2 : ((⟨x.text.toArray⟩ : ByteArray).toList == (⟨y.text.toArray⟩ : ByteArray).toList) = false := beq_eq_false_iff_ne.2 (fun e => q2 (by rw [ByteArray.toList_eq, ByteArray.toList_eq] at e; simpa using e))
                      have m2n : (x.text == y.text) = false := beq_eq_false_iff_ne.2 q2
                      have HK := Lib.hid (show k = T by
                        have hs : Lx.stay (b : Int) s.length ed.length x y = false := by unfold Lx.stay; simp [q1, q2]
                        rw [hs] at hst
                        have := of_decide_eq_false hst.symm
                        omega)
                      clear hst q1 q2
                      go_wp2_with fail
                      refine bodyPost_ret (v := .tuple #[.string ⟨ed.toArray⟩, .int .i64 H, .int .i64 k, .int .i64 0, .int .i64 0]) ?_ rfl ⟨by rw [HX.out, HK.out]; rfl, ((HW.out.alloc hwz _).alloc (by simp; omega) _)⟩
                      simp [results, Tryd.results14, go_sem]
                  · have m1 : ((x.kind : Int) != (y.kind : Int)) = true := bne_iff_ne.2 (by omega)
                    have m1n : (x.kind != y.kind) = true := bne_iff_ne.2 q1
                    have HK := Lib.hid (show k = T by
                      have hs : Lx.stay (b : Int) s.length ed.length x y = false := by unfold Lx.stay; simp [q1]; try omega
                      rw [hs] at hst
                      have := of_decide_eq_false hst.symm
                      omega)
                    clear hst q1
                    go_wp2_with fail
                    refine bodyPost_ret (v := .tuple #[.string ⟨ed.toArray⟩, .int .i64 H, .int .i64 k, .int .i64 0, .int .i64 0]) ?_ rfl ⟨by rw [HX.out, HK.out]; rfl, ((HW.out.alloc hwz _).alloc (by simp; omega) _)⟩
                    simp [results, Tryd.results14, go_sem]
                · have dB : decide ((k : Int) < (l2.length : Int) - (H : Int)) = false := decide_eq_false hB
                  have hkT : k = T := by omega
                  have HK := Lib.hid hkT
                  clear hA hB hkT
                  go_wp2_with fail
                  refine bodyPost_ret (v := .tuple #[.string ⟨ed.toArray⟩, .int .i64 H, .int .i64 k, .int .i64 0, .int .i64 0]) ?_ rfl ⟨by rw [HX.out, HK.out]; rfl, HW.out⟩
                  simp [results, Tryd.results14, go_sem]
              · have dA : decide ((k : Int) < (l.length : Int) - (H : Int)) = false := decide_eq_false hA
                have hkT : k = T := by omega
                have HK := Lib.hid hkT
                clear hA hkT
                go_wp2_with fail
                refine bodyPost_ret (v := .tuple #[.string ⟨ed.toArray⟩, .int .i64 H, .int .i64 k, .int .i64 0, .int .i64 0]) ?_ rfl ⟨by rw [HX.out, HK.out]; rfl, HW.out⟩
                simp [results, Tryd.results14, go_sem]
        · have hkl : k < l.length := by omega
          have dl : decide ((k : Int) < (l.length : Int)) = true := decide_eq_true (by omega)
          have dln : decide (k < l.length) = true := decide_eq_true hkl
          obtain ⟨t, ht⟩ : ∃ t, l[k]? = some t := ⟨_, List.getElem?_eq_getElem hkl⟩
          have hp : decide ((t.to : Int) < (a : Int)) = true := tw_at (fun t : Lx.Sp => decide ((t.to : Int) < (a : Int))) l k t (by rw [HH.out]; omega) ht
          have hpn : decide (t.to < a) = true := decide_eq_true (by have := of_decide_eq_true hp; omega)
          obtain ⟨g, rfl, hgl, hcell⟩ := HSA.out k t ht
          have x5 := hcell 5 (by decide)
          simp only [Lx.Sp.cells, List.getElem?_cons_succ, List.getElem?_cons_zero, Nat.add_zero] at x5
          have hl0 : (0 : Int) ≤ (k : Int) := Int.natCast_nonneg _
          have hl1 : (k : Int) < (l.length : Int) := by omega
          have hwr : IntKind.i64.wrap ((k : Int) + 1) = (k : Int) + 1 := IntWalk.i64_in _ (by omega)
          clear hcell ht
          go_wp2_with fail
          go_roundg (l.length - (k + 1))
          case rel => exact ⟨k + 1, by omega, by go_num, rfl, rfl⟩
          case measure => omega
    · have HX2 := Lib.hid (HX.out.trans (if_pos hc2))
      have dc : ((c2 : Int) != 0) = true := bne_iff_ne.2 (by omega)
      clear hc2 HX
      go_wp2_with fail
      refine bodyPost_ret (v := .tuple #[.string ⟨#[]⟩, .int .i64 0, .int .i64 0, .int .i64 c2, .int .i64 ix2]) ?_ rfl ⟨by rw [HX2.out]; rfl, HB2.out⟩
      simp [results, Tryd.results14, go_sem]
  · have HX2 := Lib.hid (HX.out.trans (if_pos hc))
    have dc : ((c : Int) != 0) = true := bne_iff_ne.2 (by omega)
    clear hc HX
    go_enter Tryd.func14, Tryd.ntmps14
    go_wp2_with fail
    refine (HD.out _).mono ?_
    rintro e w1 ⟨o, cp, rfl, hs1, hb1⟩
    have HB1 := Lib.hid hb1
    clear hs1 hb1 HD
    go_wp2_with fail
    refine bodyPost_ret (v := .tuple #[.string ⟨#[]⟩, .int .i64 0, .int .i64 0, .int .i64 c, .int .i64 ix]) ?_ rfl ⟨by rw [HX2.out]; rfl, HB1.out⟩
    simp [results, Tryd.results14, go_sem]
end Go.Proofs.YtcjcbhdildcceaaDoor
/- Contracts of weight and brief of the laws' package. Conditions: those in the statements. -/
namespace Go.Proofs.YtcjcbhdildcceaaDoor
open Go.RowKit

def Lx.brief (n : Nat) : Bool := decide (n ≤ 3000) || (decide (20000 < n) && decide (n ≤ 40000))
theorem brief_c (s : List UInt8) (w : World) :
    Calls Tryd.prog 12 #[.string ⟨s.toArray⟩] w fun e w' => e = .returned (.bool (Lx.brief s.length)) ∧ ∃ q, w' = w.drewN q := by
  have hss : (⟨s.toArray⟩ : ByteArray).size = s.length := by simp [ByteArray.size]
  go_enter Tryd.func12, Tryd.ntmps12
  generalize s.length = n at *
  by_cases h1 : n ≤ 3000
  · have d1 : decide ((n : Int) ≤ 3000) = true := decide_eq_true (by omega)
    have hb : Lx.brief n = true := by unfold Lx.brief; rw [decide_eq_true h1]; rfl
    clear h1
    go_wp2_with fail
    refine bodyPost_ret (v := .bool true) ?_ rfl ⟨by rw [hb], 0, rfl⟩
    simp [results, Tryd.results12, go_sem]
  · have d1 : decide ((n : Int) ≤ 3000) = false := decide_eq_false (by omega)
    by_cases h2 : 20000 < n
    · have d2 : decide ((20000 : Int) < (n : Int)) = true := decide_eq_true (by omega)
      by_cases h3 : n ≤ 40000
      · have d3 : decide ((n : Int) ≤ 40000) = true := decide_eq_true (by omega)
        have hb : Lx.brief n = true := by unfold Lx.brief; rw [decide_eq_true h2, decide_eq_true h3, decide_eq_false h1]; rfl
        clear h1 h2 h3
        go_wp2_with fail
        refine bodyPost_ret (v := .bool true) ?_ rfl ⟨by rw [hb], 0, rfl⟩
        simp [results, Tryd.results12, go_sem]
      · have d3 : decide ((n : Int) ≤ 40000) = false := decide_eq_false (by omega)
        have hb : Lx.brief n = false := by unfold Lx.brief; rw [decide_eq_true h2, decide_eq_false h3, decide_eq_false h1]; rfl
        clear h1 h2 h3
        go_wp2_with fail
        refine bodyPost_ret (v := .bool false) ?_ rfl ⟨by rw [hb], 0, rfl⟩
        simp [results, Tryd.results12, go_sem]
    · have d2 : decide ((20000 : Int) < (n : Int)) = false := decide_eq_false (by omega)
      have hb : Lx.brief n = false := by unfold Lx.brief; rw [decide_eq_false h2, decide_eq_false h1]; rfl
      clear h1 h2
      go_wp2_with fail
      refine bodyPost_ret (v := .bool false) ?_ rfl ⟨by rw [hb], 0, rfl⟩
      simp [results, Tryd.results12, go_sem]

/-- How many bytes the texts of tokens have, counted up to more than 30000. -/
def Lx.wgt : List Tk → Nat → Nat
  | [], n => n
  | t :: r, n => if n ≤ 30000 then wgt r (n + t.text.length) else n
theorem wgt_ge : ∀ (l : List Lx.Tk) (n : Nat), n ≤ Lx.wgt l n
  | [], n => Nat.le_refl _
  | t :: r, n => by
    unfold Lx.wgt
    split
    · have := wgt_ge r (n + t.text.length); omega
    · exact Nat.le_refl _
theorem wgt_le : ∀ (l : List Lx.Tk) (n : Nat), Lx.wgt l n ≤ 30000 → ∀ t ∈ l, t.text.length ≤ 30000
  | [], n, h, t, ht => by cases ht
  | a :: r, n, h, t, ht => by
    unfold Lx.wgt at h
    split at h
    · rcases List.mem_cons.1 ht with rfl | ht
      · have := wgt_ge r (n + t.text.length); omega
      · exact wgt_le r _ h t ht
    · omega
theorem wgt_more (l : List Lx.Tk) (k n : Nat) (t : Lx.Tk) (h : l[k]? = some t) (hn : n ≤ 30000) : Lx.wgt (l.drop k) n = Lx.wgt (l.drop (k + 1)) (n + t.text.length) := by
  rw [List.drop_eq_getElem_cons (List.getElem?_eq_some_iff.1 h).1, (List.getElem?_eq_some_iff.1 h).2]
  conv => lhs; unfold Lx.wgt
  rw [if_pos hn]
theorem wgt_stop (l : List Lx.Tk) (n : Nat) (hn : ¬ n ≤ 30000) : Lx.wgt l n = n := by
  cases l with
  | nil => rfl
  | cons a r => unfold Lx.wgt; rw [if_neg hn]

set_option maxHeartbeats 4000000 in
set_option maxRecDepth 100000 in
theorem weight_c (l : List Lx.Tk) (o : Option Addr) (c : Nat) (w : World) (h : TokAt w o l) (hn : l.length ≤ 1000000) (hl : ∀ t ∈ l, t.text.length ≤ 140737488355328) :
    Calls Tryd.prog 20 #[.slice o l.length c] w fun e w' => e = .returned (.int .i64 (Lx.wgt l 0)) ∧ ∃ q, w' = w.drewN q := by
  have HA := Lib.hid h
  have HL := Lib.hid hl
  clear h hl
  go_enter Tryd.func20, Tryd.ntmps20
  go_wp2_with fail
  go_loopg [3, 4] l.length (fun g n i wr => ∃ k nn : Nat, k ≤ l.length ∧ i = .int .i64 k ∧ n = .int .i64 nn ∧ nn ≤ 140737488400000 ∧ Hid (Lx.wgt (l.drop k) nn = Lx.wgt l 0) ∧ Hid (∃ q, wr = w.drewN q) ∧ g = l.length - k)
  case atStart => exact ⟨0, 0, Nat.zero_le _, rfl, rfl, by omega, Lib.hid rfl, Lib.hid ⟨0, rfl⟩, rfl⟩
  case round =>
    obtain ⟨k, nn, hk, rfl, rfl, hnn, HK, HW, hg⟩ := hrel
    by_cases hE : k = l.length
    · have dE : decide ((k : Int) < (l.length : Int)) = false := decide_eq_false (by omega)
      have HE := Lib.hid hE
      clear hE
      go_wp2_with fail
      all_goals (try (exfalso; have := HE.out; omega))
      refine bodyPost_ret (v := .int .i64 nn) ?_ rfl ⟨by have := HK.out; rw [HE.out, List.drop_length] at this; rw [← this]; rfl, HW.out⟩
      simp [results, Tryd.results20, go_sem]
    · have hlt : k < l.length := by omega
      have dE : decide ((k : Int) < (l.length : Int)) = true := decide_eq_true (by omega)
      by_cases h3 : nn ≤ 30000
      · have d3 : decide ((nn : Int) ≤ 30000) = true := decide_eq_true (by omega)
        obtain ⟨t, ht⟩ : ∃ t, l[k]? = some t := ⟨_, List.getElem?_eq_getElem hlt⟩
        obtain ⟨b, a, rfl, hb, x0, x1, -, -⟩ := HA.out k t ht
        replace x1 := ((dn_below HW.out).cell (p := ⟨b, _, none⟩) hb).trans x1
        have htl := HL.out t (List.mem_of_getElem? ht)
        have htz : (⟨t.text.toArray⟩ : ByteArray).size = t.text.length := by simp [ByteArray.size]
        have hwr : IntKind.i64.wrap ((nn : Int) + (t.text.length : Int)) = (nn : Int) + (t.text.length : Int) := IntWalk.i64_in _ (by omega)
        have HNK := Lib.hid ((wgt_more l k nn t ht h3).symm.trans HK.out)
        have H3 := Lib.hid h3
        clear ht h3 hE
        go_wp2_with fail
        go_roundg (l.length - (k + 1))
        case rel => exact ⟨k + 1, nn + t.text.length, by omega, rfl, rfl, by have := H3.out; omega, HNK, HW, rfl⟩
        case measure => omega
      · have d3 : decide ((nn : Int) ≤ 30000) = false := decide_eq_false (by omega)
        have H3 := Lib.hid h3
        clear h3 hE
        go_wp2_with fail
        refine bodyPost_ret (v := .int .i64 nn) ?_ rfl ⟨by rw [← HK.out, wgt_stop _ _ H3.out], HW.out⟩
        simp [results, Tryd.results20, go_sem]
end Go.Proofs.YtcjcbhdildcceaaDoor
/- Edits of long texts, and the law LexEdits, from the contracts. Conditions: the cell of internal/bytealg.MaxLen is an int. -/
namespace Go.Proofs.YtcjcbhdildcceaaDoor
open Go.RowKit
set_option linter.unusedVariables false
set_option linter.unusedSimpArgs false

theorem long_two (s : List UInt8) (h : 20000 < s.length) : Lx.divide s = ([], 2, 0) := by unfold Lx.divide; rw [if_pos h]
set_option maxHeartbeats 1000000 in
set_option maxRecDepth 100000 in
theorem refEdit_long (s wi : List UInt8) (a b : Nat) (w : World) (hsl : s.length ≤ 1000000) (hlong : 20000 < s.length) (hab : a ≤ b) (hbs : b ≤ s.length) :
    Calls Tryd.prog 14 #[.string ⟨s.toArray⟩, .int .i64 (a : Int), .int .i64 (b : Int), .string ⟨wi.toArray⟩] w (RetEd (Lx.editOf s (a : Int) (b : Int) wi) w) := by
  have hss : (⟨s.toArray⟩ : ByteArray).size = s.length := by simp [ByteArray.size]
  have e0 : decide ((a : Int) < 0) = false := decide_eq_false (by omega)
  have e1 : decide ((b : Int) < (a : Int)) = false := decide_eq_false (by omega)
  have e2 : decide ((s.length : Int) < (b : Int)) = false := decide_eq_false (by omega)
  have HX := Lib.hid (show Lx.editOf s (a : Int) (b : Int) wi = ([], 0, 0, 2, 0) by unfold Lx.editOf; rw [if_neg (by omega), long_two s hlong, if_pos (by simp)])
  have HD := Lib.hid (fun W => refDivide_long s W hlong)
  unfold RetDiv at HD
  rw [long_two s hlong] at HD
  clear hlong
  go_enter Tryd.func14, Tryd.ntmps14
  go_wp2_with fail
  refine (HD.out _).mono ?_
  rintro e w1 ⟨o, cp, rfl, hs1, hb1⟩
  have HB1 := Lib.hid hb1
  clear hs1 hb1 HD
  go_wp2_with fail
  refine bodyPost_ret (v := .tuple #[.string ⟨#[]⟩, .int .i64 0, .int .i64 0, .int .i64 2, .int .i64 0]) ?_ rfl ⟨by rw [HX.out]; rfl, HB1.out⟩
  simp [results, Tryd.results14, go_sem]
theorem refEdit_c (s wi : List UInt8) (from_ to_ : Int) (w : World) (hs : s.length ≤ 3000 ∨ 20000 < s.length ∧ s.length ≤ 40000) (hw : wi.length ≤ 3000 ∨ 20000 < wi.length ∧ wi.length ≤ 40000) :
    Calls Tryd.prog 14 #[.string ⟨s.toArray⟩, .int .i64 from_, .int .i64 to_, .string ⟨wi.toArray⟩] w (RetEd (Lx.editOf s from_ to_ wi) w) := by
  by_cases h0 : from_ < 0 ∨ to_ < from_ ∨ (s.length : Int) < to_
  · exact refEdit_bad s wi from_ to_ w (by omega) h0
  · obtain ⟨a, rfl⟩ : ∃ a : Nat, from_ = a := ⟨from_.toNat, by omega⟩
    obtain ⟨b, rfl⟩ : ∃ b : Nat, to_ = b := ⟨to_.toNat, by omega⟩
    rcases hs with h3 | h20
    · refine refEdit_ok s wi a b w (by omega) (by omega) (by omega) (by omega) (few s (by omega)) ?_
      rcases hw with h | h
      · exact few_edited s wi (by omega) a b (by omega) (by omega)
      · intro hl
        have := edited_len s wi a b (by omega) (by omega)
        omega
    · exact refEdit_long s wi a b w (by omega) h20.1 (by omega) (by omega)

set_option maxHeartbeats 4000000 in
set_option maxRecDepth 100000 in
theorem edit_long (s wi : List UInt8) (a b : Nat) (m : Int) (w : World) (hm : w.cell? ⟨0, 0, none⟩ = some (.int .i64 m))
    (hsl : s.length ≤ 1000000) (hlong : 20000 < s.length) (hab : a ≤ b) (hbs : b ≤ s.length) :
    Calls Tryd.prog 13 #[.string ⟨s.toArray⟩, .int .i64 (a : Int), .int .i64 (b : Int), .string ⟨wi.toArray⟩] w fun e w' =>
      e = .returned (.tuple #[.string ⟨(Lx.editOf s (a : Int) (b : Int) wi).1.toArray⟩, .int .i64 (Lx.editOf s (a : Int) (b : Int) wi).2.1, .int .i64 (Lx.editOf s (a : Int) (b : Int) wi).2.2.1, .int .i64 (Lx.editOf s (a : Int) (b : Int) wi).2.2.2.1, .int .i64 (Lx.editOf s (a : Int) (b : Int) wi).2.2.2.2]) ∧ Below w.heap.size w w' := by
  have hsz : (⟨s.toArray⟩ : ByteArray).size = s.length := by simp [ByteArray.size]
  have mf := makeFunc_run
  have hg : 0 < w.heap.size := World.block_lt_of_cell? _ _ hm
  have hb1 : Below w.heap.size w ((w.alloc (.cells #[.int .i64 (a : Int)] 3)).alloc (.cells #[.int .i64 (b : Int)] 3)) := ((Below.refl _ w).alloc (Nat.le_refl _) _).alloc (by simp) _
  have hx1 := heap_two_fst w (.cells #[.int .i64 (a : Int)] 3) (.cells #[.int .i64 (b : Int)] 3)
  have hx2 := heap_two_snd w (.cells #[.int .i64 (a : Int)] 3) (.cells #[.int .i64 (b : Int)] 3)
  have hz1 : ((w.alloc (.cells #[.int .i64 (a : Int)] 3)).alloc (.cells #[.int .i64 (b : Int)] 3)).heap.size = w.heap.size + 2 := by simp
  have c1 : ((w.alloc (.cells #[.int .i64 (a : Int)] 3)).alloc (.cells #[.int .i64 (b : Int)] 3)).cell? ⟨w.heap.size, 0, none⟩ = some (.int .i64 (a : Int)) := (Lib.cell_of_heap hx1 0).trans rfl
  have c2 : ((w.alloc (.cells #[.int .i64 (a : Int)] 3)).alloc (.cells #[.int .i64 (b : Int)] 3)).cell? ⟨w.heap.size + 1, 0, none⟩ = some (.int .i64 (b : Int)) := (Lib.cell_of_heap hx2 0).trans rfl
  have HM := Lib.hid hm
  have HB1 := Lib.hid hb1
  have HX1 := Lib.hid hx1
  have HX2 := Lib.hid hx2
  have HZ1 := Lib.hid hz1
  clear hm hb1 hx1 hx2 hz1 c1 c2
  have e0 : decide ((a : Int) < 0) = false := decide_eq_false (by omega)
  have e1 : decide ((b : Int) < (a : Int)) = false := decide_eq_false (by omega)
  have e2 : decide ((s.length : Int) < (b : Int)) = false := decide_eq_false (by omega)
  have HX := Lib.hid (show Lx.editOf s (a : Int) (b : Int) wi = ([], 0, 0, 2, 0) by unfold Lx.editOf; rw [if_neg (by omega), long_two s hlong, if_pos (by simp)])
  have hD := divide_c s m _ ((HB1.out.cell hg).trans HM.out) (fun h => by omega)
  unfold divLeft at hD
  rw [long_two s hlong] at hD
  have HD := Lib.hid hD
  clear hD hlong
  go_enter Tryd.func13, Tryd.ntmps13
  go_wp2_with fail
  refine HD.out.mono ?_
  rintro e w1 ⟨v, rfl, hb, -⟩
  have HB2 := Lib.hid (HB1.out.trans (hb.mono (by rw [HZ1.out]; omega)))
  clear hb HD
  go_wp2_with fail
  refine bodyPost_ret (v := .tuple #[.string ⟨#[]⟩, .int .i64 0, .int .i64 0, .int .i64 2, .int .i64 0]) ?_ rfl ⟨by rw [HX.out]; rfl, HB2.out⟩
  simp [results, Tryd.results13, go_sem]
theorem edit_any (s wi : List UInt8) (from_ to_ : Int) (m : Int) (w : World) (hm : w.cell? ⟨0, 0, none⟩ = some (.int .i64 m)) (hs : s.length ≤ 3000 ∨ 20000 < s.length ∧ s.length ≤ 40000) (hw : wi.length ≤ 3000 ∨ 20000 < wi.length ∧ wi.length ≤ 40000) :
    Calls Tryd.prog 13 #[.string ⟨s.toArray⟩, .int .i64 from_, .int .i64 to_, .string ⟨wi.toArray⟩] w (RetEd (Lx.editOf s from_ to_ wi) w) := by
  by_cases hc : 20000 < s.length ∧ ¬ (from_ < 0 ∨ to_ < from_ ∨ (s.length : Int) < to_)
  · obtain ⟨h20, h0⟩ := hc
    obtain ⟨a, rfl⟩ : ∃ a : Nat, from_ = a := ⟨from_.toNat, by omega⟩
    obtain ⟨b, rfl⟩ : ∃ b : Nat, to_ = b := ⟨to_.toNat, by omega⟩
    exact edit_long s wi a b m w hm (by omega) h20 (by omega) (by omega)
  · refine edit_c s wi from_ to_ m w hm (fun h => by rcases hs with h3 | h3 <;> first | exact few s (by omega) h | omega) (by omega) (by omega) ?_
    intro a b ha hb hab hbs
    have hs3 : s.length ≤ 3000 := by
      rcases hs with h3 | h3
      · exact h3
      · exact absurd ⟨h3.1, by omega⟩ hc
    rcases hw with h | h
    · exact few_edited s wi (by omega) a b hab hbs
    · intro hl
      have := edited_len s wi a b hab hbs
      omega

theorem brief_len (n : Nat) (h : Lx.brief n = true) : n ≤ 3000 ∨ 20000 < n ∧ n ≤ 40000 := by
  unfold Lx.brief at h
  simp only [Bool.or_eq_true, Bool.and_eq_true, decide_eq_true_eq] at h
  exact h
theorem toList_self (x : ByteArray) : (x.toList == x.toList) = true := by simp
set_option maxHeartbeats 4000000 in
set_option maxRecDepth 100000 in
theorem lexEdits_c (s wi : List UInt8) (from_ to_ : Int) (m : Int) (w : World) (hm : w.cell? ⟨0, 0, none⟩ = some (.int .i64 m)) :
    Calls Tryd.prog 3 #[.string ⟨s.toArray⟩, .int .i64 from_, .int .i64 to_, .string ⟨wi.toArray⟩] w fun e w' => e = .returned (.bool true) ∧ Below w.heap.size w w' := by
  have hg : 0 < w.heap.size := World.block_lt_of_cell? _ _ hm
  have HM := Lib.hid hm
  have HA := Lib.hid (awake_c m w hm)
  have HBs := Lib.hid (brief_c s)
  have HBw := Lib.hid (brief_c wi)
  have HLs := Lib.hid (brief_len s.length)
  have HLw := Lib.hid (brief_len wi.length)
  clear hm
  go_enter Tryd.func3, Tryd.ntmps3
  go_wp2_with fail
  refine HA.out.mono ?_
  rintro e w1 ⟨rfl, hb1⟩
  have HB1 := Lib.hid hb1
  clear hb1 HA
  generalize hbr : Lx.brief s.length = br at *
  generalize hbw : Lx.brief wi.length = bw at *
  clear hbr hbw
  go_wp2_with fail
  refine (HBs.out _).mono ?_
  rintro e w2 ⟨rfl, hq2⟩
  have HB2 := Lib.hid (HB1.out.trans ((dn_below hq2).mono HB1.out.size))
  clear hq2 HBs HB1
  cases br with
  | false =>
    go_wp2_with fail
    refine bodyPost_ret (v := .bool true) ?_ rfl ⟨rfl, HB2.out⟩
    simp [results, Tryd.results3, go_sem]
  | true =>
    go_wp2_with fail
    refine (HBw.out _).mono ?_
    rintro e w3 ⟨rfl, hq3⟩
    have HB3 := Lib.hid (HB2.out.trans ((dn_below hq3).mono HB2.out.size))
    clear hq3 HBw HB2
    cases bw with
    | false =>
      go_wp2_with fail
      refine bodyPost_ret (v := .bool true) ?_ rfl ⟨rfl, HB3.out⟩
      simp [results, Tryd.results3, go_sem]
    | true =>
      have hls := HLs.out (by trivial)
      have hlw := HLw.out (by trivial)
      have HE := Lib.hid (edit_any s wi from_ to_ m w3 ((HB3.out.cell hg).trans HM.out) hls hlw)
      have HR := Lib.hid (fun W => refEdit_c s wi from_ to_ W hls hlw)
      unfold RetEd at HE HR
      generalize Lx.editOf s from_ to_ wi = R at *
      obtain ⟨x, n1, n2, n3, n4⟩ := R
      dsimp only at HE HR
      have t1 := toList_self ⟨x.toArray⟩
      go_wp2_with fail
      refine HE.out.mono ?_
      rintro e w4 ⟨rfl, hb4⟩
      have HB4 := Lib.hid (HB3.out.trans (hb4.mono HB3.out.size))
      clear hb4 HE
      go_wp2_with fail
      refine (HR.out _).mono ?_
      rintro e w5 ⟨rfl, hb5⟩
      have HB5 := Lib.hid (HB4.out.trans (hb5.mono HB4.out.size))
      clear hb5 HR
      go_wp2_with fail
      refine bodyPost_ret (v := .bool true) ?_ rfl ⟨rfl, HB5.out⟩
      simp [results, Tryd.results3, go_sem]
end Go.Proofs.YtcjcbhdildcceaaDoor
