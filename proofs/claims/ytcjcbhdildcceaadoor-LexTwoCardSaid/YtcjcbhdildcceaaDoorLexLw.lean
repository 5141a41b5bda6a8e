/- The law LexTwo, from the contracts. Conditions: the cell of internal/bytealg.MaxLen is an int. -/
import Derived.Test.YtcjcbhdildcceaaDoorLexAk
import Derived.Test.YtcjcbhdildcceaaDoorLexRp
import Derived.Test.YtcjcbhdildcceaaDoorLexBg
import Derived.Laws.AppendOwnNone
namespace Go.Proofs.YtcjcbhdildcceaaDoor
open Go.RowKit

/-- A token some lines further down. -/
def Lx.Tk.bump (n : Int) (t : Tk) : Tk := ⟨t.kind, t.text, t.line + n, t.col⟩
/-- A list whose first tokens are some lines further down. -/
def Lx.bumped (l : List Tk) (n : Int) (k : Nat) : List Tk := (l.take k).map (Tk.bump n) ++ l.drop k
theorem bumped_len (l : List Lx.Tk) (n : Int) (k : Nat) : (Lx.bumped l n k).length = l.length := by
  unfold Lx.bumped
  rw [List.length_append, List.length_map, List.length_take, List.length_drop]; omega
theorem bumped_at (l : List Lx.Tk) (n : Int) (k j : Nat) (hk : k ≤ l.length) : (Lx.bumped l n k)[j]? = if j < k then l[j]?.map (Lx.Tk.bump n) else l[j]? := by
  unfold Lx.bumped
  have hl : ((l.take k).map (Lx.Tk.bump n)).length = k := by rw [List.length_map, List.length_take]; omega
  split
  · rename_i h
    rw [List.getElem?_append_left (by omega), List.getElem?_map, List.getElem?_take_of_lt h]
  · rename_i h
    rw [List.getElem?_append_right (by omega), hl, List.getElem?_drop, show k + (j - k) = j by omega]
theorem bumped_zero (l : List Lx.Tk) (n : Int) : Lx.bumped l n 0 = l := by simp [Lx.bumped]
theorem bumped_all (l : List Lx.Tk) (n : Int) : Lx.bumped l n l.length = l.map (Lx.Tk.bump n) := by simp [Lx.bumped]
theorem toks_down (l : List Lx.Sp) (k n : Nat) : Lx.toks (l.map (Lx.Sp.down k n)) = (Lx.toks l).map (Lx.Tk.bump n) := by
  unfold Lx.toks
  rw [List.map_map, List.map_map]
  congr 1
theorem toks_append (l m : List Lx.Sp) : Lx.toks (l ++ m) = Lx.toks l ++ Lx.toks m := by unfold Lx.toks; rw [List.map_append]
def Lx.Tk.row (t : Tk) : List Value := [.int .i64 t.kind, .string ⟨t.text.toArray⟩, .int .i64 t.line, .int .i64 t.col]
def tkRow (l : List Lx.Tk) : List Value := l.flatMap Lx.Tk.row
theorem tkRow_len : ∀ l : List Lx.Tk, (tkRow l).length = l.length * 4
  | [] => rfl
  | a :: l => by
    have := tkRow_len l
    unfold tkRow at this ⊢
    rw [List.flatMap_cons, List.length_append, this, List.length_cons]
    simp only [Lx.Tk.row, List.length_cons, List.length_nil]; omega
theorem tkRow_append (l m : List Lx.Tk) : tkRow (l ++ m) = tkRow l ++ tkRow m := by unfold tkRow; rw [List.flatMap_append]
theorem tkRow_at : ∀ (l : List Lx.Tk) (k j : Nat) (t : Lx.Tk), l[k]? = some t → j < 4 → (tkRow l)[k * 4 + j]? = t.row[j]?
  | [], k, j, t, h, _ => by simp at h
  | a :: l, 0, j, t, h, hj => by
    simp at h; subst h
    simp only [tkRow, List.flatMap_cons, Nat.zero_mul, Nat.zero_add]
    rw [List.getElem?_append_left (by simpa [Lx.Tk.row] using hj)]
  | a :: l, k + 1, j, t, h, hj => by
    have ih := tkRow_at l k j t (by simpa using h) hj
    simp only [tkRow, List.flatMap_cons] at ih ⊢
    rw [List.getElem?_append_right (by simp [Lx.Tk.row]; omega), ← ih]
    congr 1
    simp [Lx.Tk.row]; omega
/-- What a list of tokens at an address holds, cell by cell. -/
theorem tkRow_cells {w : World} {g a : Nat} {l : List Lx.Tk} (h : TokAt w (some ⟨g, a, none⟩) l) (j : Nat) (u : Value) (hj : (tkRow l)[j]? = some u) : w.cell? ⟨g, a + j, none⟩ = some u := by
  have hlt := (List.getElem?_eq_some_iff.1 hj).1
  rw [tkRow_len] at hlt
  obtain ⟨t, ht⟩ : ∃ t, l[j / 4]? = some t := ⟨_, List.getElem?_eq_getElem (by omega)⟩
  have e : j / 4 * 4 + j % 4 = j := by omega
  have hr := tkRow_at l (j / 4) (j % 4) t ht (by omega)
  rw [e, hj] at hr
  obtain ⟨b, a', e1, _, x0, x1, x2, x3⟩ := h (j / 4) t ht
  injection e1 with e1
  injection e1 with e1 e2
  subst e1 e2
  have hm : j % 4 = 0 ∨ j % 4 = 1 ∨ j % 4 = 2 ∨ j % 4 = 3 := by omega
  rw [← e]
  rcases hm with h | h | h | h
  all_goals
    rw [h] at hr ⊢
    simp [Lx.Tk.row] at hr
    subst hr
  · exact x0
  · exact x1
  · exact x2
  · exact x3
theorem tokAt_of_row {w : World} {B : Nat} {v : Value} {l : List Lx.Tk} (h : w.ownsRow B 36 4 v l.length (tkRow l)) : ∃ o c, v = .slice o l.length c ∧ TokAt w o l := by
  rcases h.2 with ⟨rfl, h0⟩ | ⟨g, c, cur, hv, hbg, hg, hnc, hcm, hcs, htk⟩
  · refine ⟨none, 0, by rw [h0], ?_⟩
    intro k t ht
    have := (List.getElem?_eq_some_iff.1 ht).1
    omega
  · have hlt : g < w.heap.size := (Array.getElem?_eq_some_iff.1 hg).1
    refine ⟨_, _, hv, ?_⟩
    intro k t ht
    subst hv
    have hc : ∀ j v, j < 4 → t.row[j]? = some v → w.cell? ⟨g, k * 4 + j, none⟩ = some v := fun j v hj hv => by
      rw [← add_plain]
      exact h.cells (g := g) rfl _ _ ((tkRow_at l k j t ht hj).trans hv)
    exact ⟨g, 0, rfl, hlt, by rw [Nat.zero_add]; exact hc 0 _ (by decide) rfl, by rw [Nat.zero_add]; exact hc 1 _ (by decide) rfl, by rw [Nat.zero_add]; exact hc 2 _ (by decide) rfl, by rw [Nat.zero_add]; exact hc 3 _ (by decide) rfl⟩
theorem tokAt_set {w : World} {o : Option Addr} {l : List Lx.Tk} {g off : Nat} {v : Value} (h : TokAt w o l) (hg : ∀ b a, o = some ⟨b, a, none⟩ → b ≠ g) : TokAt (w.setCell ⟨g, off, none⟩ v) o l := by
  intro k t ht
  obtain ⟨b, a, e, hl, x0, x1, x2, x3⟩ := h k t ht
  have hne := hg b a e
  have hx : ∀ q, (w.setCell ⟨g, off, none⟩ v).cell? ⟨b, q, none⟩ = w.cell? ⟨b, q, none⟩ := fun q => World.cell?_setCell_other _ _ _ _ (fun e => by injection e with e1; exact hne e1.symm)
  exact ⟨b, a, e, by simpa [World.setCell] using hl, (hx _).trans x0, (hx _).trans x1, (hx _).trans x2, (hx _).trans x3⟩
/-- One more token is moved down, in place. -/
theorem bumped_step {w : World} {g : Nat} {l : List Lx.Tk} {n : Int} {k : Nat} {t : Lx.Tk} (h : TokAt w (some ⟨g, 0, none⟩) (Lx.bumped l n k)) (ht : l[k]? = some t) :
    TokAt (w.setCell ⟨g, k * 4 + 2, none⟩ (.int .i64 (t.line + n))) (some ⟨g, 0, none⟩) (Lx.bumped l n (k + 1)) := by
  have hk := (List.getElem?_eq_some_iff.1 ht).1
  intro j u hu
  rw [bumped_at l n (k + 1) j (by omega)] at hu
  have hother : ∀ q, q ≠ k * 4 + 2 → (w.setCell ⟨g, k * 4 + 2, none⟩ (.int .i64 (t.line + n))).cell? ⟨g, q, none⟩ = w.cell? ⟨g, q, none⟩ := fun q hq => World.cell?_setCell_other _ _ _ _ (fun e => by injection e with e1 e2; exact hq e2.symm)
  by_cases hj : j = k
  · subst hj
    rw [if_pos (by omega), ht] at hu
    simp only [Option.map_some, Option.some.injEq] at hu
    subst hu
    obtain ⟨b, a, e, hl, x0, x1, x2, x3⟩ := h j t (by rw [bumped_at l n j j (by omega), if_neg (by omega)]; exact ht)
    injection e with e
    injection e with e1 e2
    subst e1 e2
    rw [Nat.zero_add] at x0 x1 x2 x3
    refine ⟨g, 0, rfl, by simpa [World.setCell] using hl, ?_, ?_, ?_, ?_⟩
    · rw [Nat.zero_add, hother _ (by omega)]; exact x0
    · rw [Nat.zero_add, hother _ (by omega)]; exact x1
    · rw [Nat.zero_add]; exact World.cell?_setCell_same' _ _ _ (by rw [x2]; rfl)
    · rw [Nat.zero_add, hother _ (by omega)]; exact x3
  · obtain ⟨b, a, e, hl, x0, x1, x2, x3⟩ := h j u (by
      rw [bumped_at l n k j (by omega)]
      by_cases hjk : j < k
      · rw [if_pos hjk]; rwa [if_pos (by omega)] at hu
      · rw [if_neg hjk]; rwa [if_neg (by omega)] at hu)
    injection e with e
    injection e with e1 e2
    subst e1 e2
    refine ⟨g, 0, rfl, by simpa [World.setCell] using hl, ?_, ?_, ?_, ?_⟩
    · rw [hother _ (by omega)]; exact x0
    · rw [hother _ (by omega)]; exact x1
    · rw [hother _ (by omega)]; exact x2
    · rw [hother _ (by omega)]; exact x3
/-- append of a list of tokens, nil or not, to a row of the call's own. -/
theorem wp_append_tok {w : World} {o : Oper} {a : Act} {K : Act → World → Prop} {Q : Exit → Act → World → Prop} (s x : Operand)
    (ho : o.op = .call { callee := .builtin .append, args := #[s, x], argTypes := #[28, 28] })
    (base : Nat) (v : Value) (n : Nat) (xs : List Value) (hs : a.eval s = v) (hown : w.ownsRow base 36 4 v n xs) (l : List Lx.Tk) (os : Option Addr) (c : Nat) (hx : a.eval x = .slice os l.length c) (hat : TokAt w os l)
    (hsh : (os = none ∧ c = 0) ∨ ∃ g, os = some ⟨g, 0, none⟩) (hbase : base ≤ w.heap.size) (hlen : n + l.length ≤ 100000)
    (h : ∀ v' w', w'.ownsRow base 36 4 v' (n + l.length) (xs ++ tkRow l) → w.grownBy w' v.ownBlock → K (a.put o.dst v') w') : o.wp Tryd.prog a w K Q := by
  obtain ⟨i0, hi, hz0, hz1, hz2⟩ := info_parts info_token
  rcases hsh with ⟨rfl, rfl⟩ | ⟨g, rfl⟩
  · cases l with
    | nil =>
      have hrun := run_append_owned_none (P := Tryd.prog) (w := w) base 28 o.type 36 i0 4 Tryd.underlying28 hi v n xs hown
      unfold Oper.wp
      simp only [List.length_nil] at hx
      simp [execOp, ho, resolve, invoke, builtin, hs, hx, hrun, Result.andThen]
      exact h _ _ (by simpa [tkRow] using hown) (World.grownBy.refl _ _)
    | cons t l =>
      obtain ⟨b, a', e, _⟩ := hat 0 t rfl
      cases e
  · refine wp_append_own w s x 28 ho base 36 i0 _ 4 40 Tryd.underlying28 hi hz0 hz1 hz2 rfl (by decide) v n xs hs hown ⟨g, 0, none⟩ l.length c (tkRow l) hx (tkRow_len l) (fun j u hj => ?_) (fun u hu => ?_) (by unfold maxLen; omega) (by omega) hbase (fun v' w' h1 h2 _ => h v' w' h1 h2)
    · have := tkRow_cells hat j u hj
      rw [Nat.zero_add] at this
      rw [add_plain]; exact this
    · unfold tkRow at hu
      obtain ⟨t, _, ht⟩ := List.mem_flatMap.1 hu
      simp [Lx.Tk.row] at ht
      rcases ht with rfl | rfl | rfl | rfl <;> rfl
/-- .. at an operation that is wanted. -/
theorem wpList_append_tok {w : World} {ops : Array Oper} {rest : List Oper} {o : Oper} {a : Act} {Q : Exit → Act → World → Prop} (hw : Region.wanted o (yielded ops a.tmps) = true) (s x : Operand)
    (ho : o.op = .call { callee := .builtin .append, args := #[s, x], argTypes := #[28, 28] })
    (base : Nat) (v : Value) (n : Nat) (xs : List Value) (hs : a.eval s = v) (hown : w.ownsRow base 36 4 v n xs) (l : List Lx.Tk) (os : Option Addr) (c : Nat) (hx : a.eval x = .slice os l.length c) (hat : TokAt w os l)
    (hsh : (os = none ∧ c = 0) ∨ ∃ g, os = some ⟨g, 0, none⟩) (hbase : base ≤ w.heap.size) (hlen : n + l.length ≤ 100000)
    (h : ∀ v' w', w'.ownsRow base 36 4 v' (n + l.length) (xs ++ tkRow l) → w.grownBy w' v.ownBlock → wpList Tryd.prog ops Q rest (a.put o.dst v') w') : wpList Tryd.prog ops Q (o :: rest) a w :=
  wpList_step fun K hK => by
    rw [if_pos hw]
    exact wp_append_tok s x ho base v n xs hs hown l os c hx hat hsh hbase hlen (fun v' w' h1 h2 => hK _ _ (h v' w' h1 h2))
end Go.Proofs.YtcjcbhdildcceaaDoor
