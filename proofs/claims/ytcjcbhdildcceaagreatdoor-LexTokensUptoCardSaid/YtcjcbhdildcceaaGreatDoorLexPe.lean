/- Plain truths: what is passed over, by its bytes; a text cut where it is wrong; a text with more behind it; maximal spellings. Nothing is said of the program here. -/
import Derived.Test.YtcjcbhdildcceaaGreatDoorLexPl
namespace Go.Proofs.YtcjcbhdildcceaaGreatDoor

/-- Which bytes decide what is passed over: those, and the one behind them. -/
theorem blanks_local : ∀ (l l' : List UInt8) (c : Option Nat) (i j : Nat), Lx.blanks c i l = .at j → (∀ q, i + q < j → l'[q]? = l[q]?) → (l'[j - i]? = l[j - i]? ∨ l'[j - i]? = none) → Lx.blanks c i l' = .at j
  | [], l', none, i, j, h, _, hn => by
    injection h with h; subst h
    rw [Nat.sub_self] at hn
    have : l'[0]? = none := by rcases hn with h | h <;> simpa using h
    cases l' with
    | nil => rfl
    | cons a t => simp at this
  | [], l', some c, i, j, h, _, _ => by cases h
  | b :: r, l', none, i, j, h, hag, hn => by
    unfold Lx.blanks at h
    split at h
    · rename_i hb
      have hge := blanks_ge _ _ _ _ h
      obtain ⟨r', rfl⟩ : ∃ r', l' = b :: r' := by
        have := hag 0 (by omega)
        cases l' with
        | nil => simp at this
        | cons a t => simp at this; exact ⟨t, by rw [this]⟩
      unfold Lx.blanks
      rw [if_pos hb]
      refine blanks_local r r' none (i + 1) j h (fun q hq => by simpa using hag (q + 1) (by omega)) ?_
      rw [show j - i = j - (i + 1) + 1 by omega] at hn
      simpa using hn
    · rename_i hb
      split at h
      · rename_i h34
        have hge := blanks_ge _ _ _ _ h
        obtain ⟨r', rfl⟩ : ∃ r', l' = b :: r' := by
          have := hag 0 (by omega)
          cases l' with
          | nil => simp at this
          | cons a t => simp at this; exact ⟨t, by rw [this]⟩
        unfold Lx.blanks
        rw [if_neg hb, if_pos h34]
        refine blanks_local r r' (some i) (i + 1) j h (fun q hq => by simpa using hag (q + 1) (by omega)) ?_
        rw [show j - i = j - (i + 1) + 1 by omega] at hn
        simpa using hn
      · rename_i h34
        injection h with h; subst h
        rw [Nat.sub_self] at hn
        cases l' with
        | nil => rfl
        | cons a t =>
          have : a = b := by rcases hn with h | h <;> simp at h; exact h
          subst this
          unfold Lx.blanks
          rw [if_neg hb, if_neg h34]
  | b :: r, l', some c, i, j, h, hag, hn => by
    unfold Lx.blanks at h
    split at h
    · rename_i h34
      have hge := blanks_ge _ _ _ _ h
      obtain ⟨r', rfl⟩ : ∃ r', l' = b :: r' := by
        have := hag 0 (by omega)
        cases l' with
        | nil => simp at this
        | cons a t => simp at this; exact ⟨t, by rw [this]⟩
      unfold Lx.blanks
      rw [if_pos h34]
      refine blanks_local r r' none (i + 1) j h (fun q hq => by simpa using hag (q + 1) (by omega)) ?_
      rw [show j - i = j - (i + 1) + 1 by omega] at hn
      simpa using hn
    · rename_i h34
      have hge := blanks_ge _ _ _ _ h
      obtain ⟨r', rfl⟩ : ∃ r', l' = b :: r' := by
        have := hag 0 (by omega)
        cases l' with
        | nil => simp at this
        | cons a t => simp at this; exact ⟨t, by rw [this]⟩
      unfold Lx.blanks
      rw [if_neg h34]
      refine blanks_local r r' (some c) (i + 1) j h (fun q hq => by simpa using hag (q + 1) (by omega)) ?_
      rw [show j - i = j - (i + 1) + 1 by omega] at hn
      simpa using hn
/-- Where the indices begin does not matter. -/
def Lx.B.move (k : Nat) : B → B
  | .at i => .at (i + k)
  | .open c => .open (c + k)
theorem blanks_move (k : Nat) : ∀ (l : List UInt8) (c : Option Nat) (i : Nat), Lx.blanks (c.map (· + k)) (i + k) l = (Lx.blanks c i l).move k
  | [], none, i => rfl
  | [], some c, i => rfl
  | b :: r, none, i => by
    have h1 := blanks_move k r none (i + 1)
    have h2 := blanks_move k r (some i) (i + 1)
    simp only [Option.map_none, Option.map_some] at h1 h2 ⊢
    unfold Lx.blanks
    rw [show i + k + 1 = i + 1 + k by omega, h1, h2]
    split
    · rfl
    · split <;> rfl
  | b :: r, some c, i => by
    have h1 := blanks_move k r none (i + 1)
    have h2 := blanks_move k r (some c) (i + 1)
    simp only [Option.map_none, Option.map_some] at h1 h2 ⊢
    unfold Lx.blanks
    rw [show i + k + 1 = i + 1 + k by omega, h1, h2]
    split <;> rfl
theorem blanks_zero (l : List UInt8) (i j : Nat) (h : Lx.blanks none i l = .at j) : Lx.blanks none 0 l = .at (j - i) := by
  have := blanks_move i l none 0
  rw [Nat.zero_add, Option.map_none, h] at this
  have hge := blanks_ge _ _ _ _ h
  cases hb : Lx.blanks none 0 l with
  | «at» q => rw [hb] at this; simp only [Lx.B.move, Lx.B.at.injEq] at this; rw [this]; congr 1; omega
  | «open» q => rw [hb] at this; simp [Lx.B.move] at this
/-- A text of blanks alone has no tokens. -/
theorem divide_blank (s : List UInt8) (hs : s.length ≤ 20000) (h : Lx.blanks none 0 s = .at s.length) : Lx.divide s = ([], 0, 0) := by
  refine divide_of_spans s [] hs ?_
  unfold Lx.spans
  rw [spansN_succ, List.drop_zero, h]
  simp only
  unfold tailN
  rw [if_pos rfl]
/-- What stands between two tokens has none. -/
theorem divide_between (s : List UInt8) (a b : Nat) (hb : b ≤ s.length) (hs : s.length ≤ 20000) (h : Lx.blanks none a (s.drop a) = .at b) : Lx.divide ((s.take b).drop a) = ([], 0, 0) := by
  have hge := blanks_ge _ _ _ _ h
  have hl : ((s.take b).drop a).length = b - a := by rw [List.length_drop, List.length_take]; omega
  refine divide_blank _ (by omega) ?_
  rw [hl]
  refine blanks_local (s.drop a) _ none 0 (b - a) (blanks_zero _ _ _ h) (fun q hq => ?_) (.inr ?_)
  · rw [List.getElem?_drop, List.getElem?_drop, List.getElem?_take_of_lt (by omega)]
  · rw [List.getElem?_eq_none_iff, hl]; omega
/-- With the next byte a token's spelling is none. -/
theorem sole_more (s : List UInt8) (h : (Lx.divide s).2.1 = 0) (t : Lx.Sp) (ht : t ∈ (Lx.divide s).1) (hlt : t.to < s.length) : Lx.kindTold ((s.take (t.to + 1)).drop t.frm) = 0 := by
  obtain ⟨p, hr⟩ := chain_read s _ _ _ (divide_chain s h) t ht
  have hf := hr.lt
  have hl : ((s.take (t.to + 1)).drop t.frm).length = t.to - t.frm + 1 := by rw [List.length_drop, List.length_take]; omega
  unfold Lx.kindTold
  split
  · rfl
  · rw [soleKind_L, hl]
    have hag : ∀ i, i < t.to - t.frm + 1 → ((s.take (t.to + 1)).drop t.frm)[i]? = (s.drop t.frm)[i]? := fun i hi => by
      rw [List.getElem?_drop, List.getElem?_drop, List.getElem?_take_of_lt (by omega)]
    rcases measureL_local (s.drop t.frm) ((s.take (t.to + 1)).drop t.frm) _ false t.kind (t.to - t.frm) (by rw [List.length_drop]; omega) hr.meas (fun i hi => hag i (by omega)) (.inl (hag _ (by omega))) (.inr rfl) with e | ⟨_, e2, e3, _⟩
    · rw [e]; simp only; rw [if_neg (by omega)]
    · rw [e3]; simp only; rw [if_neg (by omega)]

/-! ### A text that is cut where it is wrong -/
theorem blanks_open : ∀ (l : List UInt8) (c : Option Nat) (i q : Nat), Lx.blanks c i l = .open q → (c = some q) ∨ (i ≤ q ∧ q < i + l.length ∧ Lx.blanks c i (l.take (q - i)) = .at q)
  | [], none, i, q, h => by cases h
  | [], some c, i, q, h => by injection h with h; exact .inl (by rw [h])
  | b :: r, none, i, q, h => by
    unfold Lx.blanks at h
    split at h
    · rename_i hb
      rcases blanks_open r none (i + 1) q h with e | ⟨h1, h2, h3⟩
      · cases e
      · refine .inr ⟨by omega, by rw [List.length_cons]; omega, ?_⟩
        rw [show q - i = q - (i + 1) + 1 by omega, List.take_succ_cons]
        unfold Lx.blanks
        rw [if_pos hb]; exact h3
    · rename_i hb
      split at h
      · rename_i h34
        rcases blanks_open r (some i) (i + 1) q h with e | ⟨h1, h2, h3⟩
        · injection e with e; subst e
          refine .inr ⟨Nat.le_refl _, by rw [List.length_cons]; omega, ?_⟩
          rw [Nat.sub_self, List.take_zero]; rfl
        · refine .inr ⟨by omega, by rw [List.length_cons]; omega, ?_⟩
          rw [show q - i = q - (i + 1) + 1 by omega, List.take_succ_cons]
          unfold Lx.blanks
          rw [if_neg hb, if_pos h34]; exact h3
      · cases h
  | b :: r, some c, i, q, h => by
    unfold Lx.blanks at h
    split at h
    · rename_i h34
      rcases blanks_open r none (i + 1) q h with e | ⟨h1, h2, h3⟩
      · cases e
      · refine .inr ⟨by omega, by rw [List.length_cons]; omega, ?_⟩
        rw [show q - i = q - (i + 1) + 1 by omega, List.take_succ_cons]
        unfold Lx.blanks
        rw [if_pos h34]; exact h3
    · rename_i h34
      rcases blanks_open r (some c) (i + 1) q h with e | ⟨h1, h2, h3⟩
      · exact .inl e
      · refine .inr ⟨by omega, by rw [List.length_cons]; omega, ?_⟩
        rw [show q - i = q - (i + 1) + 1 by omega, List.take_succ_cons]
        unfold Lx.blanks
        rw [if_neg h34]; exact h3
theorem spansN_bad_at (s : List UInt8) : ∀ (f ix : Nat) (last : Lx.Sp) (c i : Nat), ix ≤ s.length → (Lx.spansN s f ix last).2 = some (c, i) → ix ≤ i ∧ i < s.length
  | 0, _, _, _, _, _, h => by cases h
  | f + 1, ix, last, c, i, hx, h => by
    rw [spansN_succ] at h
    split at h
    · rename_i q hq
      injection h with h; injection h with h1 h2; subst h2
      rcases blanks_open _ _ _ _ hq with e | ⟨h1, h2, _⟩
      · cases e
      · rw [List.length_drop] at h2; omega
    · rename_i j hj
      have h1 := blanks_ge _ _ _ _ hj
      have h2 := blanks_le _ _ _ _ hj
      rw [List.length_drop] at h2
      unfold tailN at h
      split at h
      · cases h
      · rename_i hne
        split at h
        · injection h with h; injection h with h3 h4; omega
        · rename_i t ht
          have hr := next_read s j last t (by omega) ht
          have := spansN_bad_at s f t.to t c i hr.le h
          have := hr.lt
          omega
theorem take_drop_at (s : List UInt8) (at_ ix q : Nat) (h : ix + q < at_) : ((s.take at_).drop ix)[q]? = (s.drop ix)[q]? := by
  rw [List.getElem?_drop, List.getElem?_drop, List.getElem?_take_of_lt h]
theorem take_drop_none (s : List UInt8) (at_ ix q : Nat) (h : at_ ≤ ix + q) : ((s.take at_).drop ix)[q]? = none := by
  rw [List.getElem?_drop, List.getElem?_take_eq_none h]
theorem take_drop_or (s : List UInt8) (at_ ix q : Nat) : ((s.take at_).drop ix)[q]? = (s.drop ix)[q]? ∨ ((s.take at_).drop ix)[q]? = none := by
  by_cases h : ix + q < at_
  · exact .inl (take_drop_at s at_ ix q h)
  · exact .inr (take_drop_none s at_ ix q (by omega))

theorem spans_cut (s : List UInt8) (at_ c : Nat) (hat : at_ ≤ s.length) : ∀ (f f' ix : Nat) (last last' : Lx.Sp), ix ≤ at_ → ((last'.kind == 1) = (last.kind == 1)) → last'.to = last.to → (Lx.spansN s f ix last).2 = some (c, at_) → (Lx.spansN (s.take at_) f' ix last').2 = none
  | 0, _, _, _, _, _, _, _, h => by cases h
  | f + 1, 0, ix, last, last', hx, hk, ht, h => rfl
  | f + 1, f' + 1, ix, last, last', hx, hk, hto, h => by
    have hl : (s.take at_).length = at_ := by rw [List.length_take]; omega
    rw [spansN_succ] at h ⊢
    split at h
    · rename_i q hq
      injection h with h; injection h with h1 h2; subst h2
      rcases blanks_open _ _ _ _ hq with e | ⟨h1, h2, h3⟩
      · cases e
      · have e : (s.take q).drop ix = (s.drop ix).take (q - ix) := by rw [List.drop_take]
        rw [e, h3]
        simp only
        unfold tailN
        rw [if_pos hl.symm]
    · rename_i j hj
      have h1 := blanks_ge _ _ _ _ hj
      have h2 := blanks_le _ _ _ _ hj
      rw [List.length_drop] at h2
      unfold tailN at h
      split at h
      · cases h
      · rename_i hne
        have hja : j ≤ at_ := by
          split at h
          · injection h with h; injection h with h3 h4; omega
          · rename_i t ht
            have hr := next_read s j last t (by omega) ht
            have := (spansN_bad_at s f t.to t c at_ hr.le h).1
            have := hr.lt
            omega
        have hb := blanks_local (s.drop ix) ((s.take at_).drop ix) none ix j hj (fun q hq => take_drop_at s at_ ix q (by omega)) (take_drop_or _ _ _ _)
        rw [hb]
        simp only
        unfold tailN
        by_cases hje : j = at_
        · rw [if_pos (by omega)]
        · rw [if_neg (by omega)]
          split at h
          · injection h with h; injection h with h3 h4; omega
          · rename_i t ht
            have hr := next_read s j last t (by omega) ht
            have hta := (spansN_bad_at s f t.to t c at_ hr.le h).1
            have hlt := hr.lt
            have hf : (last'.kind == 1 && last'.to == j) = (last.kind == 1 && last.to == j) := by rw [hk, hto]
            have hm := measureL_local (s.drop j) ((s.take at_).drop j) _ (last'.kind == 1 && last'.to == j) t.kind (t.to - j) (by rw [List.length_drop]; omega) hr.meas
              (fun i hi => take_drop_at s at_ j i (by omega)) ((take_drop_or s at_ j _).imp id (fun e b hb => by rw [e] at hb; cases hb)) (.inl hf)
            rw [next_L]
            rcases hm with e | ⟨e1, e2, e3, _⟩
            · rw [e]
              simp only
              rw [show j + (t.to - j) = t.to by omega]
              exact spans_cut s at_ c hat f f' t.to t _ hta rfl rfl h
            · rw [e3]
              simp only
              rw [show j + 1 = t.to by omega]
              exact spans_cut s at_ c hat f f' t.to t _ hta (by show (8 == 1) = _; rw [e1]; rfl) rfl h
/-- The text up to where one is wrong can be divided. -/
theorem divide_cut (s : List UInt8) (h : (Lx.divide s).2.1 ≠ 0) (h2 : (Lx.divide s).2.1 ≠ 2) : (Lx.divide s).2.2 < s.length ∧ (Lx.divide (s.take (Lx.divide s).2.2)).2.1 = 0 := by
  obtain ⟨h3, h4⟩ := divide_bad s h h2
  have hb := spansN_bad_at s _ 0 _ _ _ (Nat.zero_le _) h4
  refine ⟨hb.2, ?_⟩
  have hc := spans_cut s _ _ (Nat.le_of_lt hb.2) (s.length + 1) ((s.take (Lx.divide s).2.2).length + 1) 0 Lx.noSp Lx.noSp (Nat.zero_le _) rfl rfl h4
  change (Lx.spans (s.take (Lx.divide s).2.2)).2 = none at hc
  rw [divide_of_spans _ (Lx.spans (s.take (Lx.divide s).2.2)).1 (by rw [List.length_take]; omega) (by rw [← hc])]

/-! ### A text with more behind it -/
theorem measureL_bad10 (l : List UInt8) (j : Bool) (h : Lx.measureL l j = .bad 10) (l' : List UInt8) (j' : Bool) (e : l'[0]? = l[0]?) : Lx.measureL l' j' = .bad 10 := by
  unfold Lx.measureL at h ⊢
  rw [e]
  simp only at h ⊢
  split at h
  · unfold Lx.word at h; simp only at h; split at h <;> cases h
  · rename_i c1
    rw [if_neg c1]
    split at h
    · unfold Lx.number at h; split at h <;> cases h
    · rename_i c2
      rw [if_neg c2]
      split at h
      · unfold Lx.quoted at h; split at h <;> cases h
      · rename_i c3
        rw [if_neg c3]
        split at h
        · unfold Lx.operation at h; split at h <;> cases h
        · rename_i c4
          rw [if_neg c4]
          split at h
          · cases h
          · split at h
            · cases h
            · rename_i c5
              have : ¬ ((l[0]?.getD 0 == 46 && Lx.joinsL l' j') = true) := by
                intro hh
                rw [Bool.and_eq_true, beq_iff_eq] at hh
                apply c5
                rw [hh.1]; decide
              rw [if_neg this, if_neg c5]
theorem more_at (s more : List UInt8) (ix q : Nat) (h : ix + q < s.length) : ((s ++ more).drop ix)[q]? = (s.drop ix)[q]? := by
  rw [List.getElem?_drop, List.getElem?_drop, List.getElem?_append_left h]
theorem spans_more (s more : List UInt8) (at_ : Nat) : ∀ (f f' ix : Nat) (last last' : Lx.Sp), last'.kind = last.kind → last'.to = last.to → ix ≤ s.length → at_ - ix < f' → (Lx.spansN s f ix last).2 = some (10, at_) → (Lx.spansN (s ++ more) f' ix last').2 = some (10, at_)
  | 0, _, _, _, _, _, _, _, _, h => by cases h
  | f + 1, 0, ix, last, last', _, _, hx, hf, h => by omega
  | f + 1, f' + 1, ix, last, last', hk, hto, hx, hf, h => by
    have hba := spansN_bad_at s (f + 1) ix last 10 at_ hx h
    rw [spansN_succ] at h ⊢
    split at h
    · injection h with h; injection h with h1 h2; omega
    · rename_i j hj
      have h1 := blanks_ge _ _ _ _ hj
      have h2 := blanks_le _ _ _ _ hj
      rw [List.length_drop] at h2
      unfold tailN at h
      split at h
      · cases h
      · rename_i hne
        have hb := blanks_local (s.drop ix) ((s ++ more).drop ix) none ix j hj (fun q hq => more_at s more ix q (by omega)) (.inl (more_at s more ix _ (by omega)))
        rw [hb]
        simp only
        unfold tailN
        rw [if_neg (by rw [List.length_append]; omega)]
        have hfl : (last'.kind == 1 && last'.to == j) = (last.kind == 1 && last.to == j) := by rw [hk, hto]
        split at h
        · rename_i e he
          injection h with h; injection h with h3 h4; subst h3 h4
          rw [next_L] at he ⊢
          split at he
          · rename_i e' hm
            injection he with he; subst he
            rw [measureL_bad10 _ _ hm _ (last'.kind == 1 && last'.to == j) (more_at s more j 0 (by omega))]
          · cases he
        · rename_i t ht
          have hr := next_read s j last t (by omega) ht
          have hta := spansN_bad_at s f t.to t 10 at_ hr.le h
          have hlt := hr.lt
          have e1 := more_at s more j (t.to - j) (by omega)
          have hm := measureL_local (s.drop j) ((s ++ more).drop j) _ (last'.kind == 1 && last'.to == j) t.kind (t.to - j) (by rw [List.length_drop]; omega) hr.meas
            (fun i hi => more_at s more j i (by omega)) (.inl e1) (.inl hfl)
          rcases hm with e | ⟨_, e2, _, e4⟩
          · rw [next_L, e]
            simp only
            rw [show j + (t.to - j) = t.to by omega]
            exact spans_more s more at_ f f' t.to t _ rfl rfl hr.le (by omega) h
          · exact absurd ⟨hfl, by rw [e2] at e1; exact e1⟩ e4
theorem divide_more (s more : List UInt8) (h : (Lx.divide s).2.1 = 10) (hl : (s ++ more).length ≤ 20000) : (Lx.divide (s ++ more)).2.1 = 10 ∧ (Lx.divide (s ++ more)).2.2 = (Lx.divide s).2.2 := by
  obtain ⟨h3, h4⟩ := divide_bad s (by omega) (by omega)
  rw [h] at h4
  have hb := spansN_bad_at s _ 0 _ _ _ (Nat.zero_le _) h4
  have hm := spans_more s more _ (s.length + 1) ((s ++ more).length + 1) 0 Lx.noSp Lx.noSp rfl rfl (Nat.zero_le _) (by rw [List.length_append]; omega) h4
  change (Lx.spans (s ++ more)).2 = _ at hm
  rw [divide_of_bad (s ++ more) (Lx.spans (s ++ more)).1 10 (Lx.divide s).2.2 hl (by rw [← hm])]
  exact ⟨rfl, rfl⟩
end Go.Proofs.YtcjcbhdildcceaaGreatDoor
