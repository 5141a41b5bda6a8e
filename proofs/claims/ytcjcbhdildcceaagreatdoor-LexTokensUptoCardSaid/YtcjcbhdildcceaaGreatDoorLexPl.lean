/- Plain truths of the laws on kinds and on places. Nothing is said of the program here. -/
import Derived.Test.YtcjcbhdildcceaaGreatDoorLexPb
namespace Go.Proofs.YtcjcbhdildcceaaGreatDoor

theorem mem_tw {α : Type} {p : α → Bool} : ∀ {l : List α} {a : α}, a ∈ l.takeWhile p → p a = true
  | [], a, h => by cases h
  | b :: l, a, h => by
    cases hb : p b
    · simp [List.takeWhile, hb] at h
    · simp only [List.takeWhile, hb, List.mem_cons] at h
      rcases h with rfl | h
      · exact hb
      · exact mem_tw h
theorem divide_ok (s : List UInt8) (h : (Lx.divide s).2.1 = 0) : s.length ≤ 20000 ∧ Lx.spans s = ((Lx.divide s).1, none) := by
  unfold Lx.divide at h ⊢
  split at h
  · cases h
  · rename_i hs
    rw [if_neg hs]
    refine ⟨by omega, ?_⟩
    have hc := spansN_code s (s.length + 1) 0 Lx.noSp
    change ∀ c i, (Lx.spans s).2 = some (c, i) → 10 ≤ c at hc
    generalize Lx.spans s = R at *
    obtain ⟨l, r⟩ := R
    cases r with
    | none => rfl
    | some x =>
      have := hc x.1 x.2 rfl
      simp only at h
      omega
theorem divide_of_spans (s : List UInt8) (l : List Lx.Sp) (hs : s.length ≤ 20000) (h : Lx.spans s = (l, none)) : Lx.divide s = (l, 0, 0) := by
  unfold Lx.divide
  rw [if_neg (by omega), h]
theorem divide_of_bad (s : List UInt8) (l : List Lx.Sp) (c i : Nat) (hs : s.length ≤ 20000) (h : Lx.spans s = (l, some (c, i))) : Lx.divide s = ([], c, i) := by
  unfold Lx.divide
  rw [if_neg (by omega), h]
theorem divide_bad (s : List UInt8) (h : (Lx.divide s).2.1 ≠ 0) (h2 : (Lx.divide s).2.1 ≠ 2) : s.length ≤ 20000 ∧ (Lx.spans s).2 = some ((Lx.divide s).2.1, (Lx.divide s).2.2) := by
  unfold Lx.divide at h h2 ⊢
  split at h
  · rename_i hs
    rw [if_pos hs] at h2
    exact absurd rfl h2
  · rename_i hs
    rw [if_neg hs]
    refine ⟨by omega, ?_⟩
    generalize Lx.spans s = R at *
    obtain ⟨l, r⟩ := R
    cases r with
    | none => exact absurd rfl h
    | some x => rfl
theorem divide_nil (s : List UInt8) (h : (Lx.divide s).2.1 ≠ 0) : (Lx.divide s).1 = [] := by
  unfold Lx.divide at h ⊢
  split at h
  · rename_i hs; rw [if_pos hs]
  · rename_i hs
    rw [if_neg hs]
    generalize Lx.spans s = R at *
    obtain ⟨l, r⟩ := R
    cases r with
    | none => exact absurd rfl h
    | some x => rfl
theorem chain_frm (s : List UInt8) : ∀ (l : List Lx.Sp) (ix : Nat) (last : Lx.Sp), Lx.Chain s ix last l → ∀ t ∈ l, t.frm < t.to ∧ t.to ≤ s.length
  | [], _, _, _, t, ht => by cases ht
  | a :: l, ix, last, h, t, ht => by
    obtain ⟨_, hr, _, hc⟩ := h
    rcases List.mem_cons.1 ht with rfl | ht
    · exact ⟨hr.lt, hr.le⟩
    · exact chain_frm s l _ _ hc t ht
theorem divide_chain (s : List UInt8) (h : (Lx.divide s).2.1 = 0) : Lx.Chain s 0 Lx.noSp (Lx.divide s).1 := by
  have := spans_chain s
  rwa [(divide_ok s h).2] at this
theorem divide_frm (s : List UInt8) (h : (Lx.divide s).2.1 = 0) : ∀ t ∈ (Lx.divide s).1, t.frm < t.to ∧ t.to ≤ s.length := chain_frm s _ _ _ (divide_chain s h)
theorem chain_read (s : List UInt8) : ∀ (l : List Lx.Sp) (ix : Nat) (last : Lx.Sp), Lx.Chain s ix last l → ∀ t ∈ l, ∃ p, Lx.Read s t.frm p t
  | [], _, _, _, t, ht => by cases ht
  | a :: l, ix, last, h, t, ht => by
    obtain ⟨_, hr, _, hc⟩ := h
    rcases List.mem_cons.1 ht with rfl | ht
    · exact ⟨_, hr⟩
    · exact chain_read s l _ _ hc t ht
theorem divide_right (s : List UInt8) (h : (Lx.divide s).2.1 = 0) (t : Lx.Sp) (ht : t ∈ (Lx.divide s).1) : Lx.right t.kind t.text t.line t.col = true ∧ Lx.spell t.kind t.text = (s.drop t.frm).take (t.to - t.frm) ∧ t.frm < t.to ∧ t.to ≤ s.length ∧
    t.line = (Lx.placeAt s t.frm).ln + 1 ∧ t.col = t.frm - (Lx.placeAt s t.frm).bg + 1 := by
  obtain ⟨p, hr⟩ := chain_read s _ _ _ (divide_chain s h) t ht
  exact ⟨right_read hr (divide_ok s h).1, spell_read hr, hr.lt, hr.le, hr.line, hr.col⟩

/-- The Kind of a right token's spelling. -/
theorem kinds_right (k : Int) (t : List UInt8) (a b : Int) (hl : (Lx.spell k t).length ≤ 20000) (h : Lx.right k t a b = true) (h9 : k ≠ 9) : (Lx.kindTold (Lx.spell k t) : Int) = k := by
  unfold Lx.right at h
  rw [Bool.and_eq_true] at h
  obtain ⟨h1, h2⟩ := sole_right k t h.2 h9
  unfold Lx.kindTold
  rw [if_neg, h1]
  rintro (e | e)
  · exact h2 e
  · omega
theorem spell_len (k : Int) (t : List UInt8) : (Lx.spell k t).length ≤ 2 * t.length + 2 := by
  have h : ∀ l : List UInt8, (Lx.dbl l).length ≤ 2 * l.length := by
    intro l
    induction l with
    | nil => simp [Lx.dbl]
    | cons b r ih => unfold Lx.dbl; split <;> simp only [List.length_cons] <;> omega
  unfold Lx.spell
  split
  · simp only [List.length_cons, List.length_append, List.length_nil]
    have := h t; omega
  · omega
theorem kinds_some (s : List UInt8) (h : Lx.kindTold s ≠ 0) : ∃ t : Lx.Sp, Lx.divide s = ([t], 0, 0) ∧ t.kind = Lx.kindTold s ∧ Lx.right t.kind t.text t.line t.col = true ∧ Lx.spell t.kind t.text = s := by
  unfold Lx.kindTold at h ⊢
  split at h
  · exact absurd rfl h
  · rename_i hc
    rw [if_neg hc]
    have hne : s ≠ [] := fun e => hc (.inl e)
    have hl : s.length ≤ 20000 := by have : ¬ 20000 < s.length := fun e => hc (.inr e); omega
    have hd := divide_of_spans s _ hl (spans_sole s _ rfl h hne)
    have hr := divide_right s (by rw [hd]) ⟨Lx.soleKind s, Lx.textOf (Lx.soleKind s) s, 1, 1, 0, s.length⟩ (by rw [hd]; exact List.mem_singleton.2 rfl)
    exact ⟨_, hd, rfl, hr.1, by simpa using hr.2.1⟩
theorem kinds_none (s : List UInt8) (h : Lx.kindTold s = 0) (hl : s.length ≤ 20000) (t : Lx.Sp) (hd : Lx.divide s = ([t], 0, 0)) : Lx.right t.kind t.text t.line t.col = true ∧ Lx.spell t.kind t.text ≠ s := by
  have hr := divide_right s (by rw [hd]) t (by rw [hd]; exact List.mem_singleton.2 rfl)
  refine ⟨hr.1, fun e => ?_⟩
  have h1 : (Lx.spans s).1 = [t] := by rw [(divide_ok s (by rw [hd])).2, hd]
  have h2 := sole_of_spans s t h1 e
  unfold Lx.kindTold at h
  rw [if_neg] at h
  · exact h2 h
  · rintro (e2 | e2)
    · subst e2
      have := hr.2.2
      simp at this; omega
    · omega

theorem placeAt_step (s : List UInt8) (i : Nat) (h : i < s.length) : Lx.placeAt s (i + 1) = (Lx.placeAt s i).step (s[i]?.getD 0) := by
  unfold Lx.placeAt
  exact pass_snoc ⟨0, 0, 0⟩ s i h
theorem place_mono (s : List UInt8) (a : Nat) : ∀ n : Nat, a + n ≤ s.length → (Lx.placeAt s a).ln ≤ (Lx.placeAt s (a + n)).ln ∧ ((Lx.placeAt s (a + n)).ln = (Lx.placeAt s a).ln → (Lx.placeAt s (a + n)).bg = (Lx.placeAt s a).bg)
  | 0, _ => ⟨Nat.le_refl _, fun _ => rfl⟩
  | n + 1, h => by
    obtain ⟨h1, h2⟩ := place_mono s a n (by omega)
    have hs := placeAt_step s (a + n) (by omega)
    rw [← Nat.add_assoc, hs]
    unfold Lx.Place.step
    split
    · exact ⟨by simp only; omega, fun e => by simp only at e; omega⟩
    · exact ⟨h1, h2⟩
/-- Tokens stand one behind the other. -/
theorem chain_pair (s : List UInt8) : ∀ (l : List Lx.Sp) (ix : Nat) (last : Lx.Sp), Lx.Chain s ix last l → ∀ i t t', l[i]? = some t → l[i + 1]? = some t' → t.to ≤ t'.frm ∧ Lx.blanks none t.to (s.drop t.to) = .at t'.frm
  | [], _, _, _, i, t, t', h, _ => by simp at h
  | a :: l, ix, last, h, 0, t, t', h1, h2 => by
    obtain ⟨_, hr, _, hc⟩ := h
    simp at h1; subst h1
    cases l with
    | nil => simp at h2
    | cons b l =>
      simp at h2; subst h2
      exact ⟨hc.2.2.1, hc.1⟩
  | a :: l, ix, last, h, i + 1, t, t', h1, h2 => chain_pair s l _ _ h.2.2.2 i t t' (by simpa using h1) (by simpa using h2)
theorem places_pair (s : List UInt8) (h : (Lx.divide s).2.1 = 0) (i : Nat) (t t' : Lx.Sp) (h1 : (Lx.divide s).1[i]? = some t) (h2 : (Lx.divide s).1[i + 1]? = some t') :
    t.to < t'.to ∧ (t.line < t'.line ∨ (t'.line = t.line ∧ t.col < t'.col)) := by
  have hp := (chain_pair s _ _ _ (divide_chain s h) i t t' h1 h2).1
  obtain ⟨_, _, a1, a2, a3, a4⟩ := divide_right s h t (List.mem_of_getElem? h1)
  obtain ⟨_, _, b1, b2, b3, b4⟩ := divide_right s h t' (List.mem_of_getElem? h2)
  refine ⟨by omega, ?_⟩
  have hm := place_mono s t.frm (t'.frm - t.frm) (by omega)
  rw [show t.frm + (t'.frm - t.frm) = t'.frm by omega] at hm
  have hb := placeAt_bg s t.frm
  rw [placeAt_ix s _ (by omega)] at hb
  by_cases he : (Lx.placeAt s t'.frm).ln = (Lx.placeAt s t.frm).ln
  · have := hm.2 he
    exact .inr ⟨by omega, by omega⟩
  · exact .inl (by omega)
theorem at_frm (s : List UInt8) (i : Nat) (h : i ≤ s.length) : Lx.at_ s (i : Int) = ((Lx.placeAt s i).ln + 1, i - (Lx.placeAt s i).bg + 1, 0) := by
  unfold Lx.at_; rw [if_neg (by omega)]; rfl
/-- What Token's answer tells. -/
theorem token_bad (s : List UInt8) (index : Int) (h0 : (Lx.divide s).2.1 = 0) (h : (Lx.tokenOf (Lx.divide s) s.length index).2.1 ≠ 0) :
    index < 0 ∨ (s.length : Int) ≤ index ∨ ((Lx.tokenOf (Lx.divide s) s.length index).2.1 = 3 ∧ ∀ t ∈ (Lx.divide s).1, (t.to : Int) ≤ index) := by
  unfold Lx.tokenOf at h ⊢
  rw [if_neg (by omega)] at h ⊢
  split at h
  · rename_i hc; rcases hc with hc | hc
    · exact .inl hc
    · exact .inr (.inl hc)
  · rename_i hc
    rw [if_neg hc]
    split at h
    · rename_i he
      rw [if_pos he]
      refine .inr (.inr ⟨rfl, ?_⟩)
      have := (List.takeWhile_prefix (fun t : Lx.Sp => decide ((t.to : Int) ≤ index)) (l := (Lx.divide s).1)).eq_of_length he
      intro t ht
      rw [← this] at ht
      simpa using mem_tw ht
    · exact absurd rfl h
theorem token_good (s : List UInt8) (index : Int) (h0 : (Lx.divide s).2.1 = 0) (h : (Lx.tokenOf (Lx.divide s) s.length index).2.1 = 0) :
    ∃ t, (Lx.divide s).1[(Lx.tokenOf (Lx.divide s) s.length index).1]? = some t ∧ index < (t.to : Int) ∧ 0 ≤ index ∧
      ∀ t', 0 < (Lx.tokenOf (Lx.divide s) s.length index).1 → (Lx.divide s).1[(Lx.tokenOf (Lx.divide s) s.length index).1 - 1]? = some t' → (t'.to : Int) ≤ index := by
  unfold Lx.tokenOf at h ⊢
  rw [if_neg (by omega)] at h ⊢
  split at h
  · cases h
  · rename_i hc
    rw [if_neg hc]
    split at h
    · cases h
    · rename_i he
      rw [if_neg he]
      generalize (Lx.divide s).1 = l at *
      have hle := (List.takeWhile_prefix (fun t : Lx.Sp => decide ((t.to : Int) ≤ index)) (l := l)).length_le
      dsimp only
      have hlt : (l.takeWhile fun t => decide ((t.to : Int) ≤ index)).length < l.length := by omega
      refine ⟨l[(l.takeWhile fun t => decide ((t.to : Int) ≤ index)).length], List.getElem?_eq_getElem hlt, ?_, by omega, ?_⟩
      · have key : ∀ (l : List Lx.Sp) (h : (l.takeWhile fun t => decide ((t.to : Int) ≤ index)).length < l.length), index < ((l[(l.takeWhile fun t => decide ((t.to : Int) ≤ index)).length]).to : Int) := by
          intro l
          induction l with
          | nil => intro h; simp at h
          | cons a l ih =>
            intro h
            by_cases ha : (a.to : Int) ≤ index
            · simp only [List.takeWhile_cons, decide_eq_true ha, if_true, List.length_cons, List.getElem_cons_succ] at h ⊢
              exact ih (by omega)
            · simp only [List.takeWhile_cons, decide_eq_false ha, List.length_nil, List.getElem_cons_zero, Bool.false_eq_true, if_false]
              omega
        exact key l hlt
      · intro t' hp ht'
        have hm : t' ∈ l.takeWhile fun t => decide ((t.to : Int) ≤ index) := by
          have hpre := List.takeWhile_prefix (fun t : Lx.Sp => decide ((t.to : Int) ≤ index)) (l := l)
          obtain ⟨r, hr⟩ := hpre
          rw [← hr, List.getElem?_append_left (by rw [hr]; omega)] at ht'
          rw [hr] at ht'
          exact List.mem_of_getElem? ht'
        simpa using mem_tw hm
end Go.Proofs.YtcjcbhdildcceaaGreatDoor
