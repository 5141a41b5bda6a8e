/- Plain facts: the spelling of a token that was read, and that it is right; which texts are one token. Nothing is said of the program here. -/
import Derived.Test.YtcjcbhdildcceaaGreatDoorLexPa
import Derived.Test.YtcjcbhdildcceaaGreatDoorLexPd
namespace Go.Proofs.YtcjcbhdildcceaaGreatDoor

theorem runN_all (p : UInt8 → Bool) : ∀ l : List UInt8, Lx.runN p l = l.length ↔ l.all p = true
  | [] => by simp [Lx.runN]
  | a :: l => by
    have ih := runN_all p l
    cases h : p a
    · simp [Lx.runN, h]
    · have e : Lx.runN p (a :: l) = Lx.runN p l + 1 := by simp [Lx.runN, h]
      rw [e, List.length_cons, List.all_cons, h, Bool.true_and, ← ih]
      omega
/-- The text of a token with such a spelling. -/
def Lx.textOf (k : Nat) (x : List UInt8) : List UInt8 := if k = 6 then undbl ((x.drop 1).take (x.length - 2)) else x

theorem wordKind_le (l : List UInt8) : Lx.wordKind l ≤ 4 := by
  unfold Lx.wordKind; simp only; repeat' split
  all_goals omega
/-- What kinds there are, and what stands at the head of some. -/
theorem measureL_kind (l : List UInt8) (j : Bool) (k n : Nat) (h : Lx.measureL l j = .ok k n) :
    k ≠ 0 ∧ k ≤ 9 ∧ (k = 9 → n = 1 ∧ l[0]?.getD 0 = 46 ∧ j = true ∧ ∃ c, l[1]? = some c ∧ Lx.joined c = true) ∧ (k = 6 → l[0]?.getD 0 = 39 ∧ Lx.quotedN l.tail = some (n - 1) ∧ 1 ≤ n) := by
  unfold Lx.measureL at h
  simp only at h
  split at h
  · unfold Lx.word at h
    simp only at h
    split at h
    · cases h
    · injection h with h1 h2
      have := wordKind_le (l.take (Lx.wordN l))
      exact ⟨by omega, by omega, fun e => by omega, fun e => by omega⟩
  · split at h
    · unfold Lx.number at h
      split at h
      · cases h
      · injection h with h1 h2
        subst h1
        exact ⟨by omega, by omega, fun e => by omega, fun e => by omega⟩
    · split at h
      · rename_i hb
        unfold Lx.quoted at h
        split at h
        · rename_i q hq
          injection h with h1 h2
          subst h1 h2
          exact ⟨by omega, by omega, fun e => by omega, fun _ => ⟨by simpa using hb, by rw [hq]; rfl, by omega⟩⟩
        · cases h
      · split at h
        · unfold Lx.operation at h
          split at h
          · cases h
          · injection h with h1 h2
            subst h1
            exact ⟨by omega, by omega, fun e => by omega, fun e => by omega⟩
        · split at h
          · rename_i hd
            injection h with h1 h2
            subst h1 h2
            rw [Bool.and_eq_true, beq_iff_eq, joinsL_iff] at hd
            exact ⟨by omega, by omega, fun _ => ⟨rfl, hd.1, hd.2.1, hd.2.2⟩, fun e => by omega⟩
          · split at h
            · injection h with h1 h2
              subst h1
              exact ⟨by omega, by omega, fun e => by omega, fun e => by omega⟩
            · cases h

theorem measureL_len (l : List UInt8) (j : Bool) (k n : Nat) (hne : 0 < l.length) (h : Lx.measureL l j = .ok k n) : 1 ≤ n ∧ n ≤ l.length ∧ (k = 6 → 2 ≤ n) := by
  have := measure_len l 0 (if j then 1 else 0) 0 k n hne (by rw [measure_L]; cases j <;> exact h)
  exact ⟨this.1, by omega, this.2.2⟩

/-- The bytes of a token alone are this token (a dot that joins: a sign). -/
theorem measureL_sole (l : List UInt8) (j : Bool) (k n : Nat) (hne : 0 < l.length) (h : Lx.measureL l j = .ok k n) : Lx.measureL (l.take n) false = .ok (if k = 9 then 8 else k) n := by
  obtain ⟨h1, h2, h3⟩ := measureL_len l j k n hne h
  have hk := measureL_kind l j k n h
  rcases measureL_local l (l.take n) j false k n hne h (fun i hi => List.getElem?_take_of_lt hi) (.inr (fun b hb => by rw [List.getElem?_take_eq_none (Nat.le_refl _)] at hb; cases hb)) (.inr rfl) with e | ⟨e1, e2, e3, _⟩
  · rw [e]
    by_cases h9 : k = 9
    · have := (measureL_kind _ _ _ _ e).2.2.1 h9
      exact absurd this.2.2.1 (by decide)
    · rw [if_neg h9]
  · rw [if_pos e1, e3, e2]
theorem soleKind_L (s : List UInt8) : Lx.soleKind s = match Lx.measureL s false with | .ok k n => if n = s.length then k else 0 | .bad _ => 0 := by
  unfold Lx.soleKind
  rw [measure_L]; rfl
theorem sole_spelt (l : List UInt8) (j : Bool) (k n : Nat) (hne : 0 < l.length) (h : Lx.measureL l j = .ok k n) : Lx.soleKind (l.take n) = if k = 9 then 8 else k := by
  obtain ⟨h1, h2, h3⟩ := measureL_len l j k n hne h
  rw [soleKind_L, measureL_sole l j k n hne h]
  simp only
  rw [if_pos (by rw [List.length_take]; omega)]

theorem spell_text (l : List UInt8) (j : Bool) (k n : Nat) (hne : 0 < l.length) (h : Lx.measureL l j = .ok k n) : Lx.spell k (Lx.textOf k (l.take n)) = l.take n := by
  obtain ⟨h1, h2, h3⟩ := measureL_len l j k n hne h
  unfold Lx.spell Lx.textOf
  by_cases h6 : k = 6
  · subst h6
    obtain ⟨hb, hq, hn1⟩ := (measureL_kind l j 6 n h).2.2.2 rfl
    have hn2 := h3 rfl
    obtain ⟨t, rfl⟩ : ∃ t, l = 39 :: t := by cases l with | nil => simp at hne | cons a t => simp at hb; exact ⟨t, by rw [hb]⟩
    obtain ⟨m, rfl⟩ : ∃ m, n = m + 2 := ⟨n - 2, by omega⟩
    simp only [List.tail_cons] at hq
    have hqi := (quotedN_inner t.length t (m + 2 - 1) (Nat.le_refl _) hq).1
    have hl : ((39 :: t : List UInt8).take (m + 2)).length = m + 2 := by rw [List.length_take]; omega
    rw [if_pos (by rfl), if_pos rfl, hl]
    have e : ((((39 :: t : List UInt8).take (m + 2)).drop 1).take (m + 2 - 2)) = t.take m := by
      simp [List.take_take]
    rw [e]
    show 39 :: (Lx.dbl (Lx.undbl (t.take m)) ++ [39]) = 39 :: t.take (m + 1)
    have e2 : m + 2 - 1 - 1 = m := by omega
    rw [e2] at hqi
    rw [hqi]; rfl
  · rw [if_neg (by omega), if_neg h6]
theorem right_text (l : List UInt8) (j : Bool) (k n : Nat) (hne : 0 < l.length) (hs : n ≤ 20000) (h : Lx.measureL l j = .ok k n) : Lx.rightText k (Lx.textOf k (l.take n)) = true := by
  obtain ⟨h1, h2, h3⟩ := measureL_len l j k n hne h
  obtain ⟨k0, k9, hk9, hk6⟩ := measureL_kind l j k n h
  unfold Lx.rightText
  by_cases h6 : k = 6
  · subst h6
    rw [if_pos (by rfl)]
    obtain ⟨hb, hq, hn1⟩ := hk6 rfl
    have hn2 := h3 rfl
    obtain ⟨t, rfl⟩ : ∃ t, l = 39 :: t := by cases l with | nil => simp at hne | cons a t => simp at hb; exact ⟨t, by rw [hb]⟩
    obtain ⟨m, rfl⟩ : ∃ m, n = m + 2 := ⟨n - 2, by omega⟩
    simp only [List.tail_cons] at hq
    have hqi := (quotedN_inner t.length t (m + 2 - 1) (Nat.le_refl _) hq).2
    have hl : ((39 :: t : List UInt8).take (m + 2)).length = m + 2 := by rw [List.length_take]; omega
    unfold Lx.textOf
    rw [if_pos rfl, hl]
    have e : ((((39 :: t : List UInt8).take (m + 2)).drop 1).take (m + 2 - 2)) = t.take m := by
      simp [List.take_take]
    rw [e]
    have e2 : m + 2 - 1 - 1 = m := by omega
    rw [e2] at hqi
    rw [beq_iff_eq]
    exact (runN_all _ _).2 hqi
  · rw [if_neg (by omega)]
    by_cases h9 : k = 9
    · subst h9
      obtain ⟨e1, e2, _⟩ := hk9 rfl
      subst e1
      rw [if_pos (by rfl)]
      unfold Lx.textOf
      rw [if_neg (by omega)]
      cases l with
      | nil => simp at hne
      | cons a t => simp at e2; subst e2; rfl
    · rw [if_neg (by omega), if_neg (by omega)]
      unfold Lx.textOf Lx.kindTold
      rw [if_neg h6, if_neg, sole_spelt l j k n hne h, if_neg h9]
      · simp
      · rintro (e | e)
        · have := congrArg List.length e
          rw [List.length_take, List.length_nil] at this; omega
        · rw [List.length_take] at e; omega

/-- What the bytes of a right token that joins nothing are alone. -/
theorem sole_right (k : Int) (t : List UInt8) (h : Lx.rightText k t = true) (h9 : k ≠ 9) : (Lx.soleKind (Lx.spell k t) : Int) = k ∧ Lx.spell k t ≠ [] := by
  unfold Lx.rightText at h
  unfold Lx.spell
  split at h
  · rename_i h6
    subst h6
    rw [if_pos rfl]
    refine ⟨?_, by simp⟩
    rw [beq_iff_eq] at h
    have ht : t.all Lx.shown = true := (runN_all _ _).1 h
    have hq := quotedN_dbl t [] ht (by simp)
    rw [soleKind_L]
    have hm : Lx.measureL (39 :: (Lx.dbl t ++ [39])) false = .ok 6 ((Lx.dbl t).length + 2) := by
      unfold Lx.measureL
      simp only [List.getElem?_cons_zero, Option.getD_some]
      rw [if_neg (by decide), if_neg (by decide), if_pos (by decide)]
      unfold Lx.quoted
      rw [List.tail_cons, hq]
    rw [hm]
    simp
  · rename_i h6
    rw [if_neg h6]
    split at h
    · cases h
    · rename_i h0
      unfold Lx.kindTold at h
      split at h
      · simp at h; exact absurd h.symm h0
      · rename_i hc
        refine ⟨by simpa using h, fun e => hc (.inl e)⟩

theorem quotedN_none_blank : True := trivial
/-- What is no blank, nor begins a comment, is not passed over. -/
theorem blanks_here (l : List UInt8) (i : Nat) (b : UInt8) (h : l[0]? = some b) (h1 : Lx.blank b = false) (h2 : b ≠ 34) : Lx.blanks none i l = .at i := by
  cases l with
  | nil => simp at h
  | cons a t =>
    simp at h; subst h
    unfold Lx.blanks
    rw [if_neg (by simp [h1]), if_neg h2]
theorem measureL_first (l : List UInt8) (j : Bool) (k n : Nat) (hne : 0 < l.length) (h : Lx.measureL l j = .ok k n) : ∃ b, l[0]? = some b ∧ Lx.blank b = false ∧ b ≠ 34 := by
  cases l with
  | nil => simp at hne
  | cons a t =>
    refine ⟨a, rfl, ?_, ?_⟩
    · cases hb : Lx.blank a
      · rfl
      · exfalso
        have : a = 32 ∨ a = 9 ∨ a = 10 := by
          unfold Lx.blank at hb
          simp only [Bool.or_eq_true, beq_iff_eq] at hb
          rcases hb with (hb | hb) | hb
          · exact .inl (UInt8.toNat_inj.1 (by have : (32 : UInt8).toNat = 32 := rfl; omega))
          · exact .inr (.inl (UInt8.toNat_inj.1 (by have : (9 : UInt8).toNat = 9 := rfl; omega)))
          · exact .inr (.inr (UInt8.toNat_inj.1 (by have : (10 : UInt8).toNat = 10 := rfl; omega)))
        unfold Lx.measureL at h
        simp only [List.getElem?_cons_zero, Option.getD_some] at h
        rcases this with rfl | rfl | rfl
        all_goals
          rw [if_neg (by decide), if_neg (by decide), if_neg (by decide), if_neg (by decide), if_neg (by simp), if_neg (by decide)] at h
          cases h
    · rintro rfl
      unfold Lx.measureL at h
      simp only [List.getElem?_cons_zero, Option.getD_some] at h
      rw [if_neg (by decide), if_neg (by decide), if_neg (by decide), if_neg (by decide), if_neg (by simp), if_neg (by decide)] at h
      cases h

theorem next_L (s : List UInt8) (ix : Nat) (last : Lx.Sp) : Lx.next s ix last = match Lx.measureL (s.drop ix) (last.kind == 1 && last.to == ix) with
    | .bad e => .error e
    | .ok k n => .ok ⟨k, if k = 6 then Lx.undbl ((((s.drop ix).take n).drop 1).take (n - 2)) else (s.drop ix).take n, (Lx.placeAt s ix).ln + 1, ix - (Lx.placeAt s ix).bg + 1, ix, ix + n⟩ := by
  unfold Lx.next
  rw [measure_L]
  cases Lx.measureL (s.drop ix) (last.kind == 1 && last.to == ix) <;> rfl
/-- What is told of a token that was read. -/
structure Lx.Read (s : List UInt8) (j : Nat) (last t : Lx.Sp) : Prop where
  frm : t.frm = j
  lt : j < t.to
  le : t.to ≤ s.length
  meas : measureL (s.drop j) (last.kind == 1 && last.to == j) = .ok t.kind (t.to - j)
  text : t.text = textOf t.kind ((s.drop j).take (t.to - j))
  line : t.line = (placeAt s j).ln + 1
  col : t.col = j - (placeAt s j).bg + 1
theorem next_read (s : List UInt8) (j : Nat) (last t : Lx.Sp) (hj : j < s.length) (h : Lx.next s j last = .ok t) : Lx.Read s j last t := by
  have h' := next_to s j last t hj h
  rw [next_L] at h
  split at h
  · cases h
  · rename_i k n hm
    injection h with h
    subst h
    have hl := measureL_len (s.drop j) _ k n (by rw [List.length_drop]; omega) hm
    rw [List.length_drop] at hl
    refine ⟨rfl, h'.2.1, h'.2.2, ?_, ?_, rfl, rfl⟩
    · show _ = Lx.M.ok k (j + n - j)
      rw [hm, Nat.add_sub_cancel_left]
    · show _ = Lx.textOf k ((s.drop j).take (j + n - j))
      rw [Nat.add_sub_cancel_left]
      unfold Lx.textOf
      rw [List.length_take, List.length_drop, Nat.min_eq_left hl.2.1]

theorem right_read {s : List UInt8} {j : Nat} {last t : Lx.Sp} (h : Lx.Read s j last t) (hs : s.length ≤ 20000) : Lx.right t.kind t.text t.line t.col = true := by
  have hj : j < s.length := Nat.lt_of_lt_of_le h.lt h.le
  have h1 := right_text (s.drop j) _ t.kind (t.to - j) (by rw [List.length_drop]; omega) (by have := h.le; omega) h.meas
  have h2 := placeAt_ln s j
  have h3 := placeAt_ix s j (by omega)
  unfold Lx.right
  rw [h.text, h1, Bool.and_true]
  have hl : Lx.place? t.line = true := by
    unfold Lx.place?
    rw [h.line, Bool.and_eq_true]
    exact ⟨decide_eq_true (by omega), decide_eq_true (by omega)⟩
  have hc : Lx.place? t.col = true := by
    unfold Lx.place?
    rw [h.col, Bool.and_eq_true]
    exact ⟨decide_eq_true (by omega), decide_eq_true (by omega)⟩
  rw [hl, hc]
  simp
theorem spell_read {s : List UInt8} {j : Nat} {last t : Lx.Sp} (h : Lx.Read s j last t) : Lx.spell t.kind t.text = (s.drop j).take (t.to - j) := by
  have hj : j < s.length := Nat.lt_of_lt_of_le h.lt h.le
  rw [h.text]
  exact spell_text (s.drop j) _ t.kind (t.to - j) (by rw [List.length_drop]; omega) h.meas

/-- The tokens of a text, one behind the other. -/
def Lx.Chain (s : List UInt8) : Nat → Sp → List Sp → Prop
  | _, _, [] => True
  | ix, last, t :: r => (blanks none ix (s.drop ix) = .at t.frm) ∧ Read s t.frm last t ∧ ix ≤ t.frm ∧ Chain s t.to t r
theorem spansN_chain (s : List UInt8) : ∀ (f ix : Nat) (last : Lx.Sp), ix ≤ s.length → Lx.Chain s ix last (Lx.spansN s f ix last).1
  | 0, _, _, _ => trivial
  | f + 1, ix, last, h => by
    rw [spansN_succ]
    split
    · trivial
    · rename_i j hb
      have h1 := blanks_ge _ _ _ _ hb
      have h2 := blanks_le _ _ _ _ hb
      rw [List.length_drop] at h2
      unfold tailN
      split
      · trivial
      · split
        · trivial
        · rename_i t ht
          have hr := next_read s j last t (by omega) ht
          have := spansN_chain s f t.to t hr.le
          refine ⟨by rw [hr.frm]; exact hb, by rw [hr.frm]; exact hr, by rw [hr.frm]; exact h1, this⟩
theorem spans_chain (s : List UInt8) : Lx.Chain s 0 Lx.noSp (Lx.spans s).1 := spansN_chain s _ 0 Lx.noSp (Nat.zero_le _)

/-- A text that is one token is divided into it. -/
theorem spans_sole (s : List UInt8) (k : Nat) (h : Lx.soleKind s = k) (hk : k ≠ 0) (hne : s ≠ []) : Lx.spans s = ([⟨k, Lx.textOf k s, 1, 1, 0, s.length⟩], none) := by
  have hp : 0 < s.length := List.length_pos_iff.2 hne
  rw [soleKind_L] at h
  split at h
  · rename_i k' n hm
    split at h
    · rename_i hn
      subst h hn
      obtain ⟨b, hb0, hb1, hb2⟩ := measureL_first s false k' s.length hp hm
      have hl := measureL_len s false k' s.length hp hm
      unfold Lx.spans
      rw [spansN_succ, List.drop_zero, blanks_here s 0 b hb0 hb1 hb2]
      simp only
      unfold tailN
      rw [if_neg (by omega)]
      have hnx : Lx.next s 0 Lx.noSp = .ok ⟨k', Lx.textOf k' s, 1, 1, 0, s.length⟩ := by
        rw [next_L, List.drop_zero]
        show (match Lx.measureL s false with | .bad e => Except.error e | .ok k n => _) = _
        rw [hm]
        simp only [List.take_length, Nat.zero_add]
        rfl
      rw [hnx]
      simp only
      obtain ⟨f, hf⟩ : ∃ f, s.length = f + 1 := ⟨s.length - 1, by omega⟩
      have : Lx.spansN s s.length s.length ⟨k', Lx.textOf k' s, 1, 1, 0, s.length⟩ = ([], none) := by
        conv => lhs; arg 2; rw [hf]
        rw [spansN_succ, List.drop_length]
        simp only [Lx.blanks]
        unfold tailN
        rw [if_pos rfl]
      rw [this]
    · exact absurd h.symm hk
  · exact absurd h.symm hk
/-- A text that is divided into one token, of which it is the spelling, is this token. -/
theorem sole_of_spans (s : List UInt8) (t : Lx.Sp) (h : (Lx.spans s).1 = [t]) (hsp : Lx.spell t.kind t.text = s) : Lx.soleKind s ≠ 0 := by
  have hc := spans_chain s
  rw [h] at hc
  obtain ⟨_, hr, _, _⟩ := hc
  have hsr := spell_read hr
  have hj : t.frm < s.length := Nat.lt_of_lt_of_le hr.lt hr.le
  have hne : 0 < (s.drop t.frm).length := by rw [List.length_drop]; omega
  have h1 := sole_spelt (s.drop t.frm) _ t.kind _ hne hr.meas
  have hk := measureL_kind _ _ _ _ hr.meas
  rw [← hsr, hsp] at h1
  rw [h1]
  split
  · omega
  · exact hk.1
end Go.Proofs.YtcjcbhdildcceaaGreatDoor
