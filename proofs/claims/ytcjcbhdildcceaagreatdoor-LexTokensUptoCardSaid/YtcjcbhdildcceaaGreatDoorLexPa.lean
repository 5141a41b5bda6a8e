/- Plain facts: which bytes decide a token; its spelling; which lists of bytes are one token. Nothing is said of the program here. -/
import Derived.Test.YtcjcbhdildcceaaGreatDoorLexT
import Derived.Test.YtcjcbhdildcceaaGreatDoorLexQ
namespace Go.Proofs.YtcjcbhdildcceaaGreatDoor

theorem runN_at (p : UInt8 → Bool) : ∀ (l : List UInt8) (i : Nat), i < Lx.runN p l → ∃ b, l[i]? = some b ∧ p b = true
  | [], i, h => by simp [Lx.runN] at h
  | b :: l, i, h => by
    cases hb : p b
    · simp [Lx.runN, hb] at h
    · cases i with
      | zero => exact ⟨b, rfl, hb⟩
      | succ i =>
        have : i < Lx.runN p l := by simpa [Lx.runN, hb] using h
        simpa using runN_at p l i this
theorem runN_stop (p : UInt8 → Bool) : ∀ (l : List UInt8) (b : UInt8), l[Lx.runN p l]? = some b → p b = false
  | [], b, h => by simp at h
  | a :: l, b, h => by
    cases ha : p a
    · simp [Lx.runN, ha] at h
      subst h; exact ha
    · have e : Lx.runN p (a :: l) = Lx.runN p l + 1 := by simp [Lx.runN, ha]
      rw [e] at h
      exact runN_stop p l b (by simpa using h)
theorem runN_eq (p : UInt8 → Bool) : ∀ (l : List UInt8) (m : Nat), (∀ i, i < m → ∃ b, l[i]? = some b ∧ p b = true) → (∀ b, l[m]? = some b → p b = false) → Lx.runN p l = m
  | [], 0, _, _ => rfl
  | [], m + 1, h, _ => by obtain ⟨b, hb, _⟩ := h 0 (by omega); simp at hb
  | a :: l, 0, _, h => by have := h a rfl; simp [Lx.runN, this]
  | a :: l, m + 1, h, h' => by
    obtain ⟨b, hb, hp⟩ := h 0 (by omega)
    simp at hb; subst hb
    have := runN_eq p l m (fun i hi => by simpa using h (i + 1) (by omega)) (fun b hb => h' b (by simpa using hb))
    simp [Lx.runN, hp] at this ⊢
    exact this
theorem runN_local (p : UInt8 → Bool) (l l' : List UInt8) (hag : ∀ i, i < Lx.runN p l → l'[i]? = l[i]?) (hn : l'[Lx.runN p l]? = l[Lx.runN p l]? ∨ ∀ b, l'[Lx.runN p l]? = some b → p b = false) : Lx.runN p l' = Lx.runN p l := by
  refine runN_eq p l' _ (fun i hi => ?_) (fun b hb => ?_)
  · obtain ⟨b, h1, h2⟩ := runN_at p l i hi
    exact ⟨b, (hag i hi).trans h1, h2⟩
  · rcases hn with h | h
    · exact runN_stop p l b (h.symm.trans hb)
    · exact h b hb
theorem take_agree {l l' : List UInt8} {n : Nat} (h : ∀ i, i < n → l'[i]? = l[i]?) : l'.take n = l.take n := by
  apply List.ext_getElem?
  intro i
  by_cases hi : i < n
  · rw [List.getElem?_take_of_lt hi, List.getElem?_take_of_lt hi, h i hi]
  · rw [List.getElem?_take_eq_none (by omega), List.getElem?_take_eq_none (by omega)]

theorem quotedN_cons (b : UInt8) (r : List UInt8) (hb : b ≠ 39) : Lx.quotedN (b :: r) = if Lx.shown b then (Lx.quotedN r).map (· + 1) else none := by
  conv => lhs; unfold Lx.quotedN
  split <;> simp_all
theorem quotedN_one (r : List UInt8) (h : r.head? ≠ some 39) : Lx.quotedN (39 :: r) = some 1 := by
  unfold Lx.quotedN; split <;> simp_all
theorem quotedN_two (r : List UInt8) : Lx.quotedN (39 :: 39 :: r) = (Lx.quotedN r).map (· + 2) := rfl

theorem quotedN_local : ∀ (k : Nat) (l l' : List UInt8) (n : Nat), l.length ≤ k → Lx.quotedN l = some n → (∀ i, i < n → l'[i]? = l[i]?) → (l'[n]? = l[n]? ∨ ∀ b, l'[n]? = some b → b ≠ 39) → Lx.quotedN l' = some n
  | 0, l, l', n, hk, h, _, _ => by
    obtain rfl : l = [] := List.eq_nil_of_length_eq_zero (by omega)
    simp [Lx.quotedN] at h
  | k + 1, [], l', n, hk, h, _, _ => by simp [Lx.quotedN] at h
  | k + 1, b :: r, l', n, hk, h, hag, hn => by
    have hpos := (quotedN_len _ _ h).1
    obtain ⟨r', rfl⟩ : ∃ r', l' = b :: r' := by
      cases l' with
      | nil => have := hag 0 (by omega); simp at this
      | cons c r' => have := hag 0 (by omega); simp at this; exact ⟨r', by rw [this]⟩
    have hag' : ∀ i, i + 1 < n → r'[i]? = r[i]? := fun i hi => by simpa using hag (i + 1) hi
    by_cases hb : b = 39
    · subst hb
      by_cases hr : r.head? = some 39
      · obtain ⟨q, rfl⟩ : ∃ q, r = 39 :: q := by cases r with | nil => simp at hr | cons c q => simp at hr; exact ⟨q, by rw [hr]⟩
        rw [quotedN_two] at h
        obtain ⟨j, hj, rfl⟩ := Option.map_eq_some_iff.1 h
        have hj1 := (quotedN_len _ _ hj).1
        obtain ⟨q', rfl⟩ : ∃ q', r' = 39 :: q' := by
          cases r' with
          | nil => have := hag' 0 (by omega); simp at this
          | cons c q' => have := hag' 0 (by omega); simp at this; exact ⟨q', by rw [this]⟩
        rw [quotedN_two, quotedN_local k q q' j (by simp at hk; omega) hj (fun i hi => by simpa using hag' (i + 1) (by omega)) (by simpa using hn)]
        rfl
      · rw [quotedN_one r hr] at h
        injection h with h; subst h
        refine quotedN_one r' (fun e => ?_)
        rcases hn with h2 | h2
        · simp only [List.getElem?_cons_succ] at h2
          rw [List.head?_eq_getElem?] at hr e
          rw [h2] at e; exact hr e
        · simp only [List.getElem?_cons_succ] at h2
          rw [List.head?_eq_getElem?] at e
          exact h2 39 e rfl
    · rw [quotedN_cons b r hb] at h
      rw [quotedN_cons b r' hb]
      split at h
      · rename_i hs
        obtain ⟨j, hj, rfl⟩ := Option.map_eq_some_iff.1 h
        rw [if_pos hs, quotedN_local k r r' j (by simp at hk; omega) hj (fun i hi => hag' i (by omega)) (by simpa using hn)]
        rfl
      · cases h
theorem quotedN_inner : ∀ (k : Nat) (l : List UInt8) (n : Nat), l.length ≤ k → Lx.quotedN l = some n → Lx.dbl (Lx.undbl (l.take (n - 1))) ++ [39] = l.take n ∧ (Lx.undbl (l.take (n - 1))).all Lx.shown = true
  | 0, l, n, hk, h => by
    obtain rfl : l = [] := List.eq_nil_of_length_eq_zero (by omega)
    simp [Lx.quotedN] at h
  | k + 1, [], n, hk, h => by simp [Lx.quotedN] at h
  | k + 1, b :: r, n, hk, h => by
    by_cases hb : b = 39
    · subst hb
      by_cases hr : r.head? = some 39
      · obtain ⟨q, rfl⟩ : ∃ q, r = 39 :: q := by cases r with | nil => simp at hr | cons c q => simp at hr; exact ⟨q, by rw [hr]⟩
        rw [quotedN_two] at h
        obtain ⟨j, hj, rfl⟩ := Option.map_eq_some_iff.1 h
        have hj1 := (quotedN_len _ _ hj).1
        obtain ⟨i, rfl⟩ : ∃ i, j = i + 1 := ⟨j - 1, by omega⟩
        obtain ⟨h1, h2⟩ := quotedN_inner k q (i + 1) (by simp at hk; omega) hj
        have e : (39 :: 39 :: q : List UInt8).take (i + 1 + 2 - 1) = 39 :: 39 :: q.take i := by simp
        rw [e]
        have e2 : Lx.undbl (39 :: 39 :: q.take i) = 39 :: Lx.undbl (q.take i) := rfl
        rw [e2]
        rw [Nat.add_sub_cancel] at h1 h2
        constructor
        · show 39 :: 39 :: (Lx.dbl (Lx.undbl (q.take i))) ++ [39] = _
          rw [List.cons_append, List.cons_append, h1]; rfl
        · rw [List.all_cons, h2]; rfl
      · rw [quotedN_one r hr] at h
        injection h with h; subst h
        exact ⟨rfl, rfl⟩
    · rw [quotedN_cons b r hb] at h
      split at h
      · rename_i hs
        obtain ⟨j, hj, rfl⟩ := Option.map_eq_some_iff.1 h
        have hj1 := (quotedN_len _ _ hj).1
        obtain ⟨i, rfl⟩ : ∃ i, j = i + 1 := ⟨j - 1, by omega⟩
        obtain ⟨h1, h2⟩ := quotedN_inner k r (i + 1) (by simp at hk; omega) hj
        rw [Nat.add_sub_cancel] at h1 h2
        have e : (b :: r : List UInt8).take (i + 1 + 1 - 1) = b :: r.take i := by simp
        have e2 : Lx.undbl (b :: r.take i) = b :: Lx.undbl (r.take i) := by
          conv => lhs; unfold Lx.undbl
          split <;> simp_all
        rw [e, e2]
        constructor
        · show (if b = 39 then _ else _) ++ [39] = _
          rw [if_neg hb, List.cons_append, h1]; rfl
        · rw [List.all_cons, h2, hs]; rfl
      · cases h
theorem quotedN_dbl : ∀ (t r : List UInt8), t.all Lx.shown = true → r.head? ≠ some 39 → Lx.quotedN (Lx.dbl t ++ 39 :: r) = some ((Lx.dbl t).length + 1)
  | [], r, _, hr => quotedN_one r hr
  | b :: t, r, ht, hr => by
    rw [List.all_cons, Bool.and_eq_true] at ht
    have ih := quotedN_dbl t r ht.2 hr
    by_cases hb : b = 39
    · subst hb
      show Lx.quotedN (39 :: 39 :: (Lx.dbl t ++ 39 :: r)) = some ((39 :: 39 :: Lx.dbl t).length + 1)
      rw [quotedN_two, ih]; rfl
    · have e : Lx.dbl (b :: t) = b :: Lx.dbl t := if_neg hb
      rw [e, List.cons_append, quotedN_cons _ _ hb, if_pos ht.1, ih]; rfl
theorem undbl_dbl : ∀ (t : List UInt8), Lx.undbl (Lx.dbl t) = t
  | [] => rfl
  | b :: t => by
    by_cases hb : b = 39
    · subst hb
      show Lx.undbl (39 :: 39 :: Lx.dbl t) = _
      show 39 :: Lx.undbl (Lx.dbl t) = _
      rw [undbl_dbl t]
    · have e : Lx.dbl (b :: t) = b :: Lx.dbl t := if_neg hb
      have e2 : Lx.undbl (b :: Lx.dbl t) = b :: Lx.undbl (Lx.dbl t) := by
        conv => lhs; unfold Lx.undbl
        split <;> simp_all
      rw [e, e2, undbl_dbl t]

/-- Whether a dot at the head joins. -/
def Lx.joinsL (l : List UInt8) (j : Bool) : Bool := j && (match l[1]? with | some c => joined c | none => false)
theorem joinsL_iff (l : List UInt8) (j : Bool) : Lx.joinsL l j = true ↔ j = true ∧ ∃ c, l[1]? = some c ∧ Lx.joined c = true := by
  unfold Lx.joinsL
  cases j <;> cases h : l[1]? <;> simp
/-- measure, of the bytes from an index on: j: whether a name ends there. -/
def Lx.measureL (l : List UInt8) (j : Bool) : Lx.M :=
  let b := l[0]?.getD 0
  if letter b || b == 95 then word l
  else if digit b then number l
  else if b == 39 then quoted l
  else if operator b then operation l
  else if b == 46 && joinsL l j then .ok 9 1
  else if sign b then .ok 8 1
  else .bad 10
theorem measure_L (s : List UInt8) (ix lk lt : Nat) : Lx.measure s ix lk lt = Lx.measureL (s.drop ix) (lk == 1 && lt == ix) := by
  have e0 : (s.drop ix)[0]? = s[ix]? := by rw [List.getElem?_drop]; rfl
  have e1 : (s.drop ix)[1]? = s[ix + 1]? := by rw [List.getElem?_drop]
  have ej : Lx.joins s ix lk lt = Lx.joinsL (s.drop ix) (lk == 1 && lt == ix) := by
    unfold Lx.joins Lx.joinsL
    rw [e1]
    cases h : s[ix + 1]? with
    | none =>
      have : s.length ≤ ix + 1 := List.getElem?_eq_none_iff.1 h
      simp [show ¬ ix + 1 < s.length by omega]
    | some c =>
      have : ix + 1 < s.length := (List.getElem?_eq_some_iff.1 h).1
      simp [this]
  unfold Lx.measure Lx.measureL
  rw [e0, ej]

theorem wordN_colon (a : UInt8) (t : List UInt8) (h : t[Lx.runN Lx.wordByte t]? = some 58) : Lx.wordN (a :: t) = Lx.runN Lx.wordByte t + 2 := by
  have e : (a :: t)[1 + Lx.runN Lx.wordByte t]? = some 58 := by rw [Nat.add_comm]; simpa using h
  have : Lx.wordN (a :: t) = if (a :: t)[1 + Lx.runN Lx.wordByte t]? = some 58 then 1 + Lx.runN Lx.wordByte t + 1 else 1 + Lx.runN Lx.wordByte t := rfl
  rw [this, if_pos e]; omega
theorem wordN_plain (a : UInt8) (t : List UInt8) (h : t[Lx.runN Lx.wordByte t]? ≠ some 58) : Lx.wordN (a :: t) = Lx.runN Lx.wordByte t + 1 := by
  have e : (a :: t)[1 + Lx.runN Lx.wordByte t]? ≠ some 58 := by rw [Nat.add_comm]; simpa using h
  have : Lx.wordN (a :: t) = if (a :: t)[1 + Lx.runN Lx.wordByte t]? = some 58 then 1 + Lx.runN Lx.wordByte t + 1 else 1 + Lx.runN Lx.wordByte t := rfl
  rw [this, if_neg e]; omega
theorem word_local (l l' : List UInt8) (hne : 0 < l.length) (hag : ∀ i, i < Lx.wordN l → l'[i]? = l[i]?) (hn : l'[Lx.wordN l]? = l[Lx.wordN l]? ∨ ∀ b, l'[Lx.wordN l]? = some b → Lx.wordByte b = false ∧ b ≠ 58) : Lx.wordN l' = Lx.wordN l := by
  obtain ⟨a, t, rfl⟩ : ∃ a t, l = a :: t := by cases l with | nil => simp at hne | cons a t => exact ⟨a, t, rfl⟩
  have hpos : 0 < Lx.wordN (a :: t) := by
    by_cases hc : t[Lx.runN Lx.wordByte t]? = some 58
    · rw [wordN_colon a t hc]; omega
    · rw [wordN_plain a t hc]; omega
  obtain ⟨t', rfl⟩ : ∃ t', l' = a :: t' := by
    cases l' with
    | nil => have := hag 0 hpos; simp at this
    | cons c t' => have := hag 0 hpos; simp at this; exact ⟨t', by rw [this]⟩
  have hag' : ∀ i, i + 1 < Lx.wordN (a :: t) → t'[i]? = t[i]? := fun i hi => by simpa using hag (i + 1) hi
  by_cases hc : t[Lx.runN Lx.wordByte t]? = some 58
  · have e := wordN_colon a t hc
    have hrun : Lx.runN Lx.wordByte t' = Lx.runN Lx.wordByte t := runN_local _ _ _ (fun i hi => hag' i (by omega)) (.inl (hag' _ (by omega)))
    rw [e]
    have := wordN_colon a t' (by rw [hrun, hag' _ (by omega)]; exact hc)
    rw [this, hrun]
  · have e := wordN_plain a t hc
    rw [e] at hn
    simp only [List.getElem?_cons_succ] at hn
    have hrun : Lx.runN Lx.wordByte t' = Lx.runN Lx.wordByte t := runN_local _ _ _ (fun i hi => hag' i (by omega)) (hn.imp id (fun h b hb => (h b hb).1))
    rw [e]
    have := wordN_plain a t' (by
      rw [hrun]
      rcases hn with h2 | h2
      · rw [h2]; exact hc
      · exact fun e => (h2 58 e).2 rfl)
    rw [this, hrun]

/-- Bytes behind which no token goes on. -/
def Lx.Ender (b : UInt8) : Prop := b = 10 ∨ b = 32 ∨ b = 46
theorem ender_no {b : UInt8} (h : Lx.Ender b) : Lx.wordByte b = false ∧ b ≠ 58 ∧ Lx.digit b = false ∧ Lx.operator b = false ∧ b ≠ 39 ∧ Lx.joined b = false := by
  rcases h with rfl | rfl | rfl <;> decide
/-- Which bytes decide a token: its own, and the one behind it. -/
theorem measureL_local (l l' : List UInt8) (j j' : Bool) (k n : Nat) (hne : 0 < l.length) (h : Lx.measureL l j = .ok k n) (hag : ∀ i, i < n → l'[i]? = l[i]?) (hn : l'[n]? = l[n]? ∨ ∀ b, l'[n]? = some b → Lx.Ender b) (hj : j' = j ∨ j' = false) :
    Lx.measureL l' j' = .ok k n ∨ (k = 9 ∧ n = 1 ∧ Lx.measureL l' j' = .ok 8 1 ∧ ¬ (j' = j ∧ l'[1]? = l[1]?)) := by
  have hn1 : 1 ≤ n := by
    have := measure_len l 0 (if j then 1 else 0) 0 k n hne (by rw [measure_L]; cases j <;> exact h)
    exact this.1
  have e0 : l'[0]? = l[0]? := hag 0 (by omega)
  unfold Lx.measureL at h ⊢
  simp only [e0] at h ⊢
  generalize hb : l[0]?.getD 0 = b at h ⊢
  split at h
  · rename_i hc
    refine .inl ?_
    rw [if_pos hc]
    unfold Lx.word at h ⊢
    simp only at h ⊢
    split at h
    · cases h
    · rename_i hk
      injection h with h1 h2
      subst h2
      have hw := word_local l l' hne hag (hn.imp id fun h b hb => ⟨(ender_no (h b hb)).1, (ender_no (h b hb)).2.1⟩)
      rw [hw, take_agree hag, h1, if_neg (by omega)]
  · rename_i hc
    rw [if_neg hc]
    split at h
    · rename_i hd
      refine .inl ?_
      rw [if_pos hd]
      unfold Lx.number at h ⊢
      split at h
      · cases h
      · rename_i hk
        injection h with h1 h2
        subst h1 h2
        rw [runN_local _ l l' hag (hn.imp id fun h b hb => (ender_no (h b hb)).2.2.1), List.head?_eq_getElem?, e0, ← List.head?_eq_getElem?, if_neg hk]
    · rename_i hd
      rw [if_neg hd]
      split at h
      · rename_i hq
        refine .inl ?_
        rw [if_pos hq]
        unfold Lx.quoted at h ⊢
        split at h
        · rename_i q hqn
          injection h with h1 h2
          subst h1 h2
          obtain ⟨a, t, rfl⟩ : ∃ a t, l = a :: t := by cases l with | nil => simp at hne | cons a t => exact ⟨a, t, rfl⟩
          obtain ⟨t', rfl⟩ : ∃ t', l' = a :: t' := by
            cases l' with
            | nil => simp at e0
            | cons c t' => simp at e0; exact ⟨t', by rw [e0]⟩
          simp only [List.tail_cons] at hqn ⊢
          rw [quotedN_local t.length t t' q (Nat.le_refl _) hqn (fun i hi => by simpa using hag (i + 1) (by omega)) (hn.imp (fun h => by simpa using h) (fun h b hb => (ender_no (h b (by simpa using hb))).2.2.2.2.1))]
        · cases h
      · rename_i hq
        rw [if_neg hq]
        split at h
        · rename_i ho
          refine .inl ?_
          rw [if_pos ho]
          unfold Lx.operation at h ⊢
          split at h
          · cases h
          · rename_i hk
            injection h with h1 h2
            subst h1 h2
            rw [runN_local _ l l' hag (hn.imp id fun h b hb => (ender_no (h b hb)).2.2.2.1), if_neg hk]
        · rename_i ho
          rw [if_neg ho]
          split at h
          · rename_i hdot
            injection h with h1 h2
            subst h1 h2
            rw [Bool.and_eq_true, beq_iff_eq, joinsL_iff] at hdot
            obtain ⟨rfl, hj1, c, hc1, hc2⟩ := hdot
            cases hnd : Lx.joinsL l' j' with
            | true => exact .inl (by rw [if_pos (by rfl)])
            | false =>
              refine .inr ⟨rfl, rfl, by rw [if_neg (by simp), if_pos (by decide)], ?_⟩
              rintro ⟨ej, e1⟩
              have := (joinsL_iff l' j').2 ⟨ej.trans hj1, c, e1.trans hc1, hc2⟩
              rw [hnd] at this; cases this
          · rename_i hnd
            split at h
            · rename_i hs
              injection h with h1 h2
              subst h1 h2
              refine .inl ?_
              rw [if_neg, if_pos hs]
              intro hh
              apply hnd
              rw [Bool.and_eq_true, joinsL_iff] at hh ⊢
              obtain ⟨h46, hj1, c, hc1, hc2⟩ := hh
              refine ⟨h46, ?_, c, ?_, hc2⟩
              · rcases hj with e | e
                · rw [← e]; exact hj1
                · rw [e] at hj1; cases hj1
              · rcases hn with e | e
                · rw [← e]; exact hc1
                · rw [(ender_no (e c hc1)).2.2.2.2.2] at hc2; cases hc2
            · cases h
end Go.Proofs.YtcjcbhdildcceaaGreatDoor
