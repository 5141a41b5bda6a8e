/- Plain truths: two texts one behind the other; where lines begin. Nothing is said of the program here. -/
import Derived.Test.YtcjcbhdildcceaaGreatDoorLexPe
namespace Go.Proofs.YtcjcbhdildcceaaGreatDoor

theorem spansN_fuel (s : List UInt8) : ∀ (f f' ix : Nat) (last : Lx.Sp), ix ≤ s.length → s.length - ix < f → s.length - ix < f' → Lx.spansN s f ix last = Lx.spansN s f' ix last
  | 0, _, _, _, _, h, _ => by omega
  | f + 1, 0, _, _, _, _, h => by omega
  | f + 1, f' + 1, ix, last, hx, h, h' => by
    rw [spansN_succ, spansN_succ]
    split
    · rfl
    · rename_i j hj
      have h1 := blanks_ge _ _ _ _ hj
      have h2 := blanks_le _ _ _ _ hj
      rw [List.length_drop] at h2
      unfold tailN
      split
      · rfl
      · split
        · rfl
        · rename_i t ht
          have hr := next_read s j last t (by omega) ht
          have hlt := hr.lt
          have hle := hr.le
          rw [spansN_fuel s f f' t.to t hr.le (by omega) (by omega)]
theorem blanks_n (i : Nat) (b : UInt8) (r : List UInt8) : Lx.blanks none i (b :: r) = if Lx.blank b then Lx.blanks none (i + 1) r else if b = 34 then Lx.blanks (some i) (i + 1) r else .at i := rfl
theorem blanks_s (c i : Nat) (b : UInt8) (r : List UInt8) : Lx.blanks (some c) i (b :: r) = if b = 34 then Lx.blanks none (i + 1) r else Lx.blanks (some c) (i + 1) r := rfl
theorem blanks_append : ∀ (l r : List UInt8) (c : Option Nat) (i : Nat), Lx.blanks c i l = .at (i + l.length) → Lx.blanks c i (l ++ r) = Lx.blanks none (i + l.length) r
  | [], r, none, i, _ => rfl
  | [], r, some c, i, h => by cases h
  | b :: l, r, none, i, h => by
    have e : i + (b :: l).length = i + 1 + l.length := by rw [List.length_cons]; omega
    rw [e] at h ⊢
    rw [List.cons_append]
    rw [blanks_n] at h ⊢
    split at h
    · rename_i hb
      rw [if_pos hb]
      exact blanks_append l r none (i + 1) h
    · rename_i hb
      rw [if_neg hb]
      split at h
      · rename_i h34
        rw [if_pos h34]
        exact blanks_append l r (some i) (i + 1) h
      · injection h with h; omega
  | b :: l, r, some c, i, h => by
    have e : i + (b :: l).length = i + 1 + l.length := by rw [List.length_cons]; omega
    rw [e] at h ⊢
    rw [List.cons_append]
    rw [blanks_s] at h ⊢
    split at h
    · rename_i h34
      rw [if_pos h34]
      exact blanks_append l r none (i + 1) h
    · rename_i h34
      rw [if_neg h34]
      exact blanks_append l r (some c) (i + 1) h
theorem placeAt_append (a r : List UInt8) (i : Nat) (h : i ≤ a.length) : Lx.placeAt (a ++ r) i = Lx.placeAt a i := by
  unfold Lx.placeAt
  rw [List.take_append_of_le_length h]
theorem pass_shift (p q : Nat) : ∀ (x : List UInt8) (P : Lx.Place), Lx.Place.pass ⟨P.ix + p, P.ln + q, P.bg + p⟩ x = ⟨(P.pass x).ix + p, (P.pass x).ln + q, (P.pass x).bg + p⟩
  | [], P => rfl
  | b :: x, P => by
    unfold Lx.Place.pass
    rw [List.foldl_cons, List.foldl_cons]
    have := pass_shift p q x (P.step b)
    unfold Lx.Place.pass at this
    rw [← this]
    congr 1
    unfold Lx.Place.step
    by_cases hb : b = 10
    · simp only [hb, if_true]; congr 1 <;> omega
    · simp only [hb, if_false]; congr 1; omega
/-- The place of an index behind a text and a line feed. -/
theorem placeAt_two (a b : List UInt8) (i : Nat) : Lx.placeAt (a ++ 10 :: b) (a.length + 1 + i) = ⟨(Lx.placeAt b i).ix + (a.length + 1), (Lx.placeAt b i).ln + ((Lx.placeAt a a.length).ln + 1), (Lx.placeAt b i).bg + (a.length + 1)⟩ := by
  have e : (a ++ 10 :: b).take (a.length + 1 + i) = a ++ 10 :: b.take i := by
    rw [Nat.add_assoc, List.take_length_add_append, show 1 + i = i + 1 by omega, List.take_succ_cons]
  unfold Lx.placeAt
  rw [e, List.take_length]
  have h1 : ∀ (P : Lx.Place) (x y : List UInt8), P.pass (x ++ 10 :: y) = ((P.pass x).step 10).pass y := fun P x y => by
    unfold Lx.Place.pass; rw [List.foldl_append, List.foldl_cons]
  rw [h1]
  have hi : (Lx.Place.pass ⟨0, 0, 0⟩ a).ix = a.length := by rw [pass_ix]; exact Nat.zero_add _
  have h2 : (Lx.Place.pass ⟨0, 0, 0⟩ a).step 10 = ⟨(⟨0, 0, 0⟩ : Lx.Place).ix + (a.length + 1), (⟨0, 0, 0⟩ : Lx.Place).ln + ((Lx.Place.pass ⟨0, 0, 0⟩ a).ln + 1), (⟨0, 0, 0⟩ : Lx.Place).bg + (a.length + 1)⟩ := by
    unfold Lx.Place.step
    rw [hi]
    simp only [if_true]
    congr 1 <;> omega
  rw [h2, pass_shift]

/-- A token further down. -/
def Lx.Sp.down (k n : Nat) (t : Sp) : Sp := ⟨t.kind, t.text, t.line + n, t.col, t.frm + k, t.to + k⟩
theorem spans_two_head (a b : List UInt8) : ∀ (f ix : Nat) (last : Lx.Sp), ix ≤ a.length → last.to ≤ a.length → a.length - ix < f → (Lx.spansN a f ix last).2 = none →
    ∃ last' : Lx.Sp, last'.to ≤ a.length ∧ ∀ f', (a ++ 10 :: b).length - ix < f' → Lx.spansN (a ++ 10 :: b) f' ix last =
      ((Lx.spansN a f ix last).1 ++ (Lx.spansN (a ++ 10 :: b) ((a ++ 10 :: b).length + 1) (a.length + 1) last').1, (Lx.spansN (a ++ 10 :: b) ((a ++ 10 :: b).length + 1) (a.length + 1) last').2)
  | 0, _, _, _, _, h, _ => by omega
  | f + 1, ix, last, hx, hto, hf, h => by
    have hS : (a ++ 10 :: b).length = a.length + 1 + b.length := by rw [List.length_append, List.length_cons]; omega
    have hdA : (a ++ 10 :: b).drop ix = a.drop ix ++ 10 :: b := List.drop_append_of_le_length hx
    rw [spansN_succ] at h
    split at h
    · cases h
    · rename_i j hj
      have h1 := blanks_ge _ _ _ _ hj
      have h2 := blanks_le _ _ _ _ hj
      rw [List.length_drop] at h2
      by_cases hje : j = a.length
      · refine ⟨last, hto, fun f' hf' => ?_⟩
        obtain ⟨g, rfl⟩ : ∃ g, f' = g + 1 := ⟨f' - 1, by omega⟩
        have e1 : (Lx.spansN a (f + 1) ix last).1 = [] := by rw [spansN_succ, hj]; simp only; unfold tailN; rw [if_pos hje]
        have e2 : Lx.spansN (a ++ 10 :: b) (g + 1) ix last = Lx.spansN (a ++ 10 :: b) (g + 1) (a.length + 1) last := by
          rw [spansN_succ, spansN_succ, hdA, blanks_append (a.drop ix) _ none ix (by rw [hj, List.length_drop]; congr 1; omega)]
          have e3 : (a ++ 10 :: b).drop (a.length + 1) = b := by
            rw [show a.length + 1 = a.length + 1 from rfl, List.drop_append]; simp
          rw [e3, List.length_drop, show ix + (a.length - ix) = a.length by omega]
          have e4 : Lx.blanks none a.length (10 :: b) = Lx.blanks none (a.length + 1) b := by
            conv => lhs; unfold Lx.blanks
            rw [if_pos (by decide)]
          rw [e4]
        rw [e1, e2, List.nil_append]
        exact spansN_fuel _ _ _ _ _ (by omega) (by omega) (by omega)
      · unfold tailN at h
        rw [if_neg hje] at h
        split at h
        · cases h
        · rename_i t ht
          have hr := next_read a j last t (by omega) ht
          have hlt := hr.lt
          have hle := hr.le
          obtain ⟨last', hl', hrec⟩ := spans_two_head a b f t.to t hr.le hr.le (by omega) h
          refine ⟨last', hl', fun f' hf' => ?_⟩
          obtain ⟨g, rfl⟩ : ∃ g, f' = g + 1 := ⟨f' - 1, by omega⟩
          have hag : ∀ x q, x + q < a.length → ((a ++ 10 :: b).drop x)[q]? = (a.drop x)[q]? := fun x q h => by
            rw [List.getElem?_drop, List.getElem?_drop, List.getElem?_append_left h]
          have hb := blanks_local (a.drop ix) ((a ++ 10 :: b).drop ix) none ix j hj (fun q hq => hag ix q (by omega)) (.inl (hag ix _ (by omega)))
          have hm := measureL_local (a.drop j) ((a ++ 10 :: b).drop j) _ (last.kind == 1 && last.to == j) t.kind (t.to - j) (by rw [List.length_drop]; omega) hr.meas
            (fun i hi => hag j i (by omega)) (by
              by_cases he : t.to = a.length
              · refine .inr (fun c hc => .inl ?_)
                rw [List.getElem?_drop, show j + (t.to - j) = a.length by omega, List.getElem?_append_right (Nat.le_refl _), Nat.sub_self] at hc
                simp at hc; exact hc.symm
              · exact .inl (hag j _ (by omega))) (.inl rfl)
          have hm' : Lx.measureL ((a ++ 10 :: b).drop j) (last.kind == 1 && last.to == j) = .ok t.kind (t.to - j) := by
            rcases hm with e | ⟨e1, e2, _, e4⟩
            · exact e
            · exfalso
              apply e4
              refine ⟨rfl, ?_⟩
              obtain ⟨c, hc, _⟩ := ((measureL_kind _ _ _ _ hr.meas).2.2.1 e1).2.2.2
              have := (List.getElem?_eq_some_iff.1 hc).1
              rw [List.length_drop] at this
              exact hag j 1 (by omega)
          have hnx : Lx.next (a ++ 10 :: b) j last = .ok t := by
            rw [← ht, next_L, next_L, hm', hr.meas]
            simp only
            rw [placeAt_append a _ j (by omega), List.drop_append_of_le_length (by omega), List.take_append_of_le_length (by rw [List.length_drop]; omega)]
          have e1 : Lx.spansN a (f + 1) ix last = (t :: (Lx.spansN a f t.to t).1, (Lx.spansN a f t.to t).2) := by
            rw [spansN_succ, hj]; simp only; unfold tailN; rw [if_neg hje, ht]
          rw [spansN_succ, hb]
          simp only
          unfold tailN
          rw [if_neg (by omega), hnx]
          simp only
          rw [e1, hrec g (by omega)]
          rfl
theorem spans_two_tail (a b : List UInt8) : ∀ (f f' ix : Nat) (last last' : Lx.Sp), ((last'.kind = last.kind ∧ last'.to = last.to + (a.length + 1)) ∨ (last.kind ≠ 1 ∧ last'.to ≤ a.length)) → ix ≤ b.length → b.length - ix < f → b.length - ix < f' →
    (Lx.spansN b f ix last).2 = none → Lx.spansN (a ++ 10 :: b) f' (a.length + 1 + ix) last' = ((Lx.spansN b f ix last).1.map (Lx.Sp.down (a.length + 1) ((Lx.placeAt a a.length).ln + 1)), none)
  | 0, _, _, _, _, _, _, h, _, _ => by omega
  | f + 1, 0, _, _, _, _, _, _, h, _ => by omega
  | f + 1, f' + 1, ix, last, last', hrel, hx, hf, hf', h => by
    have hS : (a ++ 10 :: b).length = a.length + 1 + b.length := by rw [List.length_append, List.length_cons]; omega
    have hd : ∀ i, (a ++ 10 :: b).drop (a.length + 1 + i) = b.drop i := fun i => by
      rw [List.drop_append, List.drop_eq_nil_of_le (by omega), List.nil_append, show a.length + 1 + i - a.length = i + 1 by omega, List.drop_succ_cons]
    rw [spansN_succ] at h
    rw [spansN_succ, spansN_succ, hd]
    have hmv := blanks_move (a.length + 1) (b.drop ix) none ix
    rw [Option.map_none, Nat.add_comm ix] at hmv
    rw [hmv]
    split at h
    · cases h
    · rename_i j hj
      have h1 := blanks_ge _ _ _ _ hj
      have h2 := blanks_le _ _ _ _ hj
      rw [List.length_drop] at h2
      rw [hj]
      simp only [Lx.B.move]
      unfold tailN at h ⊢
      by_cases hje : j = b.length
      · rw [if_pos (by omega), if_pos hje]; rfl
      · rw [if_neg (by omega), if_neg hje]
        rw [if_neg hje] at h
        split at h
        · cases h
        · rename_i t ht
          have hr := next_read b j last t (by omega) ht
          have hlt := hr.lt
          have hle := hr.le
          have hfl : (last'.kind == 1 && last'.to == j + (a.length + 1)) = (last.kind == 1 && last.to == j) := by
            rcases hrel with ⟨e1, e2⟩ | ⟨e1, e2⟩
            · rw [e1, e2, Bool.eq_iff_iff]; simp
            · rw [beq_eq_false_iff_ne.2 e1, Bool.false_and, Bool.and_eq_false_iff]
              exact .inr (beq_eq_false_iff_ne.2 (by omega))
          have hp := placeAt_two a b j
          rw [Nat.add_comm (a.length + 1) j] at hp
          have hpi := placeAt_ix b j (by omega)
          have hpb := placeAt_bg b j
          have hdj : (a ++ 10 :: b).drop (j + (a.length + 1)) = b.drop j := by rw [Nat.add_comm]; exact hd j
          have hnx : Lx.next (a ++ 10 :: b) (j + (a.length + 1)) last' = .ok (t.down (a.length + 1) ((Lx.placeAt a a.length).ln + 1)) := by
            have ht2 := ht
            rw [next_L, hr.meas] at ht2
            simp only [Except.ok.injEq] at ht2
            have etx := congrArg Lx.Sp.text ht2
            have eln := congrArg Lx.Sp.line ht2
            have ecl := congrArg Lx.Sp.col ht2
            have efr := congrArg Lx.Sp.frm ht2
            simp only at etx eln ecl efr
            rw [next_L, hdj, hfl, hr.meas]
            simp only [Except.ok.injEq]
            unfold Lx.Sp.down
            rw [Lx.Sp.mk.injEq, hp]
            refine ⟨rfl, etx, ?_, ?_, ?_, ?_⟩
            · show (Lx.placeAt b j).ln + ((Lx.placeAt a a.length).ln + 1) + 1 = _; omega
            · show j + (a.length + 1) - ((Lx.placeAt b j).bg + (a.length + 1)) + 1 = _; omega
            · omega
            · omega
          rw [hnx]
          have hrec := spans_two_tail a b f f' t.to t (t.down (a.length + 1) ((Lx.placeAt a a.length).ln + 1)) (.inl ⟨rfl, rfl⟩) hr.le (by omega) (by omega) h
          rw [Nat.add_comm (a.length + 1) t.to] at hrec
          change ((t.down (a.length + 1) ((Lx.placeAt a a.length).ln + 1)) :: (Lx.spansN (a ++ 10 :: b) f' (t.to + (a.length + 1)) (t.down (a.length + 1) ((Lx.placeAt a a.length).ln + 1))).1, (Lx.spansN (a ++ 10 :: b) f' (t.to + (a.length + 1)) (t.down (a.length + 1) ((Lx.placeAt a a.length).ln + 1))).2) = _
          rw [hrec]
          rfl
/-- Two texts, a line feed between. -/
theorem divide_two (a b : List UInt8) (ha : (Lx.divide a).2.1 = 0) (hb : (Lx.divide b).2.1 = 0) (hl : (a ++ 10 :: b).length ≤ 20000) :
    Lx.divide (a ++ 10 :: b) = ((Lx.divide a).1 ++ (Lx.divide b).1.map (Lx.Sp.down (a.length + 1) ((Lx.placeAt a a.length).ln + 1)), 0, 0) := by
  have h1 := (divide_ok a ha).2
  have h2 := (divide_ok b hb).2
  refine divide_of_spans _ _ hl ?_
  have hS : (a ++ 10 :: b).length = a.length + 1 + b.length := by rw [List.length_append, List.length_cons]; omega
  obtain ⟨last', hl', hh⟩ := spans_two_head a b (a.length + 1) 0 Lx.noSp (Nat.zero_le _) (Nat.zero_le _) (by omega) (by change (Lx.spans a).2 = none; rw [h1])
  have hh := hh ((a ++ 10 :: b).length + 1) (by omega)
  have ht := spans_two_tail a b (b.length + 1) ((a ++ 10 :: b).length + 1) 0 Lx.noSp last' (.inr ⟨by decide, hl'⟩) (Nat.zero_le _) (by omega) (by omega) (by change (Lx.spans b).2 = none; rw [h2])
  rw [Nat.add_zero] at ht
  change Lx.spans (a ++ 10 :: b) = _ at hh
  rw [hh, ht]
  change ((Lx.spans a).1 ++ (Lx.spans b).1.map _, none) = _
  rw [h1, h2]

/-- The indices at which lines begin. -/
def Lx.begins (s : List UInt8) : Nat → List Nat
  | 0 => [0]
  | i + 1 => if s[i]? = some 10 then begins s i ++ [i + 1] else begins s i
theorem begins_at (s : List UInt8) : ∀ i, i ≤ s.length → (Lx.begins s i).length = (Lx.placeAt s i).ln + 1 ∧ (Lx.begins s i)[(Lx.placeAt s i).ln]? = some (Lx.placeAt s i).bg
  | 0, _ => ⟨rfl, rfl⟩
  | i + 1, h => by
    obtain ⟨h1, h2⟩ := begins_at s i (by omega)
    have hp := placeAt_step s i (by omega)
    have hi := placeAt_ix s i (by omega)
    have hg : s[i]? = some (s[i]?.getD 0) := by rw [List.getElem?_eq_getElem (by omega)]; rfl
    unfold Lx.begins
    rw [hp]
    unfold Lx.Place.step
    by_cases hc : s[i]?.getD 0 = 10
    · rw [if_pos (by rw [hg, hc])]
      simp only [hc, if_true]
      refine ⟨by rw [List.length_append, h1]; rfl, ?_⟩
      rw [List.getElem?_append_right (by omega), h1, Nat.sub_self, hi]; rfl
    · rw [if_neg (by rw [hg]; simpa using hc)]
      simp only [hc, if_false]
      exact ⟨h1, h2⟩
theorem begins_prefix (s : List UInt8) (i : Nat) : ∀ (n k x : Nat), (Lx.begins s i)[k]? = some x → (Lx.begins s (i + n))[k]? = some x
  | 0, _, _, h => h
  | n + 1, k, x, h => by
    have ih := begins_prefix s i n k x h
    rw [← Nat.add_assoc]
    unfold Lx.begins
    split
    · rw [List.getElem?_append_left (List.getElem?_eq_some_iff.1 ih).1]; exact ih
    · exact ih
theorem begins_line (s : List UInt8) (i : Nat) (h : i ≤ s.length) : (Lx.begins s s.length)[(Lx.placeAt s i).ln]? = some (Lx.placeAt s i).bg := by
  have := begins_prefix s i (s.length - i) _ _ (begins_at s i h).2
  rwa [show i + (s.length - i) = s.length by omega] at this
end Go.Proofs.YtcjcbhdildcceaaGreatDoor
