/- Plain truths: what stays when a text is edited. Nothing is said of the program here. -/
import Derived.Test.YtcjcbhdildcceaaGreatDoorLexPt
namespace Go.Proofs.YtcjcbhdildcceaaGreatDoor

/-- A text with other bytes in place of those from one index up to another one. -/
def Lx.edited (s wi : List UInt8) (a b : Nat) : List UInt8 := s.take a ++ (wi ++ s.drop b)
/-- What Edit answers. -/
def Lx.editOf (s : List UInt8) (from_ to_ : Int) (wi : List UInt8) : List UInt8 × Nat × Nat × Nat × Nat :=
  if from_ < 0 ∨ to_ < from_ ∨ (s.length : Int) < to_ then ([], 0, 0, 1, 0)
  else if (divide s).2.1 ≠ 0 then ([], 0, 0, (divide s).2.1, (divide s).2.2)
  else if (divide (edited s wi from_.toNat to_.toNat)).2.1 ≠ 0 then ([], 0, 0, (divide (edited s wi from_.toNat to_.toNat)).2.1, (divide (edited s wi from_.toNat to_.toNat)).2.2)
  else (edited s wi from_.toNat to_.toNat, ((divide s).1.takeWhile fun t => decide ((t.to : Int) < from_)).length,
    sameEnd ((divide s).1.drop ((divide s).1.takeWhile fun t => decide ((t.frm : Int) < to_)).length) (divide (edited s wi from_.toNat to_.toNat)).1 (((edited s wi from_.toNat to_.toNat).length : Int) - (s.length : Int)), 0, 0)

theorem edited_len (s wi : List UInt8) (a b : Nat) (hab : a ≤ b) (hb : b ≤ s.length) : (Lx.edited s wi a b).length + (b - a) = s.length + wi.length := by
  unfold Lx.edited
  rw [List.length_append, List.length_append, List.length_take, List.length_drop]; omega
theorem edited_back (s wi : List UInt8) (a b : Nat) (hab : a ≤ b) (hb : b ≤ s.length) : Lx.edited (Lx.edited s wi a b) ((s.take b).drop a) a (a + wi.length) = s := by
  have hl : (s.take a).length = a := by rw [List.length_take]; omega
  unfold Lx.edited
  rw [List.take_append_of_le_length (by omega), List.take_of_length_le (by omega)]
  have e : (s.take a ++ (wi ++ s.drop b)).drop (a + wi.length) = s.drop b := by
    rw [← List.append_assoc, List.drop_append, List.drop_eq_nil_of_le (by rw [List.length_append]; omega), List.nil_append, List.length_append, hl, Nat.sub_self, List.drop_zero]
  rw [e]
  have e2 : s.take b = s.take a ++ (s.take b).drop a := by
    conv => lhs; rw [← List.take_append_drop a (s.take b)]
    rw [List.take_take, Nat.min_eq_left hab]
  rw [← List.append_assoc, ← e2, List.take_append_drop]
theorem edited_head (s wi : List UInt8) (a b q : Nat) (h : q < a) (ha : a ≤ s.length) : (Lx.edited s wi a b)[q]? = s[q]? := by
  unfold Lx.edited
  rw [List.getElem?_append_left (by rw [List.length_take]; omega), List.getElem?_take_of_lt h]
theorem edited_drop (s wi : List UInt8) (a b : Nat) (ha : a ≤ s.length) : (Lx.edited s wi a b).drop (a + wi.length) = s.drop b := by
  have hl : (s.take a).length = a := by rw [List.length_take]; omega
  unfold Lx.edited
  rw [← List.append_assoc, List.drop_append, List.drop_eq_nil_of_le (by rw [List.length_append]; omega), List.nil_append, List.length_append, hl, Nat.sub_self, List.drop_zero]

theorem take_agree_at {s e : List UInt8} {a i : Nat} (h : ∀ q, q < a → e[q]? = s[q]?) (hi : i ≤ a) : e.take i = s.take i := take_agree (fun q hq => h q (by omega))
/-- The first tokens stay. -/
theorem heads_stay (s e : List UInt8) (a : Nat) (hag : ∀ q, q < a → e[q]? = s[q]?) (hes : a ≤ e.length) : ∀ (f f' ix : Nat) (last : Lx.Sp), ix ≤ s.length → e.length - ix < f' → s.length - ix < f →
    ∃ r, (Lx.spansN e f' ix last).1 = ((Lx.spansN s f ix last).1.takeWhile fun t => decide (t.to < a)) ++ r
  | 0, _, _, _, _, _, h => by omega
  | f + 1, 0, _, _, _, h, _ => by omega
  | f + 1, f' + 1, ix, last, hx, hf', hf => by
    rw [spansN_succ s]
    cases hj : Lx.blanks none ix (s.drop ix) with
    | «open» q => exact ⟨(Lx.spansN e (f' + 1) ix last).1, rfl⟩
    | «at» j =>
      have h1 := blanks_ge _ _ _ _ hj
      have h2 := blanks_le _ _ _ _ hj
      rw [List.length_drop] at h2
      simp only
      by_cases hje : j = s.length
      · exact ⟨(Lx.spansN e (f' + 1) ix last).1, by unfold tailN; rw [if_pos hje]; rfl⟩
      · cases ht : Lx.next s j last with
        | error c => exact ⟨(Lx.spansN e (f' + 1) ix last).1, by unfold tailN; rw [if_neg hje, ht]; rfl⟩
        | ok t =>
          have e0 : tailN s f j last = (t :: (Lx.spansN s f t.to t).1, (Lx.spansN s f t.to t).2) := by unfold tailN; rw [if_neg hje, ht]
          rw [e0]
          simp only
          have hr := next_read s j last t (by omega) ht
          have hlt := hr.lt
          have hle := hr.le
          by_cases hta : t.to < a
          · have hagd : ∀ x q, x + q < a → (e.drop x)[q]? = (s.drop x)[q]? := fun x q h => by
              rw [List.getElem?_drop, List.getElem?_drop, hag _ h]
            have hb := blanks_local (s.drop ix) (e.drop ix) none ix j hj (fun q hq => hagd ix q (by omega)) (.inl (hagd ix _ (by omega)))
            have hm := measureL_local (s.drop j) (e.drop j) _ (last.kind == 1 && last.to == j) t.kind (t.to - j) (by rw [List.length_drop]; omega) hr.meas (fun i hi => hagd j i (by omega)) (.inl (hagd j _ (by omega))) (.inl rfl)
            have hm' : Lx.measureL (e.drop j) (last.kind == 1 && last.to == j) = .ok t.kind (t.to - j) := by
              rcases hm with e | ⟨e1, e2, _, e4⟩
              · exact e
              · exact absurd ⟨rfl, hagd j 1 (by omega)⟩ e4
            have hnx : Lx.next e j last = .ok t := by
              have hp : Lx.placeAt e j = Lx.placeAt s j := by unfold Lx.placeAt; rw [take_agree_at hag (by omega)]
              have htk : (e.drop j).take (t.to - j) = (s.drop j).take (t.to - j) := take_agree (fun q hq => hagd j q (by omega))
              rw [← ht, next_L, next_L, hm', hr.meas]
              simp only
              rw [hp, htk]
            rw [spansN_succ e, hb]
            simp only
            unfold tailN
            rw [if_neg (by omega), hnx]
            simp only
            obtain ⟨r, hrr⟩ := heads_stay s e a hag hes f f' t.to t hle (by omega) (by omega)
            refine ⟨r, ?_⟩
            rw [hrr, List.takeWhile_cons, decide_eq_true hta]
            rfl
          · refine ⟨(Lx.spansN e (f' + 1) ix last).1, ?_⟩
            rw [List.takeWhile_cons, decide_eq_false hta]
            rfl
theorem heads_kept (s wi : List UInt8) (a b : Nat) (hab : a ≤ b) (hb : b ≤ s.length) (h1 : (Lx.divide s).2.1 = 0) (h2 : (Lx.divide (Lx.edited s wi a b)).2.1 = 0) :
    ∃ r, (Lx.divide (Lx.edited s wi a b)).1 = ((Lx.divide s).1.takeWhile fun t => decide ((t.to : Int) < (a : Int))) ++ r := by
  have hl := edited_len s wi a b hab hb
  obtain ⟨r, hr⟩ := heads_stay s (Lx.edited s wi a b) a (fun q hq => edited_head s wi a b q hq (by omega)) (by omega) (s.length + 1) ((Lx.edited s wi a b).length + 1) 0 Lx.noSp (Nat.zero_le _) (by omega) (by omega)
  change (Lx.spans _).1 = ((Lx.spans s).1.takeWhile _) ++ r at hr
  rw [(divide_ok _ h1).2, (divide_ok _ h2).2] at hr
  refine ⟨r, hr.trans ?_⟩
  congr 2
  funext t
  exact decide_eq_decide.2 (by omega)

theorem pass_from (x : List UInt8) (P : Lx.Place) : (P.pass x).ln = P.ln + (Lx.Place.pass ⟨0, 0, 0⟩ x).ln ∧ ((Lx.Place.pass ⟨0, 0, 0⟩ x).ln = 0 → (P.pass x).bg = P.bg ∧ (Lx.Place.pass ⟨0, 0, 0⟩ x).bg = 0) ∧
    ((Lx.Place.pass ⟨0, 0, 0⟩ x).ln ≠ 0 → (P.pass x).bg = P.ix + (Lx.Place.pass ⟨0, 0, 0⟩ x).bg) := by
  have key : ∀ n, n ≤ x.length → (P.pass (x.take n)).ln = P.ln + (Lx.Place.pass ⟨0, 0, 0⟩ (x.take n)).ln ∧ ((Lx.Place.pass ⟨0, 0, 0⟩ (x.take n)).ln = 0 → (P.pass (x.take n)).bg = P.bg ∧ (Lx.Place.pass ⟨0, 0, 0⟩ (x.take n)).bg = 0) ∧
      ((Lx.Place.pass ⟨0, 0, 0⟩ (x.take n)).ln ≠ 0 → (P.pass (x.take n)).bg = P.ix + (Lx.Place.pass ⟨0, 0, 0⟩ (x.take n)).bg) := by
    intro n
    induction n with
    | zero => intro _; rw [List.take_zero]; exact ⟨rfl, fun _ => ⟨rfl, rfl⟩, fun h => absurd rfl h⟩
    | succ n ih =>
      intro hn
      obtain ⟨i1, i2, i3⟩ := ih (by omega)
      rw [pass_snoc P x n hn, pass_snoc ⟨0, 0, 0⟩ x n hn]
      have e1 := pass_ix P (x.take n)
      have e2 := pass_ix ⟨0, 0, 0⟩ (x.take n)
      unfold Lx.Place.step
      by_cases hc : x[n]?.getD 0 = 10
      · simp only [hc, if_true]
        refine ⟨by omega, fun h => by omega, fun _ => ?_⟩
        rw [e1, e2]; simp only; omega
      · simp only [hc, if_false]
        exact ⟨i1, i2, i3⟩
  have := key x.length (Nat.le_refl _)
  rwa [List.take_length] at this

/-- Indices of tokens go up. -/
theorem chain_up (s : List UInt8) (l : List Lx.Sp) (h : Lx.Chain s 0 Lx.noSp l) : ∀ (n i : Nat) (t t' : Lx.Sp), l[i]? = some t → l[i + n]? = some t' → t.frm ≤ t'.frm ∧ t.to ≤ t'.to
  | 0, i, t, t', h1, h2 => by rw [Nat.add_zero, h1] at h2; injection h2 with h2; subst h2; exact ⟨Nat.le_refl _, Nat.le_refl _⟩
  | n + 1, i, t, t', h1, h2 => by
    have hlt := (List.getElem?_eq_some_iff.1 h2).1
    obtain ⟨u, hu⟩ : ∃ u, l[i + n]? = some u := ⟨_, List.getElem?_eq_getElem (by omega)⟩
    have ih := chain_up s l h n i t u h1 hu
    have hp := (chain_pair s l 0 Lx.noSp h (i + n) u t' hu h2).1
    have a1 := chain_frm s l 0 Lx.noSp h u (List.mem_of_getElem? hu)
    have a2 := chain_frm s l 0 Lx.noSp h t' (List.mem_of_getElem? h2)
    omega
theorem tw_at {α : Type} (p : α → Bool) (l : List α) (i : Nat) (t : α) (h : i < (l.takeWhile p).length) (ht : l[i]? = some t) : p t = true := by
  obtain ⟨r, hr⟩ := List.takeWhile_prefix p (l := l)
  rw [← hr, List.getElem?_append_left h] at ht
  exact mem_tw (List.mem_of_getElem? ht)
theorem tw_end {α : Type} (p : α → Bool) : ∀ (l : List α) (t : α), l[(l.takeWhile p).length]? = some t → p t = false
  | [], t, h => by simp at h
  | a :: l, t, h => by
    cases ha : p a
    · simp [List.takeWhile, ha] at h; subst h; exact ha
    · simp only [List.takeWhile, ha, List.length_cons, List.getElem?_cons_succ] at h
      exact tw_end p l t h
theorem tw_mono {α : Type} (p q : α → Bool) : ∀ (l : List α), (∀ t ∈ l, p t = true → q t = true) → (l.takeWhile p).length ≤ (l.takeWhile q).length
  | [], _ => Nat.le_refl _
  | a :: l, h => by
    have ih := tw_mono p q l (fun t ht => h t (List.mem_cons_of_mem _ ht))
    cases ha : p a
    · simp [List.takeWhile, ha]
    · simp only [List.takeWhile, ha, h a List.mem_cons_self ha, List.length_cons]; omega

/-- The places of the tokens at the end. -/
def Lx.Moved (line col row pos : Int) (x y : Sp) : Prop :=
  y.kind = x.kind ∧ y.text = x.text ∧ (y.line : Int) = x.line + (row - line) ∧ (y.col : Int) = if (x.line : Int) = line then x.col + (pos - col) else x.col
theorem ends_kept (s wi : List UInt8) (a b : Nat) (hab : a ≤ b) (hb : b ≤ s.length) (h1 : (Lx.divide s).2.1 = 0) (h2 : (Lx.divide (Lx.edited s wi a b)).2.1 = 0) (tail : Nat)
    (htl : tail = Lx.sameEnd ((Lx.divide s).1.drop ((Lx.divide s).1.takeWhile fun t => decide ((t.frm : Int) < (b : Int))).length) (Lx.divide (Lx.edited s wi a b)).1 (((Lx.edited s wi a b).length : Int) - (s.length : Int))) :
    tail ≤ (Lx.divide s).1.length - ((Lx.divide s).1.takeWhile fun t => decide ((t.frm : Int) < (b : Int))).length ∧ tail ≤ (Lx.divide (Lx.edited s wi a b)).1.length ∧
    ∀ k x y, k < tail → (Lx.divide s).1[(Lx.divide s).1.length - 1 - k]? = some x → (Lx.divide (Lx.edited s wi a b)).1[(Lx.divide (Lx.edited s wi a b)).1.length - 1 - k]? = some y →
      b ≤ x.frm ∧ y.frm + b = x.frm + (a + wi.length) ∧
      Lx.Moved ((Lx.placeAt s b).ln + 1 : Nat) (b - (Lx.placeAt s b).bg + 1 : Nat) ((Lx.placeAt (Lx.edited s wi a b) (a + wi.length)).ln + 1 : Nat) (a + wi.length - (Lx.placeAt (Lx.edited s wi a b) (a + wi.length)).bg + 1 : Nat) x y := by
  have hl := edited_len s wi a b hab hb
  have hch := divide_chain s h1
  have hdr1 := divide_right s h1
  have hdr2 := divide_right _ h2
  have hed := edited_drop s wi a b (by omega)
  have hag : ∀ q, q < a → (Lx.edited s wi a b)[q]? = s[q]? := fun q hq => edited_head s wi a b q hq (by omega)
  generalize Lx.edited s wi a b = e at *
  generalize (Lx.divide s).1 = l at *
  generalize (Lx.divide e).1 = m at *
  have hah : ∀ x i, l[i]? = some x → (l.takeWhile fun t => decide ((t.frm : Int) < (b : Int))).length ≤ i → b ≤ x.frm := by
    intro x i hx hi
    have hlt := (List.getElem?_eq_some_iff.1 hx).1
    obtain ⟨u, hu⟩ : ∃ u, l[(l.takeWhile fun t => decide ((t.frm : Int) < (b : Int))).length]? = some u := ⟨_, List.getElem?_eq_getElem (by omega)⟩
    have h3 := tw_end _ l u hu
    have h4 := chain_up s l hch (i - (l.takeWhile fun t => decide ((t.frm : Int) < (b : Int))).length) _ u x hu (by rwa [Nat.add_sub_cancel' hi])
    have := of_decide_eq_false h3
    omega
  generalize (l.takeWhile fun t => decide ((t.frm : Int) < (b : Int))).length = ah at *
  unfold Lx.sameEnd at htl
  have hle := (List.takeWhile_prefix (Lx.pairSame ((e.length : Int) - (s.length : Int))) (l := (l.drop ah).reverse.zip m.reverse)).length_le
  rw [← htl, List.length_zip, List.length_reverse, List.length_reverse, List.length_drop] at hle
  refine ⟨by omega, by omega, ?_⟩
  intro k x y hk hx hy
  have hxl := (List.getElem?_eq_some_iff.1 hx).1
  have hz : ((l.drop ah).reverse.zip m.reverse)[k]? = some (x, y) := by
    rw [List.getElem?_zip_eq_some]
    constructor
    · rw [List.getElem?_reverse (by rw [List.length_drop]; omega), List.length_drop, List.getElem?_drop, show ah + (l.length - ah - 1 - k) = l.length - 1 - k by omega]; exact hx
    · rw [List.getElem?_reverse (by omega)]; exact hy
  have hps := tw_at _ _ k (x, y) (by rw [← htl]; exact hk) hz
  unfold Lx.pairSame at hps
  simp only [Bool.and_eq_true, beq_iff_eq] at hps
  obtain ⟨⟨hkd, htx⟩, hfr⟩ := hps
  have hbx := hah x _ hx (by omega)
  have hfr2 : y.frm + b = x.frm + (a + wi.length) := by omega
  refine ⟨hbx, hfr2, by omega, htx.symm, ?_⟩
  obtain ⟨_, _, x1, x2, x3, x4⟩ := hdr1 x (List.mem_of_getElem? hx)
  obtain ⟨_, _, y1, y2, y3, y4⟩ := hdr2 y (List.mem_of_getElem? hy)
  obtain ⟨d, hd⟩ : ∃ d, x.frm = b + d := ⟨x.frm - b, by omega⟩
  have hyd : y.frm = a + wi.length + d := by omega
  have px := placeAt_pass s b d
  have py := placeAt_pass e (a + wi.length) d
  rw [hed] at py
  rw [← hd] at px
  rw [← hyd] at py
  obtain ⟨q1, q2, q3⟩ := pass_from ((s.drop b).take d) (Lx.placeAt s b)
  obtain ⟨r1, r2, r3⟩ := pass_from ((s.drop b).take d) (Lx.placeAt e (a + wi.length))
  rw [px] at q1 q2 q3
  rw [py] at r1 r2 r3
  have ix1 := placeAt_ix s b hb
  have ix2 := placeAt_ix e (a + wi.length) (by omega)
  have bg1 := placeAt_bg s b
  have bg2 := placeAt_bg e (a + wi.length)
  have hz0 := pass_bg ⟨0, 0, 0⟩ ((s.drop b).take d) (Nat.le_refl _)
  rw [pass_ix] at hz0
  have hzl : ((s.drop b).take d).length ≤ d := by rw [List.length_take]; omega
  generalize Lx.Place.pass ⟨0, 0, 0⟩ ((s.drop b).take d) = z at *
  refine ⟨by omega, ?_⟩
  by_cases hn : z.ln = 0
  · have := q2 hn
    have := r2 hn
    rw [if_pos (by omega)]
    omega
  · have := q3 hn
    have := r3 hn
    rw [if_neg (by omega)]
    simp only at hz0
    omega

/-- What stays does not overlap. -/
theorem kept_fits (s wi : List UInt8) (a b : Nat) (hab : a ≤ b) (hb : b ≤ s.length) (h1 : (Lx.divide s).2.1 = 0) (h2 : (Lx.divide (Lx.edited s wi a b)).2.1 = 0) (head tail : Nat)
    (hhd : head = ((Lx.divide s).1.takeWhile fun t => decide ((t.to : Int) < (a : Int))).length)
    (htl : tail = Lx.sameEnd ((Lx.divide s).1.drop ((Lx.divide s).1.takeWhile fun t => decide ((t.frm : Int) < (b : Int))).length) (Lx.divide (Lx.edited s wi a b)).1 (((Lx.edited s wi a b).length : Int) - (s.length : Int))) :
    head + tail ≤ (Lx.divide s).1.length ∧ head + tail ≤ (Lx.divide (Lx.edited s wi a b)).1.length := by
  obtain ⟨e1, e2, e3⟩ := ends_kept s wi a b hab hb h1 h2 tail htl
  have hf1 := divide_frm s h1
  have hm := tw_mono (fun t : Lx.Sp => decide ((t.to : Int) < (a : Int))) (fun t => decide ((t.frm : Int) < (b : Int))) (Lx.divide s).1 (fun t ht h => by
    have := hf1 t ht
    simp only [decide_eq_true_eq] at h ⊢
    omega)
  have hle := (List.takeWhile_prefix (fun t : Lx.Sp => decide ((t.frm : Int) < (b : Int))) (l := (Lx.divide s).1)).length_le
  rw [← hhd] at hm
  refine ⟨by omega, ?_⟩
  obtain ⟨r, hr⟩ := heads_kept s wi a b hab hb h1 h2
  have hch := divide_chain _ h2
  have hf2 := divide_frm _ h2
  generalize Lx.edited s wi a b = e at *
  apply Classical.byContradiction
  intro hc
  have hml : head ≤ (Lx.divide e).1.length := by rw [hr, List.length_append]; omega
  have ht0 : 0 < tail := by omega
  obtain ⟨x, hx⟩ : ∃ x, (Lx.divide s).1[(Lx.divide s).1.length - 1 - (tail - 1)]? = some x := ⟨_, List.getElem?_eq_getElem (by omega)⟩
  obtain ⟨y, hy⟩ : ∃ y, (Lx.divide e).1[(Lx.divide e).1.length - 1 - (tail - 1)]? = some y := ⟨_, List.getElem?_eq_getElem (by omega)⟩
  obtain ⟨f1, f2, _⟩ := e3 (tail - 1) x y (by omega) hx hy
  obtain ⟨u, hu⟩ : ∃ u, (Lx.divide e).1[head - 1]? = some u := ⟨_, List.getElem?_eq_getElem (by omega)⟩
  have hua : (u.to : Int) < (a : Int) := by
    have hu2 := hu
    rw [hr, List.getElem?_append_left (by omega)] at hu2
    simpa using mem_tw (List.mem_of_getElem? hu2)
  have := chain_up e _ hch (head - 1 - ((Lx.divide e).1.length - 1 - (tail - 1))) _ y u hy (by rwa [Nat.add_sub_cancel' (by omega)])
  have := hf2 y (List.mem_of_getElem? hy)
  omega
end Go.Proofs.YtcjcbhdildcceaaGreatDoor
