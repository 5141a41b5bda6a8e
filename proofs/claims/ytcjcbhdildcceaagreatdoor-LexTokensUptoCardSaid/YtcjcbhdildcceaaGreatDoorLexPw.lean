/- Plain: what is printed is read as the same tokens, and what was read can be printed. Nothing is said of the program here. -/
import Derived.Test.YtcjcbhdildcceaaGreatDoorLexPp
import Derived.Test.YtcjcbhdildcceaaGreatDoorLexPg
namespace Go.Proofs.YtcjcbhdildcceaaGreatDoor

/-- The text of a list's rest: sp: whether a space stands ahead of a token that is no dot. -/
def Lx.tail (sp : Bool) : List Tk → List UInt8
  | [] => []
  | t :: r => (if sp = true ∧ t.kind ≠ 9 then [32] else []) ++ (spell t.kind t.text ++ Lx.tail (decide (t.kind ≠ 9)) r)
def Lx.spAt (l : List Tk) (k : Nat) : Bool := decide (0 < k ∧ (l[k - 1]?.map Tk.kind) ≠ some 9)
theorem printN_tail (l : List Lx.Tk) : ∀ (n k : Nat) (x T : List UInt8), k + n = l.length → Lx.printN l k = some x → Lx.printN l l.length = some T → T = x ++ Lx.tail (Lx.spAt l k) (l.drop k)
  | 0, k, x, T, hk, hx, hT => by
    have e : k = l.length := by omega
    subst e
    rw [hT] at hx
    injection hx with hx
    rw [List.drop_length, hx]
    simp [Lx.tail]
  | n + 1, k, x, T, hk, hx, hT => by
    have hlt : k < l.length := by omega
    have hd := List.drop_eq_getElem_cons hlt
    have ht : l[k]? = some l[k] := List.getElem?_eq_getElem hlt
    generalize l[k] = t at hd ht
    have hs : Lx.spAt l (k + 1) = decide (t.kind ≠ 9) := by unfold Lx.spAt; simp [ht]
    cases h2 : Lx.printN l (k + 1) with
    | none =>
      have := printN_end l (k + 1) (by omega) h2
      rw [this] at hT; cases hT
    | some y =>
      have ih := printN_tail l n (k + 1) y T (by omega) h2 hT
      rw [ih, hd, hs]
      unfold Lx.printN at h2
      rw [hx] at h2
      simp only [ht] at h2
      split at h2
      · rename_i h9
        split at h2
        · injection h2 with h2
          subst h2
          simp [Lx.tail, h9]
        · cases h2
      · rename_i h9
        split at h2
        · rename_i hc
          injection h2 with h2
          subst h2
          have : Lx.spAt l k = true := decide_eq_true hc
          simp [Lx.tail, h9, this]
        · rename_i hc
          injection h2 with h2
          subst h2
          have : Lx.spAt l k = false := decide_eq_false hc
          simp [Lx.tail, h9, this]
theorem printN_dots (l : List Lx.Tk) (T : List UInt8) (hT : Lx.printN l l.length = some T) (k : Nat) (t : Lx.Tk) (ht : l[k]? = some t) (h9 : t.kind = 9) : Lx.dotMay l k = true := by
  have hk : k < l.length := (List.getElem?_eq_some_iff.1 ht).1
  cases hx : Lx.printN l k with
  | none => rw [printN_end l k (by omega) hx] at hT; cases hT
  | some x =>
    have h := printN_dot l k t x hx ht h9
    cases hd : Lx.dotMay l k with
    | true => rfl
    | false =>
      rw [hd, if_neg (by decide)] at h
      rw [printN_end l (k + 1) (by omega) h] at hT; cases hT
theorem printN_may (l : List Lx.Tk) (hd : ∀ k t, l[k]? = some t → t.kind = 9 → Lx.dotMay l k = true) : ∀ k, Lx.printN l k ≠ none
  | 0 => by unfold Lx.printN; simp
  | k + 1 => by
    have ih := printN_may l hd k
    unfold Lx.printN
    cases hx : Lx.printN l k with
    | none => exact absurd hx ih
    | some x =>
      simp only
      cases ht : l[k]? with
      | none => simp
      | some t =>
        simp only
        by_cases h9 : t.kind = 9
        · rw [if_pos h9, if_pos (hd k t ht h9)]; simp
        · rw [if_neg h9]; split <;> simp

/-- What dots stand between, behind a token of a Kind. -/
def Lx.Dots : Int → List Tk → Prop
  | _, [] => True
  | pk, t :: r => (t.kind = 9 → pk = 1 ∧ ∃ b r', r = b :: r' ∧ joined ((spell b.kind b.text).headD 0) = true) ∧ Lx.Dots t.kind r
theorem dots_of (l : List Lx.Tk) (hd : ∀ k t, l[k]? = some t → t.kind = 9 → Lx.dotMay l k = true) : ∀ (n k : Nat) (pk : Int), k + n = l.length → (∀ a, 0 < k → l[k - 1]? = some a → pk = a.kind) → Lx.Dots pk (l.drop k)
  | 0, k, pk, hk, _ => by
    rw [List.drop_eq_nil_of_le (by omega)]; trivial
  | n + 1, k, pk, hk, hp => by
    have hlt : k < l.length := by omega
    have hdr := List.drop_eq_getElem_cons hlt
    have ht : l[k]? = some l[k] := List.getElem?_eq_getElem hlt
    generalize l[k] = t at hdr ht
    rw [hdr]
    refine ⟨fun h9 => ?_, dots_of l hd n (k + 1) t.kind (by omega) (fun a _ ha => by rw [Nat.add_sub_cancel, ht] at ha; injection ha with ha; rw [ha])⟩
    have h := hd k t ht h9
    unfold Lx.dotMay at h
    split at h
    · cases h
    · rename_i hc
      split at h
      · rename_i a b ha hb
        rw [Bool.and_eq_true, beq_iff_eq] at h
        have hlb : k + 1 < l.length := (List.getElem?_eq_some_iff.1 hb).1
        have hd2 := List.drop_eq_getElem_cons hlb
        rw [(List.getElem?_eq_some_iff.1 hb).2] at hd2
        exact ⟨(hp a (by omega) ha).trans h.1, b, _, hd2, h.2⟩
      · cases h

theorem spell_measure (k : Int) (t r : List UInt8) (h : Lx.rightText k t = true) (h9 : k ≠ 9) (hr : ∀ b, r[0]? = some b → Lx.Ender b) :
    ∃ K : Nat, (K : Int) = k ∧ Lx.measureL (Lx.spell k t ++ r) false = .ok K (Lx.spell k t).length ∧ 0 < (Lx.spell k t).length ∧ Lx.textOf K (Lx.spell k t) = t := by
  obtain ⟨h1, h2⟩ := sole_right k t h h9
  have hk0 : k ≠ 0 := by
    rintro rfl
    unfold Lx.rightText at h
    rw [if_neg (by decide), if_neg (by decide), if_pos rfl] at h
    cases h
  have hp : 0 < (Lx.spell k t).length := List.length_pos_iff.2 h2
  rw [soleKind_L] at h1
  split at h1
  · rename_i K n hm
    split at h1
    · rename_i hn
      subst hn
      refine ⟨K, h1, ?_, hp, ?_⟩
      · rcases measureL_local (Lx.spell k t) (Lx.spell k t ++ r) false false K _ hp hm (fun i hi => List.getElem?_append_left hi) (.inr (fun b hb => hr b (by rw [List.getElem?_append_right (Nat.le_refl _), Nat.sub_self] at hb; exact hb))) (.inl rfl) with e | ⟨e, _⟩
        · exact e
        · subst e; omega
      · unfold Lx.textOf Lx.spell
        by_cases h6 : k = 6
        · have : K = 6 := by omega
          rw [if_pos this, if_pos h6]
          have e : ((39 :: (Lx.dbl t ++ [39]) : List UInt8).length - 2) = (Lx.dbl t).length := by simp
          rw [e]
          show Lx.undbl ((Lx.dbl t ++ [39]).take (Lx.dbl t).length) = t
          rw [List.take_left, undbl_dbl]
        · have : K ≠ 6 := by omega
          rw [if_neg this, if_neg h6]
    · exact absurd h1.symm hk0
  · exact absurd h1.symm hk0
theorem joined_plain (c : UInt8) (h : Lx.joined c = true) : Lx.blank c = false ∧ c ≠ 34 := by
  refine ⟨?_, ?_⟩
  · cases hb : Lx.blank c
    · rfl
    · exfalso
      have : c = 32 ∨ c = 9 ∨ c = 10 := by
        unfold Lx.blank at hb
        simp only [Bool.or_eq_true, beq_iff_eq] at hb
        rcases hb with (hb | hb) | hb
        · exact .inl (UInt8.toNat_inj.1 (by have : (32 : UInt8).toNat = 32 := rfl; omega))
        · exact .inr (.inl (UInt8.toNat_inj.1 (by have : (9 : UInt8).toNat = 9 := rfl; omega)))
        · exact .inr (.inr (UInt8.toNat_inj.1 (by have : (10 : UInt8).toNat = 10 := rfl; omega)))
      rcases this with rfl | rfl | rfl <;> exact absurd h (by decide)
  · rintro rfl
    exact absurd h (by decide)
theorem right_text_of (t : Lx.Tk) (h : Lx.Tk.right t = true) : Lx.rightText t.kind t.text = true := by
  unfold Lx.Tk.right Lx.right at h
  rw [Bool.and_eq_true] at h
  exact h.2
theorem tail_ender (r : List Lx.Tk) (hr : ∀ t ∈ r, Lx.Tk.right t = true) (b : UInt8) (h : (Lx.tail true r)[0]? = some b) : Lx.Ender b := by
  cases r with
  | nil => cases h
  | cons t r =>
    unfold Lx.tail at h
    by_cases h9 : t.kind = 9
    · have hx := right_text_of t (hr t (List.mem_cons_self ..))
      unfold Lx.rightText at hx
      rw [if_neg (by omega), if_pos h9, beq_iff_eq] at hx
      rw [if_neg (fun e => e.2 h9), hx, h9] at h
      unfold Lx.spell at h
      rw [if_neg (by decide)] at h
      simp at h
      exact .inr (.inr h.symm)
    · rw [if_pos ⟨rfl, h9⟩] at h
      simp at h
      exact .inr (.inl h.symm)

theorem spans_tail (S : List UInt8) : ∀ (r : List Lx.Tk) (ix f : Nat) (last : Lx.Sp) (sp : Bool), ix ≤ S.length → S.drop ix = Lx.tail sp r → (∀ t ∈ r, Lx.Tk.right t = true) → Lx.Dots last.kind r → (sp = false → last.kind ≠ 1) → (sp = true → last.to = ix) →
    S.length - ix < f → ∃ l, Lx.spansN S f ix last = (l, none) ∧ l.map (fun t : Lx.Sp => ((t.kind : Int), t.text)) = r.map Lx.Tk.key
  | _, _, 0, _, _, _, _, _, _, _, _, h => by omega
  | [], ix, f + 1, last, sp, hx, hS, hr, hd, h1, h2, hf => by
    have e : ix = S.length := by
      have := congrArg List.length hS
      rw [List.length_drop] at this
      simp [Lx.tail] at this
      omega
    refine ⟨[], ?_, rfl⟩
    rw [spansN_succ, hS]
    simp only [Lx.tail, Lx.blanks]
    unfold tailN
    rw [if_pos e]
  | t :: r, ix, f + 1, last, sp, hx, hS, hr, hd, h1, h2, hf => by
    have hrt := hr t (List.mem_cons_self ..)
    have hrx := right_text_of t hrt
    have hrr : ∀ t ∈ r, Lx.Tk.right t = true := fun u hu => hr u (List.mem_cons_of_mem _ hu)
    unfold Lx.Dots at hd
    unfold Lx.tail at hS
    by_cases h9 : t.kind = 9
    · obtain ⟨hp1, b, r', rfl, hj⟩ := hd.1 h9
      have hk1 : last.kind = 1 := by omega
      have hsp : sp = true := by cases sp with | true => rfl | false => exact absurd hk1 (h1 rfl)
      have hto := h2 hsp
      unfold Lx.rightText at hrx
      rw [if_neg (by omega), if_pos h9, beq_iff_eq] at hrx
      rw [if_neg (fun e => e.2 h9), hrx, h9, decide_eq_false (fun e => e rfl)] at hS
      have hS2 : S.drop ix = 46 :: Lx.tail false (b :: r') := by rw [hS]; rfl
      obtain ⟨c, y, hc, hcj⟩ : ∃ c y, Lx.spell b.kind b.text = c :: y ∧ Lx.joined c = true := by
        cases hsb : Lx.spell b.kind b.text with
        | nil => rw [hsb] at hj; exact absurd hj (by decide)
        | cons c y => exact ⟨c, y, rfl, by rw [hsb] at hj; exact hj⟩
      have ht1 : ∃ z, Lx.tail false (b :: r') = c :: z := by
        unfold Lx.tail
        rw [if_neg (fun e => by cases e.1), hc]
        exact ⟨_, rfl⟩
      obtain ⟨z, hz⟩ := ht1
      have hlen : ix + 1 < S.length := by
        have := congrArg List.length hS2
        rw [List.length_drop, hz] at this
        simp at this; omega
      have hm : Lx.measureL (S.drop ix) true = .ok 9 1 := by
        rw [hS2, hz]
        unfold Lx.measureL
        simp only [List.getElem?_cons_zero, Option.getD_some]
        rw [if_neg (by decide), if_neg (by decide), if_neg (by decide), if_neg (by decide), if_pos]
        rw [(joinsL_iff _ _).2 ⟨rfl, c, rfl, hcj⟩]; rfl
      have hdr : S.drop (ix + 1) = Lx.tail false (b :: r') := by
        have := congrArg (List.drop 1) hS2
        rwa [List.drop_drop] at this
      have hnx : ∃ u : Lx.Sp, Lx.next S ix last = .ok u ∧ u.kind = 9 ∧ u.text = [46] ∧ u.to = ix + 1 := by
        rw [next_L, hk1, hto]
        simp only [beq_self_eq_true, Bool.and_self, hm]
        refine ⟨_, rfl, rfl, ?_, rfl⟩
        simp [hS2]
      obtain ⟨u, hu, u1, u2, u3⟩ := hnx
      obtain ⟨l, hl1, hl2⟩ := spans_tail S (b :: r') (ix + 1) f u false (by omega) hdr hrr (by rw [u1]; have := hd.2; rw [h9] at this; exact this) (fun _ => by omega) (fun e => by cases e) (by omega)
      refine ⟨u :: l, ?_, ?_⟩
      · rw [spansN_succ, blanks_here _ ix 46 (by rw [hS2]; rfl) (by decide) (by decide)]
        simp only
        unfold tailN
        rw [if_neg (by omega), hu]
        simp only [u3, hl1]
      · rw [List.map_cons, hl2, List.map_cons (l := b :: r')]
        simp [Lx.Tk.key, u1, u2, h9, hrx]
    · obtain ⟨K, hK, hm, hlp, htx⟩ := spell_measure t.kind t.text (Lx.tail true r) hrx h9 (tail_ender r hrr)
      rw [decide_eq_true h9] at hS
      have hsp : ∃ j, S.drop j = Lx.spell t.kind t.text ++ Lx.tail true r ∧ (last.kind == 1 && last.to == j) = false ∧ Lx.blanks none ix (S.drop ix) = .at j ∧ ix ≤ j ∧ j < S.length := by
        obtain ⟨b0, hb0, hb1, hb2⟩ := measureL_first _ _ _ _ (by rw [List.length_append]; omega) hm
        cases sp with
        | false =>
          rw [if_neg (fun e => by cases e.1), List.nil_append] at hS
          have hl := congrArg List.length hS
          rw [List.length_drop, List.length_append] at hl
          exact ⟨ix, hS, by have := h1 rfl; simp [this], by rw [hS]; exact blanks_here _ ix b0 hb0 hb1 hb2, Nat.le_refl _, by omega⟩
        | true =>
          rw [if_pos ⟨rfl, h9⟩] at hS
          have hl := congrArg List.length hS
          rw [List.length_drop, List.length_append, List.length_append] at hl
          have hl1 : ([32] : List UInt8).length = 1 := rfl
          have hdr : S.drop (ix + 1) = Lx.spell t.kind t.text ++ Lx.tail true r := by
            have := congrArg (List.drop 1) hS
            rwa [List.drop_drop] at this
          refine ⟨ix + 1, hdr, ?_, ?_, by omega, by omega⟩
          · have := h2 rfl
            rw [this]
            simp
          · rw [hS]
            show Lx.blanks none ix (32 :: (Lx.spell t.kind t.text ++ Lx.tail true r)) = _
            conv => lhs; unfold Lx.blanks
            rw [if_pos (by decide)]
            exact blanks_here _ (ix + 1) b0 hb0 hb1 hb2
      obtain ⟨j, hj1, hj2, hj3, hj4, hj5⟩ := hsp
      have hnx : ∃ u : Lx.Sp, Lx.next S j last = .ok u ∧ u.kind = K ∧ u.text = t.text ∧ u.to = j + (Lx.spell t.kind t.text).length := by
        rw [next_L, hj2, hj1]
        simp only [hm]
        refine ⟨_, rfl, rfl, ?_, rfl⟩
        rw [List.take_left]
        exact htx
      obtain ⟨u, hu, u1, u2, u3⟩ := hnx
      have hdr : S.drop u.to = Lx.tail true r := by
        rw [u3, ← List.drop_drop, hj1, List.drop_left]
      have hlt : u.to ≤ S.length := by
        have hl := congrArg List.length hj1
        rw [List.length_drop, List.length_append] at hl
        omega
      obtain ⟨l, hl1, hl2⟩ := spans_tail S r u.to f u true hlt hdr hrr (by rw [u1, hK]; exact hd.2) (fun e => by cases e) (fun _ => rfl) (by omega)
      refine ⟨u :: l, ?_, ?_⟩
      · rw [spansN_succ, hj3]
        simp only
        unfold tailN
        rw [if_neg (by omega), hu]
        simp only [hl1]
      · rw [List.map_cons, hl2, List.map_cons]
        simp [Lx.Tk.key, u1, u2, hK]

/-- What is printed is divided into the same tokens. -/
theorem printed_read (l : List Lx.Tk) (h : (Lx.printed l).2 = 0) : ∃ m, Lx.divide (Lx.printed l).1 = (m, 0, 0) ∧ m.map (fun t : Lx.Sp => ((t.kind : Int), t.text)) = l.map Lx.Tk.key ∧ (Lx.printed l).1.length ≤ 20000 ∧ l.length ≤ 6000 := by
  have hc : Lx.check l = 0 := by
    unfold Lx.printed at h
    split at h
    · exact absurd h (by assumption)
    · rename_i hc; exact Decidable.not_not.1 hc
  obtain ⟨h6, hr⟩ := check_all l hc
  unfold Lx.printed at h ⊢
  rw [if_neg (fun e => e hc)] at h ⊢
  cases hT : Lx.printN l l.length with
  | none => rw [hT] at h; cases h
  | some T =>
    rw [hT] at h
    unfold Lx.printEnd at h ⊢
    simp only at h ⊢
    split at h
    · cases h
    · rename_i hlen
      rw [if_neg hlen]
      have ht := printN_tail l l.length 0 [] T (by omega) rfl hT
      have h0 : Lx.spAt l 0 = false := rfl
      rw [h0, List.drop_zero, List.nil_append] at ht
      obtain ⟨m, hm1, hm2⟩ := spans_tail T l 0 (T.length + 1) Lx.noSp false (Nat.zero_le _) (by rw [List.drop_zero]; exact ht) hr
        (by have := dots_of l (printN_dots l T hT) l.length 0 0 (by omega) (fun a e => by omega); rwa [List.drop_zero] at this) (fun _ => by decide) (fun e => by cases e) (by omega)
      exact ⟨m, divide_of_spans T m (by omega) hm1, hm2, (by show T.length ≤ 20000; omega), h6⟩

theorem chain_at (s : List UInt8) : ∀ (l : List Lx.Sp) (ix : Nat) (last : Lx.Sp), Lx.Chain s ix last l → ∀ k t, l[k]? = some t → ∃ p, Lx.Read s t.frm p t ∧ (k = 0 → p = last) ∧ (0 < k → l[k - 1]? = some p)
  | [], _, _, _, k, t, ht => by simp at ht
  | a :: l, ix, last, h, 0, t, ht => by
    simp at ht; subst ht
    exact ⟨last, h.2.1, fun _ => rfl, fun e => by omega⟩
  | a :: l, ix, last, h, k + 1, t, ht => by
    rw [List.getElem?_cons_succ] at ht
    obtain ⟨p, h1, h2, h3⟩ := chain_at s l _ _ h.2.2.2 k t ht
    refine ⟨p, h1, fun e => by omega, fun _ => ?_⟩
    cases k with
    | zero => rw [h2 rfl]; rfl
    | succ k => simpa using h3 (by omega)
theorem dots_read (s : List UInt8) (h : (Lx.divide s).2.1 = 0) (k : Nat) (t : Lx.Sp) (ht : (Lx.divide s).1[k]? = some t) (h9 : t.kind = 9) :
    ∃ a b, 0 < k ∧ (Lx.divide s).1[k - 1]? = some a ∧ (Lx.divide s).1[k + 1]? = some b ∧ a.kind = 1 ∧ Lx.joined ((Lx.spell b.kind b.text).headD 0) = true := by
  obtain ⟨p, hr, hp0, hp1⟩ := chain_at s _ _ _ (divide_chain s h) k t ht
  have hk := (measureL_kind _ _ _ _ hr.meas).2.2.1 h9
  obtain ⟨hn, _, hj, c, hc, hcj⟩ := hk
  rw [Bool.and_eq_true, beq_iff_eq, beq_iff_eq] at hj
  have hk0 : 0 < k := by
    rcases Nat.eq_zero_or_pos k with e | e
    · rw [hp0 e] at hj; exact absurd hj.1 (by decide)
    · exact e
  have hlt : k < (Lx.divide s).1.length := (List.getElem?_eq_some_iff.1 ht).1
  have hg := gaps s h (k + 1) (by omega)
  have hat : Lx.atOf (Lx.divide s).1 (k + 1) = t.to := by
    show ((Lx.divide s).1[k]?.map Lx.Sp.to).getD 0 = _
    rw [ht]; rfl
  have hto : t.to = t.frm + 1 := by have := hr.lt; omega
  rw [List.getElem?_drop] at hc
  rw [hat] at hg
  obtain ⟨hc1, hc2⟩ := joined_plain c hcj
  rw [blanks_here (s.drop t.to) t.to c (by rw [List.getElem?_drop, hto]; exact hc) hc1 hc2] at hg
  injection hg with hg
  have hcl := (List.getElem?_eq_some_iff.1 hc).1
  cases hb : (Lx.divide s).1[k + 1]? with
  | none =>
    unfold Lx.fromOf at hg
    rw [hb] at hg
    have : t.to = s.length := hg
    omega
  | some b =>
    unfold Lx.fromOf at hg
    rw [hb] at hg
    have hfb : t.to = b.frm := hg
    have hb2 := divide_right s h b (List.mem_of_getElem? hb)
    refine ⟨p, b, hk0, hp1 hk0, rfl, hj.1, ?_⟩
    rw [hb2.2.1, ← hfb, hto]
    have hdr : s.drop (t.frm + 1) = c :: s.drop (t.frm + 2) := by
      rw [List.drop_eq_getElem_cons hcl, (List.getElem?_eq_some_iff.1 hc).2]
    obtain ⟨q, hq⟩ : ∃ q, b.to - (t.frm + 1) = q + 1 := ⟨b.to - (t.frm + 1) - 1, by have := hb2.2.2.1; omega⟩
    rw [hdr, hq]
    exact hcj
end Go.Proofs.YtcjcbhdildcceaaGreatDoor
