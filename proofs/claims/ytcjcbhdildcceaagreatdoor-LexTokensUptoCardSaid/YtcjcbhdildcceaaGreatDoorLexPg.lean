/- Plain truths: what stands between tokens. Nothing is said of the program here. -/
import Derived.Test.YtcjcbhdildcceaaGreatDoorLexPt
namespace Go.Proofs.YtcjcbhdildcceaaGreatDoor

/-- Where the token with an index ends; 0 ahead of the first one. -/
def Lx.atOf (l : List Sp) (k : Nat) : Nat := match k with | 0 => 0 | k + 1 => (l[k]?.map Sp.to).getD 0
/-- Where the token with an index begins; the text's end behind the last one. -/
def Lx.fromOf (s : List UInt8) (l : List Sp) (k : Nat) : Nat := (l[k]?.map Sp.frm).getD s.length
theorem spansN_end (s : List UInt8) : ∀ (f ix : Nat) (last : Lx.Sp), ix ≤ s.length → s.length - ix < f → (Lx.spansN s f ix last).2 = none →
    ∀ k, k ≤ (Lx.spansN s f ix last).1.length → Lx.blanks none (if k = 0 then ix else Lx.atOf (Lx.spansN s f ix last).1 k) (s.drop (if k = 0 then ix else Lx.atOf (Lx.spansN s f ix last).1 k)) = .at (Lx.fromOf s (Lx.spansN s f ix last).1 k)
  | 0, _, _, _, h, _, _, _ => by omega
  | f + 1, ix, last, hx, hf, h, k, hk => by
    rw [spansN_succ] at h hk ⊢
    cases hj : Lx.blanks none ix (s.drop ix) with
    | «open» q => rw [hj] at h; cases h
    | «at» j =>
      rw [hj] at h hk
      simp only at h hk ⊢
      have h1 := blanks_ge _ _ _ _ hj
      have h2 := blanks_le _ _ _ _ hj
      rw [List.length_drop] at h2
      by_cases hje : j = s.length
      · have e : tailN s f j last = ([], none) := by unfold tailN; rw [if_pos hje]
        rw [e] at h hk ⊢
        simp only [List.length_nil, Nat.le_zero] at hk
        subst hk
        simp only [if_true]
        rw [hj, hje]; rfl
      · cases ht : Lx.next s j last with
        | error c =>
          have e : tailN s f j last = ([], some (c, j)) := by unfold tailN; rw [if_neg hje, ht]
          rw [e] at h; cases h
        | ok t =>
          have e : tailN s f j last = (t :: (Lx.spansN s f t.to t).1, (Lx.spansN s f t.to t).2) := by unfold tailN; rw [if_neg hje, ht]
          rw [e] at h hk ⊢
          have hr := next_read s j last t (by omega) ht
          have hlt := hr.lt
          have hle := hr.le
          cases k with
          | zero =>
            simp only [if_true]
            rw [hj]
            show _ = Lx.B.at t.frm
            rw [hr.frm]
          | succ k =>
            have ih := spansN_end s f t.to t hr.le (by omega) h k (by simpa using hk)
            simp only [Nat.add_one_ne_zero, if_false]
            have e1 : Lx.fromOf s (t :: (Lx.spansN s f t.to t).1) (k + 1) = Lx.fromOf s (Lx.spansN s f t.to t).1 k := by unfold Lx.fromOf; rw [List.getElem?_cons_succ]
            rw [e1]
            cases k with
            | zero => simpa [Lx.atOf] using ih
            | succ k =>
              simp only [Nat.add_one_ne_zero, if_false] at ih
              have e2 : Lx.atOf (t :: (Lx.spansN s f t.to t).1) (k + 1 + 1) = Lx.atOf (Lx.spansN s f t.to t).1 (k + 1) := by show ((t :: (Lx.spansN s f t.to t).1)[k + 1]?.map Lx.Sp.to).getD 0 = _; rw [List.getElem?_cons_succ]; rfl
              rw [e2]; exact ih
theorem gaps (s : List UInt8) (h : (Lx.divide s).2.1 = 0) (k : Nat) (hk : k ≤ (Lx.divide s).1.length) :
    Lx.blanks none (Lx.atOf (Lx.divide s).1 k) (s.drop (Lx.atOf (Lx.divide s).1 k)) = .at (Lx.fromOf s (Lx.divide s).1 k) := by
  have h2 := (divide_ok s h).2
  have he := spansN_end s (s.length + 1) 0 Lx.noSp (Nat.zero_le _) (by omega)
  change (Lx.spans s).2 = none → ∀ k, k ≤ (Lx.spans s).1.length → Lx.blanks none (if k = 0 then 0 else Lx.atOf (Lx.spans s).1 k) (s.drop (if k = 0 then 0 else Lx.atOf (Lx.spans s).1 k)) = .at (Lx.fromOf s (Lx.spans s).1 k) at he
  rw [h2] at he
  have := he rfl k hk
  cases k with
  | zero => simpa [Lx.atOf] using this
  | succ k => simpa using this
/-- What is passed over ahead of a token, or at the end, has no tokens. -/
theorem gap_none (s : List UInt8) (h : (Lx.divide s).2.1 = 0) (k : Nat) (hk : k ≤ (Lx.divide s).1.length) :
    Lx.atOf (Lx.divide s).1 k ≤ Lx.fromOf s (Lx.divide s).1 k ∧ Lx.fromOf s (Lx.divide s).1 k ≤ s.length ∧ Lx.divide ((s.take (Lx.fromOf s (Lx.divide s).1 k)).drop (Lx.atOf (Lx.divide s).1 k)) = ([], 0, 0) := by
  have hg := gaps s h k hk
  have hs := (divide_ok s h).1
  have h1 := blanks_ge _ _ _ _ hg
  have hf : Lx.fromOf s (Lx.divide s).1 k ≤ s.length := by
    unfold Lx.fromOf
    cases hh : (Lx.divide s).1[k]? with
    | none => exact Nat.le_refl _
    | some t =>
      have := divide_frm s h t (List.mem_of_getElem? hh)
      show t.frm ≤ _; omega
  exact ⟨h1, hf, divide_between s _ _ hf hs hg⟩
theorem text_len (s : List UInt8) (t : Lx.Sp) (hs : s.length ≤ 20000) (h : t ∈ (Lx.divide s).1) : t.text.length ≤ 20000 := by
  by_cases h0 : (Lx.divide s).2.1 = 0
  · have hr := divide_right s h0 t h
    have hd : ∀ l : List UInt8, l.length ≤ (Lx.dbl l).length := by
      intro l
      induction l with
      | nil => simp
      | cons b r ih => unfold Lx.dbl; split <;> simp only [List.length_cons] <;> omega
    have hl : t.text.length ≤ (Lx.spell t.kind t.text).length := by
      unfold Lx.spell
      split
      · simp only [List.length_cons, List.length_append]; have := hd t.text; omega
      · omega
    rw [hr.2.1, List.length_take, List.length_drop] at hl
    omega
  · rw [divide_nil s h0] at h; cases h
/-- Which of the lines that begin is a token's. -/
theorem line_row (s : List UInt8) (i : Nat) (h : i ≤ s.length) : (Lx.placeAt s i).ln < (Lx.begins s s.length).length := by
  have h1 := (begins_at s s.length (Nat.le_refl _)).1
  have h2 := (place_mono s i (s.length - i) (by omega)).1
  rw [show i + (s.length - i) = s.length by omega] at h2
  omega
theorem spelled_slice (s : List UInt8) (a b : Nat) : (s.take b).drop a = (s.drop a).take (b - a) := List.drop_take ..
end Go.Proofs.YtcjcbhdildcceaaGreatDoor
