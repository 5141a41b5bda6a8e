/- Plain facts on the functions of LexS. Nothing is said of the program here. -/
import Derived.Test.YtcjcbhdildcceaaGreatDoorLexS
namespace Go.Proofs.YtcjcbhdildcceaaGreatDoor
open Go

/-- The bytes of a string up to its end, from an index behind its first byte. -/
theorem quotedN_skip (l : List UInt8) : Lx.quotedN l = (match l.drop (Lx.runN Lx.inString l) with
    | 39 :: 39 :: r => (Lx.quotedN r).map (· + (Lx.runN Lx.inString l + 2))
    | 39 :: _ => some (Lx.runN Lx.inString l + 1)
    | _ => none) := by
  induction l with
  | nil => rfl
  | cons b r ih =>
    cases hb : Lx.inString b
    · have e0 : Lx.runN Lx.inString (b :: r) = 0 := by simp [Lx.runN, hb]
      rw [e0, List.drop_zero]
      by_cases h39 : b = 39
      · subst h39
        cases r with
        | nil => rfl
        | cons c r =>
          by_cases hc : c = 39
          · subst hc; simp [Lx.quotedN]
          · have e : Lx.quotedN (39 :: c :: r) = some 1 := by
              unfold Lx.quotedN; split <;> simp_all
            rw [e]
            split <;> simp_all
      · have hs : Lx.shown b = false := by
          cases hsb : Lx.shown b
          · rfl
          · exfalso
            have : ((b.toNat : Int) != 39) = false := by simpa [Lx.inString, hsb] using hb
            have : (b.toNat : Int) = 39 := by simpa using this
            exact h39 (UInt8.toNat_inj.1 (by have : (39 : UInt8).toNat = 39 := rfl; omega))
        have e : Lx.quotedN (b :: r) = none := by
          unfold Lx.quotedN; split <;> simp_all
        rw [e]
        split <;> simp_all
    · have e1 : Lx.runN Lx.inString (b :: r) = Lx.runN Lx.inString r + 1 := by simp [Lx.runN, hb]
      have hs : Lx.shown b = true := by simp [Lx.inString] at hb; exact hb.1
      have h39 : b ≠ 39 := by rintro rfl; simp [Lx.inString] at hb
      have e : Lx.quotedN (b :: r) = (Lx.quotedN r).map (· + 1) := by
        conv => lhs; unfold Lx.quotedN
        split <;> simp_all
      rw [e, e1, ih]
      simp only [List.drop_succ_cons]
      split <;> simp_all [Function.comp_def]
      congr 1

theorem runN_le (p : UInt8 → Bool) (l : List UInt8) : Lx.runN p l ≤ l.length := (List.takeWhile_prefix p).length_le

/-- What follows behind a run of bytes that stand for themselves. -/
def qTail (n : Nat) : List UInt8 → Option Nat
  | 39 :: 39 :: r => (Lx.quotedN r).map (· + (n + 2))
  | 39 :: _ => some (n + 1)
  | _ => none
theorem quotedN_tail (l : List UInt8) : Lx.quotedN l = qTail (Lx.runN Lx.inString l) (l.drop (Lx.runN Lx.inString l)) := quotedN_skip l
theorem qTail_bad (n : Nat) (b : UInt8) (r : List UInt8) (h : b ≠ 39) : qTail n (b :: r) = none := by
  unfold qTail; split <;> simp_all
theorem qTail_last (n : Nat) (r : List UInt8) (h : r = [] ∨ r.head? ≠ some 39) : qTail n (39 :: r) = some (n + 1) := by
  cases r with
  | nil => rfl
  | cons b r =>
    have hb : b ≠ 39 := by simpa using h
    unfold qTail; split <;> simp_all
theorem qTail_more (n : Nat) (r : List UInt8) : qTail n (39 :: 39 :: r) = (Lx.quotedN r).map (· + (n + 2)) := rfl

theorem quoted_end (l : List UInt8) (k : Nat) (h : k + Lx.runN Lx.inString (l.drop k) = l.length) : Lx.quotedN (l.drop k) = none := by
  rw [quotedN_tail, List.drop_drop, h, List.drop_length]; rfl
theorem drop_at (l : List UInt8) (m : Nat) (h : m < l.length) : l.drop m = l[m]?.getD 0 :: l.drop (m + 1) := by
  rw [List.drop_eq_getElem_cons h, List.getElem?_eq_getElem h]; rfl
theorem quoted_bad (l : List UInt8) (k : Nat) (h : k + Lx.runN Lx.inString (l.drop k) < l.length) (hb : l[k + Lx.runN Lx.inString (l.drop k)]?.getD 0 ≠ 39) : Lx.quotedN (l.drop k) = none := by
  rw [quotedN_tail, List.drop_drop, drop_at _ _ h]
  exact qTail_bad _ _ _ hb
theorem quoted_last (l : List UInt8) (k : Nat) (h : k + Lx.runN Lx.inString (l.drop k) < l.length) (hb : l[k + Lx.runN Lx.inString (l.drop k)]?.getD 0 = 39)
    (h' : k + Lx.runN Lx.inString (l.drop k) + 1 = l.length ∨ l[k + Lx.runN Lx.inString (l.drop k) + 1]?.getD 0 ≠ 39) : Lx.quotedN (l.drop k) = some (Lx.runN Lx.inString (l.drop k) + 1) := by
  rw [quotedN_tail, List.drop_drop, drop_at _ _ h, hb]
  refine qTail_last _ _ ?_
  rcases h' with h' | h'
  · exact .inl (by rw [h', List.drop_length])
  · refine .inr ?_
    rw [List.head?_drop]
    intro e
    rw [e] at h'
    exact h' rfl
theorem quoted_more (l : List UInt8) (k : Nat) (h : k + Lx.runN Lx.inString (l.drop k) + 1 < l.length) (hb : l[k + Lx.runN Lx.inString (l.drop k)]?.getD 0 = 39)
    (h' : l[k + Lx.runN Lx.inString (l.drop k) + 1]?.getD 0 = 39) :
    Lx.quotedN (l.drop k) = (Lx.quotedN (l.drop (k + Lx.runN Lx.inString (l.drop k) + 2))).map (· + (Lx.runN Lx.inString (l.drop k) + 2)) := by
  have e := drop_at l (k + Lx.runN Lx.inString (l.drop k)) (by omega)
  rw [hb, drop_at _ _ h, h'] at e
  rw [quotedN_tail (l.drop k), List.drop_drop, e, qTail_more]

theorem pass_snoc (p : Lx.Place) (l : List UInt8) (k : Nat) (h : k < l.length) : p.pass (l.take (k + 1)) = (p.pass (l.take k)).step (l[k]?.getD 0) := by
  unfold Lx.Place.pass
  rw [List.take_succ_eq_append_getElem h, List.foldl_append, List.getElem?_eq_getElem h]
  rfl
theorem pass_ix (p : Lx.Place) (l : List UInt8) : (p.pass l).ix = p.ix + l.length := by
  unfold Lx.Place.pass
  induction l generalizing p with
  | nil => rfl
  | cons b l ih => rw [List.foldl_cons, ih]; simp [Lx.Place.step]; omega
theorem pass_ln (p : Lx.Place) (l : List UInt8) : (p.pass l).ln ≤ p.ln + l.length := by
  unfold Lx.Place.pass
  induction l generalizing p with
  | nil => exact Nat.le_refl _
  | cons b l ih =>
    rw [List.foldl_cons]
    refine Nat.le_trans (ih _) ?_
    unfold Lx.Place.step
    split <;> simp <;> omega
theorem pass_bg (p : Lx.Place) (l : List UInt8) (h : p.bg ≤ p.ix) : (p.pass l).bg ≤ (p.pass l).ix := by
  unfold Lx.Place.pass
  induction l generalizing p with
  | nil => exact h
  | cons b l ih =>
    rw [List.foldl_cons]
    refine ih _ ?_
    unfold Lx.Place.step
    split <;> simp <;> omega

theorem placeAt_ix (s : List UInt8) (i : Nat) (h : i ≤ s.length) : (Lx.placeAt s i).ix = i := by
  unfold Lx.placeAt
  rw [pass_ix, List.length_take, Nat.min_eq_left h]
  exact Nat.zero_add i
theorem placeAt_pass (s : List UInt8) (i k : Nat) : (Lx.placeAt s i).pass ((s.drop i).take k) = Lx.placeAt s (i + k) := by
  unfold Lx.placeAt Lx.Place.pass
  rw [List.take_add, List.foldl_append]
theorem placeAt_ln (s : List UInt8) (i : Nat) : (Lx.placeAt s i).ln ≤ (Lx.placeAt s i).ix := by
  have h1 := pass_ln ⟨0, 0, 0⟩ (s.take i)
  have h2 := pass_ix ⟨0, 0, 0⟩ (s.take i)
  unfold Lx.placeAt
  rw [h2]
  exact h1
theorem placeAt_bg (s : List UInt8) (i : Nat) : (Lx.placeAt s i).bg ≤ (Lx.placeAt s i).ix := pass_bg ⟨0, 0, 0⟩ (s.take i) (Nat.le_refl _)
end Go.Proofs.YtcjcbhdildcceaaGreatDoor
