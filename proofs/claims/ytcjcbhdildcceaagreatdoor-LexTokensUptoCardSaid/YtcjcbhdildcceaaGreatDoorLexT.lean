/- Plain facts on the token that begins at an index of a text: it has bytes, and ends within the text. Nothing is said of the program here. -/
import Derived.Test.YtcjcbhdildcceaaGreatDoorLexP
namespace Go.Proofs.YtcjcbhdildcceaaGreatDoor
open Go

theorem quotedN_len : ∀ (l : List UInt8) (n : Nat), Lx.quotedN l = some n → 1 ≤ n ∧ n ≤ l.length := by
  intro l
  obtain ⟨k, hk⟩ : ∃ k, l.length ≤ k := ⟨_, Nat.le_refl _⟩
  induction k generalizing l with
  | zero =>
    obtain rfl : l = [] := List.eq_nil_of_length_eq_zero (by omega)
    intro n h; simp [Lx.quotedN] at h
  | succ k ih =>
    intro n h
    unfold Lx.quotedN at h
    split at h
    · cases h
    · rename_i r
      simp only [List.length_cons] at hk
      obtain ⟨j, hj, rfl⟩ := Option.map_eq_some_iff.1 h
      have := ih r (by omega) j hj
      simp only [List.length_cons]; omega
    · simp only [Option.some.injEq] at h
      simp only [List.length_cons]; omega
    · rename_i b r _ _
      simp only [List.length_cons] at hk
      split at h
      · obtain ⟨j, hj, rfl⟩ := Option.map_eq_some_iff.1 h
        have := ih r (by omega) j hj
        simp only [List.length_cons]; omega
      · cases h

theorem head_drop (s : List UInt8) (ix : Nat) (h : ix < s.length) : s.drop ix = s[ix]?.getD 0 :: s.drop (ix + 1) := drop_at s ix h
theorem runN_pos {p : UInt8 → Bool} {b : UInt8} {l : List UInt8} (h : p b = true) : 1 ≤ Lx.runN p (b :: l) := by simp [Lx.runN, h]

theorem measure_len (s : List UInt8) (ix k₀ t₀ k n : Nat) (hin : ix < s.length) (h : Lx.measure s ix k₀ t₀ = .ok k n) : 1 ≤ n ∧ ix + n ≤ s.length ∧ (k = 6 → 2 ≤ n) := by
  have hl : (s.drop ix).length = s.length - ix := List.length_drop
  have hd := head_drop s ix hin
  unfold Lx.measure at h
  simp only at h
  split at h
  · unfold Lx.word at h
    simp only at h
    split at h
    · cases h
    · rename_i hk
      cases h
      have hr := runN_le Lx.wordByte (s.drop ix).tail
      rw [List.length_tail, hl] at hr
      refine ⟨?_, ?_, ?_⟩
      · unfold Lx.wordN; simp only; split <;> omega
      · unfold Lx.wordN; simp only
        split
        · rename_i hc
          have := (List.getElem?_eq_some_iff.1 hc).1
          omega
        · omega
      · intro e
        exfalso
        unfold Lx.wordKind at e
        simp only at e
        repeat' split at e
        all_goals omega
  · split at h
    · rename_i hdg
      unfold Lx.number at h
      split at h
      · cases h
      · cases h
        have := runN_le Lx.digit (s.drop ix)
        have h1 : 1 ≤ Lx.runN Lx.digit (s.drop ix) := by rw [hd]; exact runN_pos hdg
        exact ⟨h1, by omega, by omega⟩
    · split at h
      · unfold Lx.quoted at h
        split at h
        · rename_i m hm
          cases h
          have := quotedN_len _ _ hm
          rw [List.length_tail, hl] at this
          exact ⟨by omega, by omega, by omega⟩
        · cases h
      · split at h
        · rename_i hop
          unfold Lx.operation at h
          split at h
          · cases h
          · cases h
            have := runN_le Lx.operator (s.drop ix)
            have h1 : 1 ≤ Lx.runN Lx.operator (s.drop ix) := by rw [hd]; exact runN_pos hop
            exact ⟨h1, by omega, by omega⟩
        · split at h
          · cases h; exact ⟨by omega, by omega, by omega⟩
          · split at h
            · cases h; exact ⟨by omega, by omega, by omega⟩
            · cases h
end Go.Proofs.YtcjcbhdildcceaaGreatDoor
