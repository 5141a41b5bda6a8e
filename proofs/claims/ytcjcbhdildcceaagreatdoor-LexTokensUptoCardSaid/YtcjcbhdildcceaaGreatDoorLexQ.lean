/- Plain facts on the library's replacing of all instances, at the two pairs of texts that package lex uses. Nothing is said of the program here. -/
import Derived.Test.YtcjcbhdildcceaaGreatDoorLexS
import Derived.Lib.Replace
import Derived.Lib.CountLaws
namespace Go.Proofs.YtcjcbhdildcceaaGreatDoor
open Go

def repAll (old new l : List UInt8) : List UInt8 := Lib.replaceK old new (Lib.count l old) l

theorem repAll_miss {old new l : List UInt8} (h : Lib.index l old = -1) : repAll old new l = l := by
  unfold repAll
  rw [Lib.count_miss h]
  rfl
theorem repAll_hit {old new l : List UInt8} {i : Nat} (ho : old ≠ []) (h : Lib.index l old = i) : repAll old new l = l.take i ++ new ++ repAll old new (l.drop (i + old.length)) := by
  unfold repAll
  rw [Lib.count_hit ho h, Nat.add_comm 1, Lib.replaceK_hit old new _ l i h]
theorem repAll_nil {old new : List UInt8} (ho : old ≠ []) : repAll old new [] = [] := by
  refine repAll_miss ?_
  unfold Lib.index
  cases old with
  | nil => exact absurd rfl ho
  | cons b r => rfl
theorem repAll_pre {old new l : List UInt8} {b : UInt8} (ho : old ≠ []) (h : old.isPrefixOf (b :: l) = true) : repAll old new (b :: l) = new ++ repAll old new ((b :: l).drop old.length) := by
  have e : Lib.index (b :: l) old = (0 : Nat) := by unfold Lib.index; rw [if_pos h]; rfl
  rw [repAll_hit ho e, Nat.zero_add]
  rfl
theorem repAll_cons {old new l : List UInt8} {b : UInt8} (ho : old ≠ []) (h : old.isPrefixOf (b :: l) = false) : repAll old new (b :: l) = b :: repAll old new l := by
  have e : Lib.index (b :: l) old = if Lib.index l old == -1 then -1 else Lib.index l old + 1 := by
    conv => lhs; unfold Lib.index
    rw [h]
    rfl
  have hge := Lib.index_ge l old
  by_cases hm : Lib.index l old = -1
  · rw [repAll_miss hm, repAll_miss (by rw [e, hm]; rfl)]
  · obtain ⟨i, hi⟩ : ∃ i : Nat, Lib.index l old = i := ⟨(Lib.index l old).toNat, by omega⟩
    have e2 : Lib.index (b :: l) old = ((i + 1 : Nat) : Int) := by
      rw [e, if_neg (by simpa using hm), hi]; rfl
    rw [repAll_hit ho hi, repAll_hit ho e2]
    simp [Nat.add_right_comm]

theorem replaceAll_eq (l old new : List UInt8) (h : old ≠ new) : Lib.replaceAll l old new = repAll old new l := by
  unfold Lib.replaceAll Lib.replace Lib.replaceNum repAll
  rw [if_neg (by simpa using h), if_pos (.inl (by decide))]

theorem replaceAll_dbl (l : List UInt8) : Lib.replaceAll l [39] [39, 39] = Lx.dbl l := by
  rw [replaceAll_eq _ _ _ (by decide)]
  induction l with
  | nil => exact repAll_nil (by decide)
  | cons b l ih =>
    by_cases h : b = 39
    · subst h
      rw [repAll_pre (by decide) rfl]
      simp [Lx.dbl, ih]
    · rw [repAll_cons (by decide) (by simpa [List.isPrefixOf] using fun e => h e.symm), ih]
      simp [Lx.dbl, h]
theorem undbl_cons (b : UInt8) (l : List UInt8) (h : b ≠ 39 ∨ l.head? ≠ some 39) : Lx.undbl (b :: l) = b :: Lx.undbl l := by
  cases l with
  | nil => unfold Lx.undbl; split <;> simp_all [Lx.undbl]
  | cons c l =>
    conv => lhs; unfold Lx.undbl
    split <;> simp_all
theorem replaceAll_undbl (l : List UInt8) : Lib.replaceAll l [39, 39] [39] = Lx.undbl l := by
  rw [replaceAll_eq _ _ _ (by decide)]
  obtain ⟨n, hn⟩ : ∃ n, l.length ≤ n := ⟨_, Nat.le_refl _⟩
  induction n generalizing l with
  | zero =>
    obtain rfl : l = [] := List.eq_nil_of_length_eq_zero (by omega)
    exact repAll_nil (by decide)
  | succ n ih =>
    cases l with
    | nil => exact repAll_nil (by decide)
    | cons b l =>
      simp only [List.length_cons] at hn
      cases hp : [39, 39].isPrefixOf (b :: l)
      · rw [repAll_cons (by decide) hp, ih l (by omega), undbl_cons]
        cases l with
        | nil => exact .inr (by simp)
        | cons c l =>
          by_cases h : b = 39
          · refine .inr ?_
            intro e
            simp at e
            subst h; subst e
            simp at hp
          · exact .inl h
      · cases l with
        | nil => simp [List.isPrefixOf] at hp
        | cons c l =>
          have hb : b = 39 ∧ c = 39 := by
            simp [List.isPrefixOf] at hp
            exact ⟨hp.1.symm, hp.2.symm⟩
          obtain ⟨rfl, rfl⟩ := hb
          rw [repAll_pre (by decide) rfl]
          simp only [List.length_cons] at hn
          show [39] ++ repAll [39, 39] [39] l = _
          rw [ih l (by omega)]
          rfl
end Go.Proofs.YtcjcbhdildcceaaGreatDoor
