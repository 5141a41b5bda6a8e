/- Plain: what Print writes. Nothing is said of the program here. -/
import Derived.Test.YtcjcbhdildcceaaGreatDoorLexPl
namespace Go.Proofs.YtcjcbhdildcceaaGreatDoor

/-- The text of the first k tokens of a list; none, if a dot among them may not stand. -/
def Lx.printN (l : List Tk) : Nat → Option (List UInt8)
  | 0 => some []
  | k + 1 => match printN l k with
    | none => none
    | some acc => match l[k]? with
      | none => some acc
      | some t =>
        if t.kind = 9 then (if dotMay l k then some (acc ++ spell t.kind t.text) else none)
        else if 0 < k ∧ (l[k - 1]?.map Tk.kind) ≠ some 9 then some (acc ++ [32] ++ spell t.kind t.text)
        else some (acc ++ spell t.kind t.text)
def Lx.printEnd (r : Option (List UInt8)) : List UInt8 × Nat :=
  match r with
  | none => ([], 13)
  | some x => if 20000 < x.length then ([], 2) else (x, 0)
/-- What Print answers. -/
def Lx.printed (l : List Tk) : List UInt8 × Nat := if check l ≠ 0 then ([], check l) else printEnd (printN l l.length)

theorem printN_none (l : List Lx.Tk) (k : Nat) (h : Lx.printN l k = none) : ∀ n, Lx.printN l (k + n) = none
  | 0 => h
  | n + 1 => by
    have := printN_none l k h n
    rw [← Nat.add_assoc]
    unfold Lx.printN
    rw [this]
theorem printN_end (l : List Lx.Tk) (k : Nat) (hk : k ≤ l.length) (h : Lx.printN l k = none) : Lx.printN l l.length = none := by
  have := printN_none l k h (l.length - k)
  rwa [show k + (l.length - k) = l.length by omega] at this
theorem printN_dot (l : List Lx.Tk) (k : Nat) (t : Lx.Tk) (acc : List UInt8) (h : Lx.printN l k = some acc) (ht : l[k]? = some t) (h9 : t.kind = 9) :
    Lx.printN l (k + 1) = if Lx.dotMay l k then some (acc ++ Lx.spell t.kind t.text) else none := by
  conv => lhs; unfold Lx.printN
  rw [h]; simp only [ht]; rw [if_pos h9]
theorem printN_space (l : List Lx.Tk) (k : Nat) (t p : Lx.Tk) (acc : List UInt8) (h : Lx.printN l k = some acc) (ht : l[k]? = some t) (h9 : t.kind ≠ 9) (hk : 0 < k) (hp : l[k - 1]? = some p) (hp9 : p.kind ≠ 9) :
    Lx.printN l (k + 1) = some (acc ++ [32] ++ Lx.spell t.kind t.text) := by
  conv => lhs; unfold Lx.printN
  rw [h]; simp only [ht]; rw [if_neg h9, if_pos ⟨hk, by rw [hp]; simp only [Option.map_some, ne_eq, Option.some.injEq]; exact hp9⟩]
theorem printN_joined (l : List Lx.Tk) (k : Nat) (t : Lx.Tk) (acc : List UInt8) (h : Lx.printN l k = some acc) (ht : l[k]? = some t) (h9 : t.kind ≠ 9) (hk : k = 0 ∨ ∃ p, l[k - 1]? = some p ∧ p.kind = 9) :
    Lx.printN l (k + 1) = some (acc ++ Lx.spell t.kind t.text) := by
  conv => lhs; unfold Lx.printN
  rw [h]; simp only [ht]; rw [if_neg h9, if_neg]
  rintro ⟨h1, h2⟩
  rcases hk with rfl | ⟨p, hp, hp9⟩
  · omega
  · rw [hp] at h2; simp only [Option.map_some, ne_eq, Option.some.injEq] at h2; exact h2 hp9
theorem check_all (l : List Lx.Tk) (h : Lx.check l = 0) : l.length ≤ 6000 ∧ ∀ t ∈ l, Lx.Tk.right t = true := by
  unfold Lx.check at h
  split at h
  · cases h
  · rename_i h1
    split at h
    · cases h
    · rename_i h2
      refine ⟨by omega, fun t ht => ?_⟩
      have hp := List.takeWhile_prefix Lx.Tk.right (l := l)
      have := hp.eq_of_length (by have := hp.length_le; omega)
      rw [← this] at ht
      exact mem_tw ht
theorem right_spell_ne (t : Lx.Tk) (h : Lx.Tk.right t = true) : Lx.spell t.kind t.text ≠ [] := by
  unfold Lx.Tk.right Lx.right at h
  rw [Bool.and_eq_true] at h
  by_cases h9 : t.kind = 9
  · have h2 := h.2
    unfold Lx.rightText at h2
    rw [if_neg (by omega), if_pos h9, beq_iff_eq] at h2
    unfold Lx.spell
    rw [if_neg (by omega), h2]; simp
  · exact (sole_right _ _ h.2 h9).2
end Go.Proofs.YtcjcbhdildcceaaGreatDoor
