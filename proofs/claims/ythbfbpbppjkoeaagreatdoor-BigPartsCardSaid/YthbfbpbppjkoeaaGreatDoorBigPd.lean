/- Plain facts of package big: the quotient, digit by digit, over whatever digits come. Nothing is said of the program here. -/
import Derived.Test.YthbfbpbppjkoeaaGreatDoorBigPa
namespace Go.Proofs.YthbfbpbppjkoeaaGreatDoor.Bg

theorem snoc_ind {α : Type} {P : List α → Prop} (h0 : P []) (h1 : ∀ l x, P l → P (l ++ [x])) (l : List α) : P l := by
  rw [← List.reverse_reverse l]
  induction l.reverse with
  | nil => exact h0
  | cons x r ih => rw [List.reverse_cons]; exact h1 _ _ ih
/-- One digit of a quotient: the rest, and the quotient's digits. -/
def stepQ (D E : Nat) (s : Nat × List Int) (i : Nat) : Nat × List Int :=
  ((s.1 * 1000000 + D / 1000000 ^ i % 1000000) % E, s.2.set i (((s.1 * 1000000 + D / 1000000 ^ i % 1000000) / E : Nat) : Int))
def quoF (D E L : Nat) (pre : List (Fin L)) : Nat × List Int := pre.foldl (fun s i => stepQ D E s i.val) (0, List.replicate L 0)
theorem quoF_nil (D E L : Nat) : quoF D E L [] = (0, List.replicate L 0) := rfl
theorem quoF_snoc (D E L : Nat) (pre : List (Fin L)) (i : Fin L) : quoF D E L (pre ++ [i]) = stepQ D E (quoF D E L pre) i.val := by
  unfold quoF; rw [List.foldl_append]; rfl
theorem quoF_lt (D E L : Nat) (hE : 0 < E) (pre : List (Fin L)) : (quoF D E L pre).1 < E := by
  refine snoc_ind (P := fun pre => (quoF D E L pre).1 < E) hE (fun pre i _ => ?_) pre
  rw [quoF_snoc]; exact Nat.mod_lt _ hE
theorem quoF_len (D E L : Nat) (pre : List (Fin L)) : (quoF D E L pre).2.length = L := by
  refine snoc_ind (P := fun pre => (quoF D E L pre).2.length = L) (by simp [quoF_nil]) (fun pre i ih => ?_) pre
  rw [quoF_snoc]; unfold stepQ; simpa using ih
theorem digit_small (D i : Nat) : D / 1000000 ^ i % 1000000 < 1000000 := Nat.mod_lt _ (by decide)
theorem quot_small {r d E : Nat} (h : r < E) (hd : d < 1000000) : (r * 1000000 + d) / E < 1000000 := by
  refine Nat.div_lt_of_lt_mul ?_
  have : (r + 1) * 1000000 ≤ E * 1000000 := Nat.mul_le_mul_right _ h
  omega
theorem quoF_bd (D E L : Nat) (hE : 0 < E) (pre : List (Fin L)) : ∀ x ∈ (quoF D E L pre).2, 0 ≤ x ∧ x ≤ 1000000 := by
  refine snoc_ind (P := fun pre => ∀ x ∈ (quoF D E L pre).2, 0 ≤ x ∧ x ≤ 1000000) ?_ (fun pre i ih => ?_) pre
  · intro x hx; rw [quoF_nil] at hx; obtain ⟨_, rfl⟩ := List.mem_replicate.1 hx; decide
  · rw [quoF_snoc]
    intro x hx
    rcases List.mem_or_eq_of_mem_set hx with h | h
    · exact ih x h
    · have := quot_small (quoF_lt D E L hE pre) (digit_small D i.val)
      subst h
      generalize ((quoF D E L pre).1 * 1000000 + D / 1000000 ^ i.val % 1000000) / E = t at *
      omega
theorem rest_len {R E : Nat} (hE : 0 < E) (h : R / E < 1000000) : (ds R).length ≤ (ds E).length + 1 := by
  have h1 := lt_pow_len E
  have h2 := (Nat.div_lt_iff_lt_mul hE).1 h
  refine ds_len_le ?_
  rw [Nat.pow_succ]
  generalize 1000000 ^ (ds E).length = p at *
  omega
/-- Digit by digit from the highest one on. -/
theorem quoF_take (D E L : Nat) (hE : 0 < E) (hD : D < 1000000 ^ L) (bk : List (Fin L)) (hbk : ∀ k (h : k < L), bk.take (k + 1) = bk.take k ++ [⟨L - 1 - k, by omega⟩]) :
    ∀ k, k ≤ L → (quoF D E L (bk.take k)).1 = D / 1000000 ^ (L - k) % E ∧ valI (quoF D E L (bk.take k)).2 = ((1000000 ^ (L - k) * (D / 1000000 ^ (L - k) / E) : Nat) : Int) ∧
      ∀ j, j < L - k → (quoF D E L (bk.take k)).2[j]? = some 0
  | 0, _ => by
    rw [List.take_zero, quoF_nil, Nat.sub_zero, Nat.div_eq_of_lt hD]
    refine ⟨by simp, by simp [valI_replicate], fun j hj => ?_⟩
    simp [hj]
  | k + 1, hk => by
    obtain ⟨h1, h2, h3⟩ := quoF_take D E L hE hD bk hbk k (by omega)
    rw [hbk k (by omega), quoF_snoc]
    unfold stepQ
    have ei : L - k = (L - 1 - k) + 1 := by omega
    have ej : L - (k + 1) = L - 1 - k := by omega
    rw [h1, ej]
    rw [ei] at h2 h3 ⊢
    obtain ⟨o1, o2, o3⟩ := over_step D E (L - 1 - k) hE
    refine ⟨o2, ?_, fun j hj => ?_⟩
    · have h0 := h3 (L - 1 - k) (by omega)
      have hlen := quoF_len D E L (bk.take k)
      have := valI_set (quoF D E L (bk.take k)).2 (L - 1 - k) (((D / 1000000 ^ (L - 1 - k + 1) % E * 1000000 + D / 1000000 ^ (L - 1 - k) % 1000000) / E : Nat) : Int) (by omega)
      rw [h0, Option.getD_some, Int.zero_add] at this
      dsimp only
      rw [this, h2, ← o3]
      generalize D / 1000000 ^ (L - 1 - k + 1) / E = A
      generalize (D / 1000000 ^ (L - 1 - k + 1) % E * 1000000 + D / 1000000 ^ (L - 1 - k) % 1000000) / E = Q
      rw [Nat.pow_succ]
      have hp : ((1000000 ^ (L - 1 - k) : Nat) : Int) = (1000000 : Int) ^ (L - 1 - k) := by simp
      rw [← hp]
      generalize 1000000 ^ (L - 1 - k) = P
      rw [← Int.natCast_mul, ← Int.natCast_add]
      congr 1
      rw [Nat.mul_add, Nat.mul_assoc, Nat.mul_comm Q P]
    · dsimp only
      rw [List.getElem?_set, if_neg (by omega)]
      exact h3 j (by omega)
end Go.Proofs.YthbfbpbppjkoeaaGreatDoor.Bg
