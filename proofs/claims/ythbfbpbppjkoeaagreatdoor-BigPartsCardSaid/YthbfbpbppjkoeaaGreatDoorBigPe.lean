/- Plain facts of package big: digits written in decimal, one behind the other. Nothing is said of the program here. -/
import Derived.Test.YthbfbpbppjkoeaaGreatDoorBigPc
namespace Go.Proofs.YthbfbpbppjkoeaaGreatDoor.Bg
open Go

/-- What is written of digits, the highest first. -/
def decF (n L : Nat) (pre : List (Fin L)) : List UInt8 := pre.foldl (fun t i => t ++ padN 6 (n / 1000000 ^ i.val % 1000000)) []
theorem decF_nil (n L : Nat) : decF n L [] = [] := rfl
theorem decF_snoc (n L : Nat) (pre : List (Fin L)) (i : Fin L) : decF n L (pre ++ [i]) = decF n L pre ++ padN 6 (n / 1000000 ^ i.val % 1000000) := by
  unfold decF; rw [List.foldl_append]; rfl
theorem decF_length (n L : Nat) (pre : List (Fin L)) : (decF n L pre).length = 6 * pre.length := by
  rw [← List.reverse_reverse pre]
  induction pre.reverse with
  | nil => rfl
  | cons i r ih => rw [List.reverse_cons, decF_snoc, List.length_append, ih, padN_length, List.length_append]; simp; omega
theorem decF_take (n L : Nat) (hn : n < 1000000 ^ L) (bk : List (Fin L)) (hbk : ∀ k (h : k < L), bk.take (k + 1) = bk.take k ++ [⟨L - 1 - k, by omega⟩]) :
    ∀ k, k ≤ L → decF n L (bk.take k) = padN (6 * k) (n / 1000000 ^ (L - k))
  | 0, _ => rfl
  | k + 1, hk => by
    rw [hbk k (by omega), decF_snoc, decF_take n L hn bk hbk k (by omega)]
    have hlt : n / 1000000 ^ (L - 1 - k) % 1000000 < 10 ^ 6 := Nat.mod_lt _ (by decide)
    rw [padN_append _ _ _ _ hlt]
    have e : n / 1000000 ^ (L - k) = n / 1000000 ^ (L - 1 - k) / 1000000 := by
      rw [show L - k = (L - 1 - k) + 1 by omega, Nat.pow_succ, ← Nat.div_div_eq_div_mul]
    rw [e, show L - (k + 1) = L - 1 - k by omega, show 6 * (k + 1) = 6 * k + 6 by omega]
    congr 1
    generalize n / 1000000 ^ (L - 1 - k) = X
    omega
theorem decF_all (n L : Nat) (hL : (ds n).length = L) (bk : List (Fin L)) (hl : bk.length = L) (hbk : ∀ k (h : k < L), bk.take (k + 1) = bk.take k ++ [⟨L - 1 - k, by omega⟩]) :
    Lib.trimLeftS (decF n L bk) [48] = if n = 0 then [] else Lib.decDigits n := by
  have hn : n < 1000000 ^ L := by rw [← hL]; exact lt_pow_len n
  have h := decF_take n L hn bk hbk L (Nat.le_refl _)
  rw [List.take_of_length_le (by omega), Nat.sub_self, Nat.pow_zero, Nat.div_one] at h
  rw [h, trim_pad _ _ (by rw [← pow6]; exact hn)]
theorem itoa_mill (x : Nat) (h : x < 1000000) : Lib.itoa ((1000000 : Int) + x) = 49 :: padN 6 x := by
  have e : ((1000000 : Int) + x) = ((1000000 + x : Nat) : Int) := by omega
  rw [e, itoa_million]
  have h1 : Lib.decDigits (1000000 + x) = padN 7 (1 * 10 ^ 6 + x) := by rw [padN_digits, nDigits_million h]
  rw [h1, ← padN_append 1 6 1 x (by simpa using h)]
  rfl
end Go.Proofs.YthbfbpbppjkoeaaGreatDoor.Bg
