/- The arithmetic of the laws of package big: what holds of numbers of at most 400 digits. Conditions: those in the statements. -/
import Derived.Test.YthbfbpbppjkoeaaGreatDoorBigLt
namespace Go.Proofs.YthbfbpbppjkoeaaGreatDoor
open Go.RowKit Go.Shelf
set_option exponentiation.threshold 500
set_option maxRecDepth 100000

theorem few_iff {z : Int} : Few z ↔ z.natAbs < 10 ^ 400 := by
  unfold Few
  constructor
  · intro h
    exact Nat.lt_of_lt_of_le (Lib.lt_pow_nDigits z.natAbs) (Nat.pow_le_pow_right (by decide) h)
  · intro h
    exact few_lt h
theorem few_zero : Few 0 := few_20 (by decide)
theorem few_one : Few 1 := few_20 (by decide)
theorem few_neg {z : Int} (h : Few z) : Few (-z) := by rw [few_iff] at *; omega
theorem few_le {a b : Int} (h : a.natAbs ≤ b.natAbs) (hb : Few b) : Few a := by rw [few_iff] at *; omega

/-- Quotients. -/
theorem fl_rest_sign {x y : Int} (h0 : x.fmod y ≠ 0) (hy : y ≠ 0) : decide (x.fmod y < 0) = decide (y < 0) := by
  have := Bg.fmod_range x hy
  rw [decide_eq_decide]; omega
theorem fl_near {x y : Int} (hy : 0 < y) : x.fmod y < y := by have := Bg.fmod_range x (show y ≠ 0 by omega); omega
theorem fl_near_neg {x y : Int} (hy : y < 0) : y < x.fmod y := by have := Bg.fmod_range x (show y ≠ 0 by omega); omega
theorem fl_parts (x y : Int) : x - x.fmod y = y * x.fdiv y := by have := Int.mul_fdiv_add_fmod x y; omega
theorem fl_back (x : Int) {y : Int} (hy : y ≠ 0) : (x * y).fdiv y = x := Int.mul_fdiv_cancel x hy
theorem fl_none (x y : Int) : (x * y).fmod y = 0 := Int.mul_fmod_left x y

/-- Roots. -/
theorem few_root {N x : Nat} (h : Few N) (hx : Bg.IsRoot N x) : Few ((x : Int) + 1) := by
  rw [few_iff] at *
  have h1 := hx.1
  have : x < 10 ^ 200 := by
    rcases Nat.lt_or_ge x (10 ^ 200) with h' | h'
    · exact h'
    · have := Nat.mul_le_mul h' h'
      rw [← Nat.pow_add] at this
      simp only [Int.natAbs_natCast] at h
      omega
  have h2 : (10 : Nat) ^ 200 < 10 ^ 400 := Nat.pow_lt_pow_right (by decide) (by decide)
  omega
end Go.Proofs.YthbfbpbppjkoeaaGreatDoor
