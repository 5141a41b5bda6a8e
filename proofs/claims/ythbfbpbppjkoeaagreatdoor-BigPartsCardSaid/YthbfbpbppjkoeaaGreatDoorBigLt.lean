/- What the calls at the head of the laws of package big answer. Conditions: those in the statements. -/
import Derived.Test.YthbfbpbppjkoeaaGreatDoorBigHe
import Derived.Test.YthbfbpbppjkoeaaGreatDoorBigRa
import Derived.Test.YthbfbpbppjkoeaaGreatDoorBigPw
namespace Go.Proofs.YthbfbpbppjkoeaaGreatDoor
open Go.RowKit Go.Shelf
set_option exponentiation.threshold 500
set_option maxRecDepth 100000

theorem lit_big (l : List UInt8) (n : Nat) (hd : ∀ b ∈ l, Bg.isDig b = true) (b0 : UInt8) (r : List UInt8) (hl : l = b0 :: r) (h0 : b0 ≠ 48) (hv : Bg.dv l = n) (hn : ¬ In64Z n) : canonV n = valV 2 0 l := by
  unfold canonV
  rw [if_neg hn]
  unfold Lib.itoa
  rw [if_neg (by omega), show (n : Int).toNat = n by omega, ← hv, Bg.decDigits_dv l hd b0 r hl (.inl h0)]
theorem lit_small (z : Int) (h : In64Z z) : canonV z = valV 1 z [] := by unfold canonV; rw [if_pos h]
theorem lim_lit {z : Int} {w w' : World} {e : Ending} {v : Value} (h : RetLim z w e w') (hf : Few z) (hc : canonV z = v) : e = .returned (.tuple #[v, .int .i64 0]) ∧ Below w.heap.size w w' := by
  refine ⟨?_, h.2⟩
  rw [h.eq]; unfold retLimV; rw [if_pos hf, hc]
theorem few_20 {z : Int} (h : z.natAbs ≤ 100000000000000000000) : Few z := by
  refine few_lt (Nat.lt_of_lt_of_le (m := 10 ^ 21) ?_ (Nat.pow_le_pow_right (by decide) (by decide)))
  have : (10 : Nat) ^ 21 = 1000000000000000000000 := by decide
  omega
theorem in64 {z : Int} (h1 : -9223372036854775808 ≤ z) (h2 : z ≤ 9223372036854775807) : In64Z z := ⟨h1, h2⟩
theorem lit63 : canonV (9223372036854775808 : Nat) = valV 2 0 [57, 50, 50, 51, 51, 55, 50, 48, 51, 54, 56, 53, 52, 55, 55, 53, 56, 48, 56] := lit_big _ _ (by decide) 57 _ rfl (by decide) (by decide) (fun h => absurd h.2 (by decide))
theorem lit64 : canonV (18446744073709551616 : Nat) = valV 2 0 [49, 56, 52, 52, 54, 55, 52, 52, 48, 55, 51, 55, 48, 57, 53, 53, 49, 54, 49, 54] := lit_big _ _ (by decide) 49 _ rfl (by decide) (by decide) (fun h => absurd h.2 (by decide))

theorem aw_add (w : World) (hw : Wd w) : Calls Tryz.prog 25 #[valV 1 9223372036854775807 [], valV 1 1 []] w fun e w' => e = .returned (.tuple #[valV 2 0 [57, 50, 50, 51, 51, 55, 50, 48, 51, 54, 56, 53, 52, 55, 55, 53, 56, 48, 56], .int .i64 0]) ∧ Below w.heap.size w w' := by
  refine (Add_ok 1 9223372036854775807 9223372036854775807 1 1 1 [] [] (isNum_int (in64 (by decide) (by decide))) (isNum_int (in64 (by decide) (by decide))) w hw).mono ?_
  intro e w' h
  have hz : (9223372036854775807 + 1 : Int) = 9223372036854775808 := by decide
  rw [hz] at h
  exact lim_lit h (few_20 (by decide)) (lit63)

theorem aw_mul (w : World) (hw : Wd w) : Calls Tryz.prog 29 #[valV 1 4294967296 [], valV 1 4294967296 []] w fun e w' => e = .returned (.tuple #[valV 2 0 [49, 56, 52, 52, 54, 55, 52, 52, 48, 55, 51, 55, 48, 57, 53, 53, 49, 54, 49, 54], .int .i64 0]) ∧ Below w.heap.size w w' := by
  refine (Mul_ok 1 4294967296 4294967296 1 4294967296 4294967296 [] [] (isNum_int (in64 (by decide) (by decide))) (isNum_int (in64 (by decide) (by decide))) w hw).mono ?_
  intro e w' h
  have hz : (4294967296 * 4294967296 : Int) = 18446744073709551616 := by decide
  rw [hz] at h
  exact lim_lit h (few_20 (by decide)) (lit64)

theorem aw_div (w : World) (hw : Wd w) : Calls Tryz.prog 33 #[valV 1 7 [], valV 1 (-2) []] w fun e w' => e = .returned (.tuple #[valV 1 (-4) [], .int .i64 0]) ∧ Below w.heap.size w w' := by
  refine (Div_ok 1 7 7 1 (-2) (-2) [] [] (isNum_int (in64 (by decide) (by decide))) (isNum_int (in64 (by decide) (by decide))) (by decide) w hw).mono ?_
  intro e w' h
  have hz : (Int.fdiv 7 (-2) : Int) = (-4) := by decide
  rw [hz] at h
  exact lim_lit h (few_20 (by decide)) (lit_small (-4) (in64 (by decide) (by decide)))

theorem aw_mod (w : World) (hw : Wd w) : Calls Tryz.prog 35 #[valV 1 (-7) [], valV 1 2 []] w fun e w' => e = .returned (.tuple #[valV 1 1 [], .int .i64 0]) ∧ Below w.heap.size w w' := by
  refine (Mod_ok 1 (-7) (-7) 1 2 2 [] [] (isNum_int (in64 (by decide) (by decide))) (isNum_int (in64 (by decide) (by decide))) (by decide) w hw).mono ?_
  intro e w' h
  have hz : (Int.fmod (-7) 2 : Int) = 1 := by decide
  rw [hz] at h
  exact lim_lit h (few_20 (by decide)) (lit_small 1 (in64 (by decide) (by decide)))

theorem aw_gcd (w : World) (hw : Wd w) : Calls Tryz.prog 39 #[valV 1 12 [], valV 1 (-18) []] w fun e w' => e = .returned (.tuple #[valV 1 6 [], .int .i64 0]) ∧ Below w.heap.size w w' := by
  refine (Gcd_ok 1 12 12 1 (-18) (-18) [] [] (isNum_int (in64 (by decide) (by decide))) (isNum_int (in64 (by decide) (by decide))) w hw).mono ?_
  intro e w' h
  have hz : ((Int.gcd 12 (-18) : Int) : Int) = 6 := by decide
  rw [hz] at h
  exact lim_lit h (few_20 (by decide)) (lit_small 6 (in64 (by decide) (by decide)))

theorem aw_sub (w : World) (hw : Wd w) : Calls Tryz.prog 27 #[valV 2 0 [57, 50, 50, 51, 51, 55, 50, 48, 51, 54, 56, 53, 52, 55, 55, 53, 56, 48, 56], valV 1 1 []] w fun e w' => e = .returned (.tuple #[valV 1 9223372036854775807 [], .int .i64 0]) ∧ Below w.heap.size w w' := by
  have hn : IsNum 2 0 [57, 50, 50, 51, 51, 55, 50, 48, 51, 54, 56, 53, 52, 55, 55, 53, 56, 48, 56] 9223372036854775808 := ⟨few_20 (by decide), lit63.symm⟩
  refine (Sub_ok 2 0 9223372036854775808 1 1 1 [57, 50, 50, 51, 51, 55, 50, 48, 51, 54, 56, 53, 52, 55, 55, 53, 56, 48, 56] [] hn (isNum_int (in64 (by decide) (by decide))) w hw).mono ?_
  intro e w' h
  have hz : ((9223372036854775808 : Int) - 1) = 9223372036854775807 := by decide
  rw [hz] at h
  exact lim_lit h (few_20 (by decide)) (lit_small 9223372036854775807 (in64 (by decide) (by decide)))
theorem aw_pow (w : World) (hw : Wd w) : Calls Tryz.prog 37 #[valV 1 2 [], .int .i64 64] w fun e w' => e = .returned (.tuple #[valV 2 0 [49, 56, 52, 52, 54, 55, 52, 52, 48, 55, 51, 55, 48, 57, 53, 53, 49, 54, 49, 54], .int .i64 0]) ∧ Below w.heap.size w w' := by
  refine (Pow_ok 1 2 2 [] (isNum_int (in64 (by decide) (by decide))) 64 (by decide) w hw).mono ?_
  intro e w' h
  have hz : ((2 : Int) ^ 64) = 18446744073709551616 := by decide
  rw [hz] at h
  exact lim_lit h (few_20 (by decide)) lit64
theorem aw_root (w : World) (hw : Wd w) : Calls Tryz.prog 41 #[valV 1 99 []] w fun e w' => e = .returned (.tuple #[valV 1 9 [], .int .i64 0]) ∧ Below w.heap.size w w' := by
  refine (Root_ok 1 99 99 [] (isNum_int (in64 (by decide) (by decide))) 9 (by decide) ⟨by decide, by decide⟩ w hw).mono ?_
  rintro e w' ⟨h, hb⟩
  exact ⟨by rw [h]; rfl, hb⟩
theorem aw_of (w : World) : Calls Tryz.prog 17 #[.string ⟨#[48, 48, 55]⟩] w fun e w' => e = .returned (.tuple #[valV 0 0 [], .int .i64 31]) ∧ Below w.heap.size w w' :=
  of_no [48, 48, 55] (by decide) w
end Go.Proofs.YthbfbpbppjkoeaaGreatDoor
