/- What Add, Sub, Mul, Div, Mod, Gcd of package big answer; small numbers. Conditions: those in the statements. -/
import Derived.Test.YthbfbpbppjkoeaaGreatDoorBigRc
import Derived.Test.YthbfbpbppjkoeaaGreatDoorBigAp
namespace Go.Proofs.YthbfbpbppjkoeaaGreatDoor
open Go.RowKit Go.Shelf
set_option exponentiation.threshold 500
set_option maxRecDepth 100000

theorem few_int {x : Int} (h : In64Z x) : Few x := by
  refine few_lt (Nat.lt_of_lt_of_le (m := 10 ^ 20) ?_ (Nat.pow_le_pow_right (by decide) (by decide)))
  have h1 := h.1
  have h2 := h.2
  have : (10 : Nat) ^ 20 = 100000000000000000000 := by decide
  omega
theorem isNum_int {x : Int} (h : In64Z x) : IsNum 1 x [] x := ⟨few_int h, by unfold canonV; rw [if_pos h]⟩
theorem isNum_big {x : Int} (hf : Few x) (h : ¬ In64Z x) : IsNum 2 0 (Lib.itoa x) x := ⟨hf, by unfold canonV; rw [if_neg h]⟩
/-- Each number that is not too large is a value's. -/
theorem isNum_canon {x : Int} (hf : Few x) : ∃ K N T, canonV x = valV K N T ∧ IsNum K N T x := by
  by_cases h : In64Z x
  · exact ⟨1, x, [], (isNum_int h).2.symm, isNum_int h⟩
  · exact ⟨2, 0, _, (isNum_big hf h).2.symm, isNum_big hf h⟩
theorem canon_inj {x y : Int} (h : canonV x = canonV y) : x = y := by
  unfold canonV valV at h
  split at h <;> split at h
  · simpa using h
  · simp at h
  · simp at h
  · exact Bg.itoa_inj (by simpa using h)
theorem isNum_unique {K N x y : Int} {T : List UInt8} (h : IsNum K N T x) (h' : IsNum K N T y) : x = y := canon_inj (h.2.symm.trans h'.2)
theorem retLim_valV (z : Int) : ∃ (A B : Int) (S : List UInt8) (E : Int), retLimV z = .tuple #[valV A B S, .int .i64 E] := retLim_lit z

theorem Add_ok (K N x K' N' y : Int) (T T' : List UInt8) (h : IsNum K N T x) (h' : IsNum K' N' T' y) (w : World) (hw : Wd w) :
    Calls Tryz.prog 25 #[valV K N T, valV K' N' T'] w (RetLim (x + y) w) := by
  obtain ⟨A, B, S, E, hl⟩ := retLim_valV (x + y)
  refine (Add_c K N K' N' A B E T T' S w fun W hB => (reckoned_add K N x K' N' y T T' h h' W (hw.below hB)).mono fun e w' hr => ⟨by rw [hr.eq, hl], hr.2⟩).mono ?_
  rintro e w' ⟨he, hb⟩
  exact RetLim.mk (by rw [he, hl]) hb
theorem Add_no (K N K' N' : Int) (T T' : List UInt8) (h : (∀ z, ¬ IsNum K N T z) ∨ ∀ z, ¬ IsNum K' N' T' z) (hN : In64Z N) (hN' : In64Z N') (w : World) (hw : Wd w) :
    Calls Tryz.prog 25 #[valV K N T, valV K' N' T'] w fun e w' => e = .returned (.tuple #[valV 0 0 [], .int .i64 31]) ∧ Below w.heap.size w w' :=
  Add_c K N K' N' 0 0 31 T T' [] w fun W hB => reckoned_no 0 K N K' N' T T' h hN hN' W (hw.below hB)

theorem Sub_ok (K N x K' N' y : Int) (T T' : List UInt8) (h : IsNum K N T x) (h' : IsNum K' N' T' y) (w : World) (hw : Wd w) :
    Calls Tryz.prog 27 #[valV K N T, valV K' N' T'] w (RetLim (x - y) w) := by
  obtain ⟨A, B, S, E, hl⟩ := retLim_valV (x - y)
  refine (Sub_c K N K' N' A B E T T' S w fun W hB => (reckoned_sub K N x K' N' y T T' h h' W (hw.below hB)).mono fun e w' hr => ⟨by rw [hr.eq, hl], hr.2⟩).mono ?_
  rintro e w' ⟨he, hb⟩
  exact RetLim.mk (by rw [he, hl]) hb
theorem Sub_no (K N K' N' : Int) (T T' : List UInt8) (h : (∀ z, ¬ IsNum K N T z) ∨ ∀ z, ¬ IsNum K' N' T' z) (hN : In64Z N) (hN' : In64Z N') (w : World) (hw : Wd w) :
    Calls Tryz.prog 27 #[valV K N T, valV K' N' T'] w fun e w' => e = .returned (.tuple #[valV 0 0 [], .int .i64 31]) ∧ Below w.heap.size w w' :=
  Sub_c K N K' N' 0 0 31 T T' [] w fun W hB => reckoned_no 1 K N K' N' T T' h hN hN' W (hw.below hB)

theorem Mul_ok (K N x K' N' y : Int) (T T' : List UInt8) (h : IsNum K N T x) (h' : IsNum K' N' T' y) (w : World) (hw : Wd w) :
    Calls Tryz.prog 29 #[valV K N T, valV K' N' T'] w (RetLim (x * y) w) := by
  obtain ⟨A, B, S, E, hl⟩ := retLim_valV (x * y)
  refine (Mul_c K N K' N' A B E T T' S w fun W hB => (reckoned_mul K N x K' N' y T T' h h' W (hw.below hB)).mono fun e w' hr => ⟨by rw [hr.eq, hl], hr.2⟩).mono ?_
  rintro e w' ⟨he, hb⟩
  exact RetLim.mk (by rw [he, hl]) hb
theorem Mul_no (K N K' N' : Int) (T T' : List UInt8) (h : (∀ z, ¬ IsNum K N T z) ∨ ∀ z, ¬ IsNum K' N' T' z) (hN : In64Z N) (hN' : In64Z N') (w : World) (hw : Wd w) :
    Calls Tryz.prog 29 #[valV K N T, valV K' N' T'] w fun e w' => e = .returned (.tuple #[valV 0 0 [], .int .i64 31]) ∧ Below w.heap.size w w' :=
  Mul_c K N K' N' 0 0 31 T T' [] w fun W hB => reckoned_no 2 K N K' N' T T' h hN hN' W (hw.below hB)

theorem Div_ok (K N x K' N' y : Int) (T T' : List UInt8) (h : IsNum K N T x) (h' : IsNum K' N' T' y) (hy0 : y ≠ 0) (w : World) (hw : Wd w) :
    Calls Tryz.prog 33 #[valV K N T, valV K' N' T'] w (RetLim (x.fdiv y) w) := by
  obtain ⟨A, B, S, E, hl⟩ := retLim_valV (x.fdiv y)
  refine (Div_c K N K' N' A B E T T' S w fun W hB => (reckoned_div K N x K' N' y T T' h h' hy0 W (hw.below hB)).mono fun e w' hr => ⟨by rw [hr.eq, hl], hr.2⟩).mono ?_
  rintro e w' ⟨he, hb⟩
  exact RetLim.mk (by rw [he, hl]) hb
theorem Div_no (K N K' N' : Int) (T T' : List UInt8) (h : (∀ z, ¬ IsNum K N T z) ∨ ∀ z, ¬ IsNum K' N' T' z) (hN : In64Z N) (hN' : In64Z N') (w : World) (hw : Wd w) :
    Calls Tryz.prog 33 #[valV K N T, valV K' N' T'] w fun e w' => e = .returned (.tuple #[valV 0 0 [], .int .i64 31]) ∧ Below w.heap.size w w' :=
  Div_c K N K' N' 0 0 31 T T' [] w fun W hB => reckoned_no 3 K N K' N' T T' h hN hN' W (hw.below hB)
theorem Div_zero (K N x K' N' y : Int) (T T' : List UInt8) (h : IsNum K N T x) (h' : IsNum K' N' T' y) (hy0 : y = 0) (w : World) (hw : Wd w) :
    Calls Tryz.prog 33 #[valV K N T, valV K' N' T'] w fun e w' => e = .returned (.tuple #[valV 0 0 [], .int .i64 30]) ∧ Below w.heap.size w w' :=
  Div_c K N K' N' 0 0 30 T T' [] w fun W hB => reckoned_div_zero K N x K' N' y T T' h h' hy0 W (hw.below hB)

theorem Mod_ok (K N x K' N' y : Int) (T T' : List UInt8) (h : IsNum K N T x) (h' : IsNum K' N' T' y) (hy0 : y ≠ 0) (w : World) (hw : Wd w) :
    Calls Tryz.prog 35 #[valV K N T, valV K' N' T'] w (RetLim (x.fmod y) w) := by
  obtain ⟨A, B, S, E, hl⟩ := retLim_valV (x.fmod y)
  refine (Mod_c K N K' N' A B E T T' S w fun W hB => (reckoned_mod K N x K' N' y T T' h h' hy0 W (hw.below hB)).mono fun e w' hr => ⟨by rw [hr.eq, hl], hr.2⟩).mono ?_
  rintro e w' ⟨he, hb⟩
  exact RetLim.mk (by rw [he, hl]) hb
theorem Mod_no (K N K' N' : Int) (T T' : List UInt8) (h : (∀ z, ¬ IsNum K N T z) ∨ ∀ z, ¬ IsNum K' N' T' z) (hN : In64Z N) (hN' : In64Z N') (w : World) (hw : Wd w) :
    Calls Tryz.prog 35 #[valV K N T, valV K' N' T'] w fun e w' => e = .returned (.tuple #[valV 0 0 [], .int .i64 31]) ∧ Below w.heap.size w w' :=
  Mod_c K N K' N' 0 0 31 T T' [] w fun W hB => reckoned_no 4 K N K' N' T T' h hN hN' W (hw.below hB)
theorem Mod_zero (K N x K' N' y : Int) (T T' : List UInt8) (h : IsNum K N T x) (h' : IsNum K' N' T' y) (hy0 : y = 0) (w : World) (hw : Wd w) :
    Calls Tryz.prog 35 #[valV K N T, valV K' N' T'] w fun e w' => e = .returned (.tuple #[valV 0 0 [], .int .i64 30]) ∧ Below w.heap.size w w' :=
  Mod_c K N K' N' 0 0 30 T T' [] w fun W hB => reckoned_mod_zero K N x K' N' y T T' h h' hy0 W (hw.below hB)

theorem Gcd_ok (K N x K' N' y : Int) (T T' : List UInt8) (h : IsNum K N T x) (h' : IsNum K' N' T' y) (w : World) (hw : Wd w) :
    Calls Tryz.prog 39 #[valV K N T, valV K' N' T'] w (RetLim ((Int.gcd x y : Int)) w) := by
  obtain ⟨A, B, S, E, hl⟩ := retLim_valV ((Int.gcd x y : Int))
  refine (Gcd_c K N K' N' A B E T T' S w fun W hB => (reckoned_gcd K N x K' N' y T T' h h' W (hw.below hB)).mono fun e w' hr => ⟨by rw [hr.eq, hl], hr.2⟩).mono ?_
  rintro e w' ⟨he, hb⟩
  exact RetLim.mk (by rw [he, hl]) hb
theorem Gcd_no (K N K' N' : Int) (T T' : List UInt8) (h : (∀ z, ¬ IsNum K N T z) ∨ ∀ z, ¬ IsNum K' N' T' z) (hN : In64Z N) (hN' : In64Z N') (w : World) (hw : Wd w) :
    Calls Tryz.prog 39 #[valV K N T, valV K' N' T'] w fun e w' => e = .returned (.tuple #[valV 0 0 [], .int .i64 31]) ∧ Below w.heap.size w w' :=
  Gcd_c K N K' N' 0 0 31 T T' [] w fun W hB => reckoned_no 5 K N K' N' T T' h hN hN' W (hw.below hB)
end Go.Proofs.YthbfbpbppjkoeaaGreatDoor
