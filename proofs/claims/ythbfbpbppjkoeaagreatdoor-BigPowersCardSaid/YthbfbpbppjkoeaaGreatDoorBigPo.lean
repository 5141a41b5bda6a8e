/- The walk of BigPowers of package proteuslaw03, case by case. Conditions: those in the statements. -/
import Derived.Test.YthbfbpbppjkoeaaGreatDoorBigLb
namespace Go.Proofs.YthbfbpbppjkoeaaGreatDoor
open Go.RowKit Go.Shelf
set_option exponentiation.threshold 500
set_option maxRecDepth 100000
set_option linter.unusedSimpArgs false
set_option linter.unusedVariables false
attribute [local irreducible] wpQuiet

theorem Ans.in64 {A B E z : Int} {S : List UInt8} (h : Ans A B S E z) : In64Z B := by
  rcases h with ⟨_, h⟩ | ⟨_, _, h, _⟩
  · exact IsNum.in64 h
  · rw [h]; exact ⟨by decide, by decide⟩
theorem not_num : ∀ z, ¬ IsNum 0 0 [] z := fun z hz => by
  rcases hz.cells with ⟨_, h, _⟩ | ⟨_, h, _⟩ <;> cases h
theorem pow_sum_eq (x : Int) (a b : Nat) : x ^ a * x ^ b = x ^ (a + b) := (Int.pow_add x a b).symm
theorem pow_mul_eq (x y : Int) (a : Nat) : x ^ a * y ^ a = (x * y) ^ a := Int.mul_pow.symm
theorem Pow_sum {K N z A B E p : Int} {T S : List UInt8} (h : IsNum K N T z) (a b : Nat) (hn : a + b ≤ 2000) (ha : Ans A B S E p) (hp : z ^ (a + b) = p) (w : World) (hw : Wd w) :
    Calls Tryz.prog 37 #[valV K N T, .int .i64 ((a : Int) + (b : Int))] w fun e w' => e = .returned (.tuple #[valV A B S, .int .i64 E]) ∧ Below w.heap.size w w' := by
  have := Pow_any h (a + b) hn ha hp w hw
  rwa [Int.natCast_add] at this
theorem Pow_gen (K N : Int) (T : List UInt8) (hN : In64Z N) (n : Nat) (hn : n ≤ 2000) : ∃ (A B : Int) (S : List UInt8) (E : Int),
    (In64Z B ∧ ∀ (w : World), Wd w → Calls Tryz.prog 37 #[valV K N T, .int .i64 n] w fun e w' => e = .returned (.tuple #[valV A B S, .int .i64 E]) ∧ Below w.heap.size w w') ∧
      ∀ x, IsNum K N T x → Ans A B S E (x ^ n) := by
  by_cases h1 : ∃ z, IsNum K N T z
  · obtain ⟨x, h1⟩ := h1
    obtain ⟨A, B, S, E, ha⟩ := ans_ex (x ^ n)
    exact ⟨A, B, S, E, ⟨ha.in64, fun w hw => Pow_any h1 n hn ha rfl w hw⟩, fun x' hx => by rw [isNum_unique hx h1]; exact ha⟩
  · exact ⟨0, 0, [], 31, ⟨in64 (by decide) (by decide), fun w hw => Pow_no K N T (fun z hz => h1 ⟨z, hz⟩) hN n w hw⟩, fun x' hx => absurd ⟨x', hx⟩ h1⟩
theorem Mul_gen (K N K' N' : Int) (T T' : List UInt8) (hN : In64Z N) (hN' : In64Z N') : ∃ (A B : Int) (S : List UInt8) (E : Int),
    (In64Z B ∧ ∀ (w : World), Wd w → Calls Tryz.prog 29 #[valV K N T, valV K' N' T'] w fun e w' => e = .returned (.tuple #[valV A B S, .int .i64 E]) ∧ Below w.heap.size w w') ∧
      ∀ x y, IsNum K N T x → IsNum K' N' T' y → Ans A B S E (x * y) := by
  by_cases h1 : ∃ z, IsNum K N T z
  · by_cases h2 : ∃ z, IsNum K' N' T' z
    · obtain ⟨x, h1⟩ := h1
      obtain ⟨y, h2⟩ := h2
      obtain ⟨A, B, S, E, ha⟩ := ans_ex (x * y)
      exact ⟨A, B, S, E, ⟨ha.in64, fun w hw => Mul_any h1 h2 ha rfl w hw⟩, fun x' y' hx hy => by rw [isNum_unique hx h1, isNum_unique hy h2]; exact ha⟩
    · exact ⟨0, 0, [], 31, ⟨in64 (by decide) (by decide), fun w hw => Mul_no K N K' N' T T' (.inr fun z hz => h2 ⟨z, hz⟩) hN hN' w hw⟩, fun x' y' hx hy => absurd ⟨y', hy⟩ h2⟩
  · exact ⟨0, 0, [], 31, ⟨in64 (by decide) (by decide), fun w hw => Mul_no K N K' N' T T' (.inl fun z hz => h1 ⟨z, hz⟩) hN hN' w hw⟩, fun x' y' hx hy => absurd ⟨x', hx⟩ h1⟩
set_option maxHeartbeats 4000000 in
theorem pow_long1 (K N K' N' : Int) (T T' : List UInt8) (n m : Int) (hx : ¬ T.length ≤ 800) (w : World) (hw : Wd w) :
    Calls Tryz.prog 10 #[valV K N T, valV K' N' T', .int .i64 n, .int .i64 m] w fun e w' => e = .returned (.bool true) ∧ Below w.heap.size w w' := by
  have H_0 := Lib.hid (Below.refl w.heap.size w)
  unfold valV
  go_enter Tryz.func10, Tryz.ntmps10
  have hb : Below (w).heap.size (w) ((w).alloc (.cells #[.int .i64 K, .int .i64 N, .string ⟨T.toArray⟩] 23)) := (Below.refl _ (w)).alloc (Nat.le_refl _) _
  have Bnew := VB.new (w) (.int .i64 K) (.int .i64 N) (.string ⟨T.toArray⟩)
  try simp only [World.size_alloc] at Bnew
  have H_1 := Lib.hid (H_0.out.trans (hb.mono H_0.out.size))
  clear hb H_0
  have Bx_1 := Lib.hid Bnew
  clear Bnew
  have hb : Below ((w).alloc (.cells #[.int .i64 K, .int .i64 N, .string ⟨T.toArray⟩] 23)).heap.size ((w).alloc (.cells #[.int .i64 K, .int .i64 N, .string ⟨T.toArray⟩] 23)) (((w).alloc (.cells #[.int .i64 K, .int .i64 N, .string ⟨T.toArray⟩] 23)).alloc (.cells #[.int .i64 K', .int .i64 N', .string ⟨T'.toArray⟩] 23)) := (Below.refl _ ((w).alloc (.cells #[.int .i64 K, .int .i64 N, .string ⟨T.toArray⟩] 23))).alloc (Nat.le_refl _) _
  have Bnew := VB.new ((w).alloc (.cells #[.int .i64 K, .int .i64 N, .string ⟨T.toArray⟩] 23)) (.int .i64 K') (.int .i64 N') (.string ⟨T'.toArray⟩)
  try simp only [World.size_alloc] at Bnew
  have Bx_2 := Lib.hid (Bx_1.out.below hb Bx_1.out.lt)
  have H_2 := Lib.hid (H_1.out.trans (hb.mono H_1.out.size))
  clear hb H_1 Bx_1
  have By_2 := Lib.hid Bnew
  clear Bnew
  go_wp2_with fail
  have hc := awake_c (((w).alloc (.cells #[.int .i64 K, .int .i64 N, .string ⟨T.toArray⟩] 23)).alloc (.cells #[.int .i64 K', .int .i64 N', .string ⟨T'.toArray⟩] 23)) (hw.below H_2.out)
  unfold valV at hc
  refine hc.mono ?_
  rintro e u1 ⟨rfl, hb⟩
  clear hc
  have Bx_3 := Lib.hid (Bx_2.out.below hb Bx_2.out.lt)
  have By_3 := Lib.hid (By_2.out.below hb By_2.out.lt)
  have H_3 := Lib.hid (H_2.out.trans (hb.mono H_2.out.size))
  clear hb H_2 Bx_2 By_2
  have qx0 := Bx_3.out.c0
  have qx1 := Bx_3.out.c1
  have qx2 := Bx_3.out.c2
  go_wp2_with fail
  clear qx0 qx1 qx2
  have hc := short_not K N T hx (u1)
  unfold valV at hc
  refine hc.mono ?_
  rintro e u2 ⟨rfl, hb⟩
  clear hc
  have Bx_4 := Lib.hid (Bx_3.out.below hb Bx_3.out.lt)
  have By_4 := Lib.hid (By_3.out.below hb By_3.out.lt)
  have H_4 := Lib.hid (H_3.out.trans (hb.mono H_3.out.size))
  clear hb H_3 Bx_3 By_3
  go_wp2_with fail
  go_ret
  exact ⟨rfl, H_4.out⟩

set_option maxHeartbeats 4000000 in
theorem pow_long2 (K N K' N' : Int) (T T' : List UInt8) (n m : Int) (hx : T.length ≤ 800) (hy : ¬ T'.length ≤ 800) (w : World) (hw : Wd w) :
    Calls Tryz.prog 10 #[valV K N T, valV K' N' T', .int .i64 n, .int .i64 m] w fun e w' => e = .returned (.bool true) ∧ Below w.heap.size w w' := by
  have H_0 := Lib.hid (Below.refl w.heap.size w)
  unfold valV
  go_enter Tryz.func10, Tryz.ntmps10
  have hb : Below (w).heap.size (w) ((w).alloc (.cells #[.int .i64 K, .int .i64 N, .string ⟨T.toArray⟩] 23)) := (Below.refl _ (w)).alloc (Nat.le_refl _) _
  have Bnew := VB.new (w) (.int .i64 K) (.int .i64 N) (.string ⟨T.toArray⟩)
  try simp only [World.size_alloc] at Bnew
  have H_1 := Lib.hid (H_0.out.trans (hb.mono H_0.out.size))
  clear hb H_0
  have Bx_1 := Lib.hid Bnew
  clear Bnew
  have hb : Below ((w).alloc (.cells #[.int .i64 K, .int .i64 N, .string ⟨T.toArray⟩] 23)).heap.size ((w).alloc (.cells #[.int .i64 K, .int .i64 N, .string ⟨T.toArray⟩] 23)) (((w).alloc (.cells #[.int .i64 K, .int .i64 N, .string ⟨T.toArray⟩] 23)).alloc (.cells #[.int .i64 K', .int .i64 N', .string ⟨T'.toArray⟩] 23)) := (Below.refl _ ((w).alloc (.cells #[.int .i64 K, .int .i64 N, .string ⟨T.toArray⟩] 23))).alloc (Nat.le_refl _) _
  have Bnew := VB.new ((w).alloc (.cells #[.int .i64 K, .int .i64 N, .string ⟨T.toArray⟩] 23)) (.int .i64 K') (.int .i64 N') (.string ⟨T'.toArray⟩)
  try simp only [World.size_alloc] at Bnew
  have Bx_2 := Lib.hid (Bx_1.out.below hb Bx_1.out.lt)
  have H_2 := Lib.hid (H_1.out.trans (hb.mono H_1.out.size))
  clear hb H_1 Bx_1
  have By_2 := Lib.hid Bnew
  clear Bnew
  go_wp2_with fail
  have hc := awake_c (((w).alloc (.cells #[.int .i64 K, .int .i64 N, .string ⟨T.toArray⟩] 23)).alloc (.cells #[.int .i64 K', .int .i64 N', .string ⟨T'.toArray⟩] 23)) (hw.below H_2.out)
  unfold valV at hc
  refine hc.mono ?_
  rintro e u1 ⟨rfl, hb⟩
  clear hc
  have Bx_3 := Lib.hid (Bx_2.out.below hb Bx_2.out.lt)
  have By_3 := Lib.hid (By_2.out.below hb By_2.out.lt)
  have H_3 := Lib.hid (H_2.out.trans (hb.mono H_2.out.size))
  clear hb H_2 Bx_2 By_2
  have qx0 := Bx_3.out.c0
  have qx1 := Bx_3.out.c1
  have qx2 := Bx_3.out.c2
  go_wp2_with fail
  clear qx0 qx1 qx2
  have hc := short_yes K N T hx (u1)
  unfold valV at hc
  refine hc.mono ?_
  rintro e u2 ⟨rfl, hb⟩
  clear hc
  have Bx_4 := Lib.hid (Bx_3.out.below hb Bx_3.out.lt)
  have By_4 := Lib.hid (By_3.out.below hb By_3.out.lt)
  have H_4 := Lib.hid (H_3.out.trans (hb.mono H_3.out.size))
  clear hb H_3 Bx_3 By_3
  have qy0 := By_4.out.c0
  have qy1 := By_4.out.c1
  have qy2 := By_4.out.c2
  go_wp2_with fail
  clear qy0 qy1 qy2
  have hc := short_not K' N' T' hy (u2)
  unfold valV at hc
  refine hc.mono ?_
  rintro e u3 ⟨rfl, hb⟩
  clear hc
  have Bx_5 := Lib.hid (Bx_4.out.below hb Bx_4.out.lt)
  have By_5 := Lib.hid (By_4.out.below hb By_4.out.lt)
  have H_5 := Lib.hid (H_4.out.trans (hb.mono H_4.out.size))
  clear hb H_4 Bx_4 By_4
  go_wp2_with fail
  go_ret
  exact ⟨rfl, H_5.out⟩

set_option maxHeartbeats 4000000 in
theorem pow_bad0 (K N K' N' : Int) (T T' : List UInt8) (n m : Int) (hx : T.length ≤ 800) (hy : T'.length ≤ 800) (d0 : decide (n < 0) = true) (w : World) (hw : Wd w) :
    Calls Tryz.prog 10 #[valV K N T, valV K' N' T', .int .i64 n, .int .i64 m] w fun e w' => e = .returned (.bool true) ∧ Below w.heap.size w w' := by
  have H_0 := Lib.hid (Below.refl w.heap.size w)
  unfold valV
  go_enter Tryz.func10, Tryz.ntmps10
  have hb : Below (w).heap.size (w) ((w).alloc (.cells #[.int .i64 K, .int .i64 N, .string ⟨T.toArray⟩] 23)) := (Below.refl _ (w)).alloc (Nat.le_refl _) _
  have Bnew := VB.new (w) (.int .i64 K) (.int .i64 N) (.string ⟨T.toArray⟩)
  try simp only [World.size_alloc] at Bnew
  have H_1 := Lib.hid (H_0.out.trans (hb.mono H_0.out.size))
  clear hb H_0
  have Bx_1 := Lib.hid Bnew
  clear Bnew
  have hb : Below ((w).alloc (.cells #[.int .i64 K, .int .i64 N, .string ⟨T.toArray⟩] 23)).heap.size ((w).alloc (.cells #[.int .i64 K, .int .i64 N, .string ⟨T.toArray⟩] 23)) (((w).alloc (.cells #[.int .i64 K, .int .i64 N, .string ⟨T.toArray⟩] 23)).alloc (.cells #[.int .i64 K', .int .i64 N', .string ⟨T'.toArray⟩] 23)) := (Below.refl _ ((w).alloc (.cells #[.int .i64 K, .int .i64 N, .string ⟨T.toArray⟩] 23))).alloc (Nat.le_refl _) _
  have Bnew := VB.new ((w).alloc (.cells #[.int .i64 K, .int .i64 N, .string ⟨T.toArray⟩] 23)) (.int .i64 K') (.int .i64 N') (.string ⟨T'.toArray⟩)
  try simp only [World.size_alloc] at Bnew
  have Bx_2 := Lib.hid (Bx_1.out.below hb Bx_1.out.lt)
  have H_2 := Lib.hid (H_1.out.trans (hb.mono H_1.out.size))
  clear hb H_1 Bx_1
  have By_2 := Lib.hid Bnew
  clear Bnew
  go_wp2_with fail
  have hc := awake_c (((w).alloc (.cells #[.int .i64 K, .int .i64 N, .string ⟨T.toArray⟩] 23)).alloc (.cells #[.int .i64 K', .int .i64 N', .string ⟨T'.toArray⟩] 23)) (hw.below H_2.out)
  unfold valV at hc
  refine hc.mono ?_
  rintro e u1 ⟨rfl, hb⟩
  clear hc
  have Bx_3 := Lib.hid (Bx_2.out.below hb Bx_2.out.lt)
  have By_3 := Lib.hid (By_2.out.below hb By_2.out.lt)
  have H_3 := Lib.hid (H_2.out.trans (hb.mono H_2.out.size))
  clear hb H_2 Bx_2 By_2
  have qx0 := Bx_3.out.c0
  have qx1 := Bx_3.out.c1
  have qx2 := Bx_3.out.c2
  go_wp2_with fail
  clear qx0 qx1 qx2
  have hc := short_yes K N T hx (u1)
  unfold valV at hc
  refine hc.mono ?_
  rintro e u2 ⟨rfl, hb⟩
  clear hc
  have Bx_4 := Lib.hid (Bx_3.out.below hb Bx_3.out.lt)
  have By_4 := Lib.hid (By_3.out.below hb By_3.out.lt)
  have H_4 := Lib.hid (H_3.out.trans (hb.mono H_3.out.size))
  clear hb H_3 Bx_3 By_3
  have qy0 := By_4.out.c0
  have qy1 := By_4.out.c1
  have qy2 := By_4.out.c2
  go_wp2_with fail
  clear qy0 qy1 qy2
  have hc := short_yes K' N' T' hy (u2)
  unfold valV at hc
  refine hc.mono ?_
  rintro e u3 ⟨rfl, hb⟩
  clear hc
  have Bx_5 := Lib.hid (Bx_4.out.below hb Bx_4.out.lt)
  have By_5 := Lib.hid (By_4.out.below hb By_4.out.lt)
  have H_5 := Lib.hid (H_4.out.trans (hb.mono H_4.out.size))
  clear hb H_4 Bx_4 By_4
  go_wp2_with fail
  go_ret
  exact ⟨rfl, H_5.out⟩

set_option maxHeartbeats 4000000 in
theorem pow_bad1 (K N K' N' : Int) (T T' : List UInt8) (n m : Int) (hx : T.length ≤ 800) (hy : T'.length ≤ 800) (d0 : decide (n < 0) = false) (d1 : decide (m < 0) = true) (w : World) (hw : Wd w) :
    Calls Tryz.prog 10 #[valV K N T, valV K' N' T', .int .i64 n, .int .i64 m] w fun e w' => e = .returned (.bool true) ∧ Below w.heap.size w w' := by
  have H_0 := Lib.hid (Below.refl w.heap.size w)
  unfold valV
  go_enter Tryz.func10, Tryz.ntmps10
  have hb : Below (w).heap.size (w) ((w).alloc (.cells #[.int .i64 K, .int .i64 N, .string ⟨T.toArray⟩] 23)) := (Below.refl _ (w)).alloc (Nat.le_refl _) _
  have Bnew := VB.new (w) (.int .i64 K) (.int .i64 N) (.string ⟨T.toArray⟩)
  try simp only [World.size_alloc] at Bnew
  have H_1 := Lib.hid (H_0.out.trans (hb.mono H_0.out.size))
  clear hb H_0
  have Bx_1 := Lib.hid Bnew
  clear Bnew
  have hb : Below ((w).alloc (.cells #[.int .i64 K, .int .i64 N, .string ⟨T.toArray⟩] 23)).heap.size ((w).alloc (.cells #[.int .i64 K, .int .i64 N, .string ⟨T.toArray⟩] 23)) (((w).alloc (.cells #[.int .i64 K, .int .i64 N, .string ⟨T.toArray⟩] 23)).alloc (.cells #[.int .i64 K', .int .i64 N', .string ⟨T'.toArray⟩] 23)) := (Below.refl _ ((w).alloc (.cells #[.int .i64 K, .int .i64 N, .string ⟨T.toArray⟩] 23))).alloc (Nat.le_refl _) _
  have Bnew := VB.new ((w).alloc (.cells #[.int .i64 K, .int .i64 N, .string ⟨T.toArray⟩] 23)) (.int .i64 K') (.int .i64 N') (.string ⟨T'.toArray⟩)
  try simp only [World.size_alloc] at Bnew
  have Bx_2 := Lib.hid (Bx_1.out.below hb Bx_1.out.lt)
  have H_2 := Lib.hid (H_1.out.trans (hb.mono H_1.out.size))
  clear hb H_1 Bx_1
  have By_2 := Lib.hid Bnew
  clear Bnew
  go_wp2_with fail
  have hc := awake_c (((w).alloc (.cells #[.int .i64 K, .int .i64 N, .string ⟨T.toArray⟩] 23)).alloc (.cells #[.int .i64 K', .int .i64 N', .string ⟨T'.toArray⟩] 23)) (hw.below H_2.out)
  unfold valV at hc
  refine hc.mono ?_
  rintro e u1 ⟨rfl, hb⟩
  clear hc
  have Bx_3 := Lib.hid (Bx_2.out.below hb Bx_2.out.lt)
  have By_3 := Lib.hid (By_2.out.below hb By_2.out.lt)
  have H_3 := Lib.hid (H_2.out.trans (hb.mono H_2.out.size))
  clear hb H_2 Bx_2 By_2
  have qx0 := Bx_3.out.c0
  have qx1 := Bx_3.out.c1
  have qx2 := Bx_3.out.c2
  go_wp2_with fail
  clear qx0 qx1 qx2
  have hc := short_yes K N T hx (u1)
  unfold valV at hc
  refine hc.mono ?_
  rintro e u2 ⟨rfl, hb⟩
  clear hc
  have Bx_4 := Lib.hid (Bx_3.out.below hb Bx_3.out.lt)
  have By_4 := Lib.hid (By_3.out.below hb By_3.out.lt)
  have H_4 := Lib.hid (H_3.out.trans (hb.mono H_3.out.size))
  clear hb H_3 Bx_3 By_3
  have qy0 := By_4.out.c0
  have qy1 := By_4.out.c1
  have qy2 := By_4.out.c2
  go_wp2_with fail
  clear qy0 qy1 qy2
  have hc := short_yes K' N' T' hy (u2)
  unfold valV at hc
  refine hc.mono ?_
  rintro e u3 ⟨rfl, hb⟩
  clear hc
  have Bx_5 := Lib.hid (Bx_4.out.below hb Bx_4.out.lt)
  have By_5 := Lib.hid (By_4.out.below hb By_4.out.lt)
  have H_5 := Lib.hid (H_4.out.trans (hb.mono H_4.out.size))
  clear hb H_4 Bx_4 By_4
  go_wp2_with fail
  go_ret
  exact ⟨rfl, H_5.out⟩

set_option maxHeartbeats 4000000 in
theorem pow_bad2 (K N K' N' : Int) (T T' : List UInt8) (n m : Int) (hx : T.length ≤ 800) (hy : T'.length ≤ 800) (d0 : decide (n < 0) = false) (d1 : decide (m < 0) = false) (d2 : decide (1000 < n) = true) (w : World) (hw : Wd w) :
    Calls Tryz.prog 10 #[valV K N T, valV K' N' T', .int .i64 n, .int .i64 m] w fun e w' => e = .returned (.bool true) ∧ Below w.heap.size w w' := by
  have H_0 := Lib.hid (Below.refl w.heap.size w)
  unfold valV
  go_enter Tryz.func10, Tryz.ntmps10
  have hb : Below (w).heap.size (w) ((w).alloc (.cells #[.int .i64 K, .int .i64 N, .string ⟨T.toArray⟩] 23)) := (Below.refl _ (w)).alloc (Nat.le_refl _) _
  have Bnew := VB.new (w) (.int .i64 K) (.int .i64 N) (.string ⟨T.toArray⟩)
  try simp only [World.size_alloc] at Bnew
  have H_1 := Lib.hid (H_0.out.trans (hb.mono H_0.out.size))
  clear hb H_0
  have Bx_1 := Lib.hid Bnew
  clear Bnew
  have hb : Below ((w).alloc (.cells #[.int .i64 K, .int .i64 N, .string ⟨T.toArray⟩] 23)).heap.size ((w).alloc (.cells #[.int .i64 K, .int .i64 N, .string ⟨T.toArray⟩] 23)) (((w).alloc (.cells #[.int .i64 K, .int .i64 N, .string ⟨T.toArray⟩] 23)).alloc (.cells #[.int .i64 K', .int .i64 N', .string ⟨T'.toArray⟩] 23)) := (Below.refl _ ((w).alloc (.cells #[.int .i64 K, .int .i64 N, .string ⟨T.toArray⟩] 23))).alloc (Nat.le_refl _) _
  have Bnew := VB.new ((w).alloc (.cells #[.int .i64 K, .int .i64 N, .string ⟨T.toArray⟩] 23)) (.int .i64 K') (.int .i64 N') (.string ⟨T'.toArray⟩)
  try simp only [World.size_alloc] at Bnew
  have Bx_2 := Lib.hid (Bx_1.out.below hb Bx_1.out.lt)
  have H_2 := Lib.hid (H_1.out.trans (hb.mono H_1.out.size))
  clear hb H_1 Bx_1
  have By_2 := Lib.hid Bnew
  clear Bnew
  go_wp2_with fail
  have hc := awake_c (((w).alloc (.cells #[.int .i64 K, .int .i64 N, .string ⟨T.toArray⟩] 23)).alloc (.cells #[.int .i64 K', .int .i64 N', .string ⟨T'.toArray⟩] 23)) (hw.below H_2.out)
  unfold valV at hc
  refine hc.mono ?_
  rintro e u1 ⟨rfl, hb⟩
  clear hc
  have Bx_3 := Lib.hid (Bx_2.out.below hb Bx_2.out.lt)
  have By_3 := Lib.hid (By_2.out.below hb By_2.out.lt)
  have H_3 := Lib.hid (H_2.out.trans (hb.mono H_2.out.size))
  clear hb H_2 Bx_2 By_2
  have qx0 := Bx_3.out.c0
  have qx1 := Bx_3.out.c1
  have qx2 := Bx_3.out.c2
  go_wp2_with fail
  clear qx0 qx1 qx2
  have hc := short_yes K N T hx (u1)
  unfold valV at hc
  refine hc.mono ?_
  rintro e u2 ⟨rfl, hb⟩
  clear hc
  have Bx_4 := Lib.hid (Bx_3.out.below hb Bx_3.out.lt)
  have By_4 := Lib.hid (By_3.out.below hb By_3.out.lt)
  have H_4 := Lib.hid (H_3.out.trans (hb.mono H_3.out.size))
  clear hb H_3 Bx_3 By_3
  have qy0 := By_4.out.c0
  have qy1 := By_4.out.c1
  have qy2 := By_4.out.c2
  go_wp2_with fail
  clear qy0 qy1 qy2
  have hc := short_yes K' N' T' hy (u2)
  unfold valV at hc
  refine hc.mono ?_
  rintro e u3 ⟨rfl, hb⟩
  clear hc
  have Bx_5 := Lib.hid (Bx_4.out.below hb Bx_4.out.lt)
  have By_5 := Lib.hid (By_4.out.below hb By_4.out.lt)
  have H_5 := Lib.hid (H_4.out.trans (hb.mono H_4.out.size))
  clear hb H_4 Bx_4 By_4
  go_wp2_with fail
  go_ret
  exact ⟨rfl, H_5.out⟩

set_option maxHeartbeats 4000000 in
theorem pow_bad3 (K N K' N' : Int) (T T' : List UInt8) (n m : Int) (hx : T.length ≤ 800) (hy : T'.length ≤ 800) (d0 : decide (n < 0) = false) (d1 : decide (m < 0) = false) (d2 : decide (1000 < n) = false) (d3 : decide (1000 < m) = true) (w : World) (hw : Wd w) :
    Calls Tryz.prog 10 #[valV K N T, valV K' N' T', .int .i64 n, .int .i64 m] w fun e w' => e = .returned (.bool true) ∧ Below w.heap.size w w' := by
  have H_0 := Lib.hid (Below.refl w.heap.size w)
  unfold valV
  go_enter Tryz.func10, Tryz.ntmps10
  have hb : Below (w).heap.size (w) ((w).alloc (.cells #[.int .i64 K, .int .i64 N, .string ⟨T.toArray⟩] 23)) := (Below.refl _ (w)).alloc (Nat.le_refl _) _
  have Bnew := VB.new (w) (.int .i64 K) (.int .i64 N) (.string ⟨T.toArray⟩)
  try simp only [World.size_alloc] at Bnew
  have H_1 := Lib.hid (H_0.out.trans (hb.mono H_0.out.size))
  clear hb H_0
  have Bx_1 := Lib.hid Bnew
  clear Bnew
  have hb : Below ((w).alloc (.cells #[.int .i64 K, .int .i64 N, .string ⟨T.toArray⟩] 23)).heap.size ((w).alloc (.cells #[.int .i64 K, .int .i64 N, .string ⟨T.toArray⟩] 23)) (((w).alloc (.cells #[.int .i64 K, .int .i64 N, .string ⟨T.toArray⟩] 23)).alloc (.cells #[.int .i64 K', .int .i64 N', .string ⟨T'.toArray⟩] 23)) := (Below.refl _ ((w).alloc (.cells #[.int .i64 K, .int .i64 N, .string ⟨T.toArray⟩] 23))).alloc (Nat.le_refl _) _
  have Bnew := VB.new ((w).alloc (.cells #[.int .i64 K, .int .i64 N, .string ⟨T.toArray⟩] 23)) (.int .i64 K') (.int .i64 N') (.string ⟨T'.toArray⟩)
  try simp only [World.size_alloc] at Bnew
  have Bx_2 := Lib.hid (Bx_1.out.below hb Bx_1.out.lt)
  have H_2 := Lib.hid (H_1.out.trans (hb.mono H_1.out.size))
  clear hb H_1 Bx_1
  have By_2 := Lib.hid Bnew
  clear Bnew
  go_wp2_with fail
  have hc := awake_c (((w).alloc (.cells #[.int .i64 K, .int .i64 N, .string ⟨T.toArray⟩] 23)).alloc (.cells #[.int .i64 K', .int .i64 N', .string ⟨T'.toArray⟩] 23)) (hw.below H_2.out)
  unfold valV at hc
  refine hc.mono ?_
  rintro e u1 ⟨rfl, hb⟩
  clear hc
  have Bx_3 := Lib.hid (Bx_2.out.below hb Bx_2.out.lt)
  have By_3 := Lib.hid (By_2.out.below hb By_2.out.lt)
  have H_3 := Lib.hid (H_2.out.trans (hb.mono H_2.out.size))
  clear hb H_2 Bx_2 By_2
  have qx0 := Bx_3.out.c0
  have qx1 := Bx_3.out.c1
  have qx2 := Bx_3.out.c2
  go_wp2_with fail
  clear qx0 qx1 qx2
  have hc := short_yes K N T hx (u1)
  unfold valV at hc
  refine hc.mono ?_
  rintro e u2 ⟨rfl, hb⟩
  clear hc
  have Bx_4 := Lib.hid (Bx_3.out.below hb Bx_3.out.lt)
  have By_4 := Lib.hid (By_3.out.below hb By_3.out.lt)
  have H_4 := Lib.hid (H_3.out.trans (hb.mono H_3.out.size))
  clear hb H_3 Bx_3 By_3
  have qy0 := By_4.out.c0
  have qy1 := By_4.out.c1
  have qy2 := By_4.out.c2
  go_wp2_with fail
  clear qy0 qy1 qy2
  have hc := short_yes K' N' T' hy (u2)
  unfold valV at hc
  refine hc.mono ?_
  rintro e u3 ⟨rfl, hb⟩
  clear hc
  have Bx_5 := Lib.hid (Bx_4.out.below hb Bx_4.out.lt)
  have By_5 := Lib.hid (By_4.out.below hb By_4.out.lt)
  have H_5 := Lib.hid (H_4.out.trans (hb.mono H_4.out.size))
  clear hb H_4 Bx_4 By_4
  go_wp2_with fail
  go_ret
  exact ⟨rfl, H_5.out⟩

set_option maxHeartbeats 8000000 in
theorem pow_nox (K N K' N' : Int) (T T' : List UInt8) (a b : Nat) (ha : a ≤ 1000) (hb : b ≤ 1000) (hx : T.length ≤ 800) (hy : T'.length ≤ 800) (h : ∀ z, ¬ IsNum K N T z) (hN : In64Z N) (hN' : In64Z N') (w : World) (hw : Wd w) :
    Calls Tryz.prog 10 #[valV K N T, valV K' N' T', .int .i64 a, .int .i64 b] w fun e w' => e = .returned (.bool true) ∧ Below w.heap.size w w' := by
  obtain ⟨D0, D1, D2, H, hd, -⟩ := Pow_gen K' N' T' hN' a (by omega)
  have Hd := Lib.hid hd
  clear hd
  have i0 : In64Z 0 := in64 (by decide) (by decide)
  have d0 : decide ((a : Int) < 0) = false := decide_eq_false (by omega)
  have d1 : decide ((b : Int) < 0) = false := decide_eq_false (by omega)
  have d2 : decide ((1000 : Int) < (a : Int)) = false := decide_eq_false (by omega)
  have d3 : decide ((1000 : Int) < (b : Int)) = false := decide_eq_false (by omega)
  have ba : (a : Int) ≤ 1000 := by omega
  have bb : (b : Int) ≤ 1000 := by omega
  have ba0 : 0 ≤ (a : Int) := by omega
  have bb0 : 0 ≤ (b : Int) := by omega
  have HA := Lib.hid (show a ≤ 2000 by omega)
  have HB := Lib.hid (show b ≤ 2000 by omega)
  have HAB := Lib.hid (show a + b ≤ 2000 by omega)
  clear ha hb
  have H_0 := Lib.hid (Below.refl w.heap.size w)
  unfold valV
  go_enter Tryz.func10, Tryz.ntmps10
  have hb : Below (w).heap.size (w) ((w).alloc (.cells #[.int .i64 K, .int .i64 N, .string ⟨T.toArray⟩] 23)) := (Below.refl _ (w)).alloc (Nat.le_refl _) _
  have Bnew := VB.new (w) (.int .i64 K) (.int .i64 N) (.string ⟨T.toArray⟩)
  try simp only [World.size_alloc] at Bnew
  have H_1 := Lib.hid (H_0.out.trans (hb.mono H_0.out.size))
  clear hb H_0
  have Bx_1 := Lib.hid Bnew
  clear Bnew
  have hb : Below ((w).alloc (.cells #[.int .i64 K, .int .i64 N, .string ⟨T.toArray⟩] 23)).heap.size ((w).alloc (.cells #[.int .i64 K, .int .i64 N, .string ⟨T.toArray⟩] 23)) (((w).alloc (.cells #[.int .i64 K, .int .i64 N, .string ⟨T.toArray⟩] 23)).alloc (.cells #[.int .i64 K', .int .i64 N', .string ⟨T'.toArray⟩] 23)) := (Below.refl _ ((w).alloc (.cells #[.int .i64 K, .int .i64 N, .string ⟨T.toArray⟩] 23))).alloc (Nat.le_refl _) _
  have Bnew := VB.new ((w).alloc (.cells #[.int .i64 K, .int .i64 N, .string ⟨T.toArray⟩] 23)) (.int .i64 K') (.int .i64 N') (.string ⟨T'.toArray⟩)
  try simp only [World.size_alloc] at Bnew
  have Bx_2 := Lib.hid (Bx_1.out.below hb Bx_1.out.lt)
  have H_2 := Lib.hid (H_1.out.trans (hb.mono H_1.out.size))
  clear hb H_1 Bx_1
  have By_2 := Lib.hid Bnew
  clear Bnew
  go_wp2_with fail
  have hc := awake_c (((w).alloc (.cells #[.int .i64 K, .int .i64 N, .string ⟨T.toArray⟩] 23)).alloc (.cells #[.int .i64 K', .int .i64 N', .string ⟨T'.toArray⟩] 23)) (hw.below H_2.out)
  unfold valV at hc
  refine hc.mono ?_
  rintro e u1 ⟨rfl, hb⟩
  clear hc
  have Bx_3 := Lib.hid (Bx_2.out.below hb Bx_2.out.lt)
  have By_3 := Lib.hid (By_2.out.below hb By_2.out.lt)
  have H_3 := Lib.hid (H_2.out.trans (hb.mono H_2.out.size))
  clear hb H_2 Bx_2 By_2
  have qx0 := Bx_3.out.c0
  have qx1 := Bx_3.out.c1
  have qx2 := Bx_3.out.c2
  go_wp2_with fail
  clear qx0 qx1 qx2
  have hc := short_yes K N T hx (u1)
  unfold valV at hc
  refine hc.mono ?_
  rintro e u2 ⟨rfl, hb⟩
  clear hc
  have Bx_4 := Lib.hid (Bx_3.out.below hb Bx_3.out.lt)
  have By_4 := Lib.hid (By_3.out.below hb By_3.out.lt)
  have H_4 := Lib.hid (H_3.out.trans (hb.mono H_3.out.size))
  clear hb H_3 Bx_3 By_3
  have qy0 := By_4.out.c0
  have qy1 := By_4.out.c1
  have qy2 := By_4.out.c2
  go_wp2_with fail
  clear qy0 qy1 qy2
  have hc := short_yes K' N' T' hy (u2)
  unfold valV at hc
  refine hc.mono ?_
  rintro e u3 ⟨rfl, hb⟩
  clear hc
  have Bx_5 := Lib.hid (Bx_4.out.below hb Bx_4.out.lt)
  have By_5 := Lib.hid (By_4.out.below hb By_4.out.lt)
  have H_5 := Lib.hid (H_4.out.trans (hb.mono H_4.out.size))
  clear hb H_4 Bx_4 By_4
  have qx0 := Bx_5.out.c0
  have qx1 := Bx_5.out.c1
  have qx2 := Bx_5.out.c2
  go_wp2_with fail
  clear qx0 qx1 qx2
  have hc := Pow_no K N T h hN a (u3) (hw.below H_5.out)
  unfold valV at hc
  refine hc.mono ?_
  rintro e u4 ⟨rfl, hb⟩
  clear hc
  have Bx_6 := Lib.hid (Bx_5.out.below hb Bx_5.out.lt)
  have By_6 := Lib.hid (By_5.out.below hb By_5.out.lt)
  have H_6 := Lib.hid (H_5.out.trans (hb.mono H_5.out.size))
  clear hb H_5 Bx_5 By_5
  have hb : Below (u4).heap.size (u4) ((u4).alloc (.cells #[.int .i64 0, .int .i64 0, .string ⟨#[]⟩] 23)) := (Below.refl _ (u4)).alloc (Nat.le_refl _) _
  have Bnew := VB.new (u4) (.int .i64 0) (.int .i64 0) (.string ⟨#[]⟩)
  try simp only [World.size_alloc] at Bnew
  have Bx_7 := Lib.hid (Bx_6.out.below hb Bx_6.out.lt)
  have By_7 := Lib.hid (By_6.out.below hb By_6.out.lt)
  have H_7 := Lib.hid (H_6.out.trans (hb.mono H_6.out.size))
  clear hb H_6 Bx_6 By_6
  have Bp_7 := Lib.hid Bnew
  clear Bnew
  have qx0 := Bx_7.out.c0
  have qx1 := Bx_7.out.c1
  have qx2 := Bx_7.out.c2
  go_wp2_with fail
  clear qx0 qx1 qx2
  have hc := Pow_no K N T h hN b ((u4).alloc (.cells #[.int .i64 0, .int .i64 0, .string ⟨#[]⟩] 23)) (hw.below H_7.out)
  unfold valV at hc
  refine hc.mono ?_
  rintro e u5 ⟨rfl, hb⟩
  clear hc
  have Bx_8 := Lib.hid (Bx_7.out.below hb Bx_7.out.lt)
  have By_8 := Lib.hid (By_7.out.below hb By_7.out.lt)
  have Bp_8 := Lib.hid (Bp_7.out.below hb Bp_7.out.lt)
  have H_8 := Lib.hid (H_7.out.trans (hb.mono H_7.out.size))
  clear hb H_7 Bx_7 By_7 Bp_7
  have hb : Below (u5).heap.size (u5) ((u5).alloc (.cells #[.int .i64 0, .int .i64 0, .string ⟨#[]⟩] 23)) := (Below.refl _ (u5)).alloc (Nat.le_refl _) _
  have Bnew := VB.new (u5) (.int .i64 0) (.int .i64 0) (.string ⟨#[]⟩)
  try simp only [World.size_alloc] at Bnew
  have Bx_9 := Lib.hid (Bx_8.out.below hb Bx_8.out.lt)
  have By_9 := Lib.hid (By_8.out.below hb By_8.out.lt)
  have Bp_9 := Lib.hid (Bp_8.out.below hb Bp_8.out.lt)
  have H_9 := Lib.hid (H_8.out.trans (hb.mono H_8.out.size))
  clear hb H_8 Bx_8 By_8 Bp_8
  have Bq_9 := Lib.hid Bnew
  clear Bnew
  have qx0 := Bx_9.out.c0
  have qx1 := Bx_9.out.c1
  have qx2 := Bx_9.out.c2
  go_wp2_with fail
  clear qx0 qx1 qx2
  have hc := Pow_no K N T h hN ((a : Int) + (b : Int)) ((u5).alloc (.cells #[.int .i64 0, .int .i64 0, .string ⟨#[]⟩] 23)) (hw.below H_9.out)
  unfold valV at hc
  refine hc.mono ?_
  rintro e u6 ⟨rfl, hb⟩
  clear hc
  have Bx_10 := Lib.hid (Bx_9.out.below hb Bx_9.out.lt)
  have By_10 := Lib.hid (By_9.out.below hb By_9.out.lt)
  have Bp_10 := Lib.hid (Bp_9.out.below hb Bp_9.out.lt)
  have Bq_10 := Lib.hid (Bq_9.out.below hb Bq_9.out.lt)
  have H_10 := Lib.hid (H_9.out.trans (hb.mono H_9.out.size))
  clear hb H_9 Bx_9 By_9 Bp_9 Bq_9
  have hb : Below (u6).heap.size (u6) ((u6).alloc (.cells #[.int .i64 0, .int .i64 0, .string ⟨#[]⟩] 23)) := (Below.refl _ (u6)).alloc (Nat.le_refl _) _
  have Bnew := VB.new (u6) (.int .i64 0) (.int .i64 0) (.string ⟨#[]⟩)
  try simp only [World.size_alloc] at Bnew
  have Bx_11 := Lib.hid (Bx_10.out.below hb Bx_10.out.lt)
  have By_11 := Lib.hid (By_10.out.below hb By_10.out.lt)
  have Bp_11 := Lib.hid (Bp_10.out.below hb Bp_10.out.lt)
  have Bq_11 := Lib.hid (Bq_10.out.below hb Bq_10.out.lt)
  have H_11 := Lib.hid (H_10.out.trans (hb.mono H_10.out.size))
  clear hb H_10 Bx_10 By_10 Bp_10 Bq_10
  have Bc_11 := Lib.hid Bnew
  clear Bnew
  have qy0 := By_11.out.c0
  have qy1 := By_11.out.c1
  have qy2 := By_11.out.c2
  go_wp2_with fail
  clear qy0 qy1 qy2
  have hc := Hd.out.2 ((u6).alloc (.cells #[.int .i64 0, .int .i64 0, .string ⟨#[]⟩] 23)) (hw.below H_11.out)
  unfold valV at hc
  refine hc.mono ?_
  rintro e u7 ⟨rfl, hb⟩
  clear hc
  have Bx_12 := Lib.hid (Bx_11.out.below hb Bx_11.out.lt)
  have By_12 := Lib.hid (By_11.out.below hb By_11.out.lt)
  have Bp_12 := Lib.hid (Bp_11.out.below hb Bp_11.out.lt)
  have Bq_12 := Lib.hid (Bq_11.out.below hb Bq_11.out.lt)
  have Bc_12 := Lib.hid (Bc_11.out.below hb Bc_11.out.lt)
  have H_12 := Lib.hid (H_11.out.trans (hb.mono H_11.out.size))
  clear hb H_11 Bx_11 By_11 Bp_11 Bq_11 Bc_11
  have hb : Below (u7).heap.size (u7) ((u7).alloc (.cells #[.int .i64 D0, .int .i64 D1, .string ⟨D2.toArray⟩] 23)) := (Below.refl _ (u7)).alloc (Nat.le_refl _) _
  have Bnew := VB.new (u7) (.int .i64 D0) (.int .i64 D1) (.string ⟨D2.toArray⟩)
  try simp only [World.size_alloc] at Bnew
  have Bx_13 := Lib.hid (Bx_12.out.below hb Bx_12.out.lt)
  have By_13 := Lib.hid (By_12.out.below hb By_12.out.lt)
  have Bp_13 := Lib.hid (Bp_12.out.below hb Bp_12.out.lt)
  have Bq_13 := Lib.hid (Bq_12.out.below hb Bq_12.out.lt)
  have Bc_13 := Lib.hid (Bc_12.out.below hb Bc_12.out.lt)
  have H_13 := Lib.hid (H_12.out.trans (hb.mono H_12.out.size))
  clear hb H_12 Bx_12 By_12 Bp_12 Bq_12 Bc_12
  have Bd_13 := Lib.hid Bnew
  clear Bnew
  have qx0 := Bx_13.out.c0
  have qx1 := Bx_13.out.c1
  have qx2 := Bx_13.out.c2
  have qy0 := By_13.out.c0
  have qy1 := By_13.out.c1
  have qy2 := By_13.out.c2
  go_wp2_with fail
  clear qx0 qx1 qx2 qy0 qy1 qy2
  have hc := Mul_no K N K' N' T T' (.inl h) hN hN' ((u7).alloc (.cells #[.int .i64 D0, .int .i64 D1, .string ⟨D2.toArray⟩] 23)) (hw.below H_13.out)
  unfold valV at hc
  refine hc.mono ?_
  rintro e u8 ⟨rfl, hb⟩
  clear hc
  have Bx_14 := Lib.hid (Bx_13.out.below hb Bx_13.out.lt)
  have By_14 := Lib.hid (By_13.out.below hb By_13.out.lt)
  have Bp_14 := Lib.hid (Bp_13.out.below hb Bp_13.out.lt)
  have Bq_14 := Lib.hid (Bq_13.out.below hb Bq_13.out.lt)
  have Bc_14 := Lib.hid (Bc_13.out.below hb Bc_13.out.lt)
  have Bd_14 := Lib.hid (Bd_13.out.below hb Bd_13.out.lt)
  have H_14 := Lib.hid (H_13.out.trans (hb.mono H_13.out.size))
  clear hb H_13 Bx_13 By_13 Bp_13 Bq_13 Bc_13 Bd_13
  have hb : Below (u8).heap.size (u8) ((u8).alloc (.cells #[.int .i64 0, .int .i64 0, .string ⟨#[]⟩] 23)) := (Below.refl _ (u8)).alloc (Nat.le_refl _) _
  have Bnew := VB.new (u8) (.int .i64 0) (.int .i64 0) (.string ⟨#[]⟩)
  try simp only [World.size_alloc] at Bnew
  have Bx_15 := Lib.hid (Bx_14.out.below hb Bx_14.out.lt)
  have By_15 := Lib.hid (By_14.out.below hb By_14.out.lt)
  have Bp_15 := Lib.hid (Bp_14.out.below hb Bp_14.out.lt)
  have Bq_15 := Lib.hid (Bq_14.out.below hb Bq_14.out.lt)
  have Bc_15 := Lib.hid (Bc_14.out.below hb Bc_14.out.lt)
  have Bd_15 := Lib.hid (Bd_14.out.below hb Bd_14.out.lt)
  have H_15 := Lib.hid (H_14.out.trans (hb.mono H_14.out.size))
  clear hb H_14 Bx_14 By_14 Bp_14 Bq_14 Bc_14 Bd_14
  have Be_15 := Lib.hid Bnew
  clear Bnew
  have qe0 := Be_15.out.c0
  have qe1 := Be_15.out.c1
  have qe2 := Be_15.out.c2
  go_wp2_with fail
  clear qe0 qe1 qe2
  have hc := Pow_no 0 0 [] not_num i0 a ((u8).alloc (.cells #[.int .i64 0, .int .i64 0, .string ⟨#[]⟩] 23)) (hw.below H_15.out)
  unfold valV at hc
  refine hc.mono ?_
  rintro e u9 ⟨rfl, hb⟩
  clear hc
  have Bx_16 := Lib.hid (Bx_15.out.below hb Bx_15.out.lt)
  have By_16 := Lib.hid (By_15.out.below hb By_15.out.lt)
  have Bp_16 := Lib.hid (Bp_15.out.below hb Bp_15.out.lt)
  have Bq_16 := Lib.hid (Bq_15.out.below hb Bq_15.out.lt)
  have Bc_16 := Lib.hid (Bc_15.out.below hb Bc_15.out.lt)
  have Bd_16 := Lib.hid (Bd_15.out.below hb Bd_15.out.lt)
  have Be_16 := Lib.hid (Be_15.out.below hb Be_15.out.lt)
  have H_16 := Lib.hid (H_15.out.trans (hb.mono H_15.out.size))
  clear hb H_15 Bx_15 By_15 Bp_15 Bq_15 Bc_15 Bd_15 Be_15
  have hb : Below (u9).heap.size (u9) ((u9).alloc (.cells #[.int .i64 0, .int .i64 0, .string ⟨#[]⟩] 23)) := (Below.refl _ (u9)).alloc (Nat.le_refl _) _
  have Bnew := VB.new (u9) (.int .i64 0) (.int .i64 0) (.string ⟨#[]⟩)
  try simp only [World.size_alloc] at Bnew
  have Bx_17 := Lib.hid (Bx_16.out.below hb Bx_16.out.lt)
  have By_17 := Lib.hid (By_16.out.below hb By_16.out.lt)
  have Bp_17 := Lib.hid (Bp_16.out.below hb Bp_16.out.lt)
  have Bq_17 := Lib.hid (Bq_16.out.below hb Bq_16.out.lt)
  have Bc_17 := Lib.hid (Bc_16.out.below hb Bc_16.out.lt)
  have Bd_17 := Lib.hid (Bd_16.out.below hb Bd_16.out.lt)
  have Be_17 := Lib.hid (Be_16.out.below hb Be_16.out.lt)
  have H_17 := Lib.hid (H_16.out.trans (hb.mono H_16.out.size))
  clear hb H_16 Bx_16 By_16 Bp_16 Bq_16 Bc_16 Bd_16 Be_16
  have Bl_17 := Lib.hid Bnew
  clear Bnew
  have qp0 := Bp_17.out.c0
  have qp1 := Bp_17.out.c1
  have qp2 := Bp_17.out.c2
  have qd0 := Bd_17.out.c0
  have qd1 := Bd_17.out.c1
  have qd2 := Bd_17.out.c2
  go_wp2_with fail
  clear qp0 qp1 qp2 qd0 qd1 qd2
  have hc := Mul_no 0 0 D0 D1 [] D2 (.inl not_num) i0 Hd.out.1 ((u9).alloc (.cells #[.int .i64 0, .int .i64 0, .string ⟨#[]⟩] 23)) (hw.below H_17.out)
  unfold valV at hc
  refine hc.mono ?_
  rintro e u10 ⟨rfl, hb⟩
  clear hc
  have Bx_18 := Lib.hid (Bx_17.out.below hb Bx_17.out.lt)
  have By_18 := Lib.hid (By_17.out.below hb By_17.out.lt)
  have Bp_18 := Lib.hid (Bp_17.out.below hb Bp_17.out.lt)
  have Bq_18 := Lib.hid (Bq_17.out.below hb Bq_17.out.lt)
  have Bc_18 := Lib.hid (Bc_17.out.below hb Bc_17.out.lt)
  have Bd_18 := Lib.hid (Bd_17.out.below hb Bd_17.out.lt)
  have Be_18 := Lib.hid (Be_17.out.below hb Be_17.out.lt)
  have Bl_18 := Lib.hid (Bl_17.out.below hb Bl_17.out.lt)
  have H_18 := Lib.hid (H_17.out.trans (hb.mono H_17.out.size))
  clear hb H_17 Bx_17 By_17 Bp_17 Bq_17 Bc_17 Bd_17 Be_17 Bl_17
  have hb : Below (u10).heap.size (u10) ((u10).alloc (.cells #[.int .i64 0, .int .i64 0, .string ⟨#[]⟩] 23)) := (Below.refl _ (u10)).alloc (Nat.le_refl _) _
  have Bnew := VB.new (u10) (.int .i64 0) (.int .i64 0) (.string ⟨#[]⟩)
  try simp only [World.size_alloc] at Bnew
  have Bx_19 := Lib.hid (Bx_18.out.below hb Bx_18.out.lt)
  have By_19 := Lib.hid (By_18.out.below hb By_18.out.lt)
  have Bp_19 := Lib.hid (Bp_18.out.below hb Bp_18.out.lt)
  have Bq_19 := Lib.hid (Bq_18.out.below hb Bq_18.out.lt)
  have Bc_19 := Lib.hid (Bc_18.out.below hb Bc_18.out.lt)
  have Bd_19 := Lib.hid (Bd_18.out.below hb Bd_18.out.lt)
  have Be_19 := Lib.hid (Be_18.out.below hb Be_18.out.lt)
  have Bl_19 := Lib.hid (Bl_18.out.below hb Bl_18.out.lt)
  have H_19 := Lib.hid (H_18.out.trans (hb.mono H_18.out.size))
  clear hb H_18 Bx_18 By_18 Bp_18 Bq_18 Bc_18 Bd_18 Be_18 Bl_18
  have Br_19 := Lib.hid Bnew
  clear Bnew
  go_wp2_with fail
  go_ret
  exact ⟨rfl, H_19.out⟩

set_option maxHeartbeats 8000000 in
theorem pow_num (K N K' N' : Int) (T T' : List UInt8) (a b : Nat) (ha : a ≤ 1000) (hb : b ≤ 1000) (x : Int) (h : IsNum K N T x) (y : Int) (h' : IsNum K' N' T' y) (w : World) (hw : Wd w) :
    Calls Tryz.prog 10 #[valV K N T, valV K' N' T', .int .i64 a, .int .i64 b] w fun e w' => e = .returned (.bool true) ∧ Below w.heap.size w w' := by
  obtain ⟨A0, A1, A2, E, sa⟩ := ans_ex (x ^ a)
  obtain ⟨B0, B1, B2, F, sb⟩ := ans_ex (x ^ b)
  obtain ⟨C0, C1, C2, G, sc⟩ := ans_ex (x ^ (a + b))
  have hsx : T.length ≤ 800 := by have := h.len; omega
  obtain ⟨D0, D1, D2, H, sd⟩ := ans_ex (y ^ a)
  obtain ⟨Q0, Q1, Q2, I, sq⟩ := ans_ex (x * y)
  obtain ⟨W0, W1, W2, J, hw2, sw⟩ := Pow_gen Q0 Q1 Q2 sq.in64 a (by omega)
  obtain ⟨R0, R1, R2, M, hr, sr⟩ := Mul_gen A0 A1 D0 D1 A2 D2 sa.in64 sd.in64
  have hsy : T'.length ≤ 800 := by have := h'.len; omega
  have Hsa := Lib.hid sa
  have Hsb := Lib.hid sb
  have Hsc := Lib.hid sc
  have Hsd := Lib.hid sd
  have Hsq := Lib.hid sq
  have Hhw2 := Lib.hid hw2
  have Hsw := Lib.hid sw
  have Hhr := Lib.hid hr
  have Hsr := Lib.hid sr
  clear sa sb sc sd sq hw2 sw hr sr
  have d0 : decide ((a : Int) < 0) = false := decide_eq_false (by omega)
  have d1 : decide ((b : Int) < 0) = false := decide_eq_false (by omega)
  have d2 : decide ((1000 : Int) < (a : Int)) = false := decide_eq_false (by omega)
  have d3 : decide ((1000 : Int) < (b : Int)) = false := decide_eq_false (by omega)
  have ba : (a : Int) ≤ 1000 := by omega
  have bb : (b : Int) ≤ 1000 := by omega
  have ba0 : 0 ≤ (a : Int) := by omega
  have bb0 : 0 ≤ (b : Int) := by omega
  have HA := Lib.hid (show a ≤ 2000 by omega)
  have HB := Lib.hid (show b ≤ 2000 by omega)
  have HAB := Lib.hid (show a + b ≤ 2000 by omega)
  clear ha hb
  have H_0 := Lib.hid (Below.refl w.heap.size w)
  unfold valV
  go_enter Tryz.func10, Tryz.ntmps10
  have hb : Below (w).heap.size (w) ((w).alloc (.cells #[.int .i64 K, .int .i64 N, .string ⟨T.toArray⟩] 23)) := (Below.refl _ (w)).alloc (Nat.le_refl _) _
  have Bnew := VB.new (w) (.int .i64 K) (.int .i64 N) (.string ⟨T.toArray⟩)
  try simp only [World.size_alloc] at Bnew
  have H_1 := Lib.hid (H_0.out.trans (hb.mono H_0.out.size))
  clear hb H_0
  have Bx_1 := Lib.hid Bnew
  clear Bnew
  have hb : Below ((w).alloc (.cells #[.int .i64 K, .int .i64 N, .string ⟨T.toArray⟩] 23)).heap.size ((w).alloc (.cells #[.int .i64 K, .int .i64 N, .string ⟨T.toArray⟩] 23)) (((w).alloc (.cells #[.int .i64 K, .int .i64 N, .string ⟨T.toArray⟩] 23)).alloc (.cells #[.int .i64 K', .int .i64 N', .string ⟨T'.toArray⟩] 23)) := (Below.refl _ ((w).alloc (.cells #[.int .i64 K, .int .i64 N, .string ⟨T.toArray⟩] 23))).alloc (Nat.le_refl _) _
  have Bnew := VB.new ((w).alloc (.cells #[.int .i64 K, .int .i64 N, .string ⟨T.toArray⟩] 23)) (.int .i64 K') (.int .i64 N') (.string ⟨T'.toArray⟩)
  try simp only [World.size_alloc] at Bnew
  have Bx_2 := Lib.hid (Bx_1.out.below hb Bx_1.out.lt)
  have H_2 := Lib.hid (H_1.out.trans (hb.mono H_1.out.size))
  clear hb H_1 Bx_1
  have By_2 := Lib.hid Bnew
  clear Bnew
  go_wp2_with fail
  have hc := awake_c (((w).alloc (.cells #[.int .i64 K, .int .i64 N, .string ⟨T.toArray⟩] 23)).alloc (.cells #[.int .i64 K', .int .i64 N', .string ⟨T'.toArray⟩] 23)) (hw.below H_2.out)
  unfold valV at hc
  refine hc.mono ?_
  rintro e u1 ⟨rfl, hb⟩
  clear hc
  have Bx_3 := Lib.hid (Bx_2.out.below hb Bx_2.out.lt)
  have By_3 := Lib.hid (By_2.out.below hb By_2.out.lt)
  have H_3 := Lib.hid (H_2.out.trans (hb.mono H_2.out.size))
  clear hb H_2 Bx_2 By_2
  have qx0 := Bx_3.out.c0
  have qx1 := Bx_3.out.c1
  have qx2 := Bx_3.out.c2
  go_wp2_with fail
  clear qx0 qx1 qx2
  have hc := short_yes K N T hsx (u1)
  unfold valV at hc
  refine hc.mono ?_
  rintro e u2 ⟨rfl, hb⟩
  clear hc
  have Bx_4 := Lib.hid (Bx_3.out.below hb Bx_3.out.lt)
  have By_4 := Lib.hid (By_3.out.below hb By_3.out.lt)
  have H_4 := Lib.hid (H_3.out.trans (hb.mono H_3.out.size))
  clear hb H_3 Bx_3 By_3
  have qy0 := By_4.out.c0
  have qy1 := By_4.out.c1
  have qy2 := By_4.out.c2
  go_wp2_with fail
  clear qy0 qy1 qy2
  have hc := short_yes K' N' T' hsy (u2)
  unfold valV at hc
  refine hc.mono ?_
  rintro e u3 ⟨rfl, hb⟩
  clear hc
  have Bx_5 := Lib.hid (Bx_4.out.below hb Bx_4.out.lt)
  have By_5 := Lib.hid (By_4.out.below hb By_4.out.lt)
  have H_5 := Lib.hid (H_4.out.trans (hb.mono H_4.out.size))
  clear hb H_4 Bx_4 By_4
  have qx0 := Bx_5.out.c0
  have qx1 := Bx_5.out.c1
  have qx2 := Bx_5.out.c2
  go_wp2_with fail
  clear qx0 qx1 qx2
  have hc := Pow_any h a HA.out Hsa.out rfl (u3) (hw.below H_5.out)
  unfold valV at hc
  refine hc.mono ?_
  rintro e u4 ⟨rfl, hb⟩
  clear hc
  have Bx_6 := Lib.hid (Bx_5.out.below hb Bx_5.out.lt)
  have By_6 := Lib.hid (By_5.out.below hb By_5.out.lt)
  have H_6 := Lib.hid (H_5.out.trans (hb.mono H_5.out.size))
  clear hb H_5 Bx_5 By_5
  have hb : Below (u4).heap.size (u4) ((u4).alloc (.cells #[.int .i64 A0, .int .i64 A1, .string ⟨A2.toArray⟩] 23)) := (Below.refl _ (u4)).alloc (Nat.le_refl _) _
  have Bnew := VB.new (u4) (.int .i64 A0) (.int .i64 A1) (.string ⟨A2.toArray⟩)
  try simp only [World.size_alloc] at Bnew
  have Bx_7 := Lib.hid (Bx_6.out.below hb Bx_6.out.lt)
  have By_7 := Lib.hid (By_6.out.below hb By_6.out.lt)
  have H_7 := Lib.hid (H_6.out.trans (hb.mono H_6.out.size))
  clear hb H_6 Bx_6 By_6
  have Bp_7 := Lib.hid Bnew
  clear Bnew
  have qx0 := Bx_7.out.c0
  have qx1 := Bx_7.out.c1
  have qx2 := Bx_7.out.c2
  go_wp2_with fail
  clear qx0 qx1 qx2
  have hc := Pow_any h b HB.out Hsb.out rfl ((u4).alloc (.cells #[.int .i64 A0, .int .i64 A1, .string ⟨A2.toArray⟩] 23)) (hw.below H_7.out)
  unfold valV at hc
  refine hc.mono ?_
  rintro e u5 ⟨rfl, hb⟩
  clear hc
  have Bx_8 := Lib.hid (Bx_7.out.below hb Bx_7.out.lt)
  have By_8 := Lib.hid (By_7.out.below hb By_7.out.lt)
  have Bp_8 := Lib.hid (Bp_7.out.below hb Bp_7.out.lt)
  have H_8 := Lib.hid (H_7.out.trans (hb.mono H_7.out.size))
  clear hb H_7 Bx_7 By_7 Bp_7
  have hb : Below (u5).heap.size (u5) ((u5).alloc (.cells #[.int .i64 B0, .int .i64 B1, .string ⟨B2.toArray⟩] 23)) := (Below.refl _ (u5)).alloc (Nat.le_refl _) _
  have Bnew := VB.new (u5) (.int .i64 B0) (.int .i64 B1) (.string ⟨B2.toArray⟩)
  try simp only [World.size_alloc] at Bnew
  have Bx_9 := Lib.hid (Bx_8.out.below hb Bx_8.out.lt)
  have By_9 := Lib.hid (By_8.out.below hb By_8.out.lt)
  have Bp_9 := Lib.hid (Bp_8.out.below hb Bp_8.out.lt)
  have H_9 := Lib.hid (H_8.out.trans (hb.mono H_8.out.size))
  clear hb H_8 Bx_8 By_8 Bp_8
  have Bq_9 := Lib.hid Bnew
  clear Bnew
  have qx0 := Bx_9.out.c0
  have qx1 := Bx_9.out.c1
  have qx2 := Bx_9.out.c2
  go_wp2_with fail
  clear qx0 qx1 qx2
  have hc := Pow_sum h a b HAB.out Hsc.out rfl ((u5).alloc (.cells #[.int .i64 B0, .int .i64 B1, .string ⟨B2.toArray⟩] 23)) (hw.below H_9.out)
  unfold valV at hc
  refine hc.mono ?_
  rintro e u6 ⟨rfl, hb⟩
  clear hc
  have Bx_10 := Lib.hid (Bx_9.out.below hb Bx_9.out.lt)
  have By_10 := Lib.hid (By_9.out.below hb By_9.out.lt)
  have Bp_10 := Lib.hid (Bp_9.out.below hb Bp_9.out.lt)
  have Bq_10 := Lib.hid (Bq_9.out.below hb Bq_9.out.lt)
  have H_10 := Lib.hid (H_9.out.trans (hb.mono H_9.out.size))
  clear hb H_9 Bx_9 By_9 Bp_9 Bq_9
  have hb : Below (u6).heap.size (u6) ((u6).alloc (.cells #[.int .i64 C0, .int .i64 C1, .string ⟨C2.toArray⟩] 23)) := (Below.refl _ (u6)).alloc (Nat.le_refl _) _
  have Bnew := VB.new (u6) (.int .i64 C0) (.int .i64 C1) (.string ⟨C2.toArray⟩)
  try simp only [World.size_alloc] at Bnew
  have Bx_11 := Lib.hid (Bx_10.out.below hb Bx_10.out.lt)
  have By_11 := Lib.hid (By_10.out.below hb By_10.out.lt)
  have Bp_11 := Lib.hid (Bp_10.out.below hb Bp_10.out.lt)
  have Bq_11 := Lib.hid (Bq_10.out.below hb Bq_10.out.lt)
  have H_11 := Lib.hid (H_10.out.trans (hb.mono H_10.out.size))
  clear hb H_10 Bx_10 By_10 Bp_10 Bq_10
  have Bc_11 := Lib.hid Bnew
  clear Bnew
  rcases Hsa.out.two with rfl | rfl
  · rcases Hsb.out.two with rfl | rfl
    · have qp0 := Bp_11.out.c0
      have qp1 := Bp_11.out.c1
      have qp2 := Bp_11.out.c2
      have qq0 := Bq_11.out.c0
      have qq1 := Bq_11.out.c1
      have qq2 := Bq_11.out.c2
      go_wp2_with fail
      clear qp0 qp1 qp2 qq0 qq1 qq2
      have hc := Mul_any Hsa.out.ok Hsb.out.ok Hsc.out (pow_sum_eq x a b) ((u6).alloc (.cells #[.int .i64 C0, .int .i64 C1, .string ⟨C2.toArray⟩] 23)) (hw.below H_11.out)
      unfold valV at hc
      refine hc.mono ?_
      rintro e u7 ⟨rfl, hb⟩
      clear hc
      have Bx_12 := Lib.hid (Bx_11.out.below hb Bx_11.out.lt)
      have By_12 := Lib.hid (By_11.out.below hb By_11.out.lt)
      have Bp_12 := Lib.hid (Bp_11.out.below hb Bp_11.out.lt)
      have Bq_12 := Lib.hid (Bq_11.out.below hb Bq_11.out.lt)
      have Bc_12 := Lib.hid (Bc_11.out.below hb Bc_11.out.lt)
      have H_12 := Lib.hid (H_11.out.trans (hb.mono H_11.out.size))
      clear hb H_11 Bx_11 By_11 Bp_11 Bq_11 Bc_11
      have hb : Below (u7).heap.size (u7) ((u7).alloc (.cells #[.int .i64 C0, .int .i64 C1, .string ⟨C2.toArray⟩] 23)) := (Below.refl _ (u7)).alloc (Nat.le_refl _) _
      have Bnew := VB.new (u7) (.int .i64 C0) (.int .i64 C1) (.string ⟨C2.toArray⟩)
      try simp only [World.size_alloc] at Bnew
      have Bx_13 := Lib.hid (Bx_12.out.below hb Bx_12.out.lt)
      have By_13 := Lib.hid (By_12.out.below hb By_12.out.lt)
      have Bp_13 := Lib.hid (Bp_12.out.below hb Bp_12.out.lt)
      have Bq_13 := Lib.hid (Bq_12.out.below hb Bq_12.out.lt)
      have Bc_13 := Lib.hid (Bc_12.out.below hb Bc_12.out.lt)
      have H_13 := Lib.hid (H_12.out.trans (hb.mono H_12.out.size))
      clear hb H_12 Bx_12 By_12 Bp_12 Bq_12 Bc_12
      have Bm_13 := Lib.hid Bnew
      clear Bnew
      have qm0 := Bm_13.out.c0
      have qm1 := Bm_13.out.c1
      have qm2 := Bm_13.out.c2
      have qc0 := Bc_13.out.c0
      have qc1 := Bc_13.out.c1
      have qc2 := Bc_13.out.c2
      have qy0 := By_13.out.c0
      have qy1 := By_13.out.c1
      have qy2 := By_13.out.c2
      go_wp2_with fail
      clear qy0 qy1 qy2
      clear qm0 qm1 qm2 qc0 qc1 qc2
      have hc := Pow_any h' a HA.out Hsd.out rfl ((u7).alloc (.cells #[.int .i64 C0, .int .i64 C1, .string ⟨C2.toArray⟩] 23)) (hw.below H_13.out)
      unfold valV at hc
      refine hc.mono ?_
      rintro e u8 ⟨rfl, hb⟩
      clear hc
      have Bx_14 := Lib.hid (Bx_13.out.below hb Bx_13.out.lt)
      have By_14 := Lib.hid (By_13.out.below hb By_13.out.lt)
      have Bp_14 := Lib.hid (Bp_13.out.below hb Bp_13.out.lt)
      have Bq_14 := Lib.hid (Bq_13.out.below hb Bq_13.out.lt)
      have Bc_14 := Lib.hid (Bc_13.out.below hb Bc_13.out.lt)
      have Bm_14 := Lib.hid (Bm_13.out.below hb Bm_13.out.lt)
      have H_14 := Lib.hid (H_13.out.trans (hb.mono H_13.out.size))
      clear hb H_13 Bx_13 By_13 Bp_13 Bq_13 Bc_13 Bm_13
      have hb : Below (u8).heap.size (u8) ((u8).alloc (.cells #[.int .i64 D0, .int .i64 D1, .string ⟨D2.toArray⟩] 23)) := (Below.refl _ (u8)).alloc (Nat.le_refl _) _
      have Bnew := VB.new (u8) (.int .i64 D0) (.int .i64 D1) (.string ⟨D2.toArray⟩)
      try simp only [World.size_alloc] at Bnew
      have Bx_15 := Lib.hid (Bx_14.out.below hb Bx_14.out.lt)
      have By_15 := Lib.hid (By_14.out.below hb By_14.out.lt)
      have Bp_15 := Lib.hid (Bp_14.out.below hb Bp_14.out.lt)
      have Bq_15 := Lib.hid (Bq_14.out.below hb Bq_14.out.lt)
      have Bc_15 := Lib.hid (Bc_14.out.below hb Bc_14.out.lt)
      have Bm_15 := Lib.hid (Bm_14.out.below hb Bm_14.out.lt)
      have H_15 := Lib.hid (H_14.out.trans (hb.mono H_14.out.size))
      clear hb H_14 Bx_14 By_14 Bp_14 Bq_14 Bc_14 Bm_14
      have Bd_15 := Lib.hid Bnew
      clear Bnew
      have qx0 := Bx_15.out.c0
      have qx1 := Bx_15.out.c1
      have qx2 := Bx_15.out.c2
      have qy0 := By_15.out.c0
      have qy1 := By_15.out.c1
      have qy2 := By_15.out.c2
      go_wp2_with fail
      clear qx0 qx1 qx2 qy0 qy1 qy2
      have hc := Mul_any h h' Hsq.out rfl ((u8).alloc (.cells #[.int .i64 D0, .int .i64 D1, .string ⟨D2.toArray⟩] 23)) (hw.below H_15.out)
      unfold valV at hc
      refine hc.mono ?_
      rintro e u9 ⟨rfl, hb⟩
      clear hc
      have Bx_16 := Lib.hid (Bx_15.out.below hb Bx_15.out.lt)
      have By_16 := Lib.hid (By_15.out.below hb By_15.out.lt)
      have Bp_16 := Lib.hid (Bp_15.out.below hb Bp_15.out.lt)
      have Bq_16 := Lib.hid (Bq_15.out.below hb Bq_15.out.lt)
      have Bc_16 := Lib.hid (Bc_15.out.below hb Bc_15.out.lt)
      have Bm_16 := Lib.hid (Bm_15.out.below hb Bm_15.out.lt)
      have Bd_16 := Lib.hid (Bd_15.out.below hb Bd_15.out.lt)
      have H_16 := Lib.hid (H_15.out.trans (hb.mono H_15.out.size))
      clear hb H_15 Bx_15 By_15 Bp_15 Bq_15 Bc_15 Bm_15 Bd_15
      have hb : Below (u9).heap.size (u9) ((u9).alloc (.cells #[.int .i64 Q0, .int .i64 Q1, .string ⟨Q2.toArray⟩] 23)) := (Below.refl _ (u9)).alloc (Nat.le_refl _) _
      have Bnew := VB.new (u9) (.int .i64 Q0) (.int .i64 Q1) (.string ⟨Q2.toArray⟩)
      try simp only [World.size_alloc] at Bnew
      have Bx_17 := Lib.hid (Bx_16.out.below hb Bx_16.out.lt)
      have By_17 := Lib.hid (By_16.out.below hb By_16.out.lt)
      have Bp_17 := Lib.hid (Bp_16.out.below hb Bp_16.out.lt)
      have Bq_17 := Lib.hid (Bq_16.out.below hb Bq_16.out.lt)
      have Bc_17 := Lib.hid (Bc_16.out.below hb Bc_16.out.lt)
      have Bm_17 := Lib.hid (Bm_16.out.below hb Bm_16.out.lt)
      have Bd_17 := Lib.hid (Bd_16.out.below hb Bd_16.out.lt)
      have H_17 := Lib.hid (H_16.out.trans (hb.mono H_16.out.size))
      clear hb H_16 Bx_16 By_16 Bp_16 Bq_16 Bc_16 Bm_16 Bd_16
      have Be_17 := Lib.hid Bnew
      clear Bnew
      have qe0 := Be_17.out.c0
      have qe1 := Be_17.out.c1
      have qe2 := Be_17.out.c2
      go_wp2_with fail
      clear qe0 qe1 qe2
      have hc := Hhw2.out.2 ((u9).alloc (.cells #[.int .i64 Q0, .int .i64 Q1, .string ⟨Q2.toArray⟩] 23)) (hw.below H_17.out)
      unfold valV at hc
      refine hc.mono ?_
      rintro e u10 ⟨rfl, hb⟩
      clear hc
      have Bx_18 := Lib.hid (Bx_17.out.below hb Bx_17.out.lt)
      have By_18 := Lib.hid (By_17.out.below hb By_17.out.lt)
      have Bp_18 := Lib.hid (Bp_17.out.below hb Bp_17.out.lt)
      have Bq_18 := Lib.hid (Bq_17.out.below hb Bq_17.out.lt)
      have Bc_18 := Lib.hid (Bc_17.out.below hb Bc_17.out.lt)
      have Bm_18 := Lib.hid (Bm_17.out.below hb Bm_17.out.lt)
      have Bd_18 := Lib.hid (Bd_17.out.below hb Bd_17.out.lt)
      have Be_18 := Lib.hid (Be_17.out.below hb Be_17.out.lt)
      have H_18 := Lib.hid (H_17.out.trans (hb.mono H_17.out.size))
      clear hb H_17 Bx_17 By_17 Bp_17 Bq_17 Bc_17 Bm_17 Bd_17 Be_17
      have hb : Below (u10).heap.size (u10) ((u10).alloc (.cells #[.int .i64 W0, .int .i64 W1, .string ⟨W2.toArray⟩] 23)) := (Below.refl _ (u10)).alloc (Nat.le_refl _) _
      have Bnew := VB.new (u10) (.int .i64 W0) (.int .i64 W1) (.string ⟨W2.toArray⟩)
      try simp only [World.size_alloc] at Bnew
      have Bx_19 := Lib.hid (Bx_18.out.below hb Bx_18.out.lt)
      have By_19 := Lib.hid (By_18.out.below hb By_18.out.lt)
      have Bp_19 := Lib.hid (Bp_18.out.below hb Bp_18.out.lt)
      have Bq_19 := Lib.hid (Bq_18.out.below hb Bq_18.out.lt)
      have Bc_19 := Lib.hid (Bc_18.out.below hb Bc_18.out.lt)
      have Bm_19 := Lib.hid (Bm_18.out.below hb Bm_18.out.lt)
      have Bd_19 := Lib.hid (Bd_18.out.below hb Bd_18.out.lt)
      have Be_19 := Lib.hid (Be_18.out.below hb Be_18.out.lt)
      have H_19 := Lib.hid (H_18.out.trans (hb.mono H_18.out.size))
      clear hb H_18 Bx_18 By_18 Bp_18 Bq_18 Bc_18 Bm_18 Bd_18 Be_18
      have Bl_19 := Lib.hid Bnew
      clear Bnew
      have qp0 := Bp_19.out.c0
      have qp1 := Bp_19.out.c1
      have qp2 := Bp_19.out.c2
      have qd0 := Bd_19.out.c0
      have qd1 := Bd_19.out.c1
      have qd2 := Bd_19.out.c2
      go_wp2_with fail
      clear qp0 qp1 qp2 qd0 qd1 qd2
      have hc := Hhr.out.2 ((u10).alloc (.cells #[.int .i64 W0, .int .i64 W1, .string ⟨W2.toArray⟩] 23)) (hw.below H_19.out)
      unfold valV at hc
      refine hc.mono ?_
      rintro e u11 ⟨rfl, hb⟩
      clear hc
      have Bx_20 := Lib.hid (Bx_19.out.below hb Bx_19.out.lt)
      have By_20 := Lib.hid (By_19.out.below hb By_19.out.lt)
      have Bp_20 := Lib.hid (Bp_19.out.below hb Bp_19.out.lt)
      have Bq_20 := Lib.hid (Bq_19.out.below hb Bq_19.out.lt)
      have Bc_20 := Lib.hid (Bc_19.out.below hb Bc_19.out.lt)
      have Bm_20 := Lib.hid (Bm_19.out.below hb Bm_19.out.lt)
      have Bd_20 := Lib.hid (Bd_19.out.below hb Bd_19.out.lt)
      have Be_20 := Lib.hid (Be_19.out.below hb Be_19.out.lt)
      have Bl_20 := Lib.hid (Bl_19.out.below hb Bl_19.out.lt)
      have H_20 := Lib.hid (H_19.out.trans (hb.mono H_19.out.size))
      clear hb H_19 Bx_19 By_19 Bp_19 Bq_19 Bc_19 Bm_19 Bd_19 Be_19 Bl_19
      have hb : Below (u11).heap.size (u11) ((u11).alloc (.cells #[.int .i64 R0, .int .i64 R1, .string ⟨R2.toArray⟩] 23)) := (Below.refl _ (u11)).alloc (Nat.le_refl _) _
      have Bnew := VB.new (u11) (.int .i64 R0) (.int .i64 R1) (.string ⟨R2.toArray⟩)
      try simp only [World.size_alloc] at Bnew
      have Bx_21 := Lib.hid (Bx_20.out.below hb Bx_20.out.lt)
      have By_21 := Lib.hid (By_20.out.below hb By_20.out.lt)
      have Bp_21 := Lib.hid (Bp_20.out.below hb Bp_20.out.lt)
      have Bq_21 := Lib.hid (Bq_20.out.below hb Bq_20.out.lt)
      have Bc_21 := Lib.hid (Bc_20.out.below hb Bc_20.out.lt)
      have Bm_21 := Lib.hid (Bm_20.out.below hb Bm_20.out.lt)
      have Bd_21 := Lib.hid (Bd_20.out.below hb Bd_20.out.lt)
      have Be_21 := Lib.hid (Be_20.out.below hb Be_20.out.lt)
      have Bl_21 := Lib.hid (Bl_20.out.below hb Bl_20.out.lt)
      have H_21 := Lib.hid (H_20.out.trans (hb.mono H_20.out.size))
      clear hb H_20 Bx_20 By_20 Bp_20 Bq_20 Bc_20 Bm_20 Bd_20 Be_20 Bl_20
      have Br_21 := Lib.hid Bnew
      clear Bnew
      have ql0 := Bl_21.out.c0
      have ql1 := Bl_21.out.c1
      have ql2 := Bl_21.out.c2
      have qr0 := Br_21.out.c0
      have qr1 := Br_21.out.c1
      have qr2 := Br_21.out.c2
      rcases Hsd.out.two with rfl | rfl
      · rcases Hsq.out.two with rfl | rfl
        · obtain ⟨rfl, rfl, rfl, rfl⟩ := (Hsw.out _ Hsq.out.ok).same (pow_mul_eq x y a ▸ Hsr.out _ _ Hsa.out.ok Hsd.out.ok)
          go_wp2_with fail
          go_ret
          exact ⟨rfl, H_21.out⟩
        · go_wp2_with fail
          go_ret
          exact ⟨rfl, H_21.out⟩
      · go_wp2_with fail
        go_ret
        exact ⟨rfl, H_21.out⟩
    · have qy0 := By_11.out.c0
      have qy1 := By_11.out.c1
      have qy2 := By_11.out.c2
      go_wp2_with fail
      clear qy0 qy1 qy2
      have hc := Pow_any h' a HA.out Hsd.out rfl ((u6).alloc (.cells #[.int .i64 C0, .int .i64 C1, .string ⟨C2.toArray⟩] 23)) (hw.below H_11.out)
      unfold valV at hc
      refine hc.mono ?_
      rintro e u7 ⟨rfl, hb⟩
      clear hc
      have Bx_12 := Lib.hid (Bx_11.out.below hb Bx_11.out.lt)
      have By_12 := Lib.hid (By_11.out.below hb By_11.out.lt)
      have Bp_12 := Lib.hid (Bp_11.out.below hb Bp_11.out.lt)
      have Bq_12 := Lib.hid (Bq_11.out.below hb Bq_11.out.lt)
      have Bc_12 := Lib.hid (Bc_11.out.below hb Bc_11.out.lt)
      have H_12 := Lib.hid (H_11.out.trans (hb.mono H_11.out.size))
      clear hb H_11 Bx_11 By_11 Bp_11 Bq_11 Bc_11
      have hb : Below (u7).heap.size (u7) ((u7).alloc (.cells #[.int .i64 D0, .int .i64 D1, .string ⟨D2.toArray⟩] 23)) := (Below.refl _ (u7)).alloc (Nat.le_refl _) _
      have Bnew := VB.new (u7) (.int .i64 D0) (.int .i64 D1) (.string ⟨D2.toArray⟩)
      try simp only [World.size_alloc] at Bnew
      have Bx_13 := Lib.hid (Bx_12.out.below hb Bx_12.out.lt)
      have By_13 := Lib.hid (By_12.out.below hb By_12.out.lt)
      have Bp_13 := Lib.hid (Bp_12.out.below hb Bp_12.out.lt)
      have Bq_13 := Lib.hid (Bq_12.out.below hb Bq_12.out.lt)
      have Bc_13 := Lib.hid (Bc_12.out.below hb Bc_12.out.lt)
      have H_13 := Lib.hid (H_12.out.trans (hb.mono H_12.out.size))
      clear hb H_12 Bx_12 By_12 Bp_12 Bq_12 Bc_12
      have Bd_13 := Lib.hid Bnew
      clear Bnew
      have qx0 := Bx_13.out.c0
      have qx1 := Bx_13.out.c1
      have qx2 := Bx_13.out.c2
      have qy0 := By_13.out.c0
      have qy1 := By_13.out.c1
      have qy2 := By_13.out.c2
      go_wp2_with fail
      clear qx0 qx1 qx2 qy0 qy1 qy2
      have hc := Mul_any h h' Hsq.out rfl ((u7).alloc (.cells #[.int .i64 D0, .int .i64 D1, .string ⟨D2.toArray⟩] 23)) (hw.below H_13.out)
      unfold valV at hc
      refine hc.mono ?_
      rintro e u8 ⟨rfl, hb⟩
      clear hc
      have Bx_14 := Lib.hid (Bx_13.out.below hb Bx_13.out.lt)
      have By_14 := Lib.hid (By_13.out.below hb By_13.out.lt)
      have Bp_14 := Lib.hid (Bp_13.out.below hb Bp_13.out.lt)
      have Bq_14 := Lib.hid (Bq_13.out.below hb Bq_13.out.lt)
      have Bc_14 := Lib.hid (Bc_13.out.below hb Bc_13.out.lt)
      have Bd_14 := Lib.hid (Bd_13.out.below hb Bd_13.out.lt)
      have H_14 := Lib.hid (H_13.out.trans (hb.mono H_13.out.size))
      clear hb H_13 Bx_13 By_13 Bp_13 Bq_13 Bc_13 Bd_13
      have hb : Below (u8).heap.size (u8) ((u8).alloc (.cells #[.int .i64 Q0, .int .i64 Q1, .string ⟨Q2.toArray⟩] 23)) := (Below.refl _ (u8)).alloc (Nat.le_refl _) _
      have Bnew := VB.new (u8) (.int .i64 Q0) (.int .i64 Q1) (.string ⟨Q2.toArray⟩)
      try simp only [World.size_alloc] at Bnew
      have Bx_15 := Lib.hid (Bx_14.out.below hb Bx_14.out.lt)
      have By_15 := Lib.hid (By_14.out.below hb By_14.out.lt)
      have Bp_15 := Lib.hid (Bp_14.out.below hb Bp_14.out.lt)
      have Bq_15 := Lib.hid (Bq_14.out.below hb Bq_14.out.lt)
      have Bc_15 := Lib.hid (Bc_14.out.below hb Bc_14.out.lt)
      have Bd_15 := Lib.hid (Bd_14.out.below hb Bd_14.out.lt)
      have H_15 := Lib.hid (H_14.out.trans (hb.mono H_14.out.size))
      clear hb H_14 Bx_14 By_14 Bp_14 Bq_14 Bc_14 Bd_14
      have Be_15 := Lib.hid Bnew
      clear Bnew
      have qe0 := Be_15.out.c0
      have qe1 := Be_15.out.c1
      have qe2 := Be_15.out.c2
      go_wp2_with fail
      clear qe0 qe1 qe2
      have hc := Hhw2.out.2 ((u8).alloc (.cells #[.int .i64 Q0, .int .i64 Q1, .string ⟨Q2.toArray⟩] 23)) (hw.below H_15.out)
      unfold valV at hc
      refine hc.mono ?_
      rintro e u9 ⟨rfl, hb⟩
      clear hc
      have Bx_16 := Lib.hid (Bx_15.out.below hb Bx_15.out.lt)
      have By_16 := Lib.hid (By_15.out.below hb By_15.out.lt)
      have Bp_16 := Lib.hid (Bp_15.out.below hb Bp_15.out.lt)
      have Bq_16 := Lib.hid (Bq_15.out.below hb Bq_15.out.lt)
      have Bc_16 := Lib.hid (Bc_15.out.below hb Bc_15.out.lt)
      have Bd_16 := Lib.hid (Bd_15.out.below hb Bd_15.out.lt)
      have Be_16 := Lib.hid (Be_15.out.below hb Be_15.out.lt)
      have H_16 := Lib.hid (H_15.out.trans (hb.mono H_15.out.size))
      clear hb H_15 Bx_15 By_15 Bp_15 Bq_15 Bc_15 Bd_15 Be_15
      have hb : Below (u9).heap.size (u9) ((u9).alloc (.cells #[.int .i64 W0, .int .i64 W1, .string ⟨W2.toArray⟩] 23)) := (Below.refl _ (u9)).alloc (Nat.le_refl _) _
      have Bnew := VB.new (u9) (.int .i64 W0) (.int .i64 W1) (.string ⟨W2.toArray⟩)
      try simp only [World.size_alloc] at Bnew
      have Bx_17 := Lib.hid (Bx_16.out.below hb Bx_16.out.lt)
      have By_17 := Lib.hid (By_16.out.below hb By_16.out.lt)
      have Bp_17 := Lib.hid (Bp_16.out.below hb Bp_16.out.lt)
      have Bq_17 := Lib.hid (Bq_16.out.below hb Bq_16.out.lt)
      have Bc_17 := Lib.hid (Bc_16.out.below hb Bc_16.out.lt)
      have Bd_17 := Lib.hid (Bd_16.out.below hb Bd_16.out.lt)
      have Be_17 := Lib.hid (Be_16.out.below hb Be_16.out.lt)
      have H_17 := Lib.hid (H_16.out.trans (hb.mono H_16.out.size))
      clear hb H_16 Bx_16 By_16 Bp_16 Bq_16 Bc_16 Bd_16 Be_16
      have Bl_17 := Lib.hid Bnew
      clear Bnew
      have qp0 := Bp_17.out.c0
      have qp1 := Bp_17.out.c1
      have qp2 := Bp_17.out.c2
      have qd0 := Bd_17.out.c0
      have qd1 := Bd_17.out.c1
      have qd2 := Bd_17.out.c2
      go_wp2_with fail
      clear qp0 qp1 qp2 qd0 qd1 qd2
      have hc := Hhr.out.2 ((u9).alloc (.cells #[.int .i64 W0, .int .i64 W1, .string ⟨W2.toArray⟩] 23)) (hw.below H_17.out)
      unfold valV at hc
      refine hc.mono ?_
      rintro e u10 ⟨rfl, hb⟩
      clear hc
      have Bx_18 := Lib.hid (Bx_17.out.below hb Bx_17.out.lt)
      have By_18 := Lib.hid (By_17.out.below hb By_17.out.lt)
      have Bp_18 := Lib.hid (Bp_17.out.below hb Bp_17.out.lt)
      have Bq_18 := Lib.hid (Bq_17.out.below hb Bq_17.out.lt)
      have Bc_18 := Lib.hid (Bc_17.out.below hb Bc_17.out.lt)
      have Bd_18 := Lib.hid (Bd_17.out.below hb Bd_17.out.lt)
      have Be_18 := Lib.hid (Be_17.out.below hb Be_17.out.lt)
      have Bl_18 := Lib.hid (Bl_17.out.below hb Bl_17.out.lt)
      have H_18 := Lib.hid (H_17.out.trans (hb.mono H_17.out.size))
      clear hb H_17 Bx_17 By_17 Bp_17 Bq_17 Bc_17 Bd_17 Be_17 Bl_17
      have hb : Below (u10).heap.size (u10) ((u10).alloc (.cells #[.int .i64 R0, .int .i64 R1, .string ⟨R2.toArray⟩] 23)) := (Below.refl _ (u10)).alloc (Nat.le_refl _) _
      have Bnew := VB.new (u10) (.int .i64 R0) (.int .i64 R1) (.string ⟨R2.toArray⟩)
      try simp only [World.size_alloc] at Bnew
      have Bx_19 := Lib.hid (Bx_18.out.below hb Bx_18.out.lt)
      have By_19 := Lib.hid (By_18.out.below hb By_18.out.lt)
      have Bp_19 := Lib.hid (Bp_18.out.below hb Bp_18.out.lt)
      have Bq_19 := Lib.hid (Bq_18.out.below hb Bq_18.out.lt)
      have Bc_19 := Lib.hid (Bc_18.out.below hb Bc_18.out.lt)
      have Bd_19 := Lib.hid (Bd_18.out.below hb Bd_18.out.lt)
      have Be_19 := Lib.hid (Be_18.out.below hb Be_18.out.lt)
      have Bl_19 := Lib.hid (Bl_18.out.below hb Bl_18.out.lt)
      have H_19 := Lib.hid (H_18.out.trans (hb.mono H_18.out.size))
      clear hb H_18 Bx_18 By_18 Bp_18 Bq_18 Bc_18 Bd_18 Be_18 Bl_18
      have Br_19 := Lib.hid Bnew
      clear Bnew
      have ql0 := Bl_19.out.c0
      have ql1 := Bl_19.out.c1
      have ql2 := Bl_19.out.c2
      have qr0 := Br_19.out.c0
      have qr1 := Br_19.out.c1
      have qr2 := Br_19.out.c2
      rcases Hsd.out.two with rfl | rfl
      · rcases Hsq.out.two with rfl | rfl
        · obtain ⟨rfl, rfl, rfl, rfl⟩ := (Hsw.out _ Hsq.out.ok).same (pow_mul_eq x y a ▸ Hsr.out _ _ Hsa.out.ok Hsd.out.ok)
          go_wp2_with fail
          go_ret
          exact ⟨rfl, H_19.out⟩
        · go_wp2_with fail
          go_ret
          exact ⟨rfl, H_19.out⟩
      · go_wp2_with fail
        go_ret
        exact ⟨rfl, H_19.out⟩
  · have qy0 := By_11.out.c0
    have qy1 := By_11.out.c1
    have qy2 := By_11.out.c2
    go_wp2_with fail
    clear qy0 qy1 qy2
    have hc := Pow_any h' a HA.out Hsd.out rfl ((u6).alloc (.cells #[.int .i64 C0, .int .i64 C1, .string ⟨C2.toArray⟩] 23)) (hw.below H_11.out)
    unfold valV at hc
    refine hc.mono ?_
    rintro e u7 ⟨rfl, hb⟩
    clear hc
    have Bx_12 := Lib.hid (Bx_11.out.below hb Bx_11.out.lt)
    have By_12 := Lib.hid (By_11.out.below hb By_11.out.lt)
    have Bp_12 := Lib.hid (Bp_11.out.below hb Bp_11.out.lt)
    have Bq_12 := Lib.hid (Bq_11.out.below hb Bq_11.out.lt)
    have Bc_12 := Lib.hid (Bc_11.out.below hb Bc_11.out.lt)
    have H_12 := Lib.hid (H_11.out.trans (hb.mono H_11.out.size))
    clear hb H_11 Bx_11 By_11 Bp_11 Bq_11 Bc_11
    have hb : Below (u7).heap.size (u7) ((u7).alloc (.cells #[.int .i64 D0, .int .i64 D1, .string ⟨D2.toArray⟩] 23)) := (Below.refl _ (u7)).alloc (Nat.le_refl _) _
    have Bnew := VB.new (u7) (.int .i64 D0) (.int .i64 D1) (.string ⟨D2.toArray⟩)
    try simp only [World.size_alloc] at Bnew
    have Bx_13 := Lib.hid (Bx_12.out.below hb Bx_12.out.lt)
    have By_13 := Lib.hid (By_12.out.below hb By_12.out.lt)
    have Bp_13 := Lib.hid (Bp_12.out.below hb Bp_12.out.lt)
    have Bq_13 := Lib.hid (Bq_12.out.below hb Bq_12.out.lt)
    have Bc_13 := Lib.hid (Bc_12.out.below hb Bc_12.out.lt)
    have H_13 := Lib.hid (H_12.out.trans (hb.mono H_12.out.size))
    clear hb H_12 Bx_12 By_12 Bp_12 Bq_12 Bc_12
    have Bd_13 := Lib.hid Bnew
    clear Bnew
    have qx0 := Bx_13.out.c0
    have qx1 := Bx_13.out.c1
    have qx2 := Bx_13.out.c2
    have qy0 := By_13.out.c0
    have qy1 := By_13.out.c1
    have qy2 := By_13.out.c2
    go_wp2_with fail
    clear qx0 qx1 qx2 qy0 qy1 qy2
    have hc := Mul_any h h' Hsq.out rfl ((u7).alloc (.cells #[.int .i64 D0, .int .i64 D1, .string ⟨D2.toArray⟩] 23)) (hw.below H_13.out)
    unfold valV at hc
    refine hc.mono ?_
    rintro e u8 ⟨rfl, hb⟩
    clear hc
    have Bx_14 := Lib.hid (Bx_13.out.below hb Bx_13.out.lt)
    have By_14 := Lib.hid (By_13.out.below hb By_13.out.lt)
    have Bp_14 := Lib.hid (Bp_13.out.below hb Bp_13.out.lt)
    have Bq_14 := Lib.hid (Bq_13.out.below hb Bq_13.out.lt)
    have Bc_14 := Lib.hid (Bc_13.out.below hb Bc_13.out.lt)
    have Bd_14 := Lib.hid (Bd_13.out.below hb Bd_13.out.lt)
    have H_14 := Lib.hid (H_13.out.trans (hb.mono H_13.out.size))
    clear hb H_13 Bx_13 By_13 Bp_13 Bq_13 Bc_13 Bd_13
    have hb : Below (u8).heap.size (u8) ((u8).alloc (.cells #[.int .i64 Q0, .int .i64 Q1, .string ⟨Q2.toArray⟩] 23)) := (Below.refl _ (u8)).alloc (Nat.le_refl _) _
    have Bnew := VB.new (u8) (.int .i64 Q0) (.int .i64 Q1) (.string ⟨Q2.toArray⟩)
    try simp only [World.size_alloc] at Bnew
    have Bx_15 := Lib.hid (Bx_14.out.below hb Bx_14.out.lt)
    have By_15 := Lib.hid (By_14.out.below hb By_14.out.lt)
    have Bp_15 := Lib.hid (Bp_14.out.below hb Bp_14.out.lt)
    have Bq_15 := Lib.hid (Bq_14.out.below hb Bq_14.out.lt)
    have Bc_15 := Lib.hid (Bc_14.out.below hb Bc_14.out.lt)
    have Bd_15 := Lib.hid (Bd_14.out.below hb Bd_14.out.lt)
    have H_15 := Lib.hid (H_14.out.trans (hb.mono H_14.out.size))
    clear hb H_14 Bx_14 By_14 Bp_14 Bq_14 Bc_14 Bd_14
    have Be_15 := Lib.hid Bnew
    clear Bnew
    have qe0 := Be_15.out.c0
    have qe1 := Be_15.out.c1
    have qe2 := Be_15.out.c2
    go_wp2_with fail
    clear qe0 qe1 qe2
    have hc := Hhw2.out.2 ((u8).alloc (.cells #[.int .i64 Q0, .int .i64 Q1, .string ⟨Q2.toArray⟩] 23)) (hw.below H_15.out)
    unfold valV at hc
    refine hc.mono ?_
    rintro e u9 ⟨rfl, hb⟩
    clear hc
    have Bx_16 := Lib.hid (Bx_15.out.below hb Bx_15.out.lt)
    have By_16 := Lib.hid (By_15.out.below hb By_15.out.lt)
    have Bp_16 := Lib.hid (Bp_15.out.below hb Bp_15.out.lt)
    have Bq_16 := Lib.hid (Bq_15.out.below hb Bq_15.out.lt)
    have Bc_16 := Lib.hid (Bc_15.out.below hb Bc_15.out.lt)
    have Bd_16 := Lib.hid (Bd_15.out.below hb Bd_15.out.lt)
    have Be_16 := Lib.hid (Be_15.out.below hb Be_15.out.lt)
    have H_16 := Lib.hid (H_15.out.trans (hb.mono H_15.out.size))
    clear hb H_15 Bx_15 By_15 Bp_15 Bq_15 Bc_15 Bd_15 Be_15
    have hb : Below (u9).heap.size (u9) ((u9).alloc (.cells #[.int .i64 W0, .int .i64 W1, .string ⟨W2.toArray⟩] 23)) := (Below.refl _ (u9)).alloc (Nat.le_refl _) _
    have Bnew := VB.new (u9) (.int .i64 W0) (.int .i64 W1) (.string ⟨W2.toArray⟩)
    try simp only [World.size_alloc] at Bnew
    have Bx_17 := Lib.hid (Bx_16.out.below hb Bx_16.out.lt)
    have By_17 := Lib.hid (By_16.out.below hb By_16.out.lt)
    have Bp_17 := Lib.hid (Bp_16.out.below hb Bp_16.out.lt)
    have Bq_17 := Lib.hid (Bq_16.out.below hb Bq_16.out.lt)
    have Bc_17 := Lib.hid (Bc_16.out.below hb Bc_16.out.lt)
    have Bd_17 := Lib.hid (Bd_16.out.below hb Bd_16.out.lt)
    have Be_17 := Lib.hid (Be_16.out.below hb Be_16.out.lt)
    have H_17 := Lib.hid (H_16.out.trans (hb.mono H_16.out.size))
    clear hb H_16 Bx_16 By_16 Bp_16 Bq_16 Bc_16 Bd_16 Be_16
    have Bl_17 := Lib.hid Bnew
    clear Bnew
    have qp0 := Bp_17.out.c0
    have qp1 := Bp_17.out.c1
    have qp2 := Bp_17.out.c2
    have qd0 := Bd_17.out.c0
    have qd1 := Bd_17.out.c1
    have qd2 := Bd_17.out.c2
    go_wp2_with fail
    clear qp0 qp1 qp2 qd0 qd1 qd2
    have hc := Hhr.out.2 ((u9).alloc (.cells #[.int .i64 W0, .int .i64 W1, .string ⟨W2.toArray⟩] 23)) (hw.below H_17.out)
    unfold valV at hc
    refine hc.mono ?_
    rintro e u10 ⟨rfl, hb⟩
    clear hc
    have Bx_18 := Lib.hid (Bx_17.out.below hb Bx_17.out.lt)
    have By_18 := Lib.hid (By_17.out.below hb By_17.out.lt)
    have Bp_18 := Lib.hid (Bp_17.out.below hb Bp_17.out.lt)
    have Bq_18 := Lib.hid (Bq_17.out.below hb Bq_17.out.lt)
    have Bc_18 := Lib.hid (Bc_17.out.below hb Bc_17.out.lt)
    have Bd_18 := Lib.hid (Bd_17.out.below hb Bd_17.out.lt)
    have Be_18 := Lib.hid (Be_17.out.below hb Be_17.out.lt)
    have Bl_18 := Lib.hid (Bl_17.out.below hb Bl_17.out.lt)
    have H_18 := Lib.hid (H_17.out.trans (hb.mono H_17.out.size))
    clear hb H_17 Bx_17 By_17 Bp_17 Bq_17 Bc_17 Bd_17 Be_17 Bl_17
    have hb : Below (u10).heap.size (u10) ((u10).alloc (.cells #[.int .i64 R0, .int .i64 R1, .string ⟨R2.toArray⟩] 23)) := (Below.refl _ (u10)).alloc (Nat.le_refl _) _
    have Bnew := VB.new (u10) (.int .i64 R0) (.int .i64 R1) (.string ⟨R2.toArray⟩)
    try simp only [World.size_alloc] at Bnew
    have Bx_19 := Lib.hid (Bx_18.out.below hb Bx_18.out.lt)
    have By_19 := Lib.hid (By_18.out.below hb By_18.out.lt)
    have Bp_19 := Lib.hid (Bp_18.out.below hb Bp_18.out.lt)
    have Bq_19 := Lib.hid (Bq_18.out.below hb Bq_18.out.lt)
    have Bc_19 := Lib.hid (Bc_18.out.below hb Bc_18.out.lt)
    have Bd_19 := Lib.hid (Bd_18.out.below hb Bd_18.out.lt)
    have Be_19 := Lib.hid (Be_18.out.below hb Be_18.out.lt)
    have Bl_19 := Lib.hid (Bl_18.out.below hb Bl_18.out.lt)
    have H_19 := Lib.hid (H_18.out.trans (hb.mono H_18.out.size))
    clear hb H_18 Bx_18 By_18 Bp_18 Bq_18 Bc_18 Bd_18 Be_18 Bl_18
    have Br_19 := Lib.hid Bnew
    clear Bnew
    have ql0 := Bl_19.out.c0
    have ql1 := Bl_19.out.c1
    have ql2 := Bl_19.out.c2
    have qr0 := Br_19.out.c0
    have qr1 := Br_19.out.c1
    have qr2 := Br_19.out.c2
    go_wp2_with fail
    go_ret
    exact ⟨rfl, H_19.out⟩

set_option maxHeartbeats 8000000 in
theorem pow_noy (K N K' N' : Int) (T T' : List UInt8) (a b : Nat) (ha : a ≤ 1000) (hb : b ≤ 1000) (hy : T'.length ≤ 800) (x : Int) (h : IsNum K N T x) (hn : ∀ z, ¬ IsNum K' N' T' z) (hN' : In64Z N') (w : World) (hw : Wd w) :
    Calls Tryz.prog 10 #[valV K N T, valV K' N' T', .int .i64 a, .int .i64 b] w fun e w' => e = .returned (.bool true) ∧ Below w.heap.size w w' := by
  obtain ⟨A0, A1, A2, E, sa⟩ := ans_ex (x ^ a)
  obtain ⟨B0, B1, B2, F, sb⟩ := ans_ex (x ^ b)
  obtain ⟨C0, C1, C2, G, sc⟩ := ans_ex (x ^ (a + b))
  have hsx : T.length ≤ 800 := by have := h.len; omega
  have Hsa := Lib.hid sa
  have Hsb := Lib.hid sb
  have Hsc := Lib.hid sc
  clear sa sb sc
  have d0 : decide ((a : Int) < 0) = false := decide_eq_false (by omega)
  have d1 : decide ((b : Int) < 0) = false := decide_eq_false (by omega)
  have d2 : decide ((1000 : Int) < (a : Int)) = false := decide_eq_false (by omega)
  have d3 : decide ((1000 : Int) < (b : Int)) = false := decide_eq_false (by omega)
  have ba : (a : Int) ≤ 1000 := by omega
  have bb : (b : Int) ≤ 1000 := by omega
  have ba0 : 0 ≤ (a : Int) := by omega
  have bb0 : 0 ≤ (b : Int) := by omega
  have HA := Lib.hid (show a ≤ 2000 by omega)
  have HB := Lib.hid (show b ≤ 2000 by omega)
  have HAB := Lib.hid (show a + b ≤ 2000 by omega)
  clear ha hb
  have i0 : In64Z 0 := in64 (by decide) (by decide)
  have H_0 := Lib.hid (Below.refl w.heap.size w)
  unfold valV
  go_enter Tryz.func10, Tryz.ntmps10
  have hb : Below (w).heap.size (w) ((w).alloc (.cells #[.int .i64 K, .int .i64 N, .string ⟨T.toArray⟩] 23)) := (Below.refl _ (w)).alloc (Nat.le_refl _) _
  have Bnew := VB.new (w) (.int .i64 K) (.int .i64 N) (.string ⟨T.toArray⟩)
  try simp only [World.size_alloc] at Bnew
  have H_1 := Lib.hid (H_0.out.trans (hb.mono H_0.out.size))
  clear hb H_0
  have Bx_1 := Lib.hid Bnew
  clear Bnew
  have hb : Below ((w).alloc (.cells #[.int .i64 K, .int .i64 N, .string ⟨T.toArray⟩] 23)).heap.size ((w).alloc (.cells #[.int .i64 K, .int .i64 N, .string ⟨T.toArray⟩] 23)) (((w).alloc (.cells #[.int .i64 K, .int .i64 N, .string ⟨T.toArray⟩] 23)).alloc (.cells #[.int .i64 K', .int .i64 N', .string ⟨T'.toArray⟩] 23)) := (Below.refl _ ((w).alloc (.cells #[.int .i64 K, .int .i64 N, .string ⟨T.toArray⟩] 23))).alloc (Nat.le_refl _) _
  have Bnew := VB.new ((w).alloc (.cells #[.int .i64 K, .int .i64 N, .string ⟨T.toArray⟩] 23)) (.int .i64 K') (.int .i64 N') (.string ⟨T'.toArray⟩)
  try simp only [World.size_alloc] at Bnew
  have Bx_2 := Lib.hid (Bx_1.out.below hb Bx_1.out.lt)
  have H_2 := Lib.hid (H_1.out.trans (hb.mono H_1.out.size))
  clear hb H_1 Bx_1
  have By_2 := Lib.hid Bnew
  clear Bnew
  go_wp2_with fail
  have hc := awake_c (((w).alloc (.cells #[.int .i64 K, .int .i64 N, .string ⟨T.toArray⟩] 23)).alloc (.cells #[.int .i64 K', .int .i64 N', .string ⟨T'.toArray⟩] 23)) (hw.below H_2.out)
  unfold valV at hc
  refine hc.mono ?_
  rintro e u1 ⟨rfl, hb⟩
  clear hc
  have Bx_3 := Lib.hid (Bx_2.out.below hb Bx_2.out.lt)
  have By_3 := Lib.hid (By_2.out.below hb By_2.out.lt)
  have H_3 := Lib.hid (H_2.out.trans (hb.mono H_2.out.size))
  clear hb H_2 Bx_2 By_2
  have qx0 := Bx_3.out.c0
  have qx1 := Bx_3.out.c1
  have qx2 := Bx_3.out.c2
  go_wp2_with fail
  clear qx0 qx1 qx2
  have hc := short_yes K N T hsx (u1)
  unfold valV at hc
  refine hc.mono ?_
  rintro e u2 ⟨rfl, hb⟩
  clear hc
  have Bx_4 := Lib.hid (Bx_3.out.below hb Bx_3.out.lt)
  have By_4 := Lib.hid (By_3.out.below hb By_3.out.lt)
  have H_4 := Lib.hid (H_3.out.trans (hb.mono H_3.out.size))
  clear hb H_3 Bx_3 By_3
  have qy0 := By_4.out.c0
  have qy1 := By_4.out.c1
  have qy2 := By_4.out.c2
  go_wp2_with fail
  clear qy0 qy1 qy2
  have hc := short_yes K' N' T' hy (u2)
  unfold valV at hc
  refine hc.mono ?_
  rintro e u3 ⟨rfl, hb⟩
  clear hc
  have Bx_5 := Lib.hid (Bx_4.out.below hb Bx_4.out.lt)
  have By_5 := Lib.hid (By_4.out.below hb By_4.out.lt)
  have H_5 := Lib.hid (H_4.out.trans (hb.mono H_4.out.size))
  clear hb H_4 Bx_4 By_4
  have qx0 := Bx_5.out.c0
  have qx1 := Bx_5.out.c1
  have qx2 := Bx_5.out.c2
  go_wp2_with fail
  clear qx0 qx1 qx2
  have hc := Pow_any h a HA.out Hsa.out rfl (u3) (hw.below H_5.out)
  unfold valV at hc
  refine hc.mono ?_
  rintro e u4 ⟨rfl, hb⟩
  clear hc
  have Bx_6 := Lib.hid (Bx_5.out.below hb Bx_5.out.lt)
  have By_6 := Lib.hid (By_5.out.below hb By_5.out.lt)
  have H_6 := Lib.hid (H_5.out.trans (hb.mono H_5.out.size))
  clear hb H_5 Bx_5 By_5
  have hb : Below (u4).heap.size (u4) ((u4).alloc (.cells #[.int .i64 A0, .int .i64 A1, .string ⟨A2.toArray⟩] 23)) := (Below.refl _ (u4)).alloc (Nat.le_refl _) _
  have Bnew := VB.new (u4) (.int .i64 A0) (.int .i64 A1) (.string ⟨A2.toArray⟩)
  try simp only [World.size_alloc] at Bnew
  have Bx_7 := Lib.hid (Bx_6.out.below hb Bx_6.out.lt)
  have By_7 := Lib.hid (By_6.out.below hb By_6.out.lt)
  have H_7 := Lib.hid (H_6.out.trans (hb.mono H_6.out.size))
  clear hb H_6 Bx_6 By_6
  have Bp_7 := Lib.hid Bnew
  clear Bnew
  have qx0 := Bx_7.out.c0
  have qx1 := Bx_7.out.c1
  have qx2 := Bx_7.out.c2
  go_wp2_with fail
  clear qx0 qx1 qx2
  have hc := Pow_any h b HB.out Hsb.out rfl ((u4).alloc (.cells #[.int .i64 A0, .int .i64 A1, .string ⟨A2.toArray⟩] 23)) (hw.below H_7.out)
  unfold valV at hc
  refine hc.mono ?_
  rintro e u5 ⟨rfl, hb⟩
  clear hc
  have Bx_8 := Lib.hid (Bx_7.out.below hb Bx_7.out.lt)
  have By_8 := Lib.hid (By_7.out.below hb By_7.out.lt)
  have Bp_8 := Lib.hid (Bp_7.out.below hb Bp_7.out.lt)
  have H_8 := Lib.hid (H_7.out.trans (hb.mono H_7.out.size))
  clear hb H_7 Bx_7 By_7 Bp_7
  have hb : Below (u5).heap.size (u5) ((u5).alloc (.cells #[.int .i64 B0, .int .i64 B1, .string ⟨B2.toArray⟩] 23)) := (Below.refl _ (u5)).alloc (Nat.le_refl _) _
  have Bnew := VB.new (u5) (.int .i64 B0) (.int .i64 B1) (.string ⟨B2.toArray⟩)
  try simp only [World.size_alloc] at Bnew
  have Bx_9 := Lib.hid (Bx_8.out.below hb Bx_8.out.lt)
  have By_9 := Lib.hid (By_8.out.below hb By_8.out.lt)
  have Bp_9 := Lib.hid (Bp_8.out.below hb Bp_8.out.lt)
  have H_9 := Lib.hid (H_8.out.trans (hb.mono H_8.out.size))
  clear hb H_8 Bx_8 By_8 Bp_8
  have Bq_9 := Lib.hid Bnew
  clear Bnew
  have qx0 := Bx_9.out.c0
  have qx1 := Bx_9.out.c1
  have qx2 := Bx_9.out.c2
  go_wp2_with fail
  clear qx0 qx1 qx2
  have hc := Pow_sum h a b HAB.out Hsc.out rfl ((u5).alloc (.cells #[.int .i64 B0, .int .i64 B1, .string ⟨B2.toArray⟩] 23)) (hw.below H_9.out)
  unfold valV at hc
  refine hc.mono ?_
  rintro e u6 ⟨rfl, hb⟩
  clear hc
  have Bx_10 := Lib.hid (Bx_9.out.below hb Bx_9.out.lt)
  have By_10 := Lib.hid (By_9.out.below hb By_9.out.lt)
  have Bp_10 := Lib.hid (Bp_9.out.below hb Bp_9.out.lt)
  have Bq_10 := Lib.hid (Bq_9.out.below hb Bq_9.out.lt)
  have H_10 := Lib.hid (H_9.out.trans (hb.mono H_9.out.size))
  clear hb H_9 Bx_9 By_9 Bp_9 Bq_9
  have hb : Below (u6).heap.size (u6) ((u6).alloc (.cells #[.int .i64 C0, .int .i64 C1, .string ⟨C2.toArray⟩] 23)) := (Below.refl _ (u6)).alloc (Nat.le_refl _) _
  have Bnew := VB.new (u6) (.int .i64 C0) (.int .i64 C1) (.string ⟨C2.toArray⟩)
  try simp only [World.size_alloc] at Bnew
  have Bx_11 := Lib.hid (Bx_10.out.below hb Bx_10.out.lt)
  have By_11 := Lib.hid (By_10.out.below hb By_10.out.lt)
  have Bp_11 := Lib.hid (Bp_10.out.below hb Bp_10.out.lt)
  have Bq_11 := Lib.hid (Bq_10.out.below hb Bq_10.out.lt)
  have H_11 := Lib.hid (H_10.out.trans (hb.mono H_10.out.size))
  clear hb H_10 Bx_10 By_10 Bp_10 Bq_10
  have Bc_11 := Lib.hid Bnew
  clear Bnew
  rcases Hsa.out.two with rfl | rfl
  · rcases Hsb.out.two with rfl | rfl
    · have qp0 := Bp_11.out.c0
      have qp1 := Bp_11.out.c1
      have qp2 := Bp_11.out.c2
      have qq0 := Bq_11.out.c0
      have qq1 := Bq_11.out.c1
      have qq2 := Bq_11.out.c2
      go_wp2_with fail
      clear qp0 qp1 qp2 qq0 qq1 qq2
      have hc := Mul_any Hsa.out.ok Hsb.out.ok Hsc.out (pow_sum_eq x a b) ((u6).alloc (.cells #[.int .i64 C0, .int .i64 C1, .string ⟨C2.toArray⟩] 23)) (hw.below H_11.out)
      unfold valV at hc
      refine hc.mono ?_
      rintro e u7 ⟨rfl, hb⟩
      clear hc
      have Bx_12 := Lib.hid (Bx_11.out.below hb Bx_11.out.lt)
      have By_12 := Lib.hid (By_11.out.below hb By_11.out.lt)
      have Bp_12 := Lib.hid (Bp_11.out.below hb Bp_11.out.lt)
      have Bq_12 := Lib.hid (Bq_11.out.below hb Bq_11.out.lt)
      have Bc_12 := Lib.hid (Bc_11.out.below hb Bc_11.out.lt)
      have H_12 := Lib.hid (H_11.out.trans (hb.mono H_11.out.size))
      clear hb H_11 Bx_11 By_11 Bp_11 Bq_11 Bc_11
      have hb : Below (u7).heap.size (u7) ((u7).alloc (.cells #[.int .i64 C0, .int .i64 C1, .string ⟨C2.toArray⟩] 23)) := (Below.refl _ (u7)).alloc (Nat.le_refl _) _
      have Bnew := VB.new (u7) (.int .i64 C0) (.int .i64 C1) (.string ⟨C2.toArray⟩)
      try simp only [World.size_alloc] at Bnew
      have Bx_13 := Lib.hid (Bx_12.out.below hb Bx_12.out.lt)
      have By_13 := Lib.hid (By_12.out.below hb By_12.out.lt)
      have Bp_13 := Lib.hid (Bp_12.out.below hb Bp_12.out.lt)
      have Bq_13 := Lib.hid (Bq_12.out.below hb Bq_12.out.lt)
      have Bc_13 := Lib.hid (Bc_12.out.below hb Bc_12.out.lt)
      have H_13 := Lib.hid (H_12.out.trans (hb.mono H_12.out.size))
      clear hb H_12 Bx_12 By_12 Bp_12 Bq_12 Bc_12
      have Bm_13 := Lib.hid Bnew
      clear Bnew
      have qm0 := Bm_13.out.c0
      have qm1 := Bm_13.out.c1
      have qm2 := Bm_13.out.c2
      have qc0 := Bc_13.out.c0
      have qc1 := Bc_13.out.c1
      have qc2 := Bc_13.out.c2
      have qy0 := By_13.out.c0
      have qy1 := By_13.out.c1
      have qy2 := By_13.out.c2
      go_wp2_with fail
      clear qy0 qy1 qy2
      clear qm0 qm1 qm2 qc0 qc1 qc2
      have hc := Pow_no K' N' T' hn hN' a ((u7).alloc (.cells #[.int .i64 C0, .int .i64 C1, .string ⟨C2.toArray⟩] 23)) (hw.below H_13.out)
      unfold valV at hc
      refine hc.mono ?_
      rintro e u8 ⟨rfl, hb⟩
      clear hc
      have Bx_14 := Lib.hid (Bx_13.out.below hb Bx_13.out.lt)
      have By_14 := Lib.hid (By_13.out.below hb By_13.out.lt)
      have Bp_14 := Lib.hid (Bp_13.out.below hb Bp_13.out.lt)
      have Bq_14 := Lib.hid (Bq_13.out.below hb Bq_13.out.lt)
      have Bc_14 := Lib.hid (Bc_13.out.below hb Bc_13.out.lt)
      have Bm_14 := Lib.hid (Bm_13.out.below hb Bm_13.out.lt)
      have H_14 := Lib.hid (H_13.out.trans (hb.mono H_13.out.size))
      clear hb H_13 Bx_13 By_13 Bp_13 Bq_13 Bc_13 Bm_13
      have hb : Below (u8).heap.size (u8) ((u8).alloc (.cells #[.int .i64 0, .int .i64 0, .string ⟨#[]⟩] 23)) := (Below.refl _ (u8)).alloc (Nat.le_refl _) _
      have Bnew := VB.new (u8) (.int .i64 0) (.int .i64 0) (.string ⟨#[]⟩)
      try simp only [World.size_alloc] at Bnew
      have Bx_15 := Lib.hid (Bx_14.out.below hb Bx_14.out.lt)
      have By_15 := Lib.hid (By_14.out.below hb By_14.out.lt)
      have Bp_15 := Lib.hid (Bp_14.out.below hb Bp_14.out.lt)
      have Bq_15 := Lib.hid (Bq_14.out.below hb Bq_14.out.lt)
      have Bc_15 := Lib.hid (Bc_14.out.below hb Bc_14.out.lt)
      have Bm_15 := Lib.hid (Bm_14.out.below hb Bm_14.out.lt)
      have H_15 := Lib.hid (H_14.out.trans (hb.mono H_14.out.size))
      clear hb H_14 Bx_14 By_14 Bp_14 Bq_14 Bc_14 Bm_14
      have Bd_15 := Lib.hid Bnew
      clear Bnew
      have qx0 := Bx_15.out.c0
      have qx1 := Bx_15.out.c1
      have qx2 := Bx_15.out.c2
      have qy0 := By_15.out.c0
      have qy1 := By_15.out.c1
      have qy2 := By_15.out.c2
      go_wp2_with fail
      clear qx0 qx1 qx2 qy0 qy1 qy2
      have hc := Mul_no K N K' N' T T' (.inr hn) h.in64 hN' ((u8).alloc (.cells #[.int .i64 0, .int .i64 0, .string ⟨#[]⟩] 23)) (hw.below H_15.out)
      unfold valV at hc
      refine hc.mono ?_
      rintro e u9 ⟨rfl, hb⟩
      clear hc
      have Bx_16 := Lib.hid (Bx_15.out.below hb Bx_15.out.lt)
      have By_16 := Lib.hid (By_15.out.below hb By_15.out.lt)
      have Bp_16 := Lib.hid (Bp_15.out.below hb Bp_15.out.lt)
      have Bq_16 := Lib.hid (Bq_15.out.below hb Bq_15.out.lt)
      have Bc_16 := Lib.hid (Bc_15.out.below hb Bc_15.out.lt)
      have Bm_16 := Lib.hid (Bm_15.out.below hb Bm_15.out.lt)
      have Bd_16 := Lib.hid (Bd_15.out.below hb Bd_15.out.lt)
      have H_16 := Lib.hid (H_15.out.trans (hb.mono H_15.out.size))
      clear hb H_15 Bx_15 By_15 Bp_15 Bq_15 Bc_15 Bm_15 Bd_15
      have hb : Below (u9).heap.size (u9) ((u9).alloc (.cells #[.int .i64 0, .int .i64 0, .string ⟨#[]⟩] 23)) := (Below.refl _ (u9)).alloc (Nat.le_refl _) _
      have Bnew := VB.new (u9) (.int .i64 0) (.int .i64 0) (.string ⟨#[]⟩)
      try simp only [World.size_alloc] at Bnew
      have Bx_17 := Lib.hid (Bx_16.out.below hb Bx_16.out.lt)
      have By_17 := Lib.hid (By_16.out.below hb By_16.out.lt)
      have Bp_17 := Lib.hid (Bp_16.out.below hb Bp_16.out.lt)
      have Bq_17 := Lib.hid (Bq_16.out.below hb Bq_16.out.lt)
      have Bc_17 := Lib.hid (Bc_16.out.below hb Bc_16.out.lt)
      have Bm_17 := Lib.hid (Bm_16.out.below hb Bm_16.out.lt)
      have Bd_17 := Lib.hid (Bd_16.out.below hb Bd_16.out.lt)
      have H_17 := Lib.hid (H_16.out.trans (hb.mono H_16.out.size))
      clear hb H_16 Bx_16 By_16 Bp_16 Bq_16 Bc_16 Bm_16 Bd_16
      have Be_17 := Lib.hid Bnew
      clear Bnew
      have qe0 := Be_17.out.c0
      have qe1 := Be_17.out.c1
      have qe2 := Be_17.out.c2
      go_wp2_with fail
      clear qe0 qe1 qe2
      have hc := Pow_no 0 0 [] not_num i0 a ((u9).alloc (.cells #[.int .i64 0, .int .i64 0, .string ⟨#[]⟩] 23)) (hw.below H_17.out)
      unfold valV at hc
      refine hc.mono ?_
      rintro e u10 ⟨rfl, hb⟩
      clear hc
      have Bx_18 := Lib.hid (Bx_17.out.below hb Bx_17.out.lt)
      have By_18 := Lib.hid (By_17.out.below hb By_17.out.lt)
      have Bp_18 := Lib.hid (Bp_17.out.below hb Bp_17.out.lt)
      have Bq_18 := Lib.hid (Bq_17.out.below hb Bq_17.out.lt)
      have Bc_18 := Lib.hid (Bc_17.out.below hb Bc_17.out.lt)
      have Bm_18 := Lib.hid (Bm_17.out.below hb Bm_17.out.lt)
      have Bd_18 := Lib.hid (Bd_17.out.below hb Bd_17.out.lt)
      have Be_18 := Lib.hid (Be_17.out.below hb Be_17.out.lt)
      have H_18 := Lib.hid (H_17.out.trans (hb.mono H_17.out.size))
      clear hb H_17 Bx_17 By_17 Bp_17 Bq_17 Bc_17 Bm_17 Bd_17 Be_17
      have hb : Below (u10).heap.size (u10) ((u10).alloc (.cells #[.int .i64 0, .int .i64 0, .string ⟨#[]⟩] 23)) := (Below.refl _ (u10)).alloc (Nat.le_refl _) _
      have Bnew := VB.new (u10) (.int .i64 0) (.int .i64 0) (.string ⟨#[]⟩)
      try simp only [World.size_alloc] at Bnew
      have Bx_19 := Lib.hid (Bx_18.out.below hb Bx_18.out.lt)
      have By_19 := Lib.hid (By_18.out.below hb By_18.out.lt)
      have Bp_19 := Lib.hid (Bp_18.out.below hb Bp_18.out.lt)
      have Bq_19 := Lib.hid (Bq_18.out.below hb Bq_18.out.lt)
      have Bc_19 := Lib.hid (Bc_18.out.below hb Bc_18.out.lt)
      have Bm_19 := Lib.hid (Bm_18.out.below hb Bm_18.out.lt)
      have Bd_19 := Lib.hid (Bd_18.out.below hb Bd_18.out.lt)
      have Be_19 := Lib.hid (Be_18.out.below hb Be_18.out.lt)
      have H_19 := Lib.hid (H_18.out.trans (hb.mono H_18.out.size))
      clear hb H_18 Bx_18 By_18 Bp_18 Bq_18 Bc_18 Bm_18 Bd_18 Be_18
      have Bl_19 := Lib.hid Bnew
      clear Bnew
      have qp0 := Bp_19.out.c0
      have qp1 := Bp_19.out.c1
      have qp2 := Bp_19.out.c2
      have qd0 := Bd_19.out.c0
      have qd1 := Bd_19.out.c1
      have qd2 := Bd_19.out.c2
      go_wp2_with fail
      clear qp0 qp1 qp2 qd0 qd1 qd2
      have hc := Mul_no A0 A1 0 0 A2 [] (.inr not_num) Hsa.out.in64 i0 ((u10).alloc (.cells #[.int .i64 0, .int .i64 0, .string ⟨#[]⟩] 23)) (hw.below H_19.out)
      unfold valV at hc
      refine hc.mono ?_
      rintro e u11 ⟨rfl, hb⟩
      clear hc
      have Bx_20 := Lib.hid (Bx_19.out.below hb Bx_19.out.lt)
      have By_20 := Lib.hid (By_19.out.below hb By_19.out.lt)
      have Bp_20 := Lib.hid (Bp_19.out.below hb Bp_19.out.lt)
      have Bq_20 := Lib.hid (Bq_19.out.below hb Bq_19.out.lt)
      have Bc_20 := Lib.hid (Bc_19.out.below hb Bc_19.out.lt)
      have Bm_20 := Lib.hid (Bm_19.out.below hb Bm_19.out.lt)
      have Bd_20 := Lib.hid (Bd_19.out.below hb Bd_19.out.lt)
      have Be_20 := Lib.hid (Be_19.out.below hb Be_19.out.lt)
      have Bl_20 := Lib.hid (Bl_19.out.below hb Bl_19.out.lt)
      have H_20 := Lib.hid (H_19.out.trans (hb.mono H_19.out.size))
      clear hb H_19 Bx_19 By_19 Bp_19 Bq_19 Bc_19 Bm_19 Bd_19 Be_19 Bl_19
      have hb : Below (u11).heap.size (u11) ((u11).alloc (.cells #[.int .i64 0, .int .i64 0, .string ⟨#[]⟩] 23)) := (Below.refl _ (u11)).alloc (Nat.le_refl _) _
      have Bnew := VB.new (u11) (.int .i64 0) (.int .i64 0) (.string ⟨#[]⟩)
      try simp only [World.size_alloc] at Bnew
      have Bx_21 := Lib.hid (Bx_20.out.below hb Bx_20.out.lt)
      have By_21 := Lib.hid (By_20.out.below hb By_20.out.lt)
      have Bp_21 := Lib.hid (Bp_20.out.below hb Bp_20.out.lt)
      have Bq_21 := Lib.hid (Bq_20.out.below hb Bq_20.out.lt)
      have Bc_21 := Lib.hid (Bc_20.out.below hb Bc_20.out.lt)
      have Bm_21 := Lib.hid (Bm_20.out.below hb Bm_20.out.lt)
      have Bd_21 := Lib.hid (Bd_20.out.below hb Bd_20.out.lt)
      have Be_21 := Lib.hid (Be_20.out.below hb Be_20.out.lt)
      have Bl_21 := Lib.hid (Bl_20.out.below hb Bl_20.out.lt)
      have H_21 := Lib.hid (H_20.out.trans (hb.mono H_20.out.size))
      clear hb H_20 Bx_20 By_20 Bp_20 Bq_20 Bc_20 Bm_20 Bd_20 Be_20 Bl_20
      have Br_21 := Lib.hid Bnew
      clear Bnew
      go_wp2_with fail
      go_ret
      exact ⟨rfl, H_21.out⟩
    · have qy0 := By_11.out.c0
      have qy1 := By_11.out.c1
      have qy2 := By_11.out.c2
      go_wp2_with fail
      clear qy0 qy1 qy2
      have hc := Pow_no K' N' T' hn hN' a ((u6).alloc (.cells #[.int .i64 C0, .int .i64 C1, .string ⟨C2.toArray⟩] 23)) (hw.below H_11.out)
      unfold valV at hc
      refine hc.mono ?_
      rintro e u7 ⟨rfl, hb⟩
      clear hc
      have Bx_12 := Lib.hid (Bx_11.out.below hb Bx_11.out.lt)
      have By_12 := Lib.hid (By_11.out.below hb By_11.out.lt)
      have Bp_12 := Lib.hid (Bp_11.out.below hb Bp_11.out.lt)
      have Bq_12 := Lib.hid (Bq_11.out.below hb Bq_11.out.lt)
      have Bc_12 := Lib.hid (Bc_11.out.below hb Bc_11.out.lt)
      have H_12 := Lib.hid (H_11.out.trans (hb.mono H_11.out.size))
      clear hb H_11 Bx_11 By_11 Bp_11 Bq_11 Bc_11
      have hb : Below (u7).heap.size (u7) ((u7).alloc (.cells #[.int .i64 0, .int .i64 0, .string ⟨#[]⟩] 23)) := (Below.refl _ (u7)).alloc (Nat.le_refl _) _
      have Bnew := VB.new (u7) (.int .i64 0) (.int .i64 0) (.string ⟨#[]⟩)
      try simp only [World.size_alloc] at Bnew
      have Bx_13 := Lib.hid (Bx_12.out.below hb Bx_12.out.lt)
      have By_13 := Lib.hid (By_12.out.below hb By_12.out.lt)
      have Bp_13 := Lib.hid (Bp_12.out.below hb Bp_12.out.lt)
      have Bq_13 := Lib.hid (Bq_12.out.below hb Bq_12.out.lt)
      have Bc_13 := Lib.hid (Bc_12.out.below hb Bc_12.out.lt)
      have H_13 := Lib.hid (H_12.out.trans (hb.mono H_12.out.size))
      clear hb H_12 Bx_12 By_12 Bp_12 Bq_12 Bc_12
      have Bd_13 := Lib.hid Bnew
      clear Bnew
      have qx0 := Bx_13.out.c0
      have qx1 := Bx_13.out.c1
      have qx2 := Bx_13.out.c2
      have qy0 := By_13.out.c0
      have qy1 := By_13.out.c1
      have qy2 := By_13.out.c2
      go_wp2_with fail
      clear qx0 qx1 qx2 qy0 qy1 qy2
      have hc := Mul_no K N K' N' T T' (.inr hn) h.in64 hN' ((u7).alloc (.cells #[.int .i64 0, .int .i64 0, .string ⟨#[]⟩] 23)) (hw.below H_13.out)
      unfold valV at hc
      refine hc.mono ?_
      rintro e u8 ⟨rfl, hb⟩
      clear hc
      have Bx_14 := Lib.hid (Bx_13.out.below hb Bx_13.out.lt)
      have By_14 := Lib.hid (By_13.out.below hb By_13.out.lt)
      have Bp_14 := Lib.hid (Bp_13.out.below hb Bp_13.out.lt)
      have Bq_14 := Lib.hid (Bq_13.out.below hb Bq_13.out.lt)
      have Bc_14 := Lib.hid (Bc_13.out.below hb Bc_13.out.lt)
      have Bd_14 := Lib.hid (Bd_13.out.below hb Bd_13.out.lt)
      have H_14 := Lib.hid (H_13.out.trans (hb.mono H_13.out.size))
      clear hb H_13 Bx_13 By_13 Bp_13 Bq_13 Bc_13 Bd_13
      have hb : Below (u8).heap.size (u8) ((u8).alloc (.cells #[.int .i64 0, .int .i64 0, .string ⟨#[]⟩] 23)) := (Below.refl _ (u8)).alloc (Nat.le_refl _) _
      have Bnew := VB.new (u8) (.int .i64 0) (.int .i64 0) (.string ⟨#[]⟩)
      try simp only [World.size_alloc] at Bnew
      have Bx_15 := Lib.hid (Bx_14.out.below hb Bx_14.out.lt)
      have By_15 := Lib.hid (By_14.out.below hb By_14.out.lt)
      have Bp_15 := Lib.hid (Bp_14.out.below hb Bp_14.out.lt)
      have Bq_15 := Lib.hid (Bq_14.out.below hb Bq_14.out.lt)
      have Bc_15 := Lib.hid (Bc_14.out.below hb Bc_14.out.lt)
      have Bd_15 := Lib.hid (Bd_14.out.below hb Bd_14.out.lt)
      have H_15 := Lib.hid (H_14.out.trans (hb.mono H_14.out.size))
      clear hb H_14 Bx_14 By_14 Bp_14 Bq_14 Bc_14 Bd_14
      have Be_15 := Lib.hid Bnew
      clear Bnew
      have qe0 := Be_15.out.c0
      have qe1 := Be_15.out.c1
      have qe2 := Be_15.out.c2
      go_wp2_with fail
      clear qe0 qe1 qe2
      have hc := Pow_no 0 0 [] not_num i0 a ((u8).alloc (.cells #[.int .i64 0, .int .i64 0, .string ⟨#[]⟩] 23)) (hw.below H_15.out)
      unfold valV at hc
      refine hc.mono ?_
      rintro e u9 ⟨rfl, hb⟩
      clear hc
      have Bx_16 := Lib.hid (Bx_15.out.below hb Bx_15.out.lt)
      have By_16 := Lib.hid (By_15.out.below hb By_15.out.lt)
      have Bp_16 := Lib.hid (Bp_15.out.below hb Bp_15.out.lt)
      have Bq_16 := Lib.hid (Bq_15.out.below hb Bq_15.out.lt)
      have Bc_16 := Lib.hid (Bc_15.out.below hb Bc_15.out.lt)
      have Bd_16 := Lib.hid (Bd_15.out.below hb Bd_15.out.lt)
      have Be_16 := Lib.hid (Be_15.out.below hb Be_15.out.lt)
      have H_16 := Lib.hid (H_15.out.trans (hb.mono H_15.out.size))
      clear hb H_15 Bx_15 By_15 Bp_15 Bq_15 Bc_15 Bd_15 Be_15
      have hb : Below (u9).heap.size (u9) ((u9).alloc (.cells #[.int .i64 0, .int .i64 0, .string ⟨#[]⟩] 23)) := (Below.refl _ (u9)).alloc (Nat.le_refl _) _
      have Bnew := VB.new (u9) (.int .i64 0) (.int .i64 0) (.string ⟨#[]⟩)
      try simp only [World.size_alloc] at Bnew
      have Bx_17 := Lib.hid (Bx_16.out.below hb Bx_16.out.lt)
      have By_17 := Lib.hid (By_16.out.below hb By_16.out.lt)
      have Bp_17 := Lib.hid (Bp_16.out.below hb Bp_16.out.lt)
      have Bq_17 := Lib.hid (Bq_16.out.below hb Bq_16.out.lt)
      have Bc_17 := Lib.hid (Bc_16.out.below hb Bc_16.out.lt)
      have Bd_17 := Lib.hid (Bd_16.out.below hb Bd_16.out.lt)
      have Be_17 := Lib.hid (Be_16.out.below hb Be_16.out.lt)
      have H_17 := Lib.hid (H_16.out.trans (hb.mono H_16.out.size))
      clear hb H_16 Bx_16 By_16 Bp_16 Bq_16 Bc_16 Bd_16 Be_16
      have Bl_17 := Lib.hid Bnew
      clear Bnew
      have qp0 := Bp_17.out.c0
      have qp1 := Bp_17.out.c1
      have qp2 := Bp_17.out.c2
      have qd0 := Bd_17.out.c0
      have qd1 := Bd_17.out.c1
      have qd2 := Bd_17.out.c2
      go_wp2_with fail
      clear qp0 qp1 qp2 qd0 qd1 qd2
      have hc := Mul_no A0 A1 0 0 A2 [] (.inr not_num) Hsa.out.in64 i0 ((u9).alloc (.cells #[.int .i64 0, .int .i64 0, .string ⟨#[]⟩] 23)) (hw.below H_17.out)
      unfold valV at hc
      refine hc.mono ?_
      rintro e u10 ⟨rfl, hb⟩
      clear hc
      have Bx_18 := Lib.hid (Bx_17.out.below hb Bx_17.out.lt)
      have By_18 := Lib.hid (By_17.out.below hb By_17.out.lt)
      have Bp_18 := Lib.hid (Bp_17.out.below hb Bp_17.out.lt)
      have Bq_18 := Lib.hid (Bq_17.out.below hb Bq_17.out.lt)
      have Bc_18 := Lib.hid (Bc_17.out.below hb Bc_17.out.lt)
      have Bd_18 := Lib.hid (Bd_17.out.below hb Bd_17.out.lt)
      have Be_18 := Lib.hid (Be_17.out.below hb Be_17.out.lt)
      have Bl_18 := Lib.hid (Bl_17.out.below hb Bl_17.out.lt)
      have H_18 := Lib.hid (H_17.out.trans (hb.mono H_17.out.size))
      clear hb H_17 Bx_17 By_17 Bp_17 Bq_17 Bc_17 Bd_17 Be_17 Bl_17
      have hb : Below (u10).heap.size (u10) ((u10).alloc (.cells #[.int .i64 0, .int .i64 0, .string ⟨#[]⟩] 23)) := (Below.refl _ (u10)).alloc (Nat.le_refl _) _
      have Bnew := VB.new (u10) (.int .i64 0) (.int .i64 0) (.string ⟨#[]⟩)
      try simp only [World.size_alloc] at Bnew
      have Bx_19 := Lib.hid (Bx_18.out.below hb Bx_18.out.lt)
      have By_19 := Lib.hid (By_18.out.below hb By_18.out.lt)
      have Bp_19 := Lib.hid (Bp_18.out.below hb Bp_18.out.lt)
      have Bq_19 := Lib.hid (Bq_18.out.below hb Bq_18.out.lt)
      have Bc_19 := Lib.hid (Bc_18.out.below hb Bc_18.out.lt)
      have Bd_19 := Lib.hid (Bd_18.out.below hb Bd_18.out.lt)
      have Be_19 := Lib.hid (Be_18.out.below hb Be_18.out.lt)
      have Bl_19 := Lib.hid (Bl_18.out.below hb Bl_18.out.lt)
      have H_19 := Lib.hid (H_18.out.trans (hb.mono H_18.out.size))
      clear hb H_18 Bx_18 By_18 Bp_18 Bq_18 Bc_18 Bd_18 Be_18 Bl_18
      have Br_19 := Lib.hid Bnew
      clear Bnew
      go_wp2_with fail
      go_ret
      exact ⟨rfl, H_19.out⟩
  · have qy0 := By_11.out.c0
    have qy1 := By_11.out.c1
    have qy2 := By_11.out.c2
    go_wp2_with fail
    clear qy0 qy1 qy2
    have hc := Pow_no K' N' T' hn hN' a ((u6).alloc (.cells #[.int .i64 C0, .int .i64 C1, .string ⟨C2.toArray⟩] 23)) (hw.below H_11.out)
    unfold valV at hc
    refine hc.mono ?_
    rintro e u7 ⟨rfl, hb⟩
    clear hc
    have Bx_12 := Lib.hid (Bx_11.out.below hb Bx_11.out.lt)
    have By_12 := Lib.hid (By_11.out.below hb By_11.out.lt)
    have Bp_12 := Lib.hid (Bp_11.out.below hb Bp_11.out.lt)
    have Bq_12 := Lib.hid (Bq_11.out.below hb Bq_11.out.lt)
    have Bc_12 := Lib.hid (Bc_11.out.below hb Bc_11.out.lt)
    have H_12 := Lib.hid (H_11.out.trans (hb.mono H_11.out.size))
    clear hb H_11 Bx_11 By_11 Bp_11 Bq_11 Bc_11
    have hb : Below (u7).heap.size (u7) ((u7).alloc (.cells #[.int .i64 0, .int .i64 0, .string ⟨#[]⟩] 23)) := (Below.refl _ (u7)).alloc (Nat.le_refl _) _
    have Bnew := VB.new (u7) (.int .i64 0) (.int .i64 0) (.string ⟨#[]⟩)
    try simp only [World.size_alloc] at Bnew
    have Bx_13 := Lib.hid (Bx_12.out.below hb Bx_12.out.lt)
    have By_13 := Lib.hid (By_12.out.below hb By_12.out.lt)
    have Bp_13 := Lib.hid (Bp_12.out.below hb Bp_12.out.lt)
    have Bq_13 := Lib.hid (Bq_12.out.below hb Bq_12.out.lt)
    have Bc_13 := Lib.hid (Bc_12.out.below hb Bc_12.out.lt)
    have H_13 := Lib.hid (H_12.out.trans (hb.mono H_12.out.size))
    clear hb H_12 Bx_12 By_12 Bp_12 Bq_12 Bc_12
    have Bd_13 := Lib.hid Bnew
    clear Bnew
    have qx0 := Bx_13.out.c0
    have qx1 := Bx_13.out.c1
    have qx2 := Bx_13.out.c2
    have qy0 := By_13.out.c0
    have qy1 := By_13.out.c1
    have qy2 := By_13.out.c2
    go_wp2_with fail
    clear qx0 qx1 qx2 qy0 qy1 qy2
    have hc := Mul_no K N K' N' T T' (.inr hn) h.in64 hN' ((u7).alloc (.cells #[.int .i64 0, .int .i64 0, .string ⟨#[]⟩] 23)) (hw.below H_13.out)
    unfold valV at hc
    refine hc.mono ?_
    rintro e u8 ⟨rfl, hb⟩
    clear hc
    have Bx_14 := Lib.hid (Bx_13.out.below hb Bx_13.out.lt)
    have By_14 := Lib.hid (By_13.out.below hb By_13.out.lt)
    have Bp_14 := Lib.hid (Bp_13.out.below hb Bp_13.out.lt)
    have Bq_14 := Lib.hid (Bq_13.out.below hb Bq_13.out.lt)
    have Bc_14 := Lib.hid (Bc_13.out.below hb Bc_13.out.lt)
    have Bd_14 := Lib.hid (Bd_13.out.below hb Bd_13.out.lt)
    have H_14 := Lib.hid (H_13.out.trans (hb.mono H_13.out.size))
    clear hb H_13 Bx_13 By_13 Bp_13 Bq_13 Bc_13 Bd_13
    have hb : Below (u8).heap.size (u8) ((u8).alloc (.cells #[.int .i64 0, .int .i64 0, .string ⟨#[]⟩] 23)) := (Below.refl _ (u8)).alloc (Nat.le_refl _) _
    have Bnew := VB.new (u8) (.int .i64 0) (.int .i64 0) (.string ⟨#[]⟩)
    try simp only [World.size_alloc] at Bnew
    have Bx_15 := Lib.hid (Bx_14.out.below hb Bx_14.out.lt)
    have By_15 := Lib.hid (By_14.out.below hb By_14.out.lt)
    have Bp_15 := Lib.hid (Bp_14.out.below hb Bp_14.out.lt)
    have Bq_15 := Lib.hid (Bq_14.out.below hb Bq_14.out.lt)
    have Bc_15 := Lib.hid (Bc_14.out.below hb Bc_14.out.lt)
    have Bd_15 := Lib.hid (Bd_14.out.below hb Bd_14.out.lt)
    have H_15 := Lib.hid (H_14.out.trans (hb.mono H_14.out.size))
    clear hb H_14 Bx_14 By_14 Bp_14 Bq_14 Bc_14 Bd_14
    have Be_15 := Lib.hid Bnew
    clear Bnew
    have qe0 := Be_15.out.c0
    have qe1 := Be_15.out.c1
    have qe2 := Be_15.out.c2
    go_wp2_with fail
    clear qe0 qe1 qe2
    have hc := Pow_no 0 0 [] not_num i0 a ((u8).alloc (.cells #[.int .i64 0, .int .i64 0, .string ⟨#[]⟩] 23)) (hw.below H_15.out)
    unfold valV at hc
    refine hc.mono ?_
    rintro e u9 ⟨rfl, hb⟩
    clear hc
    have Bx_16 := Lib.hid (Bx_15.out.below hb Bx_15.out.lt)
    have By_16 := Lib.hid (By_15.out.below hb By_15.out.lt)
    have Bp_16 := Lib.hid (Bp_15.out.below hb Bp_15.out.lt)
    have Bq_16 := Lib.hid (Bq_15.out.below hb Bq_15.out.lt)
    have Bc_16 := Lib.hid (Bc_15.out.below hb Bc_15.out.lt)
    have Bd_16 := Lib.hid (Bd_15.out.below hb Bd_15.out.lt)
    have Be_16 := Lib.hid (Be_15.out.below hb Be_15.out.lt)
    have H_16 := Lib.hid (H_15.out.trans (hb.mono H_15.out.size))
    clear hb H_15 Bx_15 By_15 Bp_15 Bq_15 Bc_15 Bd_15 Be_15
    have hb : Below (u9).heap.size (u9) ((u9).alloc (.cells #[.int .i64 0, .int .i64 0, .string ⟨#[]⟩] 23)) := (Below.refl _ (u9)).alloc (Nat.le_refl _) _
    have Bnew := VB.new (u9) (.int .i64 0) (.int .i64 0) (.string ⟨#[]⟩)
    try simp only [World.size_alloc] at Bnew
    have Bx_17 := Lib.hid (Bx_16.out.below hb Bx_16.out.lt)
    have By_17 := Lib.hid (By_16.out.below hb By_16.out.lt)
    have Bp_17 := Lib.hid (Bp_16.out.below hb Bp_16.out.lt)
    have Bq_17 := Lib.hid (Bq_16.out.below hb Bq_16.out.lt)
    have Bc_17 := Lib.hid (Bc_16.out.below hb Bc_16.out.lt)
    have Bd_17 := Lib.hid (Bd_16.out.below hb Bd_16.out.lt)
    have Be_17 := Lib.hid (Be_16.out.below hb Be_16.out.lt)
    have H_17 := Lib.hid (H_16.out.trans (hb.mono H_16.out.size))
    clear hb H_16 Bx_16 By_16 Bp_16 Bq_16 Bc_16 Bd_16 Be_16
    have Bl_17 := Lib.hid Bnew
    clear Bnew
    have qp0 := Bp_17.out.c0
    have qp1 := Bp_17.out.c1
    have qp2 := Bp_17.out.c2
    have qd0 := Bd_17.out.c0
    have qd1 := Bd_17.out.c1
    have qd2 := Bd_17.out.c2
    go_wp2_with fail
    clear qp0 qp1 qp2 qd0 qd1 qd2
    have hc := Mul_no A0 A1 0 0 A2 [] (.inr not_num) Hsa.out.in64 i0 ((u9).alloc (.cells #[.int .i64 0, .int .i64 0, .string ⟨#[]⟩] 23)) (hw.below H_17.out)
    unfold valV at hc
    refine hc.mono ?_
    rintro e u10 ⟨rfl, hb⟩
    clear hc
    have Bx_18 := Lib.hid (Bx_17.out.below hb Bx_17.out.lt)
    have By_18 := Lib.hid (By_17.out.below hb By_17.out.lt)
    have Bp_18 := Lib.hid (Bp_17.out.below hb Bp_17.out.lt)
    have Bq_18 := Lib.hid (Bq_17.out.below hb Bq_17.out.lt)
    have Bc_18 := Lib.hid (Bc_17.out.below hb Bc_17.out.lt)
    have Bd_18 := Lib.hid (Bd_17.out.below hb Bd_17.out.lt)
    have Be_18 := Lib.hid (Be_17.out.below hb Be_17.out.lt)
    have Bl_18 := Lib.hid (Bl_17.out.below hb Bl_17.out.lt)
    have H_18 := Lib.hid (H_17.out.trans (hb.mono H_17.out.size))
    clear hb H_17 Bx_17 By_17 Bp_17 Bq_17 Bc_17 Bd_17 Be_17 Bl_17
    have hb : Below (u10).heap.size (u10) ((u10).alloc (.cells #[.int .i64 0, .int .i64 0, .string ⟨#[]⟩] 23)) := (Below.refl _ (u10)).alloc (Nat.le_refl _) _
    have Bnew := VB.new (u10) (.int .i64 0) (.int .i64 0) (.string ⟨#[]⟩)
    try simp only [World.size_alloc] at Bnew
    have Bx_19 := Lib.hid (Bx_18.out.below hb Bx_18.out.lt)
    have By_19 := Lib.hid (By_18.out.below hb By_18.out.lt)
    have Bp_19 := Lib.hid (Bp_18.out.below hb Bp_18.out.lt)
    have Bq_19 := Lib.hid (Bq_18.out.below hb Bq_18.out.lt)
    have Bc_19 := Lib.hid (Bc_18.out.below hb Bc_18.out.lt)
    have Bd_19 := Lib.hid (Bd_18.out.below hb Bd_18.out.lt)
    have Be_19 := Lib.hid (Be_18.out.below hb Be_18.out.lt)
    have Bl_19 := Lib.hid (Bl_18.out.below hb Bl_18.out.lt)
    have H_19 := Lib.hid (H_18.out.trans (hb.mono H_18.out.size))
    clear hb H_18 Bx_18 By_18 Bp_18 Bq_18 Bc_18 Bd_18 Be_18 Bl_18
    have Br_19 := Lib.hid Bnew
    clear Bnew
    go_wp2_with fail
    go_ret
    exact ⟨rfl, H_19.out⟩

theorem pow_c (K N : Int) (T : List UInt8) (K' N' : Int) (T' : List UInt8) (n m : Int) (hN : In64Z N) (hN' : In64Z N') (_ : In64Z n) (_ : In64Z m) (w : World) (hw : Wd w) :
    Calls Tryz.prog 10 #[valV K N T, valV K' N' T', .int .i64 n, .int .i64 m] w fun e w' => e = .returned (.bool true) ∧ Below w.heap.size w w' := by
  by_cases hx : T.length ≤ 800
  · by_cases hy : T'.length ≤ 800
    · by_cases d0 : n < 0
      · exact pow_bad0 K N K' N' T T' n m hx hy (decide_eq_true d0) w hw
      · by_cases d1 : m < 0
        · exact pow_bad1 K N K' N' T T' n m hx hy (decide_eq_false d0) (decide_eq_true d1) w hw
        · by_cases d2 : 1000 < n
          · exact pow_bad2 K N K' N' T T' n m hx hy (decide_eq_false d0) (decide_eq_false d1) (decide_eq_true d2) w hw
          · by_cases d3 : 1000 < m
            · exact pow_bad3 K N K' N' T T' n m hx hy (decide_eq_false d0) (decide_eq_false d1) (decide_eq_false d2) (decide_eq_true d3) w hw
            · obtain ⟨a, rfl⟩ := Int.eq_ofNat_of_zero_le (show 0 ≤ n by omega)
              obtain ⟨b, rfl⟩ := Int.eq_ofNat_of_zero_le (show 0 ≤ m by omega)
              by_cases h1 : ∃ z, IsNum K N T z
              · obtain ⟨x, h1⟩ := h1
                by_cases h2 : ∃ z, IsNum K' N' T' z
                · obtain ⟨y, h2⟩ := h2
                  exact pow_num K N K' N' T T' a b (by omega) (by omega) x h1 y h2 w hw
                · exact pow_noy K N K' N' T T' a b (by omega) (by omega) hy x h1 (fun z hz => h2 ⟨z, hz⟩) hN' w hw
              · exact pow_nox K N K' N' T T' a b (by omega) (by omega) hx hy (fun z hz => h1 ⟨z, hz⟩) hN hN' w hw
    · exact pow_long2 K N K' N' T T' n m hx hy w hw
  · exact pow_long1 K N K' N' T T' n m hx w hw
end Go.Proofs.YthbfbpbppjkoeaaGreatDoor
