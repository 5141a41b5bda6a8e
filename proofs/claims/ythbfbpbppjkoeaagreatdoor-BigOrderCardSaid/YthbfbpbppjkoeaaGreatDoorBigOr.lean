/- The walk of BigOrder of package proteuslaw03, case by case. Conditions: those in the statements. -/
import Derived.Test.YthbfbpbppjkoeaaGreatDoorBigLb
namespace Go.Proofs.YthbfbpbppjkoeaaGreatDoor
open Go.RowKit Go.Shelf
set_option exponentiation.threshold 500
set_option maxRecDepth 100000
set_option linter.unusedSimpArgs false
set_option linter.unusedVariables false
attribute [local irreducible] wpQuiet

theorem Less_ex (K N K' N' : Int) (T T' : List UInt8) (hN : In64Z N) (hN' : In64Z N') : ∃ b E, ∀ (w : World), Wd w →
    Calls Tryz.prog 31 #[valV K N T, valV K' N' T'] w fun e w' => e = .returned (.tuple #[.bool b, .int .i64 E]) ∧ Below w.heap.size w w' := by
  by_cases h1 : ∃ z, IsNum K N T z
  · by_cases h2 : ∃ z, IsNum K' N' T' z
    · obtain ⟨x, h1⟩ := h1
      obtain ⟨y, h2⟩ := h2
      exact ⟨_, 0, fun w hw => Less_num h1 h2 _ rfl w hw⟩
    · exact ⟨_, _, fun w hw => Less_no K N K' N' T T' (.inr fun z hz => h2 ⟨z, hz⟩) hN hN' w hw⟩
  · exact ⟨_, _, fun w hw => Less_no K N K' N' T T' (.inl fun z hz => h1 ⟨z, hz⟩) hN hN' w hw⟩
theorem not3 {a b c : Prop} (h : ¬ (a ∧ b ∧ c)) : ¬ a ∨ ¬ b ∨ ¬ c := by
  by_cases ha : a
  · by_cases hb : b
    · exact .inr (.inr fun hc => h ⟨ha, hb, hc⟩)
    · exact .inr (.inl hb)
  · exact .inl ha
theorem order_tri (x y z : Int) (a b c d : Bool) (ha : decide (x < y) = a) (hb : decide (y < x) = b) (hc : decide (y < z) = c) (hd : decide (x < z) = d) :
    (a = true ∧ b = false ∧ x ≠ y ∧ (c = false ∨ c = true ∧ d = true)) ∨ (a = false ∧ b = false ∧ x = y) ∨ (a = false ∧ b = true ∧ x ≠ y) := by
  rcases Int.lt_trichotomy x y with h | h | h
  · left
    refine ⟨by rw [← ha]; exact decide_eq_true h, by rw [← hb]; exact decide_eq_false (by omega), by omega, ?_⟩
    by_cases hyz : y < z
    · exact .inr ⟨by rw [← hc]; exact decide_eq_true hyz, by rw [← hd]; exact decide_eq_true (by omega)⟩
    · exact .inl (by rw [← hc]; exact decide_eq_false hyz)
  · right; left
    exact ⟨by rw [← ha]; exact decide_eq_false (by omega), by rw [← hb]; exact decide_eq_false (by omega), h⟩
  · right; right
    exact ⟨by rw [← ha]; exact decide_eq_false (by omega), by rw [← hb]; exact decide_eq_true h, by omega⟩
theorem lt_or_eq_or_gt (z : Int) : z < 0 ∨ z = 0 ∨ 0 < z := Int.lt_trichotomy z 0
theorem decide_add_lt {x y z : Int} : decide (x + z < y + z) = decide (x < y) := by rw [decide_eq_decide]; omega
theorem decide_mul_lt {x y z : Int} (hz : 0 < z) : decide (x * z < y * z) = decide (x < y) := by
  rw [decide_eq_decide]
  exact ⟨fun h => Int.lt_of_mul_lt_mul_right h (Int.le_of_lt hz), fun h => Int.mul_lt_mul_of_pos_right h hz⟩

set_option maxHeartbeats 4000000 in
theorem order_long1 (K N K' N' K'' N'' : Int) (T T' T'' : List UInt8) (hx : ¬ T.length ≤ 800) (w : World) (hw : Wd w) :
    Calls Tryz.prog 9 #[valV K N T, valV K' N' T', valV K'' N'' T''] w fun e w' => e = .returned (.bool true) ∧ Below w.heap.size w w' := by
  have H_0 := Lib.hid (Below.refl w.heap.size w)
  unfold valV
  go_enter Tryz.func9, Tryz.ntmps9
  have hb : Below (w).heap.size (w) ((w).alloc (.cells #[.int .i64 K, .int .i64 N, .string ⟨T.toArray⟩] 23)) := (Below.refl _ (w)).alloc (Nat.le_refl _) _
  have Bnew := VB.new (w) (.int .i64 K) (.int .i64 N) (.string ⟨T.toArray⟩)
  try simp only [World.size_alloc] at Bnew
  have H_1 := Lib.hid (H_0.out.trans (hb.mono H_0.out.size))
  clear hb H_0
  have Bx_1 := Lib.hid Bnew
  clear Bnew
  have hb : Below ((w).alloc (.cells #[.int .i64 K, .int .i64 N, .string ⟨T.toArray⟩] 23)).heap.size ((w).alloc (.cells #[.int .i64 K, .int .i64 N, .string ⟨T.toArray⟩] 23)) (((w).alloc (.cells #[.int .i64 K, .int .i64 N, .string ⟨T.toArray⟩] 23)).alloc (.cells #[.int .i64 K', .int .i64 N', .string ⟨T'.toArray⟩] 23)) := (Below.refl _ ((w).alloc (.cells #[.int .i64 K, .int .i64 N, .string ⟨T.toArray⟩] 23))).alloc (Nat.le_refl _) _
  have Bnew := VB.new ((w).alloc (.cells #[.int .i64 K, .int .i64 N, .string ⟨T.toArray⟩] 23)) (.int .i64 K') (.int .i64 N') (.string ⟨T'.toArray⟩)
  try simp only [World.size_alloc] at Bnew
  have Bx_2 := Lib.hid (Bx_1.out.below hb Bx_1.out.lt)
  have H_2 := Lib.hid (H_1.out.trans (hb.mono H_1.out.size))
  clear hb H_1 Bx_1
  have By_2 := Lib.hid Bnew
  clear Bnew
  have hb : Below (((w).alloc (.cells #[.int .i64 K, .int .i64 N, .string ⟨T.toArray⟩] 23)).alloc (.cells #[.int .i64 K', .int .i64 N', .string ⟨T'.toArray⟩] 23)).heap.size (((w).alloc (.cells #[.int .i64 K, .int .i64 N, .string ⟨T.toArray⟩] 23)).alloc (.cells #[.int .i64 K', .int .i64 N', .string ⟨T'.toArray⟩] 23)) ((((w).alloc (.cells #[.int .i64 K, .int .i64 N, .string ⟨T.toArray⟩] 23)).alloc (.cells #[.int .i64 K', .int .i64 N', .string ⟨T'.toArray⟩] 23)).alloc (.cells #[.int .i64 K'', .int .i64 N'', .string ⟨T''.toArray⟩] 23)) := (Below.refl _ (((w).alloc (.cells #[.int .i64 K, .int .i64 N, .string ⟨T.toArray⟩] 23)).alloc (.cells #[.int .i64 K', .int .i64 N', .string ⟨T'.toArray⟩] 23))).alloc (Nat.le_refl _) _
  have Bnew := VB.new (((w).alloc (.cells #[.int .i64 K, .int .i64 N, .string ⟨T.toArray⟩] 23)).alloc (.cells #[.int .i64 K', .int .i64 N', .string ⟨T'.toArray⟩] 23)) (.int .i64 K'') (.int .i64 N'') (.string ⟨T''.toArray⟩)
  try simp only [World.size_alloc] at Bnew
  have Bx_3 := Lib.hid (Bx_2.out.below hb Bx_2.out.lt)
  have By_3 := Lib.hid (By_2.out.below hb By_2.out.lt)
  have H_3 := Lib.hid (H_2.out.trans (hb.mono H_2.out.size))
  clear hb H_2 Bx_2 By_2
  have Bz_3 := Lib.hid Bnew
  clear Bnew
  go_wp2_with fail
  have hc := awake_c ((((w).alloc (.cells #[.int .i64 K, .int .i64 N, .string ⟨T.toArray⟩] 23)).alloc (.cells #[.int .i64 K', .int .i64 N', .string ⟨T'.toArray⟩] 23)).alloc (.cells #[.int .i64 K'', .int .i64 N'', .string ⟨T''.toArray⟩] 23)) (hw.below H_3.out)
  unfold valV at hc
  refine hc.mono ?_
  rintro e u1 ⟨rfl, hb⟩
  clear hc
  have Bx_4 := Lib.hid (Bx_3.out.below hb Bx_3.out.lt)
  have By_4 := Lib.hid (By_3.out.below hb By_3.out.lt)
  have Bz_4 := Lib.hid (Bz_3.out.below hb Bz_3.out.lt)
  have H_4 := Lib.hid (H_3.out.trans (hb.mono H_3.out.size))
  clear hb H_3 Bx_3 By_3 Bz_3
  have qx0 := Bx_4.out.c0
  have qx1 := Bx_4.out.c1
  have qx2 := Bx_4.out.c2
  go_wp2_with fail
  clear qx0 qx1 qx2
  have hc := short_not K N T hx (u1)
  unfold valV at hc
  refine hc.mono ?_
  rintro e u2 ⟨rfl, hb⟩
  clear hc
  have Bx_5 := Lib.hid (Bx_4.out.below hb Bx_4.out.lt)
  have By_5 := Lib.hid (By_4.out.below hb By_4.out.lt)
  have Bz_5 := Lib.hid (Bz_4.out.below hb Bz_4.out.lt)
  have H_5 := Lib.hid (H_4.out.trans (hb.mono H_4.out.size))
  clear hb H_4 Bx_4 By_4 Bz_4
  go_wp2_with fail
  go_ret
  exact ⟨rfl, H_5.out⟩

set_option maxHeartbeats 4000000 in
theorem order_long2 (K N K' N' K'' N'' : Int) (T T' T'' : List UInt8) (hx : T.length ≤ 800) (hy : ¬ T'.length ≤ 800) (w : World) (hw : Wd w) :
    Calls Tryz.prog 9 #[valV K N T, valV K' N' T', valV K'' N'' T''] w fun e w' => e = .returned (.bool true) ∧ Below w.heap.size w w' := by
  have H_0 := Lib.hid (Below.refl w.heap.size w)
  unfold valV
  go_enter Tryz.func9, Tryz.ntmps9
  have hb : Below (w).heap.size (w) ((w).alloc (.cells #[.int .i64 K, .int .i64 N, .string ⟨T.toArray⟩] 23)) := (Below.refl _ (w)).alloc (Nat.le_refl _) _
  have Bnew := VB.new (w) (.int .i64 K) (.int .i64 N) (.string ⟨T.toArray⟩)
  try simp only [World.size_alloc] at Bnew
  have H_1 := Lib.hid (H_0.out.trans (hb.mono H_0.out.size))
  clear hb H_0
  have Bx_1 := Lib.hid Bnew
  clear Bnew
  have hb : Below ((w).alloc (.cells #[.int .i64 K, .int .i64 N, .string ⟨T.toArray⟩] 23)).heap.size ((w).alloc (.cells #[.int .i64 K, .int .i64 N, .string ⟨T.toArray⟩] 23)) (((w).alloc (.cells #[.int .i64 K, .int .i64 N, .string ⟨T.toArray⟩] 23)).alloc (.cells #[.int .i64 K', .int .i64 N', .string ⟨T'.toArray⟩] 23)) := (Below.refl _ ((w).alloc (.cells #[.int .i64 K, .int .i64 N, .string ⟨T.toArray⟩] 23))).alloc (Nat.le_refl _) _
  have Bnew := VB.new ((w).alloc (.cells #[.int .i64 K, .int .i64 N, .string ⟨T.toArray⟩] 23)) (.int .i64 K') (.int .i64 N') (.string ⟨T'.toArray⟩)
  try simp only [World.size_alloc] at Bnew
  have Bx_2 := Lib.hid (Bx_1.out.below hb Bx_1.out.lt)
  have H_2 := Lib.hid (H_1.out.trans (hb.mono H_1.out.size))
  clear hb H_1 Bx_1
  have By_2 := Lib.hid Bnew
  clear Bnew
  have hb : Below (((w).alloc (.cells #[.int .i64 K, .int .i64 N, .string ⟨T.toArray⟩] 23)).alloc (.cells #[.int .i64 K', .int .i64 N', .string ⟨T'.toArray⟩] 23)).heap.size (((w).alloc (.cells #[.int .i64 K, .int .i64 N, .string ⟨T.toArray⟩] 23)).alloc (.cells #[.int .i64 K', .int .i64 N', .string ⟨T'.toArray⟩] 23)) ((((w).alloc (.cells #[.int .i64 K, .int .i64 N, .string ⟨T.toArray⟩] 23)).alloc (.cells #[.int .i64 K', .int .i64 N', .string ⟨T'.toArray⟩] 23)).alloc (.cells #[.int .i64 K'', .int .i64 N'', .string ⟨T''.toArray⟩] 23)) := (Below.refl _ (((w).alloc (.cells #[.int .i64 K, .int .i64 N, .string ⟨T.toArray⟩] 23)).alloc (.cells #[.int .i64 K', .int .i64 N', .string ⟨T'.toArray⟩] 23))).alloc (Nat.le_refl _) _
  have Bnew := VB.new (((w).alloc (.cells #[.int .i64 K, .int .i64 N, .string ⟨T.toArray⟩] 23)).alloc (.cells #[.int .i64 K', .int .i64 N', .string ⟨T'.toArray⟩] 23)) (.int .i64 K'') (.int .i64 N'') (.string ⟨T''.toArray⟩)
  try simp only [World.size_alloc] at Bnew
  have Bx_3 := Lib.hid (Bx_2.out.below hb Bx_2.out.lt)
  have By_3 := Lib.hid (By_2.out.below hb By_2.out.lt)
  have H_3 := Lib.hid (H_2.out.trans (hb.mono H_2.out.size))
  clear hb H_2 Bx_2 By_2
  have Bz_3 := Lib.hid Bnew
  clear Bnew
  go_wp2_with fail
  have hc := awake_c ((((w).alloc (.cells #[.int .i64 K, .int .i64 N, .string ⟨T.toArray⟩] 23)).alloc (.cells #[.int .i64 K', .int .i64 N', .string ⟨T'.toArray⟩] 23)).alloc (.cells #[.int .i64 K'', .int .i64 N'', .string ⟨T''.toArray⟩] 23)) (hw.below H_3.out)
  unfold valV at hc
  refine hc.mono ?_
  rintro e u1 ⟨rfl, hb⟩
  clear hc
  have Bx_4 := Lib.hid (Bx_3.out.below hb Bx_3.out.lt)
  have By_4 := Lib.hid (By_3.out.below hb By_3.out.lt)
  have Bz_4 := Lib.hid (Bz_3.out.below hb Bz_3.out.lt)
  have H_4 := Lib.hid (H_3.out.trans (hb.mono H_3.out.size))
  clear hb H_3 Bx_3 By_3 Bz_3
  have qx0 := Bx_4.out.c0
  have qx1 := Bx_4.out.c1
  have qx2 := Bx_4.out.c2
  go_wp2_with fail
  clear qx0 qx1 qx2
  have hc := short_yes K N T hx (u1)
  unfold valV at hc
  refine hc.mono ?_
  rintro e u2 ⟨rfl, hb⟩
  clear hc
  have Bx_5 := Lib.hid (Bx_4.out.below hb Bx_4.out.lt)
  have By_5 := Lib.hid (By_4.out.below hb By_4.out.lt)
  have Bz_5 := Lib.hid (Bz_4.out.below hb Bz_4.out.lt)
  have H_5 := Lib.hid (H_4.out.trans (hb.mono H_4.out.size))
  clear hb H_4 Bx_4 By_4 Bz_4
  have qy0 := By_5.out.c0
  have qy1 := By_5.out.c1
  have qy2 := By_5.out.c2
  go_wp2_with fail
  clear qy0 qy1 qy2
  have hc := short_not K' N' T' hy (u2)
  unfold valV at hc
  refine hc.mono ?_
  rintro e u3 ⟨rfl, hb⟩
  clear hc
  have Bx_6 := Lib.hid (Bx_5.out.below hb Bx_5.out.lt)
  have By_6 := Lib.hid (By_5.out.below hb By_5.out.lt)
  have Bz_6 := Lib.hid (Bz_5.out.below hb Bz_5.out.lt)
  have H_6 := Lib.hid (H_5.out.trans (hb.mono H_5.out.size))
  clear hb H_5 Bx_5 By_5 Bz_5
  go_wp2_with fail
  go_ret
  exact ⟨rfl, H_6.out⟩

set_option maxHeartbeats 4000000 in
theorem order_long3 (K N K' N' K'' N'' : Int) (T T' T'' : List UInt8) (hx : T.length ≤ 800) (hy : T'.length ≤ 800) (hz : ¬ T''.length ≤ 800) (w : World) (hw : Wd w) :
    Calls Tryz.prog 9 #[valV K N T, valV K' N' T', valV K'' N'' T''] w fun e w' => e = .returned (.bool true) ∧ Below w.heap.size w w' := by
  have H_0 := Lib.hid (Below.refl w.heap.size w)
  unfold valV
  go_enter Tryz.func9, Tryz.ntmps9
  have hb : Below (w).heap.size (w) ((w).alloc (.cells #[.int .i64 K, .int .i64 N, .string ⟨T.toArray⟩] 23)) := (Below.refl _ (w)).alloc (Nat.le_refl _) _
  have Bnew := VB.new (w) (.int .i64 K) (.int .i64 N) (.string ⟨T.toArray⟩)
  try simp only [World.size_alloc] at Bnew
  have H_1 := Lib.hid (H_0.out.trans (hb.mono H_0.out.size))
  clear hb H_0
  have Bx_1 := Lib.hid Bnew
  clear Bnew
  have hb : Below ((w).alloc (.cells #[.int .i64 K, .int .i64 N, .string ⟨T.toArray⟩] 23)).heap.size ((w).alloc (.cells #[.int .i64 K, .int .i64 N, .string ⟨T.toArray⟩] 23)) (((w).alloc (.cells #[.int .i64 K, .int .i64 N, .string ⟨T.toArray⟩] 23)).alloc (.cells #[.int .i64 K', .int .i64 N', .string ⟨T'.toArray⟩] 23)) := (Below.refl _ ((w).alloc (.cells #[.int .i64 K, .int .i64 N, .string ⟨T.toArray⟩] 23))).alloc (Nat.le_refl _) _
  have Bnew := VB.new ((w).alloc (.cells #[.int .i64 K, .int .i64 N, .string ⟨T.toArray⟩] 23)) (.int .i64 K') (.int .i64 N') (.string ⟨T'.toArray⟩)
  try simp only [World.size_alloc] at Bnew
  have Bx_2 := Lib.hid (Bx_1.out.below hb Bx_1.out.lt)
  have H_2 := Lib.hid (H_1.out.trans (hb.mono H_1.out.size))
  clear hb H_1 Bx_1
  have By_2 := Lib.hid Bnew
  clear Bnew
  have hb : Below (((w).alloc (.cells #[.int .i64 K, .int .i64 N, .string ⟨T.toArray⟩] 23)).alloc (.cells #[.int .i64 K', .int .i64 N', .string ⟨T'.toArray⟩] 23)).heap.size (((w).alloc (.cells #[.int .i64 K, .int .i64 N, .string ⟨T.toArray⟩] 23)).alloc (.cells #[.int .i64 K', .int .i64 N', .string ⟨T'.toArray⟩] 23)) ((((w).alloc (.cells #[.int .i64 K, .int .i64 N, .string ⟨T.toArray⟩] 23)).alloc (.cells #[.int .i64 K', .int .i64 N', .string ⟨T'.toArray⟩] 23)).alloc (.cells #[.int .i64 K'', .int .i64 N'', .string ⟨T''.toArray⟩] 23)) := (Below.refl _ (((w).alloc (.cells #[.int .i64 K, .int .i64 N, .string ⟨T.toArray⟩] 23)).alloc (.cells #[.int .i64 K', .int .i64 N', .string ⟨T'.toArray⟩] 23))).alloc (Nat.le_refl _) _
  have Bnew := VB.new (((w).alloc (.cells #[.int .i64 K, .int .i64 N, .string ⟨T.toArray⟩] 23)).alloc (.cells #[.int .i64 K', .int .i64 N', .string ⟨T'.toArray⟩] 23)) (.int .i64 K'') (.int .i64 N'') (.string ⟨T''.toArray⟩)
  try simp only [World.size_alloc] at Bnew
  have Bx_3 := Lib.hid (Bx_2.out.below hb Bx_2.out.lt)
  have By_3 := Lib.hid (By_2.out.below hb By_2.out.lt)
  have H_3 := Lib.hid (H_2.out.trans (hb.mono H_2.out.size))
  clear hb H_2 Bx_2 By_2
  have Bz_3 := Lib.hid Bnew
  clear Bnew
  go_wp2_with fail
  have hc := awake_c ((((w).alloc (.cells #[.int .i64 K, .int .i64 N, .string ⟨T.toArray⟩] 23)).alloc (.cells #[.int .i64 K', .int .i64 N', .string ⟨T'.toArray⟩] 23)).alloc (.cells #[.int .i64 K'', .int .i64 N'', .string ⟨T''.toArray⟩] 23)) (hw.below H_3.out)
  unfold valV at hc
  refine hc.mono ?_
  rintro e u1 ⟨rfl, hb⟩
  clear hc
  have Bx_4 := Lib.hid (Bx_3.out.below hb Bx_3.out.lt)
  have By_4 := Lib.hid (By_3.out.below hb By_3.out.lt)
  have Bz_4 := Lib.hid (Bz_3.out.below hb Bz_3.out.lt)
  have H_4 := Lib.hid (H_3.out.trans (hb.mono H_3.out.size))
  clear hb H_3 Bx_3 By_3 Bz_3
  have qx0 := Bx_4.out.c0
  have qx1 := Bx_4.out.c1
  have qx2 := Bx_4.out.c2
  go_wp2_with fail
  clear qx0 qx1 qx2
  have hc := short_yes K N T hx (u1)
  unfold valV at hc
  refine hc.mono ?_
  rintro e u2 ⟨rfl, hb⟩
  clear hc
  have Bx_5 := Lib.hid (Bx_4.out.below hb Bx_4.out.lt)
  have By_5 := Lib.hid (By_4.out.below hb By_4.out.lt)
  have Bz_5 := Lib.hid (Bz_4.out.below hb Bz_4.out.lt)
  have H_5 := Lib.hid (H_4.out.trans (hb.mono H_4.out.size))
  clear hb H_4 Bx_4 By_4 Bz_4
  have qy0 := By_5.out.c0
  have qy1 := By_5.out.c1
  have qy2 := By_5.out.c2
  go_wp2_with fail
  clear qy0 qy1 qy2
  have hc := short_yes K' N' T' hy (u2)
  unfold valV at hc
  refine hc.mono ?_
  rintro e u3 ⟨rfl, hb⟩
  clear hc
  have Bx_6 := Lib.hid (Bx_5.out.below hb Bx_5.out.lt)
  have By_6 := Lib.hid (By_5.out.below hb By_5.out.lt)
  have Bz_6 := Lib.hid (Bz_5.out.below hb Bz_5.out.lt)
  have H_6 := Lib.hid (H_5.out.trans (hb.mono H_5.out.size))
  clear hb H_5 Bx_5 By_5 Bz_5
  have qz0 := Bz_6.out.c0
  have qz1 := Bz_6.out.c1
  have qz2 := Bz_6.out.c2
  go_wp2_with fail
  clear qz0 qz1 qz2
  have hc := short_not K'' N'' T'' hz (u3)
  unfold valV at hc
  refine hc.mono ?_
  rintro e u4 ⟨rfl, hb⟩
  clear hc
  have Bx_7 := Lib.hid (Bx_6.out.below hb Bx_6.out.lt)
  have By_7 := Lib.hid (By_6.out.below hb By_6.out.lt)
  have Bz_7 := Lib.hid (Bz_6.out.below hb Bz_6.out.lt)
  have H_7 := Lib.hid (H_6.out.trans (hb.mono H_6.out.size))
  clear hb H_6 Bx_6 By_6 Bz_6
  go_wp2_with fail
  go_ret
  exact ⟨rfl, H_7.out⟩

set_option maxHeartbeats 4000000 in
theorem order_no (K N K' N' K'' N'' : Int) (T T' T'' : List UInt8) (hx : T.length ≤ 800) (hy : T'.length ≤ 800) (hz : T''.length ≤ 800) (h : (∀ z, ¬ IsNum K N T z) ∨ ∀ z, ¬ IsNum K' N' T' z) (hN : In64Z N) (hN' : In64Z N') (hN'' : In64Z N'') (w : World) (hw : Wd w) :
    Calls Tryz.prog 9 #[valV K N T, valV K' N' T', valV K'' N'' T''] w fun e w' => e = .returned (.bool true) ∧ Below w.heap.size w w' := by
  obtain ⟨c, G, hyz⟩ := Less_ex K' N' K'' N'' T' T'' hN' hN''
  obtain ⟨d, I, hxz⟩ := Less_ex K N K'' N'' T T'' hN hN''
  have H_0 := Lib.hid (Below.refl w.heap.size w)
  unfold valV
  go_enter Tryz.func9, Tryz.ntmps9
  have hb : Below (w).heap.size (w) ((w).alloc (.cells #[.int .i64 K, .int .i64 N, .string ⟨T.toArray⟩] 23)) := (Below.refl _ (w)).alloc (Nat.le_refl _) _
  have Bnew := VB.new (w) (.int .i64 K) (.int .i64 N) (.string ⟨T.toArray⟩)
  try simp only [World.size_alloc] at Bnew
  have H_1 := Lib.hid (H_0.out.trans (hb.mono H_0.out.size))
  clear hb H_0
  have Bx_1 := Lib.hid Bnew
  clear Bnew
  have hb : Below ((w).alloc (.cells #[.int .i64 K, .int .i64 N, .string ⟨T.toArray⟩] 23)).heap.size ((w).alloc (.cells #[.int .i64 K, .int .i64 N, .string ⟨T.toArray⟩] 23)) (((w).alloc (.cells #[.int .i64 K, .int .i64 N, .string ⟨T.toArray⟩] 23)).alloc (.cells #[.int .i64 K', .int .i64 N', .string ⟨T'.toArray⟩] 23)) := (Below.refl _ ((w).alloc (.cells #[.int .i64 K, .int .i64 N, .string ⟨T.toArray⟩] 23))).alloc (Nat.le_refl _) _
  have Bnew := VB.new ((w).alloc (.cells #[.int .i64 K, .int .i64 N, .string ⟨T.toArray⟩] 23)) (.int .i64 K') (.int .i64 N') (.string ⟨T'.toArray⟩)
  try simp only [World.size_alloc] at Bnew
  have Bx_2 := Lib.hid (Bx_1.out.below hb Bx_1.out.lt)
  have H_2 := Lib.hid (H_1.out.trans (hb.mono H_1.out.size))
  clear hb H_1 Bx_1
  have By_2 := Lib.hid Bnew
  clear Bnew
  have hb : Below (((w).alloc (.cells #[.int .i64 K, .int .i64 N, .string ⟨T.toArray⟩] 23)).alloc (.cells #[.int .i64 K', .int .i64 N', .string ⟨T'.toArray⟩] 23)).heap.size (((w).alloc (.cells #[.int .i64 K, .int .i64 N, .string ⟨T.toArray⟩] 23)).alloc (.cells #[.int .i64 K', .int .i64 N', .string ⟨T'.toArray⟩] 23)) ((((w).alloc (.cells #[.int .i64 K, .int .i64 N, .string ⟨T.toArray⟩] 23)).alloc (.cells #[.int .i64 K', .int .i64 N', .string ⟨T'.toArray⟩] 23)).alloc (.cells #[.int .i64 K'', .int .i64 N'', .string ⟨T''.toArray⟩] 23)) := (Below.refl _ (((w).alloc (.cells #[.int .i64 K, .int .i64 N, .string ⟨T.toArray⟩] 23)).alloc (.cells #[.int .i64 K', .int .i64 N', .string ⟨T'.toArray⟩] 23))).alloc (Nat.le_refl _) _
  have Bnew := VB.new (((w).alloc (.cells #[.int .i64 K, .int .i64 N, .string ⟨T.toArray⟩] 23)).alloc (.cells #[.int .i64 K', .int .i64 N', .string ⟨T'.toArray⟩] 23)) (.int .i64 K'') (.int .i64 N'') (.string ⟨T''.toArray⟩)
  try simp only [World.size_alloc] at Bnew
  have Bx_3 := Lib.hid (Bx_2.out.below hb Bx_2.out.lt)
  have By_3 := Lib.hid (By_2.out.below hb By_2.out.lt)
  have H_3 := Lib.hid (H_2.out.trans (hb.mono H_2.out.size))
  clear hb H_2 Bx_2 By_2
  have Bz_3 := Lib.hid Bnew
  clear Bnew
  go_wp2_with fail
  have hc := awake_c ((((w).alloc (.cells #[.int .i64 K, .int .i64 N, .string ⟨T.toArray⟩] 23)).alloc (.cells #[.int .i64 K', .int .i64 N', .string ⟨T'.toArray⟩] 23)).alloc (.cells #[.int .i64 K'', .int .i64 N'', .string ⟨T''.toArray⟩] 23)) (hw.below H_3.out)
  unfold valV at hc
  refine hc.mono ?_
  rintro e u1 ⟨rfl, hb⟩
  clear hc
  have Bx_4 := Lib.hid (Bx_3.out.below hb Bx_3.out.lt)
  have By_4 := Lib.hid (By_3.out.below hb By_3.out.lt)
  have Bz_4 := Lib.hid (Bz_3.out.below hb Bz_3.out.lt)
  have H_4 := Lib.hid (H_3.out.trans (hb.mono H_3.out.size))
  clear hb H_3 Bx_3 By_3 Bz_3
  have qx0 := Bx_4.out.c0
  have qx1 := Bx_4.out.c1
  have qx2 := Bx_4.out.c2
  go_wp2_with fail
  clear qx0 qx1 qx2
  have hc := short_yes K N T hx (u1)
  unfold valV at hc
  refine hc.mono ?_
  rintro e u2 ⟨rfl, hb⟩
  clear hc
  have Bx_5 := Lib.hid (Bx_4.out.below hb Bx_4.out.lt)
  have By_5 := Lib.hid (By_4.out.below hb By_4.out.lt)
  have Bz_5 := Lib.hid (Bz_4.out.below hb Bz_4.out.lt)
  have H_5 := Lib.hid (H_4.out.trans (hb.mono H_4.out.size))
  clear hb H_4 Bx_4 By_4 Bz_4
  have qy0 := By_5.out.c0
  have qy1 := By_5.out.c1
  have qy2 := By_5.out.c2
  go_wp2_with fail
  clear qy0 qy1 qy2
  have hc := short_yes K' N' T' hy (u2)
  unfold valV at hc
  refine hc.mono ?_
  rintro e u3 ⟨rfl, hb⟩
  clear hc
  have Bx_6 := Lib.hid (Bx_5.out.below hb Bx_5.out.lt)
  have By_6 := Lib.hid (By_5.out.below hb By_5.out.lt)
  have Bz_6 := Lib.hid (Bz_5.out.below hb Bz_5.out.lt)
  have H_6 := Lib.hid (H_5.out.trans (hb.mono H_5.out.size))
  clear hb H_5 Bx_5 By_5 Bz_5
  have qz0 := Bz_6.out.c0
  have qz1 := Bz_6.out.c1
  have qz2 := Bz_6.out.c2
  go_wp2_with fail
  clear qz0 qz1 qz2
  have hc := short_yes K'' N'' T'' hz (u3)
  unfold valV at hc
  refine hc.mono ?_
  rintro e u4 ⟨rfl, hb⟩
  clear hc
  have Bx_7 := Lib.hid (Bx_6.out.below hb Bx_6.out.lt)
  have By_7 := Lib.hid (By_6.out.below hb By_6.out.lt)
  have Bz_7 := Lib.hid (Bz_6.out.below hb Bz_6.out.lt)
  have H_7 := Lib.hid (H_6.out.trans (hb.mono H_6.out.size))
  clear hb H_6 Bx_6 By_6 Bz_6
  have qx0 := Bx_7.out.c0
  have qx1 := Bx_7.out.c1
  have qx2 := Bx_7.out.c2
  have qy0 := By_7.out.c0
  have qy1 := By_7.out.c1
  have qy2 := By_7.out.c2
  go_wp2_with fail
  clear qx0 qx1 qx2 qy0 qy1 qy2
  have hc := Less_no K N K' N' T T' h hN hN' (u4) (hw.below H_7.out)
  unfold valV at hc
  refine hc.mono ?_
  rintro e u5 ⟨rfl, hb⟩
  clear hc
  have Bx_8 := Lib.hid (Bx_7.out.below hb Bx_7.out.lt)
  have By_8 := Lib.hid (By_7.out.below hb By_7.out.lt)
  have Bz_8 := Lib.hid (Bz_7.out.below hb Bz_7.out.lt)
  have H_8 := Lib.hid (H_7.out.trans (hb.mono H_7.out.size))
  clear hb H_7 Bx_7 By_7 Bz_7
  have qx0 := Bx_8.out.c0
  have qx1 := Bx_8.out.c1
  have qx2 := Bx_8.out.c2
  have qy0 := By_8.out.c0
  have qy1 := By_8.out.c1
  have qy2 := By_8.out.c2
  go_wp2_with fail
  clear qx0 qx1 qx2 qy0 qy1 qy2
  have hc := Less_no K' N' K N T' T h.symm hN' hN (u5) (hw.below H_8.out)
  unfold valV at hc
  refine hc.mono ?_
  rintro e u6 ⟨rfl, hb⟩
  clear hc
  have Bx_9 := Lib.hid (Bx_8.out.below hb Bx_8.out.lt)
  have By_9 := Lib.hid (By_8.out.below hb By_8.out.lt)
  have Bz_9 := Lib.hid (Bz_8.out.below hb Bz_8.out.lt)
  have H_9 := Lib.hid (H_8.out.trans (hb.mono H_8.out.size))
  clear hb H_8 Bx_8 By_8 Bz_8
  have qy0 := By_9.out.c0
  have qy1 := By_9.out.c1
  have qy2 := By_9.out.c2
  have qz0 := Bz_9.out.c0
  have qz1 := Bz_9.out.c1
  have qz2 := Bz_9.out.c2
  go_wp2_with fail
  clear qy0 qy1 qy2 qz0 qz1 qz2
  have hc := hyz (u6) (hw.below H_9.out)
  unfold valV at hc
  refine hc.mono ?_
  rintro e u7 ⟨rfl, hb⟩
  clear hc
  have Bx_10 := Lib.hid (Bx_9.out.below hb Bx_9.out.lt)
  have By_10 := Lib.hid (By_9.out.below hb By_9.out.lt)
  have Bz_10 := Lib.hid (Bz_9.out.below hb Bz_9.out.lt)
  have H_10 := Lib.hid (H_9.out.trans (hb.mono H_9.out.size))
  clear hb H_9 Bx_9 By_9 Bz_9
  have qx0 := Bx_10.out.c0
  have qx1 := Bx_10.out.c1
  have qx2 := Bx_10.out.c2
  have qz0 := Bz_10.out.c0
  have qz1 := Bz_10.out.c1
  have qz2 := Bz_10.out.c2
  go_wp2_with fail
  clear qx0 qx1 qx2 qz0 qz1 qz2
  have hc := hxz (u7) (hw.below H_10.out)
  unfold valV at hc
  refine hc.mono ?_
  rintro e u8 ⟨rfl, hb⟩
  clear hc
  have Bx_11 := Lib.hid (Bx_10.out.below hb Bx_10.out.lt)
  have By_11 := Lib.hid (By_10.out.below hb By_10.out.lt)
  have Bz_11 := Lib.hid (Bz_10.out.below hb Bz_10.out.lt)
  have H_11 := Lib.hid (H_10.out.trans (hb.mono H_10.out.size))
  clear hb H_10 Bx_10 By_10 Bz_10
  go_wp2_with fail
  go_ret
  exact ⟨rfl, H_11.out⟩

set_option maxHeartbeats 4000000 in
theorem order_noz (K N K' N' K'' N'' : Int) (T T' T'' : List UInt8) (hx : T.length ≤ 800) (hy : T'.length ≤ 800) (hz : T''.length ≤ 800) (x y : Int) (h : IsNum K N T x) (h' : IsNum K' N' T' y) (hn : ∀ z, ¬ IsNum K'' N'' T'' z) (hN'' : In64Z N'') (w : World) (hw : Wd w) :
    Calls Tryz.prog 9 #[valV K N T, valV K' N' T', valV K'' N'' T''] w fun e w' => e = .returned (.bool true) ∧ Below w.heap.size w w' := by
  obtain ⟨a, ha⟩ : ∃ a, decide (x < y) = a := ⟨_, rfl⟩
  obtain ⟨b, hb⟩ : ∃ b, decide (y < x) = b := ⟨_, rfl⟩
  have H_0 := Lib.hid (Below.refl w.heap.size w)
  unfold valV
  go_enter Tryz.func9, Tryz.ntmps9
  have hb : Below (w).heap.size (w) ((w).alloc (.cells #[.int .i64 K, .int .i64 N, .string ⟨T.toArray⟩] 23)) := (Below.refl _ (w)).alloc (Nat.le_refl _) _
  have Bnew := VB.new (w) (.int .i64 K) (.int .i64 N) (.string ⟨T.toArray⟩)
  try simp only [World.size_alloc] at Bnew
  have H_1 := Lib.hid (H_0.out.trans (hb.mono H_0.out.size))
  clear hb H_0
  have Bx_1 := Lib.hid Bnew
  clear Bnew
  have hb : Below ((w).alloc (.cells #[.int .i64 K, .int .i64 N, .string ⟨T.toArray⟩] 23)).heap.size ((w).alloc (.cells #[.int .i64 K, .int .i64 N, .string ⟨T.toArray⟩] 23)) (((w).alloc (.cells #[.int .i64 K, .int .i64 N, .string ⟨T.toArray⟩] 23)).alloc (.cells #[.int .i64 K', .int .i64 N', .string ⟨T'.toArray⟩] 23)) := (Below.refl _ ((w).alloc (.cells #[.int .i64 K, .int .i64 N, .string ⟨T.toArray⟩] 23))).alloc (Nat.le_refl _) _
  have Bnew := VB.new ((w).alloc (.cells #[.int .i64 K, .int .i64 N, .string ⟨T.toArray⟩] 23)) (.int .i64 K') (.int .i64 N') (.string ⟨T'.toArray⟩)
  try simp only [World.size_alloc] at Bnew
  have Bx_2 := Lib.hid (Bx_1.out.below hb Bx_1.out.lt)
  have H_2 := Lib.hid (H_1.out.trans (hb.mono H_1.out.size))
  clear hb H_1 Bx_1
  have By_2 := Lib.hid Bnew
  clear Bnew
  have hb : Below (((w).alloc (.cells #[.int .i64 K, .int .i64 N, .string ⟨T.toArray⟩] 23)).alloc (.cells #[.int .i64 K', .int .i64 N', .string ⟨T'.toArray⟩] 23)).heap.size (((w).alloc (.cells #[.int .i64 K, .int .i64 N, .string ⟨T.toArray⟩] 23)).alloc (.cells #[.int .i64 K', .int .i64 N', .string ⟨T'.toArray⟩] 23)) ((((w).alloc (.cells #[.int .i64 K, .int .i64 N, .string ⟨T.toArray⟩] 23)).alloc (.cells #[.int .i64 K', .int .i64 N', .string ⟨T'.toArray⟩] 23)).alloc (.cells #[.int .i64 K'', .int .i64 N'', .string ⟨T''.toArray⟩] 23)) := (Below.refl _ (((w).alloc (.cells #[.int .i64 K, .int .i64 N, .string ⟨T.toArray⟩] 23)).alloc (.cells #[.int .i64 K', .int .i64 N', .string ⟨T'.toArray⟩] 23))).alloc (Nat.le_refl _) _
  have Bnew := VB.new (((w).alloc (.cells #[.int .i64 K, .int .i64 N, .string ⟨T.toArray⟩] 23)).alloc (.cells #[.int .i64 K', .int .i64 N', .string ⟨T'.toArray⟩] 23)) (.int .i64 K'') (.int .i64 N'') (.string ⟨T''.toArray⟩)
  try simp only [World.size_alloc] at Bnew
  have Bx_3 := Lib.hid (Bx_2.out.below hb Bx_2.out.lt)
  have By_3 := Lib.hid (By_2.out.below hb By_2.out.lt)
  have H_3 := Lib.hid (H_2.out.trans (hb.mono H_2.out.size))
  clear hb H_2 Bx_2 By_2
  have Bz_3 := Lib.hid Bnew
  clear Bnew
  go_wp2_with fail
  have hc := awake_c ((((w).alloc (.cells #[.int .i64 K, .int .i64 N, .string ⟨T.toArray⟩] 23)).alloc (.cells #[.int .i64 K', .int .i64 N', .string ⟨T'.toArray⟩] 23)).alloc (.cells #[.int .i64 K'', .int .i64 N'', .string ⟨T''.toArray⟩] 23)) (hw.below H_3.out)
  unfold valV at hc
  refine hc.mono ?_
  rintro e u1 ⟨rfl, hb⟩
  clear hc
  have Bx_4 := Lib.hid (Bx_3.out.below hb Bx_3.out.lt)
  have By_4 := Lib.hid (By_3.out.below hb By_3.out.lt)
  have Bz_4 := Lib.hid (Bz_3.out.below hb Bz_3.out.lt)
  have H_4 := Lib.hid (H_3.out.trans (hb.mono H_3.out.size))
  clear hb H_3 Bx_3 By_3 Bz_3
  have qx0 := Bx_4.out.c0
  have qx1 := Bx_4.out.c1
  have qx2 := Bx_4.out.c2
  go_wp2_with fail
  clear qx0 qx1 qx2
  have hc := short_yes K N T hx (u1)
  unfold valV at hc
  refine hc.mono ?_
  rintro e u2 ⟨rfl, hb⟩
  clear hc
  have Bx_5 := Lib.hid (Bx_4.out.below hb Bx_4.out.lt)
  have By_5 := Lib.hid (By_4.out.below hb By_4.out.lt)
  have Bz_5 := Lib.hid (Bz_4.out.below hb Bz_4.out.lt)
  have H_5 := Lib.hid (H_4.out.trans (hb.mono H_4.out.size))
  clear hb H_4 Bx_4 By_4 Bz_4
  have qy0 := By_5.out.c0
  have qy1 := By_5.out.c1
  have qy2 := By_5.out.c2
  go_wp2_with fail
  clear qy0 qy1 qy2
  have hc := short_yes K' N' T' hy (u2)
  unfold valV at hc
  refine hc.mono ?_
  rintro e u3 ⟨rfl, hb⟩
  clear hc
  have Bx_6 := Lib.hid (Bx_5.out.below hb Bx_5.out.lt)
  have By_6 := Lib.hid (By_5.out.below hb By_5.out.lt)
  have Bz_6 := Lib.hid (Bz_5.out.below hb Bz_5.out.lt)
  have H_6 := Lib.hid (H_5.out.trans (hb.mono H_5.out.size))
  clear hb H_5 Bx_5 By_5 Bz_5
  have qz0 := Bz_6.out.c0
  have qz1 := Bz_6.out.c1
  have qz2 := Bz_6.out.c2
  go_wp2_with fail
  clear qz0 qz1 qz2
  have hc := short_yes K'' N'' T'' hz (u3)
  unfold valV at hc
  refine hc.mono ?_
  rintro e u4 ⟨rfl, hb⟩
  clear hc
  have Bx_7 := Lib.hid (Bx_6.out.below hb Bx_6.out.lt)
  have By_7 := Lib.hid (By_6.out.below hb By_6.out.lt)
  have Bz_7 := Lib.hid (Bz_6.out.below hb Bz_6.out.lt)
  have H_7 := Lib.hid (H_6.out.trans (hb.mono H_6.out.size))
  clear hb H_6 Bx_6 By_6 Bz_6
  have qx0 := Bx_7.out.c0
  have qx1 := Bx_7.out.c1
  have qx2 := Bx_7.out.c2
  have qy0 := By_7.out.c0
  have qy1 := By_7.out.c1
  have qy2 := By_7.out.c2
  go_wp2_with fail
  clear qx0 qx1 qx2 qy0 qy1 qy2
  have hc := Less_num h h' a ha (u4) (hw.below H_7.out)
  unfold valV at hc
  refine hc.mono ?_
  rintro e u5 ⟨rfl, hb⟩
  clear hc
  have Bx_8 := Lib.hid (Bx_7.out.below hb Bx_7.out.lt)
  have By_8 := Lib.hid (By_7.out.below hb By_7.out.lt)
  have Bz_8 := Lib.hid (Bz_7.out.below hb Bz_7.out.lt)
  have H_8 := Lib.hid (H_7.out.trans (hb.mono H_7.out.size))
  clear hb H_7 Bx_7 By_7 Bz_7
  have qx0 := Bx_8.out.c0
  have qx1 := Bx_8.out.c1
  have qx2 := Bx_8.out.c2
  have qy0 := By_8.out.c0
  have qy1 := By_8.out.c1
  have qy2 := By_8.out.c2
  go_wp2_with fail
  clear qx0 qx1 qx2 qy0 qy1 qy2
  have hc := Less_num h' h b hb (u5) (hw.below H_8.out)
  unfold valV at hc
  refine hc.mono ?_
  rintro e u6 ⟨rfl, hb⟩
  clear hc
  have Bx_9 := Lib.hid (Bx_8.out.below hb Bx_8.out.lt)
  have By_9 := Lib.hid (By_8.out.below hb By_8.out.lt)
  have Bz_9 := Lib.hid (Bz_8.out.below hb Bz_8.out.lt)
  have H_9 := Lib.hid (H_8.out.trans (hb.mono H_8.out.size))
  clear hb H_8 Bx_8 By_8 Bz_8
  have qy0 := By_9.out.c0
  have qy1 := By_9.out.c1
  have qy2 := By_9.out.c2
  have qz0 := Bz_9.out.c0
  have qz1 := Bz_9.out.c1
  have qz2 := Bz_9.out.c2
  go_wp2_with fail
  clear qy0 qy1 qy2 qz0 qz1 qz2
  have hc := Less_no K' N' K'' N'' T' T'' (.inr hn) h'.in64 hN'' (u6) (hw.below H_9.out)
  unfold valV at hc
  refine hc.mono ?_
  rintro e u7 ⟨rfl, hb⟩
  clear hc
  have Bx_10 := Lib.hid (Bx_9.out.below hb Bx_9.out.lt)
  have By_10 := Lib.hid (By_9.out.below hb By_9.out.lt)
  have Bz_10 := Lib.hid (Bz_9.out.below hb Bz_9.out.lt)
  have H_10 := Lib.hid (H_9.out.trans (hb.mono H_9.out.size))
  clear hb H_9 Bx_9 By_9 Bz_9
  have qx0 := Bx_10.out.c0
  have qx1 := Bx_10.out.c1
  have qx2 := Bx_10.out.c2
  have qz0 := Bz_10.out.c0
  have qz1 := Bz_10.out.c1
  have qz2 := Bz_10.out.c2
  go_wp2_with fail
  clear qx0 qx1 qx2 qz0 qz1 qz2
  have hc := Less_no K N K'' N'' T T'' (.inr hn) h.in64 hN'' (u7) (hw.below H_10.out)
  unfold valV at hc
  refine hc.mono ?_
  rintro e u8 ⟨rfl, hb⟩
  clear hc
  have Bx_11 := Lib.hid (Bx_10.out.below hb Bx_10.out.lt)
  have By_11 := Lib.hid (By_10.out.below hb By_10.out.lt)
  have Bz_11 := Lib.hid (Bz_10.out.below hb Bz_10.out.lt)
  have H_11 := Lib.hid (H_10.out.trans (hb.mono H_10.out.size))
  clear hb H_10 Bx_10 By_10 Bz_10
  go_wp2_with fail
  go_ret
  exact ⟨rfl, H_11.out⟩

set_option maxHeartbeats 4000000 in
theorem order_num (K N K' N' K'' N'' : Int) (T T' T'' : List UInt8) (x y z : Int) (h : IsNum K N T x) (h' : IsNum K' N' T' y) (h'' : IsNum K'' N'' T'' z) (w : World) (hw : Wd w) :
    Calls Tryz.prog 9 #[valV K N T, valV K' N' T', valV K'' N'' T''] w fun e w' => e = .returned (.bool true) ∧ Below w.heap.size w w' := by
  obtain ⟨a, ha⟩ : ∃ a, decide (x < y) = a := ⟨_, rfl⟩
  obtain ⟨b, hb⟩ : ∃ b, decide (y < x) = b := ⟨_, rfl⟩
  obtain ⟨c, hc⟩ : ∃ c, decide (y < z) = c := ⟨_, rfl⟩
  obtain ⟨d, hd⟩ : ∃ d, decide (x < z) = d := ⟨_, rfl⟩
  obtain ⟨A0, A1, A2, I, sa⟩ := ans_ex (x + z)
  obtain ⟨B0, B1, B2, J, sb⟩ := ans_ex (y + z)
  obtain ⟨C0, C1, C2, G, sc⟩ := ans_ex (x * z)
  obtain ⟨D0, D1, D2, M, sd⟩ := ans_ex (y * z)
  have hx : T.length ≤ 800 := by have := h.len; omega
  have hy : T'.length ≤ 800 := by have := h'.len; omega
  have hz : T''.length ≤ 800 := by have := h''.len; omega
  have Ha := Lib.hid ha
  have Hb := Lib.hid hb
  have Hc := Lib.hid hc
  have Hd := Lib.hid hd
  have Sa := Lib.hid sa
  have Sb := Lib.hid sb
  have Sc := Lib.hid sc
  have Sd := Lib.hid sd
  clear ha hb hc hd sa sb sc sd
  have H_0 := Lib.hid (Below.refl w.heap.size w)
  unfold valV
  go_enter Tryz.func9, Tryz.ntmps9
  have hb : Below (w).heap.size (w) ((w).alloc (.cells #[.int .i64 K, .int .i64 N, .string ⟨T.toArray⟩] 23)) := (Below.refl _ (w)).alloc (Nat.le_refl _) _
  have Bnew := VB.new (w) (.int .i64 K) (.int .i64 N) (.string ⟨T.toArray⟩)
  try simp only [World.size_alloc] at Bnew
  have H_1 := Lib.hid (H_0.out.trans (hb.mono H_0.out.size))
  clear hb H_0
  have Bx_1 := Lib.hid Bnew
  clear Bnew
  have hb : Below ((w).alloc (.cells #[.int .i64 K, .int .i64 N, .string ⟨T.toArray⟩] 23)).heap.size ((w).alloc (.cells #[.int .i64 K, .int .i64 N, .string ⟨T.toArray⟩] 23)) (((w).alloc (.cells #[.int .i64 K, .int .i64 N, .string ⟨T.toArray⟩] 23)).alloc (.cells #[.int .i64 K', .int .i64 N', .string ⟨T'.toArray⟩] 23)) := (Below.refl _ ((w).alloc (.cells #[.int .i64 K, .int .i64 N, .string ⟨T.toArray⟩] 23))).alloc (Nat.le_refl _) _
  have Bnew := VB.new ((w).alloc (.cells #[.int .i64 K, .int .i64 N, .string ⟨T.toArray⟩] 23)) (.int .i64 K') (.int .i64 N') (.string ⟨T'.toArray⟩)
  try simp only [World.size_alloc] at Bnew
  have Bx_2 := Lib.hid (Bx_1.out.below hb Bx_1.out.lt)
  have H_2 := Lib.hid (H_1.out.trans (hb.mono H_1.out.size))
  clear hb H_1 Bx_1
  have By_2 := Lib.hid Bnew
  clear Bnew
  have hb : Below (((w).alloc (.cells #[.int .i64 K, .int .i64 N, .string ⟨T.toArray⟩] 23)).alloc (.cells #[.int .i64 K', .int .i64 N', .string ⟨T'.toArray⟩] 23)).heap.size (((w).alloc (.cells #[.int .i64 K, .int .i64 N, .string ⟨T.toArray⟩] 23)).alloc (.cells #[.int .i64 K', .int .i64 N', .string ⟨T'.toArray⟩] 23)) ((((w).alloc (.cells #[.int .i64 K, .int .i64 N, .string ⟨T.toArray⟩] 23)).alloc (.cells #[.int .i64 K', .int .i64 N', .string ⟨T'.toArray⟩] 23)).alloc (.cells #[.int .i64 K'', .int .i64 N'', .string ⟨T''.toArray⟩] 23)) := (Below.refl _ (((w).alloc (.cells #[.int .i64 K, .int .i64 N, .string ⟨T.toArray⟩] 23)).alloc (.cells #[.int .i64 K', .int .i64 N', .string ⟨T'.toArray⟩] 23))).alloc (Nat.le_refl _) _
  have Bnew := VB.new (((w).alloc (.cells #[.int .i64 K, .int .i64 N, .string ⟨T.toArray⟩] 23)).alloc (.cells #[.int .i64 K', .int .i64 N', .string ⟨T'.toArray⟩] 23)) (.int .i64 K'') (.int .i64 N'') (.string ⟨T''.toArray⟩)
  try simp only [World.size_alloc] at Bnew
  have Bx_3 := Lib.hid (Bx_2.out.below hb Bx_2.out.lt)
  have By_3 := Lib.hid (By_2.out.below hb By_2.out.lt)
  have H_3 := Lib.hid (H_2.out.trans (hb.mono H_2.out.size))
  clear hb H_2 Bx_2 By_2
  have Bz_3 := Lib.hid Bnew
  clear Bnew
  go_wp2_with fail
  have hc := awake_c ((((w).alloc (.cells #[.int .i64 K, .int .i64 N, .string ⟨T.toArray⟩] 23)).alloc (.cells #[.int .i64 K', .int .i64 N', .string ⟨T'.toArray⟩] 23)).alloc (.cells #[.int .i64 K'', .int .i64 N'', .string ⟨T''.toArray⟩] 23)) (hw.below H_3.out)
  unfold valV at hc
  refine hc.mono ?_
  rintro e u1 ⟨rfl, hb⟩
  clear hc
  have Bx_4 := Lib.hid (Bx_3.out.below hb Bx_3.out.lt)
  have By_4 := Lib.hid (By_3.out.below hb By_3.out.lt)
  have Bz_4 := Lib.hid (Bz_3.out.below hb Bz_3.out.lt)
  have H_4 := Lib.hid (H_3.out.trans (hb.mono H_3.out.size))
  clear hb H_3 Bx_3 By_3 Bz_3
  have qx0 := Bx_4.out.c0
  have qx1 := Bx_4.out.c1
  have qx2 := Bx_4.out.c2
  go_wp2_with fail
  clear qx0 qx1 qx2
  have hc := short_yes K N T hx (u1)
  unfold valV at hc
  refine hc.mono ?_
  rintro e u2 ⟨rfl, hb⟩
  clear hc
  have Bx_5 := Lib.hid (Bx_4.out.below hb Bx_4.out.lt)
  have By_5 := Lib.hid (By_4.out.below hb By_4.out.lt)
  have Bz_5 := Lib.hid (Bz_4.out.below hb Bz_4.out.lt)
  have H_5 := Lib.hid (H_4.out.trans (hb.mono H_4.out.size))
  clear hb H_4 Bx_4 By_4 Bz_4
  have qy0 := By_5.out.c0
  have qy1 := By_5.out.c1
  have qy2 := By_5.out.c2
  go_wp2_with fail
  clear qy0 qy1 qy2
  have hc := short_yes K' N' T' hy (u2)
  unfold valV at hc
  refine hc.mono ?_
  rintro e u3 ⟨rfl, hb⟩
  clear hc
  have Bx_6 := Lib.hid (Bx_5.out.below hb Bx_5.out.lt)
  have By_6 := Lib.hid (By_5.out.below hb By_5.out.lt)
  have Bz_6 := Lib.hid (Bz_5.out.below hb Bz_5.out.lt)
  have H_6 := Lib.hid (H_5.out.trans (hb.mono H_5.out.size))
  clear hb H_5 Bx_5 By_5 Bz_5
  have qz0 := Bz_6.out.c0
  have qz1 := Bz_6.out.c1
  have qz2 := Bz_6.out.c2
  go_wp2_with fail
  clear qz0 qz1 qz2
  have hc := short_yes K'' N'' T'' hz (u3)
  unfold valV at hc
  refine hc.mono ?_
  rintro e u4 ⟨rfl, hb⟩
  clear hc
  have Bx_7 := Lib.hid (Bx_6.out.below hb Bx_6.out.lt)
  have By_7 := Lib.hid (By_6.out.below hb By_6.out.lt)
  have Bz_7 := Lib.hid (Bz_6.out.below hb Bz_6.out.lt)
  have H_7 := Lib.hid (H_6.out.trans (hb.mono H_6.out.size))
  clear hb H_6 Bx_6 By_6 Bz_6
  have qx0 := Bx_7.out.c0
  have qx1 := Bx_7.out.c1
  have qx2 := Bx_7.out.c2
  have qy0 := By_7.out.c0
  have qy1 := By_7.out.c1
  have qy2 := By_7.out.c2
  go_wp2_with fail
  clear qx0 qx1 qx2 qy0 qy1 qy2
  have hc := Less_num h h' a Ha.out (u4) (hw.below H_7.out)
  unfold valV at hc
  refine hc.mono ?_
  rintro e u5 ⟨rfl, hb⟩
  clear hc
  have Bx_8 := Lib.hid (Bx_7.out.below hb Bx_7.out.lt)
  have By_8 := Lib.hid (By_7.out.below hb By_7.out.lt)
  have Bz_8 := Lib.hid (Bz_7.out.below hb Bz_7.out.lt)
  have H_8 := Lib.hid (H_7.out.trans (hb.mono H_7.out.size))
  clear hb H_7 Bx_7 By_7 Bz_7
  have qx0 := Bx_8.out.c0
  have qx1 := Bx_8.out.c1
  have qx2 := Bx_8.out.c2
  have qy0 := By_8.out.c0
  have qy1 := By_8.out.c1
  have qy2 := By_8.out.c2
  go_wp2_with fail
  clear qx0 qx1 qx2 qy0 qy1 qy2
  have hc := Less_num h' h b Hb.out (u5) (hw.below H_8.out)
  unfold valV at hc
  refine hc.mono ?_
  rintro e u6 ⟨rfl, hb⟩
  clear hc
  have Bx_9 := Lib.hid (Bx_8.out.below hb Bx_8.out.lt)
  have By_9 := Lib.hid (By_8.out.below hb By_8.out.lt)
  have Bz_9 := Lib.hid (Bz_8.out.below hb Bz_8.out.lt)
  have H_9 := Lib.hid (H_8.out.trans (hb.mono H_8.out.size))
  clear hb H_8 Bx_8 By_8 Bz_8
  have qy0 := By_9.out.c0
  have qy1 := By_9.out.c1
  have qy2 := By_9.out.c2
  have qz0 := Bz_9.out.c0
  have qz1 := Bz_9.out.c1
  have qz2 := Bz_9.out.c2
  go_wp2_with fail
  clear qy0 qy1 qy2 qz0 qz1 qz2
  have hc := Less_num h' h'' c Hc.out (u6) (hw.below H_9.out)
  unfold valV at hc
  refine hc.mono ?_
  rintro e u7 ⟨rfl, hb⟩
  clear hc
  have Bx_10 := Lib.hid (Bx_9.out.below hb Bx_9.out.lt)
  have By_10 := Lib.hid (By_9.out.below hb By_9.out.lt)
  have Bz_10 := Lib.hid (Bz_9.out.below hb Bz_9.out.lt)
  have H_10 := Lib.hid (H_9.out.trans (hb.mono H_9.out.size))
  clear hb H_9 Bx_9 By_9 Bz_9
  have qx0 := Bx_10.out.c0
  have qx1 := Bx_10.out.c1
  have qx2 := Bx_10.out.c2
  have qz0 := Bz_10.out.c0
  have qz1 := Bz_10.out.c1
  have qz2 := Bz_10.out.c2
  go_wp2_with fail
  clear qx0 qx1 qx2 qz0 qz1 qz2
  have hc := Less_num h h'' d Hd.out (u7) (hw.below H_10.out)
  unfold valV at hc
  refine hc.mono ?_
  rintro e u8 ⟨rfl, hb⟩
  clear hc
  have Bx_11 := Lib.hid (Bx_10.out.below hb Bx_10.out.lt)
  have By_11 := Lib.hid (By_10.out.below hb By_10.out.lt)
  have Bz_11 := Lib.hid (Bz_10.out.below hb Bz_10.out.lt)
  have H_11 := Lib.hid (H_10.out.trans (hb.mono H_10.out.size))
  clear hb H_10 Bx_10 By_10 Bz_10
  go_upto_region 10 with fail
  go_cut [107] from 74 to 108 (fun p107 wx => p107 = .bool false ∧ u8 = wx)
  case first =>
    have qx0 := Bx_11.out.c0
    have qx1 := Bx_11.out.c1
    have qx2 := Bx_11.out.c2
    have qy0 := By_11.out.c0
    have qy1 := By_11.out.c1
    have qy2 := By_11.out.c2
    rcases order_tri x y z a b c d Ha.out Hb.out Hc.out Hd.out with ⟨rfl, rfl, hxy, hcd⟩ | ⟨rfl, rfl, hxy⟩ | ⟨rfl, rfl, hxy⟩
    · rcases not3 (h.ne h' hxy) with e | e | e <;> rcases hcd with rfl | ⟨rfl, rfl⟩ <;> (go_wp2_with fail; go_meet; exact ⟨rfl, rfl⟩)
    · obtain ⟨e1, e2, e3⟩ := (h.eq_iff h').2 hxy
      (go_wp2_with fail; go_meet; exact ⟨rfl, rfl⟩)
    · rcases not3 (h.ne h' hxy) with e | e | e <;> (go_wp2_with fail; go_meet; exact ⟨rfl, rfl⟩)
  case rest =>
    obtain ⟨rfl, rfl⟩ := hcut
    have qx0 := Bx_11.out.c0
    have qx1 := Bx_11.out.c1
    have qx2 := Bx_11.out.c2
    have qz0 := Bz_11.out.c0
    have qz1 := Bz_11.out.c1
    have qz2 := Bz_11.out.c2
    go_wp2_with fail
    clear qx0 qx1 qx2 qz0 qz1 qz2
    have hc := Add_any h h'' Sa.out rfl (u8) (hw.below H_11.out)
    unfold valV at hc
    refine hc.mono ?_
    rintro e u9 ⟨rfl, hb⟩
    clear hc
    have Bx_12 := Lib.hid (Bx_11.out.below hb Bx_11.out.lt)
    have By_12 := Lib.hid (By_11.out.below hb By_11.out.lt)
    have Bz_12 := Lib.hid (Bz_11.out.below hb Bz_11.out.lt)
    have H_12 := Lib.hid (H_11.out.trans (hb.mono H_11.out.size))
    clear hb H_11 Bx_11 By_11 Bz_11
    have hb : Below (u9).heap.size (u9) ((u9).alloc (.cells #[.int .i64 A0, .int .i64 A1, .string ⟨A2.toArray⟩] 23)) := (Below.refl _ (u9)).alloc (Nat.le_refl _) _
    have Bnew := VB.new (u9) (.int .i64 A0) (.int .i64 A1) (.string ⟨A2.toArray⟩)
    try simp only [World.size_alloc] at Bnew
    have Bx_13 := Lib.hid (Bx_12.out.below hb Bx_12.out.lt)
    have By_13 := Lib.hid (By_12.out.below hb By_12.out.lt)
    have Bz_13 := Lib.hid (Bz_12.out.below hb Bz_12.out.lt)
    have H_13 := Lib.hid (H_12.out.trans (hb.mono H_12.out.size))
    clear hb H_12 Bx_12 By_12 Bz_12
    have Ba_13 := Lib.hid Bnew
    clear Bnew
    have qy0 := By_13.out.c0
    have qy1 := By_13.out.c1
    have qy2 := By_13.out.c2
    have qz0 := Bz_13.out.c0
    have qz1 := Bz_13.out.c1
    have qz2 := Bz_13.out.c2
    go_wp2_with fail
    clear qy0 qy1 qy2 qz0 qz1 qz2
    have hc := Add_any h' h'' Sb.out rfl ((u9).alloc (.cells #[.int .i64 A0, .int .i64 A1, .string ⟨A2.toArray⟩] 23)) (hw.below H_13.out)
    unfold valV at hc
    refine hc.mono ?_
    rintro e u10 ⟨rfl, hb⟩
    clear hc
    have Bx_14 := Lib.hid (Bx_13.out.below hb Bx_13.out.lt)
    have By_14 := Lib.hid (By_13.out.below hb By_13.out.lt)
    have Bz_14 := Lib.hid (Bz_13.out.below hb Bz_13.out.lt)
    have Ba_14 := Lib.hid (Ba_13.out.below hb Ba_13.out.lt)
    have H_14 := Lib.hid (H_13.out.trans (hb.mono H_13.out.size))
    clear hb H_13 Bx_13 By_13 Bz_13 Ba_13
    have hb : Below (u10).heap.size (u10) ((u10).alloc (.cells #[.int .i64 B0, .int .i64 B1, .string ⟨B2.toArray⟩] 23)) := (Below.refl _ (u10)).alloc (Nat.le_refl _) _
    have Bnew := VB.new (u10) (.int .i64 B0) (.int .i64 B1) (.string ⟨B2.toArray⟩)
    try simp only [World.size_alloc] at Bnew
    have Bx_15 := Lib.hid (Bx_14.out.below hb Bx_14.out.lt)
    have By_15 := Lib.hid (By_14.out.below hb By_14.out.lt)
    have Bz_15 := Lib.hid (Bz_14.out.below hb Bz_14.out.lt)
    have Ba_15 := Lib.hid (Ba_14.out.below hb Ba_14.out.lt)
    have H_15 := Lib.hid (H_14.out.trans (hb.mono H_14.out.size))
    clear hb H_14 Bx_14 By_14 Bz_14 Ba_14
    have Bb_15 := Lib.hid Bnew
    clear Bnew
    have qx0 := Bx_15.out.c0
    have qx1 := Bx_15.out.c1
    have qx2 := Bx_15.out.c2
    have qz0 := Bz_15.out.c0
    have qz1 := Bz_15.out.c1
    have qz2 := Bz_15.out.c2
    go_wp2_with fail
    clear qx0 qx1 qx2 qz0 qz1 qz2
    have hc := Mul_any h h'' Sc.out rfl ((u10).alloc (.cells #[.int .i64 B0, .int .i64 B1, .string ⟨B2.toArray⟩] 23)) (hw.below H_15.out)
    unfold valV at hc
    refine hc.mono ?_
    rintro e u11 ⟨rfl, hb⟩
    clear hc
    have Bx_16 := Lib.hid (Bx_15.out.below hb Bx_15.out.lt)
    have By_16 := Lib.hid (By_15.out.below hb By_15.out.lt)
    have Bz_16 := Lib.hid (Bz_15.out.below hb Bz_15.out.lt)
    have Ba_16 := Lib.hid (Ba_15.out.below hb Ba_15.out.lt)
    have Bb_16 := Lib.hid (Bb_15.out.below hb Bb_15.out.lt)
    have H_16 := Lib.hid (H_15.out.trans (hb.mono H_15.out.size))
    clear hb H_15 Bx_15 By_15 Bz_15 Ba_15 Bb_15
    have hb : Below (u11).heap.size (u11) ((u11).alloc (.cells #[.int .i64 C0, .int .i64 C1, .string ⟨C2.toArray⟩] 23)) := (Below.refl _ (u11)).alloc (Nat.le_refl _) _
    have Bnew := VB.new (u11) (.int .i64 C0) (.int .i64 C1) (.string ⟨C2.toArray⟩)
    try simp only [World.size_alloc] at Bnew
    have Bx_17 := Lib.hid (Bx_16.out.below hb Bx_16.out.lt)
    have By_17 := Lib.hid (By_16.out.below hb By_16.out.lt)
    have Bz_17 := Lib.hid (Bz_16.out.below hb Bz_16.out.lt)
    have Ba_17 := Lib.hid (Ba_16.out.below hb Ba_16.out.lt)
    have Bb_17 := Lib.hid (Bb_16.out.below hb Bb_16.out.lt)
    have H_17 := Lib.hid (H_16.out.trans (hb.mono H_16.out.size))
    clear hb H_16 Bx_16 By_16 Bz_16 Ba_16 Bb_16
    have Bc_17 := Lib.hid Bnew
    clear Bnew
    have qy0 := By_17.out.c0
    have qy1 := By_17.out.c1
    have qy2 := By_17.out.c2
    have qz0 := Bz_17.out.c0
    have qz1 := Bz_17.out.c1
    have qz2 := Bz_17.out.c2
    go_wp2_with fail
    clear qy0 qy1 qy2 qz0 qz1 qz2
    have hc := Mul_any h' h'' Sd.out rfl ((u11).alloc (.cells #[.int .i64 C0, .int .i64 C1, .string ⟨C2.toArray⟩] 23)) (hw.below H_17.out)
    unfold valV at hc
    refine hc.mono ?_
    rintro e u12 ⟨rfl, hb⟩
    clear hc
    have Bx_18 := Lib.hid (Bx_17.out.below hb Bx_17.out.lt)
    have By_18 := Lib.hid (By_17.out.below hb By_17.out.lt)
    have Bz_18 := Lib.hid (Bz_17.out.below hb Bz_17.out.lt)
    have Ba_18 := Lib.hid (Ba_17.out.below hb Ba_17.out.lt)
    have Bb_18 := Lib.hid (Bb_17.out.below hb Bb_17.out.lt)
    have Bc_18 := Lib.hid (Bc_17.out.below hb Bc_17.out.lt)
    have H_18 := Lib.hid (H_17.out.trans (hb.mono H_17.out.size))
    clear hb H_17 Bx_17 By_17 Bz_17 Ba_17 Bb_17 Bc_17
    have hb : Below (u12).heap.size (u12) ((u12).alloc (.cells #[.int .i64 D0, .int .i64 D1, .string ⟨D2.toArray⟩] 23)) := (Below.refl _ (u12)).alloc (Nat.le_refl _) _
    have Bnew := VB.new (u12) (.int .i64 D0) (.int .i64 D1) (.string ⟨D2.toArray⟩)
    try simp only [World.size_alloc] at Bnew
    have Bx_19 := Lib.hid (Bx_18.out.below hb Bx_18.out.lt)
    have By_19 := Lib.hid (By_18.out.below hb By_18.out.lt)
    have Bz_19 := Lib.hid (Bz_18.out.below hb Bz_18.out.lt)
    have Ba_19 := Lib.hid (Ba_18.out.below hb Ba_18.out.lt)
    have Bb_19 := Lib.hid (Bb_18.out.below hb Bb_18.out.lt)
    have Bc_19 := Lib.hid (Bc_18.out.below hb Bc_18.out.lt)
    have H_19 := Lib.hid (H_18.out.trans (hb.mono H_18.out.size))
    clear hb H_18 Bx_18 By_18 Bz_18 Ba_18 Bb_18 Bc_18
    have Bd_19 := Lib.hid Bnew
    clear Bnew
    rcases Sa.out.two with rfl | rfl
    · rcases Sb.out.two with rfl | rfl
      · have qa0 := Ba_19.out.c0
        have qa1 := Ba_19.out.c1
        have qa2 := Ba_19.out.c2
        have qb0 := Bb_19.out.c0
        have qb1 := Bb_19.out.c1
        have qb2 := Bb_19.out.c2
        go_wp2_with fail
        clear qa0 qa1 qa2 qb0 qb1 qb2
        have hc := Less_num Sa.out.ok Sb.out.ok a (by rw [← Ha.out]; exact decide_add_lt) ((u12).alloc (.cells #[.int .i64 D0, .int .i64 D1, .string ⟨D2.toArray⟩] 23)) (hw.below H_19.out)
        unfold valV at hc
        refine hc.mono ?_
        rintro e u13 ⟨rfl, hb⟩
        clear hc
        have Bx_20 := Lib.hid (Bx_19.out.below hb Bx_19.out.lt)
        have By_20 := Lib.hid (By_19.out.below hb By_19.out.lt)
        have Bz_20 := Lib.hid (Bz_19.out.below hb Bz_19.out.lt)
        have Ba_20 := Lib.hid (Ba_19.out.below hb Ba_19.out.lt)
        have Bb_20 := Lib.hid (Bb_19.out.below hb Bb_19.out.lt)
        have Bc_20 := Lib.hid (Bc_19.out.below hb Bc_19.out.lt)
        have Bd_20 := Lib.hid (Bd_19.out.below hb Bd_19.out.lt)
        have H_20 := Lib.hid (H_19.out.trans (hb.mono H_19.out.size))
        clear hb H_19 Bx_19 By_19 Bz_19 Ba_19 Bb_19 Bc_19 Bd_19
        go_upto_region 20 with fail
        rcases Sc.out.two with rfl | rfl
        · rcases Sd.out.two with rfl | rfl
          · rcases lt_or_eq_or_gt z with hz0 | hz0 | hz0
            · refine region_grown (by kernel_rfl) ?_
              apply quiet_wanted
              · go_simp
              · intro W hW; unfold Oper.quietAt; go_simp; (try exact ⟨rfl, rfl⟩); (try rfl)
              (try simp only [Act.put, List.setIfInBounds_toArray, List.set_cons_zero, List.set_cons_succ])
              apply quiet_wanted
              · go_simp
              · intro W hW; unfold Oper.quietAt; go_simp; (try exact ⟨rfl, rfl⟩); (try rfl)
              (try simp only [Act.put, List.setIfInBounds_toArray, List.set_cons_zero, List.set_cons_succ])
              apply quiet_wanted
              · go_simp
              · intro W hW; unfold Oper.quietAt; go_simp; (try exact ⟨rfl, rfl⟩); (try rfl)
              (try simp only [Act.put, List.setIfInBounds_toArray, List.set_cons_zero, List.set_cons_succ])
              apply quiet_wanted
              · go_simp
              · intro W hW; unfold Oper.quietAt; go_simp; (try exact ⟨rfl, rfl⟩); (try rfl)
              (try simp only [Act.put, List.setIfInBounds_toArray, List.set_cons_zero, List.set_cons_succ])
              apply quiet_wanted
              · go_simp
              · intro W hW; unfold Oper.quietAt; go_simp; (try exact ⟨rfl, rfl⟩); (try rfl)
              (try simp only [Act.put, List.setIfInBounds_toArray, List.set_cons_zero, List.set_cons_succ])
              apply quiet_wanted
              · go_simp
              · intro W hW; unfold Oper.quietAt; go_simp; (try exact ⟨rfl, rfl⟩); (try rfl)
              (try simp only [Act.put, List.setIfInBounds_toArray, List.set_cons_zero, List.set_cons_succ])
              apply quiet_wanted
              · go_simp
              · intro W hW; unfold Oper.quietAt; go_simp; (try exact ⟨rfl, rfl⟩); (try rfl)
              (try simp only [Act.put, List.setIfInBounds_toArray, List.set_cons_zero, List.set_cons_succ])
              apply quiet_wanted
              · go_simp
              · intro W hW; have hV := Bz_20.out.below hW Bz_20.out.lt; have c0 := hV.c0; have c1 := hV.c1; have c2 := hV.c2; clear hV; unfold Oper.quietAt; go_simp; (try exact ⟨rfl, rfl⟩); (try rfl)
              (try simp only [Act.put, List.setIfInBounds_toArray, List.set_cons_zero, List.set_cons_succ])
              apply quiet_wanted
              · go_simp
              · intro W hW; unfold Oper.quietAt; go_simp; have hc := negative_num h'' true (decide_eq_true hz0) W; unfold valV at hc; exact hc.mono fun e w' hr => ⟨hr.1, Grown.trans hW hr.2⟩
              (try simp only [Act.put, List.setIfInBounds_toArray, List.set_cons_zero, List.set_cons_succ])
              apply quiet_wanted
              · go_simp
              · intro W hW; unfold Oper.quietAt; go_simp; (try exact ⟨rfl, rfl⟩); (try rfl)
              (try simp only [Act.put, List.setIfInBounds_toArray, List.set_cons_zero, List.set_cons_succ])
              apply quiet_wanted
              · go_simp
              · intro W hW; unfold Oper.quietAt; go_simp; (try exact ⟨rfl, rfl⟩); (try rfl)
              (try simp only [Act.put, List.setIfInBounds_toArray, List.set_cons_zero, List.set_cons_succ])
              refine quiet_unwanted (by first | (go_simp; done) | (go_simp; intro hh; cases hh)) ?_
              (try simp only [Act.put, List.setIfInBounds_toArray, List.set_cons_zero, List.set_cons_succ])
              refine quiet_unwanted (by first | (go_simp; done) | (go_simp; intro hh; cases hh)) ?_
              (try simp only [Act.put, List.setIfInBounds_toArray, List.set_cons_zero, List.set_cons_succ])
              refine quiet_unwanted (by first | (go_simp; done) | (go_simp; intro hh; cases hh)) ?_
              (try simp only [Act.put, List.setIfInBounds_toArray, List.set_cons_zero, List.set_cons_succ])
              apply quiet_wanted
              · go_simp
              · intro W hW; unfold Oper.quietAt; go_simp; (try exact ⟨rfl, rfl⟩); (try rfl)
              (try simp only [Act.put, List.setIfInBounds_toArray, List.set_cons_zero, List.set_cons_succ])
              refine wpQuiet_nil ?_
              intro u14 hb
              unfold Grown at hb
              have Bx_21 := Lib.hid (Bx_20.out.below hb Bx_20.out.lt)
              have By_21 := Lib.hid (By_20.out.below hb By_20.out.lt)
              have Bz_21 := Lib.hid (Bz_20.out.below hb Bz_20.out.lt)
              have Ba_21 := Lib.hid (Ba_20.out.below hb Ba_20.out.lt)
              have Bb_21 := Lib.hid (Bb_20.out.below hb Bb_20.out.lt)
              have Bc_21 := Lib.hid (Bc_20.out.below hb Bc_20.out.lt)
              have Bd_21 := Lib.hid (Bd_20.out.below hb Bd_20.out.lt)
              have H_21 := Lib.hid (H_20.out.trans (hb.mono H_20.out.size))
              clear hb H_20 Bx_20 By_20 Bz_20 Ba_20 Bb_20 Bc_20 Bd_20
              go_wp2_with fail
              go_ret
              exact ⟨rfl, H_21.out⟩
            · obtain ⟨rfl, rfl, rfl⟩ : K'' = 1 ∧ N'' = 0 ∧ T'' = [] := (h''.eq_iff isNum_zero).2 hz0
              refine region_grown (by kernel_rfl) ?_
              apply quiet_wanted
              · go_simp
              · intro W hW; unfold Oper.quietAt; go_simp; (try exact ⟨rfl, rfl⟩); (try rfl)
              (try simp only [Act.put, List.setIfInBounds_toArray, List.set_cons_zero, List.set_cons_succ])
              apply quiet_wanted
              · go_simp
              · intro W hW; unfold Oper.quietAt; go_simp; (try exact ⟨rfl, rfl⟩); (try rfl)
              (try simp only [Act.put, List.setIfInBounds_toArray, List.set_cons_zero, List.set_cons_succ])
              apply quiet_wanted
              · go_simp
              · intro W hW; unfold Oper.quietAt; go_simp; (try exact ⟨rfl, rfl⟩); (try rfl)
              (try simp only [Act.put, List.setIfInBounds_toArray, List.set_cons_zero, List.set_cons_succ])
              apply quiet_wanted
              · go_simp
              · intro W hW; unfold Oper.quietAt; go_simp; (try exact ⟨rfl, rfl⟩); (try rfl)
              (try simp only [Act.put, List.setIfInBounds_toArray, List.set_cons_zero, List.set_cons_succ])
              apply quiet_wanted
              · go_simp
              · intro W hW; unfold Oper.quietAt; go_simp; (try exact ⟨rfl, rfl⟩); (try rfl)
              (try simp only [Act.put, List.setIfInBounds_toArray, List.set_cons_zero, List.set_cons_succ])
              apply quiet_wanted
              · go_simp
              · intro W hW; unfold Oper.quietAt; go_simp; (try exact ⟨rfl, rfl⟩); (try rfl)
              (try simp only [Act.put, List.setIfInBounds_toArray, List.set_cons_zero, List.set_cons_succ])
              apply quiet_wanted
              · go_simp
              · intro W hW; unfold Oper.quietAt; go_simp; (try exact ⟨rfl, rfl⟩); (try rfl)
              (try simp only [Act.put, List.setIfInBounds_toArray, List.set_cons_zero, List.set_cons_succ])
              apply quiet_wanted
              · go_simp
              · intro W hW; have hV := Bz_20.out.below hW Bz_20.out.lt; have c0 := hV.c0; have c1 := hV.c1; have c2 := hV.c2; clear hV; unfold Oper.quietAt; go_simp; (try exact ⟨rfl, rfl⟩); (try rfl)
              (try simp only [Act.put, List.setIfInBounds_toArray, List.set_cons_zero, List.set_cons_succ])
              apply quiet_wanted
              · go_simp
              · intro W hW; unfold Oper.quietAt; go_simp; have hc := negative_num h'' false (decide_eq_false (by omega)) W; unfold valV at hc; exact hc.mono fun e w' hr => ⟨hr.1, Grown.trans hW hr.2⟩
              (try simp only [Act.put, List.setIfInBounds_toArray, List.set_cons_zero, List.set_cons_succ])
              apply quiet_wanted
              · go_simp
              · intro W hW; unfold Oper.quietAt; go_simp; (try exact ⟨rfl, rfl⟩); (try rfl)
              (try simp only [Act.put, List.setIfInBounds_toArray, List.set_cons_zero, List.set_cons_succ])
              apply quiet_wanted
              · go_simp
              · intro W hW; unfold Oper.quietAt; go_simp; (try exact ⟨rfl, rfl⟩); (try rfl)
              (try simp only [Act.put, List.setIfInBounds_toArray, List.set_cons_zero, List.set_cons_succ])
              apply quiet_wanted
              · go_simp
              · intro W hW; have hV := Bz_20.out.below hW Bz_20.out.lt; have c0 := hV.c0; have c1 := hV.c1; have c2 := hV.c2; clear hV; unfold Oper.quietAt; go_simp; (try exact ⟨rfl, rfl⟩); (try rfl)
              (try simp only [Act.put, List.setIfInBounds_toArray, List.set_cons_zero, List.set_cons_succ])
              apply quiet_wanted
              · go_simp
              · intro W hW; unfold Oper.quietAt; go_simp; have hc := number_c 0 W; unfold valV at hc; exact hc.mono fun e w' hr => ⟨hr.1, Grown.trans hW hr.2⟩
              (try simp only [Act.put, List.setIfInBounds_toArray, List.set_cons_zero, List.set_cons_succ])
              apply quiet_wanted
              · go_simp
              · intro W hW; unfold Oper.quietAt; go_simp; (try exact ⟨rfl, rfl⟩); (try rfl)
              (try simp only [Act.put, List.setIfInBounds_toArray, List.set_cons_zero, List.set_cons_succ])
              apply quiet_wanted
              · go_simp
              · intro W hW; unfold Oper.quietAt; go_simp; (try exact ⟨rfl, rfl⟩); (try rfl)
              (try simp only [Act.put, List.setIfInBounds_toArray, List.set_cons_zero, List.set_cons_succ])
              refine wpQuiet_nil ?_
              intro u14 hb
              unfold Grown at hb
              have Bx_21 := Lib.hid (Bx_20.out.below hb Bx_20.out.lt)
              have By_21 := Lib.hid (By_20.out.below hb By_20.out.lt)
              have Bz_21 := Lib.hid (Bz_20.out.below hb Bz_20.out.lt)
              have Ba_21 := Lib.hid (Ba_20.out.below hb Ba_20.out.lt)
              have Bb_21 := Lib.hid (Bb_20.out.below hb Bb_20.out.lt)
              have Bc_21 := Lib.hid (Bc_20.out.below hb Bc_20.out.lt)
              have Bd_21 := Lib.hid (Bd_20.out.below hb Bd_20.out.lt)
              have H_21 := Lib.hid (H_20.out.trans (hb.mono H_20.out.size))
              clear hb H_20 Bx_20 By_20 Bz_20 Ba_20 Bb_20 Bc_20 Bd_20
              go_wp2_with fail
              go_ret
              exact ⟨rfl, H_21.out⟩
            · have hne := h''.ne isNum_zero (show z ≠ 0 by omega)
              refine region_grown (by kernel_rfl) ?_
              apply quiet_wanted
              · go_simp
              · intro W hW; unfold Oper.quietAt; go_simp; (try exact ⟨rfl, rfl⟩); (try rfl)
              (try simp only [Act.put, List.setIfInBounds_toArray, List.set_cons_zero, List.set_cons_succ])
              apply quiet_wanted
              · go_simp
              · intro W hW; unfold Oper.quietAt; go_simp; (try exact ⟨rfl, rfl⟩); (try rfl)
              (try simp only [Act.put, List.setIfInBounds_toArray, List.set_cons_zero, List.set_cons_succ])
              apply quiet_wanted
              · go_simp
              · intro W hW; unfold Oper.quietAt; go_simp; (try exact ⟨rfl, rfl⟩); (try rfl)
              (try simp only [Act.put, List.setIfInBounds_toArray, List.set_cons_zero, List.set_cons_succ])
              apply quiet_wanted
              · go_simp
              · intro W hW; unfold Oper.quietAt; go_simp; (try exact ⟨rfl, rfl⟩); (try rfl)
              (try simp only [Act.put, List.setIfInBounds_toArray, List.set_cons_zero, List.set_cons_succ])
              apply quiet_wanted
              · go_simp
              · intro W hW; unfold Oper.quietAt; go_simp; (try exact ⟨rfl, rfl⟩); (try rfl)
              (try simp only [Act.put, List.setIfInBounds_toArray, List.set_cons_zero, List.set_cons_succ])
              apply quiet_wanted
              · go_simp
              · intro W hW; unfold Oper.quietAt; go_simp; (try exact ⟨rfl, rfl⟩); (try rfl)
              (try simp only [Act.put, List.setIfInBounds_toArray, List.set_cons_zero, List.set_cons_succ])
              apply quiet_wanted
              · go_simp
              · intro W hW; unfold Oper.quietAt; go_simp; (try exact ⟨rfl, rfl⟩); (try rfl)
              (try simp only [Act.put, List.setIfInBounds_toArray, List.set_cons_zero, List.set_cons_succ])
              apply quiet_wanted
              · go_simp
              · intro W hW; have hV := Bz_20.out.below hW Bz_20.out.lt; have c0 := hV.c0; have c1 := hV.c1; have c2 := hV.c2; clear hV; unfold Oper.quietAt; go_simp; (try exact ⟨rfl, rfl⟩); (try rfl)
              (try simp only [Act.put, List.setIfInBounds_toArray, List.set_cons_zero, List.set_cons_succ])
              apply quiet_wanted
              · go_simp
              · intro W hW; unfold Oper.quietAt; go_simp; have hc := negative_num h'' false (decide_eq_false (by omega)) W; unfold valV at hc; exact hc.mono fun e w' hr => ⟨hr.1, Grown.trans hW hr.2⟩
              (try simp only [Act.put, List.setIfInBounds_toArray, List.set_cons_zero, List.set_cons_succ])
              apply quiet_wanted
              · go_simp
              · intro W hW; unfold Oper.quietAt; go_simp; (try exact ⟨rfl, rfl⟩); (try rfl)
              (try simp only [Act.put, List.setIfInBounds_toArray, List.set_cons_zero, List.set_cons_succ])
              apply quiet_wanted
              · go_simp
              · intro W hW; unfold Oper.quietAt; go_simp; (try exact ⟨rfl, rfl⟩); (try rfl)
              (try simp only [Act.put, List.setIfInBounds_toArray, List.set_cons_zero, List.set_cons_succ])
              apply quiet_wanted
              · go_simp
              · intro W hW; have hV := Bz_20.out.below hW Bz_20.out.lt; have c0 := hV.c0; have c1 := hV.c1; have c2 := hV.c2; clear hV; unfold Oper.quietAt; go_simp; (try exact ⟨rfl, rfl⟩); (try rfl)
              (try simp only [Act.put, List.setIfInBounds_toArray, List.set_cons_zero, List.set_cons_succ])
              apply quiet_wanted
              · go_simp
              · intro W hW; unfold Oper.quietAt; go_simp; have hc := number_c 0 W; unfold valV at hc; exact hc.mono fun e w' hr => ⟨hr.1, Grown.trans hW hr.2⟩
              (try simp only [Act.put, List.setIfInBounds_toArray, List.set_cons_zero, List.set_cons_succ])
              refine quiet_wanted (v := .bool false) (by go_simp) (fun W hW => ?_) ?_
              · unfold Oper.quietAt; by_cases e1 : K'' = 1 <;> by_cases e2 : N'' = 0 <;> by_cases e3 : T'' = [] <;> first | (go_simp; done) | exact absurd ⟨e1, e2, e3⟩ (hne)
              (try simp only [Act.put, List.setIfInBounds_toArray, List.set_cons_zero, List.set_cons_succ])
              apply quiet_wanted
              · go_simp
              · intro W hW; unfold Oper.quietAt; go_simp; (try exact ⟨rfl, rfl⟩); (try rfl)
              (try simp only [Act.put, List.setIfInBounds_toArray, List.set_cons_zero, List.set_cons_succ])
              refine wpQuiet_nil ?_
              intro u14 hb
              unfold Grown at hb
              have Bx_21 := Lib.hid (Bx_20.out.below hb Bx_20.out.lt)
              have By_21 := Lib.hid (By_20.out.below hb By_20.out.lt)
              have Bz_21 := Lib.hid (Bz_20.out.below hb Bz_20.out.lt)
              have Ba_21 := Lib.hid (Ba_20.out.below hb Ba_20.out.lt)
              have Bb_21 := Lib.hid (Bb_20.out.below hb Bb_20.out.lt)
              have Bc_21 := Lib.hid (Bc_20.out.below hb Bc_20.out.lt)
              have Bd_21 := Lib.hid (Bd_20.out.below hb Bd_20.out.lt)
              have H_21 := Lib.hid (H_20.out.trans (hb.mono H_20.out.size))
              clear hb H_20 Bx_20 By_20 Bz_20 Ba_20 Bb_20 Bc_20 Bd_20
              have qc0 := Bc_21.out.c0
              have qc1 := Bc_21.out.c1
              have qc2 := Bc_21.out.c2
              have qd0 := Bd_21.out.c0
              have qd1 := Bd_21.out.c1
              have qd2 := Bd_21.out.c2
              go_wp2_with fail
              clear qc0 qc1 qc2 qd0 qd1 qd2
              have hc := Less_num Sc.out.ok Sd.out.ok a (by rw [← Ha.out]; exact decide_mul_lt hz0) (u14) (hw.below H_21.out)
              unfold valV at hc
              refine hc.mono ?_
              rintro e u15 ⟨rfl, hb⟩
              clear hc
              have Bx_22 := Lib.hid (Bx_21.out.below hb Bx_21.out.lt)
              have By_22 := Lib.hid (By_21.out.below hb By_21.out.lt)
              have Bz_22 := Lib.hid (Bz_21.out.below hb Bz_21.out.lt)
              have Ba_22 := Lib.hid (Ba_21.out.below hb Ba_21.out.lt)
              have Bb_22 := Lib.hid (Bb_21.out.below hb Bb_21.out.lt)
              have Bc_22 := Lib.hid (Bc_21.out.below hb Bc_21.out.lt)
              have Bd_22 := Lib.hid (Bd_21.out.below hb Bd_21.out.lt)
              have H_22 := Lib.hid (H_21.out.trans (hb.mono H_21.out.size))
              clear hb H_21 Bx_21 By_21 Bz_21 Ba_21 Bb_21 Bc_21 Bd_21
              go_wp2_with fail
              go_ret
              exact ⟨rfl, H_22.out⟩
          · refine region_grown (by kernel_rfl) ?_
            apply quiet_wanted
            · go_simp
            · intro W hW; unfold Oper.quietAt; go_simp; (try exact ⟨rfl, rfl⟩); (try rfl)
            (try simp only [Act.put, List.setIfInBounds_toArray, List.set_cons_zero, List.set_cons_succ])
            apply quiet_wanted
            · go_simp
            · intro W hW; unfold Oper.quietAt; go_simp; (try exact ⟨rfl, rfl⟩); (try rfl)
            (try simp only [Act.put, List.setIfInBounds_toArray, List.set_cons_zero, List.set_cons_succ])
            apply quiet_wanted
            · go_simp
            · intro W hW; unfold Oper.quietAt; go_simp; (try exact ⟨rfl, rfl⟩); (try rfl)
            (try simp only [Act.put, List.setIfInBounds_toArray, List.set_cons_zero, List.set_cons_succ])
            apply quiet_wanted
            · go_simp
            · intro W hW; unfold Oper.quietAt; go_simp; (try exact ⟨rfl, rfl⟩); (try rfl)
            (try simp only [Act.put, List.setIfInBounds_toArray, List.set_cons_zero, List.set_cons_succ])
            apply quiet_wanted
            · go_simp
            · intro W hW; unfold Oper.quietAt; go_simp; (try exact ⟨rfl, rfl⟩); (try rfl)
            (try simp only [Act.put, List.setIfInBounds_toArray, List.set_cons_zero, List.set_cons_succ])
            apply quiet_wanted
            · go_simp
            · intro W hW; unfold Oper.quietAt; go_simp; (try exact ⟨rfl, rfl⟩); (try rfl)
            (try simp only [Act.put, List.setIfInBounds_toArray, List.set_cons_zero, List.set_cons_succ])
            apply quiet_wanted
            · go_simp
            · intro W hW; unfold Oper.quietAt; go_simp; (try exact ⟨rfl, rfl⟩); (try rfl)
            (try simp only [Act.put, List.setIfInBounds_toArray, List.set_cons_zero, List.set_cons_succ])
            refine quiet_unwanted (by first | (go_simp; done) | (go_simp; intro hh; cases hh)) ?_
            (try simp only [Act.put, List.setIfInBounds_toArray, List.set_cons_zero, List.set_cons_succ])
            refine quiet_unwanted (by first | (go_simp; done) | (go_simp; intro hh; cases hh)) ?_
            (try simp only [Act.put, List.setIfInBounds_toArray, List.set_cons_zero, List.set_cons_succ])
            apply quiet_wanted
            · go_simp
            · intro W hW; unfold Oper.quietAt; go_simp; (try exact ⟨rfl, rfl⟩); (try rfl)
            (try simp only [Act.put, List.setIfInBounds_toArray, List.set_cons_zero, List.set_cons_succ])
            apply quiet_wanted
            · go_simp
            · intro W hW; unfold Oper.quietAt; go_simp; (try exact ⟨rfl, rfl⟩); (try rfl)
            (try simp only [Act.put, List.setIfInBounds_toArray, List.set_cons_zero, List.set_cons_succ])
            refine quiet_unwanted (by first | (go_simp; done) | (go_simp; intro hh; cases hh)) ?_
            (try simp only [Act.put, List.setIfInBounds_toArray, List.set_cons_zero, List.set_cons_succ])
            refine quiet_unwanted (by first | (go_simp; done) | (go_simp; intro hh; cases hh)) ?_
            (try simp only [Act.put, List.setIfInBounds_toArray, List.set_cons_zero, List.set_cons_succ])
            refine quiet_unwanted (by first | (go_simp; done) | (go_simp; intro hh; cases hh)) ?_
            (try simp only [Act.put, List.setIfInBounds_toArray, List.set_cons_zero, List.set_cons_succ])
            apply quiet_wanted
            · go_simp
            · intro W hW; unfold Oper.quietAt; go_simp; (try exact ⟨rfl, rfl⟩); (try rfl)
            (try simp only [Act.put, List.setIfInBounds_toArray, List.set_cons_zero, List.set_cons_succ])
            refine wpQuiet_nil ?_
            intro u14 hb
            unfold Grown at hb
            have Bx_21 := Lib.hid (Bx_20.out.below hb Bx_20.out.lt)
            have By_21 := Lib.hid (By_20.out.below hb By_20.out.lt)
            have Bz_21 := Lib.hid (Bz_20.out.below hb Bz_20.out.lt)
            have Ba_21 := Lib.hid (Ba_20.out.below hb Ba_20.out.lt)
            have Bb_21 := Lib.hid (Bb_20.out.below hb Bb_20.out.lt)
            have Bc_21 := Lib.hid (Bc_20.out.below hb Bc_20.out.lt)
            have Bd_21 := Lib.hid (Bd_20.out.below hb Bd_20.out.lt)
            have H_21 := Lib.hid (H_20.out.trans (hb.mono H_20.out.size))
            clear hb H_20 Bx_20 By_20 Bz_20 Ba_20 Bb_20 Bc_20 Bd_20
            go_wp2_with fail
            go_ret
            exact ⟨rfl, H_21.out⟩
        · refine region_grown (by kernel_rfl) ?_
          apply quiet_wanted
          · go_simp
          · intro W hW; unfold Oper.quietAt; go_simp; (try exact ⟨rfl, rfl⟩); (try rfl)
          (try simp only [Act.put, List.setIfInBounds_toArray, List.set_cons_zero, List.set_cons_succ])
          apply quiet_wanted
          · go_simp
          · intro W hW; unfold Oper.quietAt; go_simp; (try exact ⟨rfl, rfl⟩); (try rfl)
          (try simp only [Act.put, List.setIfInBounds_toArray, List.set_cons_zero, List.set_cons_succ])
          apply quiet_wanted
          · go_simp
          · intro W hW; unfold Oper.quietAt; go_simp; (try exact ⟨rfl, rfl⟩); (try rfl)
          (try simp only [Act.put, List.setIfInBounds_toArray, List.set_cons_zero, List.set_cons_succ])
          refine quiet_unwanted (by first | (go_simp; done) | (go_simp; intro hh; cases hh)) ?_
          (try simp only [Act.put, List.setIfInBounds_toArray, List.set_cons_zero, List.set_cons_succ])
          refine quiet_unwanted (by first | (go_simp; done) | (go_simp; intro hh; cases hh)) ?_
          (try simp only [Act.put, List.setIfInBounds_toArray, List.set_cons_zero, List.set_cons_succ])
          apply quiet_wanted
          · go_simp
          · intro W hW; unfold Oper.quietAt; go_simp; (try exact ⟨rfl, rfl⟩); (try rfl)
          (try simp only [Act.put, List.setIfInBounds_toArray, List.set_cons_zero, List.set_cons_succ])
          apply quiet_wanted
          · go_simp
          · intro W hW; unfold Oper.quietAt; go_simp; (try exact ⟨rfl, rfl⟩); (try rfl)
          (try simp only [Act.put, List.setIfInBounds_toArray, List.set_cons_zero, List.set_cons_succ])
          refine quiet_unwanted (by first | (go_simp; done) | (go_simp; intro hh; cases hh)) ?_
          (try simp only [Act.put, List.setIfInBounds_toArray, List.set_cons_zero, List.set_cons_succ])
          refine quiet_unwanted (by first | (go_simp; done) | (go_simp; intro hh; cases hh)) ?_
          (try simp only [Act.put, List.setIfInBounds_toArray, List.set_cons_zero, List.set_cons_succ])
          apply quiet_wanted
          · go_simp
          · intro W hW; unfold Oper.quietAt; go_simp; (try exact ⟨rfl, rfl⟩); (try rfl)
          (try simp only [Act.put, List.setIfInBounds_toArray, List.set_cons_zero, List.set_cons_succ])
          apply quiet_wanted
          · go_simp
          · intro W hW; unfold Oper.quietAt; go_simp; (try exact ⟨rfl, rfl⟩); (try rfl)
          (try simp only [Act.put, List.setIfInBounds_toArray, List.set_cons_zero, List.set_cons_succ])
          refine quiet_unwanted (by first | (go_simp; done) | (go_simp; intro hh; cases hh)) ?_
          (try simp only [Act.put, List.setIfInBounds_toArray, List.set_cons_zero, List.set_cons_succ])
          refine quiet_unwanted (by first | (go_simp; done) | (go_simp; intro hh; cases hh)) ?_
          (try simp only [Act.put, List.setIfInBounds_toArray, List.set_cons_zero, List.set_cons_succ])
          refine quiet_unwanted (by first | (go_simp; done) | (go_simp; intro hh; cases hh)) ?_
          (try simp only [Act.put, List.setIfInBounds_toArray, List.set_cons_zero, List.set_cons_succ])
          apply quiet_wanted
          · go_simp
          · intro W hW; unfold Oper.quietAt; go_simp; (try exact ⟨rfl, rfl⟩); (try rfl)
          (try simp only [Act.put, List.setIfInBounds_toArray, List.set_cons_zero, List.set_cons_succ])
          refine wpQuiet_nil ?_
          intro u14 hb
          unfold Grown at hb
          have Bx_21 := Lib.hid (Bx_20.out.below hb Bx_20.out.lt)
          have By_21 := Lib.hid (By_20.out.below hb By_20.out.lt)
          have Bz_21 := Lib.hid (Bz_20.out.below hb Bz_20.out.lt)
          have Ba_21 := Lib.hid (Ba_20.out.below hb Ba_20.out.lt)
          have Bb_21 := Lib.hid (Bb_20.out.below hb Bb_20.out.lt)
          have Bc_21 := Lib.hid (Bc_20.out.below hb Bc_20.out.lt)
          have Bd_21 := Lib.hid (Bd_20.out.below hb Bd_20.out.lt)
          have H_21 := Lib.hid (H_20.out.trans (hb.mono H_20.out.size))
          clear hb H_20 Bx_20 By_20 Bz_20 Ba_20 Bb_20 Bc_20 Bd_20
          go_wp2_with fail
          go_ret
          exact ⟨rfl, H_21.out⟩
      · go_upto_region 20 with fail
        rcases Sc.out.two with rfl | rfl
        · rcases Sd.out.two with rfl | rfl
          · rcases lt_or_eq_or_gt z with hz0 | hz0 | hz0
            · refine region_grown (by kernel_rfl) ?_
              apply quiet_wanted
              · go_simp
              · intro W hW; unfold Oper.quietAt; go_simp; (try exact ⟨rfl, rfl⟩); (try rfl)
              (try simp only [Act.put, List.setIfInBounds_toArray, List.set_cons_zero, List.set_cons_succ])
              apply quiet_wanted
              · go_simp
              · intro W hW; unfold Oper.quietAt; go_simp; (try exact ⟨rfl, rfl⟩); (try rfl)
              (try simp only [Act.put, List.setIfInBounds_toArray, List.set_cons_zero, List.set_cons_succ])
              apply quiet_wanted
              · go_simp
              · intro W hW; unfold Oper.quietAt; go_simp; (try exact ⟨rfl, rfl⟩); (try rfl)
              (try simp only [Act.put, List.setIfInBounds_toArray, List.set_cons_zero, List.set_cons_succ])
              apply quiet_wanted
              · go_simp
              · intro W hW; unfold Oper.quietAt; go_simp; (try exact ⟨rfl, rfl⟩); (try rfl)
              (try simp only [Act.put, List.setIfInBounds_toArray, List.set_cons_zero, List.set_cons_succ])
              apply quiet_wanted
              · go_simp
              · intro W hW; unfold Oper.quietAt; go_simp; (try exact ⟨rfl, rfl⟩); (try rfl)
              (try simp only [Act.put, List.setIfInBounds_toArray, List.set_cons_zero, List.set_cons_succ])
              apply quiet_wanted
              · go_simp
              · intro W hW; unfold Oper.quietAt; go_simp; (try exact ⟨rfl, rfl⟩); (try rfl)
              (try simp only [Act.put, List.setIfInBounds_toArray, List.set_cons_zero, List.set_cons_succ])
              apply quiet_wanted
              · go_simp
              · intro W hW; unfold Oper.quietAt; go_simp; (try exact ⟨rfl, rfl⟩); (try rfl)
              (try simp only [Act.put, List.setIfInBounds_toArray, List.set_cons_zero, List.set_cons_succ])
              apply quiet_wanted
              · go_simp
              · intro W hW; have hV := Bz_19.out.below hW Bz_19.out.lt; have c0 := hV.c0; have c1 := hV.c1; have c2 := hV.c2; clear hV; unfold Oper.quietAt; go_simp; (try exact ⟨rfl, rfl⟩); (try rfl)
              (try simp only [Act.put, List.setIfInBounds_toArray, List.set_cons_zero, List.set_cons_succ])
              apply quiet_wanted
              · go_simp
              · intro W hW; unfold Oper.quietAt; go_simp; have hc := negative_num h'' true (decide_eq_true hz0) W; unfold valV at hc; exact hc.mono fun e w' hr => ⟨hr.1, Grown.trans hW hr.2⟩
              (try simp only [Act.put, List.setIfInBounds_toArray, List.set_cons_zero, List.set_cons_succ])
              apply quiet_wanted
              · go_simp
              · intro W hW; unfold Oper.quietAt; go_simp; (try exact ⟨rfl, rfl⟩); (try rfl)
              (try simp only [Act.put, List.setIfInBounds_toArray, List.set_cons_zero, List.set_cons_succ])
              apply quiet_wanted
              · go_simp
              · intro W hW; unfold Oper.quietAt; go_simp; (try exact ⟨rfl, rfl⟩); (try rfl)
              (try simp only [Act.put, List.setIfInBounds_toArray, List.set_cons_zero, List.set_cons_succ])
              refine quiet_unwanted (by first | (go_simp; done) | (go_simp; intro hh; cases hh)) ?_
              (try simp only [Act.put, List.setIfInBounds_toArray, List.set_cons_zero, List.set_cons_succ])
              refine quiet_unwanted (by first | (go_simp; done) | (go_simp; intro hh; cases hh)) ?_
              (try simp only [Act.put, List.setIfInBounds_toArray, List.set_cons_zero, List.set_cons_succ])
              refine quiet_unwanted (by first | (go_simp; done) | (go_simp; intro hh; cases hh)) ?_
              (try simp only [Act.put, List.setIfInBounds_toArray, List.set_cons_zero, List.set_cons_succ])
              apply quiet_wanted
              · go_simp
              · intro W hW; unfold Oper.quietAt; go_simp; (try exact ⟨rfl, rfl⟩); (try rfl)
              (try simp only [Act.put, List.setIfInBounds_toArray, List.set_cons_zero, List.set_cons_succ])
              refine wpQuiet_nil ?_
              intro u13 hb
              unfold Grown at hb
              have Bx_20 := Lib.hid (Bx_19.out.below hb Bx_19.out.lt)
              have By_20 := Lib.hid (By_19.out.below hb By_19.out.lt)
              have Bz_20 := Lib.hid (Bz_19.out.below hb Bz_19.out.lt)
              have Ba_20 := Lib.hid (Ba_19.out.below hb Ba_19.out.lt)
              have Bb_20 := Lib.hid (Bb_19.out.below hb Bb_19.out.lt)
              have Bc_20 := Lib.hid (Bc_19.out.below hb Bc_19.out.lt)
              have Bd_20 := Lib.hid (Bd_19.out.below hb Bd_19.out.lt)
              have H_20 := Lib.hid (H_19.out.trans (hb.mono H_19.out.size))
              clear hb H_19 Bx_19 By_19 Bz_19 Ba_19 Bb_19 Bc_19 Bd_19
              go_wp2_with fail
              go_ret
              exact ⟨rfl, H_20.out⟩
            · obtain ⟨rfl, rfl, rfl⟩ : K'' = 1 ∧ N'' = 0 ∧ T'' = [] := (h''.eq_iff isNum_zero).2 hz0
              refine region_grown (by kernel_rfl) ?_
              apply quiet_wanted
              · go_simp
              · intro W hW; unfold Oper.quietAt; go_simp; (try exact ⟨rfl, rfl⟩); (try rfl)
              (try simp only [Act.put, List.setIfInBounds_toArray, List.set_cons_zero, List.set_cons_succ])
              apply quiet_wanted
              · go_simp
              · intro W hW; unfold Oper.quietAt; go_simp; (try exact ⟨rfl, rfl⟩); (try rfl)
              (try simp only [Act.put, List.setIfInBounds_toArray, List.set_cons_zero, List.set_cons_succ])
              apply quiet_wanted
              · go_simp
              · intro W hW; unfold Oper.quietAt; go_simp; (try exact ⟨rfl, rfl⟩); (try rfl)
              (try simp only [Act.put, List.setIfInBounds_toArray, List.set_cons_zero, List.set_cons_succ])
              apply quiet_wanted
              · go_simp
              · intro W hW; unfold Oper.quietAt; go_simp; (try exact ⟨rfl, rfl⟩); (try rfl)
              (try simp only [Act.put, List.setIfInBounds_toArray, List.set_cons_zero, List.set_cons_succ])
              apply quiet_wanted
              · go_simp
              · intro W hW; unfold Oper.quietAt; go_simp; (try exact ⟨rfl, rfl⟩); (try rfl)
              (try simp only [Act.put, List.setIfInBounds_toArray, List.set_cons_zero, List.set_cons_succ])
              apply quiet_wanted
              · go_simp
              · intro W hW; unfold Oper.quietAt; go_simp; (try exact ⟨rfl, rfl⟩); (try rfl)
              (try simp only [Act.put, List.setIfInBounds_toArray, List.set_cons_zero, List.set_cons_succ])
              apply quiet_wanted
              · go_simp
              · intro W hW; unfold Oper.quietAt; go_simp; (try exact ⟨rfl, rfl⟩); (try rfl)
              (try simp only [Act.put, List.setIfInBounds_toArray, List.set_cons_zero, List.set_cons_succ])
              apply quiet_wanted
              · go_simp
              · intro W hW; have hV := Bz_19.out.below hW Bz_19.out.lt; have c0 := hV.c0; have c1 := hV.c1; have c2 := hV.c2; clear hV; unfold Oper.quietAt; go_simp; (try exact ⟨rfl, rfl⟩); (try rfl)
              (try simp only [Act.put, List.setIfInBounds_toArray, List.set_cons_zero, List.set_cons_succ])
              apply quiet_wanted
              · go_simp
              · intro W hW; unfold Oper.quietAt; go_simp; have hc := negative_num h'' false (decide_eq_false (by omega)) W; unfold valV at hc; exact hc.mono fun e w' hr => ⟨hr.1, Grown.trans hW hr.2⟩
              (try simp only [Act.put, List.setIfInBounds_toArray, List.set_cons_zero, List.set_cons_succ])
              apply quiet_wanted
              · go_simp
              · intro W hW; unfold Oper.quietAt; go_simp; (try exact ⟨rfl, rfl⟩); (try rfl)
              (try simp only [Act.put, List.setIfInBounds_toArray, List.set_cons_zero, List.set_cons_succ])
              apply quiet_wanted
              · go_simp
              · intro W hW; unfold Oper.quietAt; go_simp; (try exact ⟨rfl, rfl⟩); (try rfl)
              (try simp only [Act.put, List.setIfInBounds_toArray, List.set_cons_zero, List.set_cons_succ])
              apply quiet_wanted
              · go_simp
              · intro W hW; have hV := Bz_19.out.below hW Bz_19.out.lt; have c0 := hV.c0; have c1 := hV.c1; have c2 := hV.c2; clear hV; unfold Oper.quietAt; go_simp; (try exact ⟨rfl, rfl⟩); (try rfl)
              (try simp only [Act.put, List.setIfInBounds_toArray, List.set_cons_zero, List.set_cons_succ])
              apply quiet_wanted
              · go_simp
              · intro W hW; unfold Oper.quietAt; go_simp; have hc := number_c 0 W; unfold valV at hc; exact hc.mono fun e w' hr => ⟨hr.1, Grown.trans hW hr.2⟩
              (try simp only [Act.put, List.setIfInBounds_toArray, List.set_cons_zero, List.set_cons_succ])
              apply quiet_wanted
              · go_simp
              · intro W hW; unfold Oper.quietAt; go_simp; (try exact ⟨rfl, rfl⟩); (try rfl)
              (try simp only [Act.put, List.setIfInBounds_toArray, List.set_cons_zero, List.set_cons_succ])
              apply quiet_wanted
              · go_simp
              · intro W hW; unfold Oper.quietAt; go_simp; (try exact ⟨rfl, rfl⟩); (try rfl)
              (try simp only [Act.put, List.setIfInBounds_toArray, List.set_cons_zero, List.set_cons_succ])
              refine wpQuiet_nil ?_
              intro u13 hb
              unfold Grown at hb
              have Bx_20 := Lib.hid (Bx_19.out.below hb Bx_19.out.lt)
              have By_20 := Lib.hid (By_19.out.below hb By_19.out.lt)
              have Bz_20 := Lib.hid (Bz_19.out.below hb Bz_19.out.lt)
              have Ba_20 := Lib.hid (Ba_19.out.below hb Ba_19.out.lt)
              have Bb_20 := Lib.hid (Bb_19.out.below hb Bb_19.out.lt)
              have Bc_20 := Lib.hid (Bc_19.out.below hb Bc_19.out.lt)
              have Bd_20 := Lib.hid (Bd_19.out.below hb Bd_19.out.lt)
              have H_20 := Lib.hid (H_19.out.trans (hb.mono H_19.out.size))
              clear hb H_19 Bx_19 By_19 Bz_19 Ba_19 Bb_19 Bc_19 Bd_19
              go_wp2_with fail
              go_ret
              exact ⟨rfl, H_20.out⟩
            · have hne := h''.ne isNum_zero (show z ≠ 0 by omega)
              refine region_grown (by kernel_rfl) ?_
              apply quiet_wanted
              · go_simp
              · intro W hW; unfold Oper.quietAt; go_simp; (try exact ⟨rfl, rfl⟩); (try rfl)
              (try simp only [Act.put, List.setIfInBounds_toArray, List.set_cons_zero, List.set_cons_succ])
              apply quiet_wanted
              · go_simp
              · intro W hW; unfold Oper.quietAt; go_simp; (try exact ⟨rfl, rfl⟩); (try rfl)
              (try simp only [Act.put, List.setIfInBounds_toArray, List.set_cons_zero, List.set_cons_succ])
              apply quiet_wanted
              · go_simp
              · intro W hW; unfold Oper.quietAt; go_simp; (try exact ⟨rfl, rfl⟩); (try rfl)
              (try simp only [Act.put, List.setIfInBounds_toArray, List.set_cons_zero, List.set_cons_succ])
              apply quiet_wanted
              · go_simp
              · intro W hW; unfold Oper.quietAt; go_simp; (try exact ⟨rfl, rfl⟩); (try rfl)
              (try simp only [Act.put, List.setIfInBounds_toArray, List.set_cons_zero, List.set_cons_succ])
              apply quiet_wanted
              · go_simp
              · intro W hW; unfold Oper.quietAt; go_simp; (try exact ⟨rfl, rfl⟩); (try rfl)
              (try simp only [Act.put, List.setIfInBounds_toArray, List.set_cons_zero, List.set_cons_succ])
              apply quiet_wanted
              · go_simp
              · intro W hW; unfold Oper.quietAt; go_simp; (try exact ⟨rfl, rfl⟩); (try rfl)
              (try simp only [Act.put, List.setIfInBounds_toArray, List.set_cons_zero, List.set_cons_succ])
              apply quiet_wanted
              · go_simp
              · intro W hW; unfold Oper.quietAt; go_simp; (try exact ⟨rfl, rfl⟩); (try rfl)
              (try simp only [Act.put, List.setIfInBounds_toArray, List.set_cons_zero, List.set_cons_succ])
              apply quiet_wanted
              · go_simp
              · intro W hW; have hV := Bz_19.out.below hW Bz_19.out.lt; have c0 := hV.c0; have c1 := hV.c1; have c2 := hV.c2; clear hV; unfold Oper.quietAt; go_simp; (try exact ⟨rfl, rfl⟩); (try rfl)
              (try simp only [Act.put, List.setIfInBounds_toArray, List.set_cons_zero, List.set_cons_succ])
              apply quiet_wanted
              · go_simp
              · intro W hW; unfold Oper.quietAt; go_simp; have hc := negative_num h'' false (decide_eq_false (by omega)) W; unfold valV at hc; exact hc.mono fun e w' hr => ⟨hr.1, Grown.trans hW hr.2⟩
              (try simp only [Act.put, List.setIfInBounds_toArray, List.set_cons_zero, List.set_cons_succ])
              apply quiet_wanted
              · go_simp
              · intro W hW; unfold Oper.quietAt; go_simp; (try exact ⟨rfl, rfl⟩); (try rfl)
              (try simp only [Act.put, List.setIfInBounds_toArray, List.set_cons_zero, List.set_cons_succ])
              apply quiet_wanted
              · go_simp
              · intro W hW; unfold Oper.quietAt; go_simp; (try exact ⟨rfl, rfl⟩); (try rfl)
              (try simp only [Act.put, List.setIfInBounds_toArray, List.set_cons_zero, List.set_cons_succ])
              apply quiet_wanted
              · go_simp
              · intro W hW; have hV := Bz_19.out.below hW Bz_19.out.lt; have c0 := hV.c0; have c1 := hV.c1; have c2 := hV.c2; clear hV; unfold Oper.quietAt; go_simp; (try exact ⟨rfl, rfl⟩); (try rfl)
              (try simp only [Act.put, List.setIfInBounds_toArray, List.set_cons_zero, List.set_cons_succ])
              apply quiet_wanted
              · go_simp
              · intro W hW; unfold Oper.quietAt; go_simp; have hc := number_c 0 W; unfold valV at hc; exact hc.mono fun e w' hr => ⟨hr.1, Grown.trans hW hr.2⟩
              (try simp only [Act.put, List.setIfInBounds_toArray, List.set_cons_zero, List.set_cons_succ])
              refine quiet_wanted (v := .bool false) (by go_simp) (fun W hW => ?_) ?_
              · unfold Oper.quietAt; by_cases e1 : K'' = 1 <;> by_cases e2 : N'' = 0 <;> by_cases e3 : T'' = [] <;> first | (go_simp; done) | exact absurd ⟨e1, e2, e3⟩ (hne)
              (try simp only [Act.put, List.setIfInBounds_toArray, List.set_cons_zero, List.set_cons_succ])
              apply quiet_wanted
              · go_simp
              · intro W hW; unfold Oper.quietAt; go_simp; (try exact ⟨rfl, rfl⟩); (try rfl)
              (try simp only [Act.put, List.setIfInBounds_toArray, List.set_cons_zero, List.set_cons_succ])
              refine wpQuiet_nil ?_
              intro u13 hb
              unfold Grown at hb
              have Bx_20 := Lib.hid (Bx_19.out.below hb Bx_19.out.lt)
              have By_20 := Lib.hid (By_19.out.below hb By_19.out.lt)
              have Bz_20 := Lib.hid (Bz_19.out.below hb Bz_19.out.lt)
              have Ba_20 := Lib.hid (Ba_19.out.below hb Ba_19.out.lt)
              have Bb_20 := Lib.hid (Bb_19.out.below hb Bb_19.out.lt)
              have Bc_20 := Lib.hid (Bc_19.out.below hb Bc_19.out.lt)
              have Bd_20 := Lib.hid (Bd_19.out.below hb Bd_19.out.lt)
              have H_20 := Lib.hid (H_19.out.trans (hb.mono H_19.out.size))
              clear hb H_19 Bx_19 By_19 Bz_19 Ba_19 Bb_19 Bc_19 Bd_19
              have qc0 := Bc_20.out.c0
              have qc1 := Bc_20.out.c1
              have qc2 := Bc_20.out.c2
              have qd0 := Bd_20.out.c0
              have qd1 := Bd_20.out.c1
              have qd2 := Bd_20.out.c2
              go_wp2_with fail
              clear qc0 qc1 qc2 qd0 qd1 qd2
              have hc := Less_num Sc.out.ok Sd.out.ok a (by rw [← Ha.out]; exact decide_mul_lt hz0) (u13) (hw.below H_20.out)
              unfold valV at hc
              refine hc.mono ?_
              rintro e u14 ⟨rfl, hb⟩
              clear hc
              have Bx_21 := Lib.hid (Bx_20.out.below hb Bx_20.out.lt)
              have By_21 := Lib.hid (By_20.out.below hb By_20.out.lt)
              have Bz_21 := Lib.hid (Bz_20.out.below hb Bz_20.out.lt)
              have Ba_21 := Lib.hid (Ba_20.out.below hb Ba_20.out.lt)
              have Bb_21 := Lib.hid (Bb_20.out.below hb Bb_20.out.lt)
              have Bc_21 := Lib.hid (Bc_20.out.below hb Bc_20.out.lt)
              have Bd_21 := Lib.hid (Bd_20.out.below hb Bd_20.out.lt)
              have H_21 := Lib.hid (H_20.out.trans (hb.mono H_20.out.size))
              clear hb H_20 Bx_20 By_20 Bz_20 Ba_20 Bb_20 Bc_20 Bd_20
              go_wp2_with fail
              go_ret
              exact ⟨rfl, H_21.out⟩
          · refine region_grown (by kernel_rfl) ?_
            apply quiet_wanted
            · go_simp
            · intro W hW; unfold Oper.quietAt; go_simp; (try exact ⟨rfl, rfl⟩); (try rfl)
            (try simp only [Act.put, List.setIfInBounds_toArray, List.set_cons_zero, List.set_cons_succ])
            apply quiet_wanted
            · go_simp
            · intro W hW; unfold Oper.quietAt; go_simp; (try exact ⟨rfl, rfl⟩); (try rfl)
            (try simp only [Act.put, List.setIfInBounds_toArray, List.set_cons_zero, List.set_cons_succ])
            apply quiet_wanted
            · go_simp
            · intro W hW; unfold Oper.quietAt; go_simp; (try exact ⟨rfl, rfl⟩); (try rfl)
            (try simp only [Act.put, List.setIfInBounds_toArray, List.set_cons_zero, List.set_cons_succ])
            apply quiet_wanted
            · go_simp
            · intro W hW; unfold Oper.quietAt; go_simp; (try exact ⟨rfl, rfl⟩); (try rfl)
            (try simp only [Act.put, List.setIfInBounds_toArray, List.set_cons_zero, List.set_cons_succ])
            apply quiet_wanted
            · go_simp
            · intro W hW; unfold Oper.quietAt; go_simp; (try exact ⟨rfl, rfl⟩); (try rfl)
            (try simp only [Act.put, List.setIfInBounds_toArray, List.set_cons_zero, List.set_cons_succ])
            apply quiet_wanted
            · go_simp
            · intro W hW; unfold Oper.quietAt; go_simp; (try exact ⟨rfl, rfl⟩); (try rfl)
            (try simp only [Act.put, List.setIfInBounds_toArray, List.set_cons_zero, List.set_cons_succ])
            apply quiet_wanted
            · go_simp
            · intro W hW; unfold Oper.quietAt; go_simp; (try exact ⟨rfl, rfl⟩); (try rfl)
            (try simp only [Act.put, List.setIfInBounds_toArray, List.set_cons_zero, List.set_cons_succ])
            refine quiet_unwanted (by first | (go_simp; done) | (go_simp; intro hh; cases hh)) ?_
            (try simp only [Act.put, List.setIfInBounds_toArray, List.set_cons_zero, List.set_cons_succ])
            refine quiet_unwanted (by first | (go_simp; done) | (go_simp; intro hh; cases hh)) ?_
            (try simp only [Act.put, List.setIfInBounds_toArray, List.set_cons_zero, List.set_cons_succ])
            apply quiet_wanted
            · go_simp
            · intro W hW; unfold Oper.quietAt; go_simp; (try exact ⟨rfl, rfl⟩); (try rfl)
            (try simp only [Act.put, List.setIfInBounds_toArray, List.set_cons_zero, List.set_cons_succ])
            apply quiet_wanted
            · go_simp
            · intro W hW; unfold Oper.quietAt; go_simp; (try exact ⟨rfl, rfl⟩); (try rfl)
            (try simp only [Act.put, List.setIfInBounds_toArray, List.set_cons_zero, List.set_cons_succ])
            refine quiet_unwanted (by first | (go_simp; done) | (go_simp; intro hh; cases hh)) ?_
            (try simp only [Act.put, List.setIfInBounds_toArray, List.set_cons_zero, List.set_cons_succ])
            refine quiet_unwanted (by first | (go_simp; done) | (go_simp; intro hh; cases hh)) ?_
            (try simp only [Act.put, List.setIfInBounds_toArray, List.set_cons_zero, List.set_cons_succ])
            refine quiet_unwanted (by first | (go_simp; done) | (go_simp; intro hh; cases hh)) ?_
            (try simp only [Act.put, List.setIfInBounds_toArray, List.set_cons_zero, List.set_cons_succ])
            apply quiet_wanted
            · go_simp
            · intro W hW; unfold Oper.quietAt; go_simp; (try exact ⟨rfl, rfl⟩); (try rfl)
            (try simp only [Act.put, List.setIfInBounds_toArray, List.set_cons_zero, List.set_cons_succ])
            refine wpQuiet_nil ?_
            intro u13 hb
            unfold Grown at hb
            have Bx_20 := Lib.hid (Bx_19.out.below hb Bx_19.out.lt)
            have By_20 := Lib.hid (By_19.out.below hb By_19.out.lt)
            have Bz_20 := Lib.hid (Bz_19.out.below hb Bz_19.out.lt)
            have Ba_20 := Lib.hid (Ba_19.out.below hb Ba_19.out.lt)
            have Bb_20 := Lib.hid (Bb_19.out.below hb Bb_19.out.lt)
            have Bc_20 := Lib.hid (Bc_19.out.below hb Bc_19.out.lt)
            have Bd_20 := Lib.hid (Bd_19.out.below hb Bd_19.out.lt)
            have H_20 := Lib.hid (H_19.out.trans (hb.mono H_19.out.size))
            clear hb H_19 Bx_19 By_19 Bz_19 Ba_19 Bb_19 Bc_19 Bd_19
            go_wp2_with fail
            go_ret
            exact ⟨rfl, H_20.out⟩
        · refine region_grown (by kernel_rfl) ?_
          apply quiet_wanted
          · go_simp
          · intro W hW; unfold Oper.quietAt; go_simp; (try exact ⟨rfl, rfl⟩); (try rfl)
          (try simp only [Act.put, List.setIfInBounds_toArray, List.set_cons_zero, List.set_cons_succ])
          apply quiet_wanted
          · go_simp
          · intro W hW; unfold Oper.quietAt; go_simp; (try exact ⟨rfl, rfl⟩); (try rfl)
          (try simp only [Act.put, List.setIfInBounds_toArray, List.set_cons_zero, List.set_cons_succ])
          apply quiet_wanted
          · go_simp
          · intro W hW; unfold Oper.quietAt; go_simp; (try exact ⟨rfl, rfl⟩); (try rfl)
          (try simp only [Act.put, List.setIfInBounds_toArray, List.set_cons_zero, List.set_cons_succ])
          refine quiet_unwanted (by first | (go_simp; done) | (go_simp; intro hh; cases hh)) ?_
          (try simp only [Act.put, List.setIfInBounds_toArray, List.set_cons_zero, List.set_cons_succ])
          refine quiet_unwanted (by first | (go_simp; done) | (go_simp; intro hh; cases hh)) ?_
          (try simp only [Act.put, List.setIfInBounds_toArray, List.set_cons_zero, List.set_cons_succ])
          apply quiet_wanted
          · go_simp
          · intro W hW; unfold Oper.quietAt; go_simp; (try exact ⟨rfl, rfl⟩); (try rfl)
          (try simp only [Act.put, List.setIfInBounds_toArray, List.set_cons_zero, List.set_cons_succ])
          apply quiet_wanted
          · go_simp
          · intro W hW; unfold Oper.quietAt; go_simp; (try exact ⟨rfl, rfl⟩); (try rfl)
          (try simp only [Act.put, List.setIfInBounds_toArray, List.set_cons_zero, List.set_cons_succ])
          refine quiet_unwanted (by first | (go_simp; done) | (go_simp; intro hh; cases hh)) ?_
          (try simp only [Act.put, List.setIfInBounds_toArray, List.set_cons_zero, List.set_cons_succ])
          refine quiet_unwanted (by first | (go_simp; done) | (go_simp; intro hh; cases hh)) ?_
          (try simp only [Act.put, List.setIfInBounds_toArray, List.set_cons_zero, List.set_cons_succ])
          apply quiet_wanted
          · go_simp
          · intro W hW; unfold Oper.quietAt; go_simp; (try exact ⟨rfl, rfl⟩); (try rfl)
          (try simp only [Act.put, List.setIfInBounds_toArray, List.set_cons_zero, List.set_cons_succ])
          apply quiet_wanted
          · go_simp
          · intro W hW; unfold Oper.quietAt; go_simp; (try exact ⟨rfl, rfl⟩); (try rfl)
          (try simp only [Act.put, List.setIfInBounds_toArray, List.set_cons_zero, List.set_cons_succ])
          refine quiet_unwanted (by first | (go_simp; done) | (go_simp; intro hh; cases hh)) ?_
          (try simp only [Act.put, List.setIfInBounds_toArray, List.set_cons_zero, List.set_cons_succ])
          refine quiet_unwanted (by first | (go_simp; done) | (go_simp; intro hh; cases hh)) ?_
          (try simp only [Act.put, List.setIfInBounds_toArray, List.set_cons_zero, List.set_cons_succ])
          refine quiet_unwanted (by first | (go_simp; done) | (go_simp; intro hh; cases hh)) ?_
          (try simp only [Act.put, List.setIfInBounds_toArray, List.set_cons_zero, List.set_cons_succ])
          apply quiet_wanted
          · go_simp
          · intro W hW; unfold Oper.quietAt; go_simp; (try exact ⟨rfl, rfl⟩); (try rfl)
          (try simp only [Act.put, List.setIfInBounds_toArray, List.set_cons_zero, List.set_cons_succ])
          refine wpQuiet_nil ?_
          intro u13 hb
          unfold Grown at hb
          have Bx_20 := Lib.hid (Bx_19.out.below hb Bx_19.out.lt)
          have By_20 := Lib.hid (By_19.out.below hb By_19.out.lt)
          have Bz_20 := Lib.hid (Bz_19.out.below hb Bz_19.out.lt)
          have Ba_20 := Lib.hid (Ba_19.out.below hb Ba_19.out.lt)
          have Bb_20 := Lib.hid (Bb_19.out.below hb Bb_19.out.lt)
          have Bc_20 := Lib.hid (Bc_19.out.below hb Bc_19.out.lt)
          have Bd_20 := Lib.hid (Bd_19.out.below hb Bd_19.out.lt)
          have H_20 := Lib.hid (H_19.out.trans (hb.mono H_19.out.size))
          clear hb H_19 Bx_19 By_19 Bz_19 Ba_19 Bb_19 Bc_19 Bd_19
          go_wp2_with fail
          go_ret
          exact ⟨rfl, H_20.out⟩
    · go_upto_region 20 with fail
      rcases Sc.out.two with rfl | rfl
      · rcases Sd.out.two with rfl | rfl
        · rcases lt_or_eq_or_gt z with hz0 | hz0 | hz0
          · refine region_grown (by kernel_rfl) ?_
            apply quiet_wanted
            · go_simp
            · intro W hW; unfold Oper.quietAt; go_simp; (try exact ⟨rfl, rfl⟩); (try rfl)
            (try simp only [Act.put, List.setIfInBounds_toArray, List.set_cons_zero, List.set_cons_succ])
            apply quiet_wanted
            · go_simp
            · intro W hW; unfold Oper.quietAt; go_simp; (try exact ⟨rfl, rfl⟩); (try rfl)
            (try simp only [Act.put, List.setIfInBounds_toArray, List.set_cons_zero, List.set_cons_succ])
            apply quiet_wanted
            · go_simp
            · intro W hW; unfold Oper.quietAt; go_simp; (try exact ⟨rfl, rfl⟩); (try rfl)
            (try simp only [Act.put, List.setIfInBounds_toArray, List.set_cons_zero, List.set_cons_succ])
            apply quiet_wanted
            · go_simp
            · intro W hW; unfold Oper.quietAt; go_simp; (try exact ⟨rfl, rfl⟩); (try rfl)
            (try simp only [Act.put, List.setIfInBounds_toArray, List.set_cons_zero, List.set_cons_succ])
            apply quiet_wanted
            · go_simp
            · intro W hW; unfold Oper.quietAt; go_simp; (try exact ⟨rfl, rfl⟩); (try rfl)
            (try simp only [Act.put, List.setIfInBounds_toArray, List.set_cons_zero, List.set_cons_succ])
            apply quiet_wanted
            · go_simp
            · intro W hW; unfold Oper.quietAt; go_simp; (try exact ⟨rfl, rfl⟩); (try rfl)
            (try simp only [Act.put, List.setIfInBounds_toArray, List.set_cons_zero, List.set_cons_succ])
            apply quiet_wanted
            · go_simp
            · intro W hW; unfold Oper.quietAt; go_simp; (try exact ⟨rfl, rfl⟩); (try rfl)
            (try simp only [Act.put, List.setIfInBounds_toArray, List.set_cons_zero, List.set_cons_succ])
            apply quiet_wanted
            · go_simp
            · intro W hW; have hV := Bz_19.out.below hW Bz_19.out.lt; have c0 := hV.c0; have c1 := hV.c1; have c2 := hV.c2; clear hV; unfold Oper.quietAt; go_simp; (try exact ⟨rfl, rfl⟩); (try rfl)
            (try simp only [Act.put, List.setIfInBounds_toArray, List.set_cons_zero, List.set_cons_succ])
            apply quiet_wanted
            · go_simp
            · intro W hW; unfold Oper.quietAt; go_simp; have hc := negative_num h'' true (decide_eq_true hz0) W; unfold valV at hc; exact hc.mono fun e w' hr => ⟨hr.1, Grown.trans hW hr.2⟩
            (try simp only [Act.put, List.setIfInBounds_toArray, List.set_cons_zero, List.set_cons_succ])
            apply quiet_wanted
            · go_simp
            · intro W hW; unfold Oper.quietAt; go_simp; (try exact ⟨rfl, rfl⟩); (try rfl)
            (try simp only [Act.put, List.setIfInBounds_toArray, List.set_cons_zero, List.set_cons_succ])
            apply quiet_wanted
            · go_simp
            · intro W hW; unfold Oper.quietAt; go_simp; (try exact ⟨rfl, rfl⟩); (try rfl)
            (try simp only [Act.put, List.setIfInBounds_toArray, List.set_cons_zero, List.set_cons_succ])
            refine quiet_unwanted (by first | (go_simp; done) | (go_simp; intro hh; cases hh)) ?_
            (try simp only [Act.put, List.setIfInBounds_toArray, List.set_cons_zero, List.set_cons_succ])
            refine quiet_unwanted (by first | (go_simp; done) | (go_simp; intro hh; cases hh)) ?_
            (try simp only [Act.put, List.setIfInBounds_toArray, List.set_cons_zero, List.set_cons_succ])
            refine quiet_unwanted (by first | (go_simp; done) | (go_simp; intro hh; cases hh)) ?_
            (try simp only [Act.put, List.setIfInBounds_toArray, List.set_cons_zero, List.set_cons_succ])
            apply quiet_wanted
            · go_simp
            · intro W hW; unfold Oper.quietAt; go_simp; (try exact ⟨rfl, rfl⟩); (try rfl)
            (try simp only [Act.put, List.setIfInBounds_toArray, List.set_cons_zero, List.set_cons_succ])
            refine wpQuiet_nil ?_
            intro u13 hb
            unfold Grown at hb
            have Bx_20 := Lib.hid (Bx_19.out.below hb Bx_19.out.lt)
            have By_20 := Lib.hid (By_19.out.below hb By_19.out.lt)
            have Bz_20 := Lib.hid (Bz_19.out.below hb Bz_19.out.lt)
            have Ba_20 := Lib.hid (Ba_19.out.below hb Ba_19.out.lt)
            have Bb_20 := Lib.hid (Bb_19.out.below hb Bb_19.out.lt)
            have Bc_20 := Lib.hid (Bc_19.out.below hb Bc_19.out.lt)
            have Bd_20 := Lib.hid (Bd_19.out.below hb Bd_19.out.lt)
            have H_20 := Lib.hid (H_19.out.trans (hb.mono H_19.out.size))
            clear hb H_19 Bx_19 By_19 Bz_19 Ba_19 Bb_19 Bc_19 Bd_19
            go_wp2_with fail
            go_ret
            exact ⟨rfl, H_20.out⟩
          · obtain ⟨rfl, rfl, rfl⟩ : K'' = 1 ∧ N'' = 0 ∧ T'' = [] := (h''.eq_iff isNum_zero).2 hz0
            refine region_grown (by kernel_rfl) ?_
            apply quiet_wanted
            · go_simp
            · intro W hW; unfold Oper.quietAt; go_simp; (try exact ⟨rfl, rfl⟩); (try rfl)
            (try simp only [Act.put, List.setIfInBounds_toArray, List.set_cons_zero, List.set_cons_succ])
            apply quiet_wanted
            · go_simp
            · intro W hW; unfold Oper.quietAt; go_simp; (try exact ⟨rfl, rfl⟩); (try rfl)
            (try simp only [Act.put, List.setIfInBounds_toArray, List.set_cons_zero, List.set_cons_succ])
            apply quiet_wanted
            · go_simp
            · intro W hW; unfold Oper.quietAt; go_simp; (try exact ⟨rfl, rfl⟩); (try rfl)
            (try simp only [Act.put, List.setIfInBounds_toArray, List.set_cons_zero, List.set_cons_succ])
            apply quiet_wanted
            · go_simp
            · intro W hW; unfold Oper.quietAt; go_simp; (try exact ⟨rfl, rfl⟩); (try rfl)
            (try simp only [Act.put, List.setIfInBounds_toArray, List.set_cons_zero, List.set_cons_succ])
            apply quiet_wanted
            · go_simp
            · intro W hW; unfold Oper.quietAt; go_simp; (try exact ⟨rfl, rfl⟩); (try rfl)
            (try simp only [Act.put, List.setIfInBounds_toArray, List.set_cons_zero, List.set_cons_succ])
            apply quiet_wanted
            · go_simp
            · intro W hW; unfold Oper.quietAt; go_simp; (try exact ⟨rfl, rfl⟩); (try rfl)
            (try simp only [Act.put, List.setIfInBounds_toArray, List.set_cons_zero, List.set_cons_succ])
            apply quiet_wanted
            · go_simp
            · intro W hW; unfold Oper.quietAt; go_simp; (try exact ⟨rfl, rfl⟩); (try rfl)
            (try simp only [Act.put, List.setIfInBounds_toArray, List.set_cons_zero, List.set_cons_succ])
            apply quiet_wanted
            · go_simp
            · intro W hW; have hV := Bz_19.out.below hW Bz_19.out.lt; have c0 := hV.c0; have c1 := hV.c1; have c2 := hV.c2; clear hV; unfold Oper.quietAt; go_simp; (try exact ⟨rfl, rfl⟩); (try rfl)
            (try simp only [Act.put, List.setIfInBounds_toArray, List.set_cons_zero, List.set_cons_succ])
            apply quiet_wanted
            · go_simp
            · intro W hW; unfold Oper.quietAt; go_simp; have hc := negative_num h'' false (decide_eq_false (by omega)) W; unfold valV at hc; exact hc.mono fun e w' hr => ⟨hr.1, Grown.trans hW hr.2⟩
            (try simp only [Act.put, List.setIfInBounds_toArray, List.set_cons_zero, List.set_cons_succ])
            apply quiet_wanted
            · go_simp
            · intro W hW; unfold Oper.quietAt; go_simp; (try exact ⟨rfl, rfl⟩); (try rfl)
            (try simp only [Act.put, List.setIfInBounds_toArray, List.set_cons_zero, List.set_cons_succ])
            apply quiet_wanted
            · go_simp
            · intro W hW; unfold Oper.quietAt; go_simp; (try exact ⟨rfl, rfl⟩); (try rfl)
            (try simp only [Act.put, List.setIfInBounds_toArray, List.set_cons_zero, List.set_cons_succ])
            apply quiet_wanted
            · go_simp
            · intro W hW; have hV := Bz_19.out.below hW Bz_19.out.lt; have c0 := hV.c0; have c1 := hV.c1; have c2 := hV.c2; clear hV; unfold Oper.quietAt; go_simp; (try exact ⟨rfl, rfl⟩); (try rfl)
            (try simp only [Act.put, List.setIfInBounds_toArray, List.set_cons_zero, List.set_cons_succ])
            apply quiet_wanted
            · go_simp
            · intro W hW; unfold Oper.quietAt; go_simp; have hc := number_c 0 W; unfold valV at hc; exact hc.mono fun e w' hr => ⟨hr.1, Grown.trans hW hr.2⟩
            (try simp only [Act.put, List.setIfInBounds_toArray, List.set_cons_zero, List.set_cons_succ])
            apply quiet_wanted
            · go_simp
            · intro W hW; unfold Oper.quietAt; go_simp; (try exact ⟨rfl, rfl⟩); (try rfl)
            (try simp only [Act.put, List.setIfInBounds_toArray, List.set_cons_zero, List.set_cons_succ])
            apply quiet_wanted
            · go_simp
            · intro W hW; unfold Oper.quietAt; go_simp; (try exact ⟨rfl, rfl⟩); (try rfl)
            (try simp only [Act.put, List.setIfInBounds_toArray, List.set_cons_zero, List.set_cons_succ])
            refine wpQuiet_nil ?_
            intro u13 hb
            unfold Grown at hb
            have Bx_20 := Lib.hid (Bx_19.out.below hb Bx_19.out.lt)
            have By_20 := Lib.hid (By_19.out.below hb By_19.out.lt)
            have Bz_20 := Lib.hid (Bz_19.out.below hb Bz_19.out.lt)
            have Ba_20 := Lib.hid (Ba_19.out.below hb Ba_19.out.lt)
            have Bb_20 := Lib.hid (Bb_19.out.below hb Bb_19.out.lt)
            have Bc_20 := Lib.hid (Bc_19.out.below hb Bc_19.out.lt)
            have Bd_20 := Lib.hid (Bd_19.out.below hb Bd_19.out.lt)
            have H_20 := Lib.hid (H_19.out.trans (hb.mono H_19.out.size))
            clear hb H_19 Bx_19 By_19 Bz_19 Ba_19 Bb_19 Bc_19 Bd_19
            go_wp2_with fail
            go_ret
            exact ⟨rfl, H_20.out⟩
          · have hne := h''.ne isNum_zero (show z ≠ 0 by omega)
            refine region_grown (by kernel_rfl) ?_
            apply quiet_wanted
            · go_simp
            · intro W hW; unfold Oper.quietAt; go_simp; (try exact ⟨rfl, rfl⟩); (try rfl)
            (try simp only [Act.put, List.setIfInBounds_toArray, List.set_cons_zero, List.set_cons_succ])
            apply quiet_wanted
            · go_simp
            · intro W hW; unfold Oper.quietAt; go_simp; (try exact ⟨rfl, rfl⟩); (try rfl)
            (try simp only [Act.put, List.setIfInBounds_toArray, List.set_cons_zero, List.set_cons_succ])
            apply quiet_wanted
            · go_simp
            · intro W hW; unfold Oper.quietAt; go_simp; (try exact ⟨rfl, rfl⟩); (try rfl)
            (try simp only [Act.put, List.setIfInBounds_toArray, List.set_cons_zero, List.set_cons_succ])
            apply quiet_wanted
            · go_simp
            · intro W hW; unfold Oper.quietAt; go_simp; (try exact ⟨rfl, rfl⟩); (try rfl)
            (try simp only [Act.put, List.setIfInBounds_toArray, List.set_cons_zero, List.set_cons_succ])
            apply quiet_wanted
            · go_simp
            · intro W hW; unfold Oper.quietAt; go_simp; (try exact ⟨rfl, rfl⟩); (try rfl)
            (try simp only [Act.put, List.setIfInBounds_toArray, List.set_cons_zero, List.set_cons_succ])
            apply quiet_wanted
            · go_simp
            · intro W hW; unfold Oper.quietAt; go_simp; (try exact ⟨rfl, rfl⟩); (try rfl)
            (try simp only [Act.put, List.setIfInBounds_toArray, List.set_cons_zero, List.set_cons_succ])
            apply quiet_wanted
            · go_simp
            · intro W hW; unfold Oper.quietAt; go_simp; (try exact ⟨rfl, rfl⟩); (try rfl)
            (try simp only [Act.put, List.setIfInBounds_toArray, List.set_cons_zero, List.set_cons_succ])
            apply quiet_wanted
            · go_simp
            · intro W hW; have hV := Bz_19.out.below hW Bz_19.out.lt; have c0 := hV.c0; have c1 := hV.c1; have c2 := hV.c2; clear hV; unfold Oper.quietAt; go_simp; (try exact ⟨rfl, rfl⟩); (try rfl)
            (try simp only [Act.put, List.setIfInBounds_toArray, List.set_cons_zero, List.set_cons_succ])
            apply quiet_wanted
            · go_simp
            · intro W hW; unfold Oper.quietAt; go_simp; have hc := negative_num h'' false (decide_eq_false (by omega)) W; unfold valV at hc; exact hc.mono fun e w' hr => ⟨hr.1, Grown.trans hW hr.2⟩
            (try simp only [Act.put, List.setIfInBounds_toArray, List.set_cons_zero, List.set_cons_succ])
            apply quiet_wanted
            · go_simp
            · intro W hW; unfold Oper.quietAt; go_simp; (try exact ⟨rfl, rfl⟩); (try rfl)
            (try simp only [Act.put, List.setIfInBounds_toArray, List.set_cons_zero, List.set_cons_succ])
            apply quiet_wanted
            · go_simp
            · intro W hW; unfold Oper.quietAt; go_simp; (try exact ⟨rfl, rfl⟩); (try rfl)
            (try simp only [Act.put, List.setIfInBounds_toArray, List.set_cons_zero, List.set_cons_succ])
            apply quiet_wanted
            · go_simp
            · intro W hW; have hV := Bz_19.out.below hW Bz_19.out.lt; have c0 := hV.c0; have c1 := hV.c1; have c2 := hV.c2; clear hV; unfold Oper.quietAt; go_simp; (try exact ⟨rfl, rfl⟩); (try rfl)
            (try simp only [Act.put, List.setIfInBounds_toArray, List.set_cons_zero, List.set_cons_succ])
            apply quiet_wanted
            · go_simp
            · intro W hW; unfold Oper.quietAt; go_simp; have hc := number_c 0 W; unfold valV at hc; exact hc.mono fun e w' hr => ⟨hr.1, Grown.trans hW hr.2⟩
            (try simp only [Act.put, List.setIfInBounds_toArray, List.set_cons_zero, List.set_cons_succ])
            refine quiet_wanted (v := .bool false) (by go_simp) (fun W hW => ?_) ?_
            · unfold Oper.quietAt; by_cases e1 : K'' = 1 <;> by_cases e2 : N'' = 0 <;> by_cases e3 : T'' = [] <;> first | (go_simp; done) | exact absurd ⟨e1, e2, e3⟩ (hne)
            (try simp only [Act.put, List.setIfInBounds_toArray, List.set_cons_zero, List.set_cons_succ])
            apply quiet_wanted
            · go_simp
            · intro W hW; unfold Oper.quietAt; go_simp; (try exact ⟨rfl, rfl⟩); (try rfl)
            (try simp only [Act.put, List.setIfInBounds_toArray, List.set_cons_zero, List.set_cons_succ])
            refine wpQuiet_nil ?_
            intro u13 hb
            unfold Grown at hb
            have Bx_20 := Lib.hid (Bx_19.out.below hb Bx_19.out.lt)
            have By_20 := Lib.hid (By_19.out.below hb By_19.out.lt)
            have Bz_20 := Lib.hid (Bz_19.out.below hb Bz_19.out.lt)
            have Ba_20 := Lib.hid (Ba_19.out.below hb Ba_19.out.lt)
            have Bb_20 := Lib.hid (Bb_19.out.below hb Bb_19.out.lt)
            have Bc_20 := Lib.hid (Bc_19.out.below hb Bc_19.out.lt)
            have Bd_20 := Lib.hid (Bd_19.out.below hb Bd_19.out.lt)
            have H_20 := Lib.hid (H_19.out.trans (hb.mono H_19.out.size))
            clear hb H_19 Bx_19 By_19 Bz_19 Ba_19 Bb_19 Bc_19 Bd_19
            have qc0 := Bc_20.out.c0
            have qc1 := Bc_20.out.c1
            have qc2 := Bc_20.out.c2
            have qd0 := Bd_20.out.c0
            have qd1 := Bd_20.out.c1
            have qd2 := Bd_20.out.c2
            go_wp2_with fail
            clear qc0 qc1 qc2 qd0 qd1 qd2
            have hc := Less_num Sc.out.ok Sd.out.ok a (by rw [← Ha.out]; exact decide_mul_lt hz0) (u13) (hw.below H_20.out)
            unfold valV at hc
            refine hc.mono ?_
            rintro e u14 ⟨rfl, hb⟩
            clear hc
            have Bx_21 := Lib.hid (Bx_20.out.below hb Bx_20.out.lt)
            have By_21 := Lib.hid (By_20.out.below hb By_20.out.lt)
            have Bz_21 := Lib.hid (Bz_20.out.below hb Bz_20.out.lt)
            have Ba_21 := Lib.hid (Ba_20.out.below hb Ba_20.out.lt)
            have Bb_21 := Lib.hid (Bb_20.out.below hb Bb_20.out.lt)
            have Bc_21 := Lib.hid (Bc_20.out.below hb Bc_20.out.lt)
            have Bd_21 := Lib.hid (Bd_20.out.below hb Bd_20.out.lt)
            have H_21 := Lib.hid (H_20.out.trans (hb.mono H_20.out.size))
            clear hb H_20 Bx_20 By_20 Bz_20 Ba_20 Bb_20 Bc_20 Bd_20
            go_wp2_with fail
            go_ret
            exact ⟨rfl, H_21.out⟩
        · refine region_grown (by kernel_rfl) ?_
          apply quiet_wanted
          · go_simp
          · intro W hW; unfold Oper.quietAt; go_simp; (try exact ⟨rfl, rfl⟩); (try rfl)
          (try simp only [Act.put, List.setIfInBounds_toArray, List.set_cons_zero, List.set_cons_succ])
          apply quiet_wanted
          · go_simp
          · intro W hW; unfold Oper.quietAt; go_simp; (try exact ⟨rfl, rfl⟩); (try rfl)
          (try simp only [Act.put, List.setIfInBounds_toArray, List.set_cons_zero, List.set_cons_succ])
          apply quiet_wanted
          · go_simp
          · intro W hW; unfold Oper.quietAt; go_simp; (try exact ⟨rfl, rfl⟩); (try rfl)
          (try simp only [Act.put, List.setIfInBounds_toArray, List.set_cons_zero, List.set_cons_succ])
          apply quiet_wanted
          · go_simp
          · intro W hW; unfold Oper.quietAt; go_simp; (try exact ⟨rfl, rfl⟩); (try rfl)
          (try simp only [Act.put, List.setIfInBounds_toArray, List.set_cons_zero, List.set_cons_succ])
          apply quiet_wanted
          · go_simp
          · intro W hW; unfold Oper.quietAt; go_simp; (try exact ⟨rfl, rfl⟩); (try rfl)
          (try simp only [Act.put, List.setIfInBounds_toArray, List.set_cons_zero, List.set_cons_succ])
          apply quiet_wanted
          · go_simp
          · intro W hW; unfold Oper.quietAt; go_simp; (try exact ⟨rfl, rfl⟩); (try rfl)
          (try simp only [Act.put, List.setIfInBounds_toArray, List.set_cons_zero, List.set_cons_succ])
          apply quiet_wanted
          · go_simp
          · intro W hW; unfold Oper.quietAt; go_simp; (try exact ⟨rfl, rfl⟩); (try rfl)
          (try simp only [Act.put, List.setIfInBounds_toArray, List.set_cons_zero, List.set_cons_succ])
          refine quiet_unwanted (by first | (go_simp; done) | (go_simp; intro hh; cases hh)) ?_
          (try simp only [Act.put, List.setIfInBounds_toArray, List.set_cons_zero, List.set_cons_succ])
          refine quiet_unwanted (by first | (go_simp; done) | (go_simp; intro hh; cases hh)) ?_
          (try simp only [Act.put, List.setIfInBounds_toArray, List.set_cons_zero, List.set_cons_succ])
          apply quiet_wanted
          · go_simp
          · intro W hW; unfold Oper.quietAt; go_simp; (try exact ⟨rfl, rfl⟩); (try rfl)
          (try simp only [Act.put, List.setIfInBounds_toArray, List.set_cons_zero, List.set_cons_succ])
          apply quiet_wanted
          · go_simp
          · intro W hW; unfold Oper.quietAt; go_simp; (try exact ⟨rfl, rfl⟩); (try rfl)
          (try simp only [Act.put, List.setIfInBounds_toArray, List.set_cons_zero, List.set_cons_succ])
          refine quiet_unwanted (by first | (go_simp; done) | (go_simp; intro hh; cases hh)) ?_
          (try simp only [Act.put, List.setIfInBounds_toArray, List.set_cons_zero, List.set_cons_succ])
          refine quiet_unwanted (by first | (go_simp; done) | (go_simp; intro hh; cases hh)) ?_
          (try simp only [Act.put, List.setIfInBounds_toArray, List.set_cons_zero, List.set_cons_succ])
          refine quiet_unwanted (by first | (go_simp; done) | (go_simp; intro hh; cases hh)) ?_
          (try simp only [Act.put, List.setIfInBounds_toArray, List.set_cons_zero, List.set_cons_succ])
          apply quiet_wanted
          · go_simp
          · intro W hW; unfold Oper.quietAt; go_simp; (try exact ⟨rfl, rfl⟩); (try rfl)
          (try simp only [Act.put, List.setIfInBounds_toArray, List.set_cons_zero, List.set_cons_succ])
          refine wpQuiet_nil ?_
          intro u13 hb
          unfold Grown at hb
          have Bx_20 := Lib.hid (Bx_19.out.below hb Bx_19.out.lt)
          have By_20 := Lib.hid (By_19.out.below hb By_19.out.lt)
          have Bz_20 := Lib.hid (Bz_19.out.below hb Bz_19.out.lt)
          have Ba_20 := Lib.hid (Ba_19.out.below hb Ba_19.out.lt)
          have Bb_20 := Lib.hid (Bb_19.out.below hb Bb_19.out.lt)
          have Bc_20 := Lib.hid (Bc_19.out.below hb Bc_19.out.lt)
          have Bd_20 := Lib.hid (Bd_19.out.below hb Bd_19.out.lt)
          have H_20 := Lib.hid (H_19.out.trans (hb.mono H_19.out.size))
          clear hb H_19 Bx_19 By_19 Bz_19 Ba_19 Bb_19 Bc_19 Bd_19
          go_wp2_with fail
          go_ret
          exact ⟨rfl, H_20.out⟩
      · refine region_grown (by kernel_rfl) ?_
        apply quiet_wanted
        · go_simp
        · intro W hW; unfold Oper.quietAt; go_simp; (try exact ⟨rfl, rfl⟩); (try rfl)
        (try simp only [Act.put, List.setIfInBounds_toArray, List.set_cons_zero, List.set_cons_succ])
        apply quiet_wanted
        · go_simp
        · intro W hW; unfold Oper.quietAt; go_simp; (try exact ⟨rfl, rfl⟩); (try rfl)
        (try simp only [Act.put, List.setIfInBounds_toArray, List.set_cons_zero, List.set_cons_succ])
        apply quiet_wanted
        · go_simp
        · intro W hW; unfold Oper.quietAt; go_simp; (try exact ⟨rfl, rfl⟩); (try rfl)
        (try simp only [Act.put, List.setIfInBounds_toArray, List.set_cons_zero, List.set_cons_succ])
        refine quiet_unwanted (by first | (go_simp; done) | (go_simp; intro hh; cases hh)) ?_
        (try simp only [Act.put, List.setIfInBounds_toArray, List.set_cons_zero, List.set_cons_succ])
        refine quiet_unwanted (by first | (go_simp; done) | (go_simp; intro hh; cases hh)) ?_
        (try simp only [Act.put, List.setIfInBounds_toArray, List.set_cons_zero, List.set_cons_succ])
        apply quiet_wanted
        · go_simp
        · intro W hW; unfold Oper.quietAt; go_simp; (try exact ⟨rfl, rfl⟩); (try rfl)
        (try simp only [Act.put, List.setIfInBounds_toArray, List.set_cons_zero, List.set_cons_succ])
        apply quiet_wanted
        · go_simp
        · intro W hW; unfold Oper.quietAt; go_simp; (try exact ⟨rfl, rfl⟩); (try rfl)
        (try simp only [Act.put, List.setIfInBounds_toArray, List.set_cons_zero, List.set_cons_succ])
        refine quiet_unwanted (by first | (go_simp; done) | (go_simp; intro hh; cases hh)) ?_
        (try simp only [Act.put, List.setIfInBounds_toArray, List.set_cons_zero, List.set_cons_succ])
        refine quiet_unwanted (by first | (go_simp; done) | (go_simp; intro hh; cases hh)) ?_
        (try simp only [Act.put, List.setIfInBounds_toArray, List.set_cons_zero, List.set_cons_succ])
        apply quiet_wanted
        · go_simp
        · intro W hW; unfold Oper.quietAt; go_simp; (try exact ⟨rfl, rfl⟩); (try rfl)
        (try simp only [Act.put, List.setIfInBounds_toArray, List.set_cons_zero, List.set_cons_succ])
        apply quiet_wanted
        · go_simp
        · intro W hW; unfold Oper.quietAt; go_simp; (try exact ⟨rfl, rfl⟩); (try rfl)
        (try simp only [Act.put, List.setIfInBounds_toArray, List.set_cons_zero, List.set_cons_succ])
        refine quiet_unwanted (by first | (go_simp; done) | (go_simp; intro hh; cases hh)) ?_
        (try simp only [Act.put, List.setIfInBounds_toArray, List.set_cons_zero, List.set_cons_succ])
        refine quiet_unwanted (by first | (go_simp; done) | (go_simp; intro hh; cases hh)) ?_
        (try simp only [Act.put, List.setIfInBounds_toArray, List.set_cons_zero, List.set_cons_succ])
        refine quiet_unwanted (by first | (go_simp; done) | (go_simp; intro hh; cases hh)) ?_
        (try simp only [Act.put, List.setIfInBounds_toArray, List.set_cons_zero, List.set_cons_succ])
        apply quiet_wanted
        · go_simp
        · intro W hW; unfold Oper.quietAt; go_simp; (try exact ⟨rfl, rfl⟩); (try rfl)
        (try simp only [Act.put, List.setIfInBounds_toArray, List.set_cons_zero, List.set_cons_succ])
        refine wpQuiet_nil ?_
        intro u13 hb
        unfold Grown at hb
        have Bx_20 := Lib.hid (Bx_19.out.below hb Bx_19.out.lt)
        have By_20 := Lib.hid (By_19.out.below hb By_19.out.lt)
        have Bz_20 := Lib.hid (Bz_19.out.below hb Bz_19.out.lt)
        have Ba_20 := Lib.hid (Ba_19.out.below hb Ba_19.out.lt)
        have Bb_20 := Lib.hid (Bb_19.out.below hb Bb_19.out.lt)
        have Bc_20 := Lib.hid (Bc_19.out.below hb Bc_19.out.lt)
        have Bd_20 := Lib.hid (Bd_19.out.below hb Bd_19.out.lt)
        have H_20 := Lib.hid (H_19.out.trans (hb.mono H_19.out.size))
        clear hb H_19 Bx_19 By_19 Bz_19 Ba_19 Bb_19 Bc_19 Bd_19
        go_wp2_with fail
        go_ret
        exact ⟨rfl, H_20.out⟩

theorem order_c (K N : Int) (T : List UInt8) (K' N' : Int) (T' : List UInt8) (K'' N'' : Int) (T'' : List UInt8) (hN : In64Z N) (hN' : In64Z N') (hN'' : In64Z N'') (w : World) (hw : Wd w) :
    Calls Tryz.prog 9 #[valV K N T, valV K' N' T', valV K'' N'' T''] w fun e w' => e = .returned (.bool true) ∧ Below w.heap.size w w' := by
  by_cases hx : T.length ≤ 800
  · by_cases hy : T'.length ≤ 800
    · by_cases hz : T''.length ≤ 800
      · by_cases h1 : ∃ z, IsNum K N T z
        · by_cases h2 : ∃ z, IsNum K' N' T' z
          · obtain ⟨x, h1⟩ := h1
            obtain ⟨y, h2⟩ := h2
            by_cases h3 : ∃ z, IsNum K'' N'' T'' z
            · obtain ⟨z, h3⟩ := h3
              exact order_num K N K' N' K'' N'' T T' T'' x y z h1 h2 h3 w hw
            · exact order_noz K N K' N' K'' N'' T T' T'' hx hy hz x y h1 h2 (fun z hz => h3 ⟨z, hz⟩) hN'' w hw
          · exact order_no K N K' N' K'' N'' T T' T'' hx hy hz (.inr fun z hz => h2 ⟨z, hz⟩) hN hN' hN'' w hw
        · exact order_no K N K' N' K'' N'' T T' T'' hx hy hz (.inl fun z hz => h1 ⟨z, hz⟩) hN hN' hN'' w hw
      · exact order_long3 K N K' N' K'' N'' T T' T'' hx hy hz w hw
    · exact order_long2 K N K' N' K'' N'' T T' T'' hx hy w hw
  · exact order_long1 K N K' N' K'' N'' T T' T'' hx w hw
end Go.Proofs.YthbfbpbppjkoeaaGreatDoor
