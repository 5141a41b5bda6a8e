/- The walk of BigRing of package proteuslaw03, case by case. Conditions: those in the statements. -/
import Derived.Test.YthbfbpbppjkoeaaGreatDoorBigLb
namespace Go.Proofs.YthbfbpbppjkoeaaGreatDoor
open Go.RowKit Go.Shelf
set_option exponentiation.threshold 500
set_option maxRecDepth 100000
set_option linter.unusedSimpArgs false
set_option linter.unusedVariables false
attribute [local irreducible] wpQuiet

theorem Ans.in64 {A B E z : Int} {S : List UInt8} (h : Ans A B S E z) : In64Z B := by
  rcases h with ⟨_, h⟩ | ⟨_, _, h, _⟩
  · exact IsNum.in64 h
  · rw [h]; exact ⟨by decide, by decide⟩
theorem not_num : ∀ z, ¬ IsNum 0 0 [] z := fun z hz => by
  rcases hz.cells with ⟨_, h, _⟩ | ⟨_, h, _⟩ <;> cases h
theorem ring_dist (x y z : Int) : x * y + x * z = x * (y + z) := (Int.mul_add x y z).symm
theorem Add_gen (K N K' N' : Int) (T T' : List UInt8) (hN : In64Z N) (hN' : In64Z N') : ∃ (A B : Int) (S : List UInt8) (E : Int),
    (In64Z B ∧ ∀ (w : World), Wd w → Calls Tryz.prog 25 #[valV K N T, valV K' N' T'] w fun e w' => e = .returned (.tuple #[valV A B S, .int .i64 E]) ∧ Below w.heap.size w w') ∧
      ∀ x y, IsNum K N T x → IsNum K' N' T' y → Ans A B S E (x + y) := by
  by_cases h1 : ∃ z, IsNum K N T z
  · by_cases h2 : ∃ z, IsNum K' N' T' z
    · obtain ⟨x, h1⟩ := h1
      obtain ⟨y, h2⟩ := h2
      obtain ⟨A, B, S, E, ha⟩ := ans_ex (x + y)
      exact ⟨A, B, S, E, ⟨ha.in64, fun w hw => Add_any h1 h2 ha rfl w hw⟩, fun x' y' hx hy => by rw [isNum_unique hx h1, isNum_unique hy h2]; exact ha⟩
    · exact ⟨0, 0, [], 31, ⟨in64 (by decide) (by decide), fun w hw => Add_no K N K' N' T T' (.inr fun z hz => h2 ⟨z, hz⟩) hN hN' w hw⟩, fun x' y' hx hy => absurd ⟨y', hy⟩ h2⟩
  · exact ⟨0, 0, [], 31, ⟨in64 (by decide) (by decide), fun w hw => Add_no K N K' N' T T' (.inl fun z hz => h1 ⟨z, hz⟩) hN hN' w hw⟩, fun x' y' hx hy => absurd ⟨x', hx⟩ h1⟩
theorem Sub_gen (K N K' N' : Int) (T T' : List UInt8) (hN : In64Z N) (hN' : In64Z N') : ∃ (A B : Int) (S : List UInt8) (E : Int),
    (In64Z B ∧ ∀ (w : World), Wd w → Calls Tryz.prog 27 #[valV K N T, valV K' N' T'] w fun e w' => e = .returned (.tuple #[valV A B S, .int .i64 E]) ∧ Below w.heap.size w w') ∧
      ∀ x y, IsNum K N T x → IsNum K' N' T' y → Ans A B S E (x - y) := by
  by_cases h1 : ∃ z, IsNum K N T z
  · by_cases h2 : ∃ z, IsNum K' N' T' z
    · obtain ⟨x, h1⟩ := h1
      obtain ⟨y, h2⟩ := h2
      obtain ⟨A, B, S, E, ha⟩ := ans_ex (x - y)
      exact ⟨A, B, S, E, ⟨ha.in64, fun w hw => Sub_any h1 h2 ha rfl w hw⟩, fun x' y' hx hy => by rw [isNum_unique hx h1, isNum_unique hy h2]; exact ha⟩
    · exact ⟨0, 0, [], 31, ⟨in64 (by decide) (by decide), fun w hw => Sub_no K N K' N' T T' (.inr fun z hz => h2 ⟨z, hz⟩) hN hN' w hw⟩, fun x' y' hx hy => absurd ⟨y', hy⟩ h2⟩
  · exact ⟨0, 0, [], 31, ⟨in64 (by decide) (by decide), fun w hw => Sub_no K N K' N' T T' (.inl fun z hz => h1 ⟨z, hz⟩) hN hN' w hw⟩, fun x' y' hx hy => absurd ⟨x', hx⟩ h1⟩
theorem Mul_gen (K N K' N' : Int) (T T' : List UInt8) (hN : In64Z N) (hN' : In64Z N') : ∃ (A B : Int) (S : List UInt8) (E : Int),
    (In64Z B ∧ ∀ (w : World), Wd w → Calls Tryz.prog 29 #[valV K N T, valV K' N' T'] w fun e w' => e = .returned (.tuple #[valV A B S, .int .i64 E]) ∧ Below w.heap.size w w') ∧
      ∀ x y, IsNum K N T x → IsNum K' N' T' y → Ans A B S E (x * y) := by
  by_cases h1 : ∃ z, IsNum K N T z
  · by_cases h2 : ∃ z, IsNum K' N' T' z
    · obtain ⟨x, h1⟩ := h1
      obtain ⟨y, h2⟩ := h2
      obtain ⟨A, B, S, E, ha⟩ := ans_ex (x * y)
      exact ⟨A, B, S, E, ⟨ha.in64, fun w hw => Mul_any h1 h2 ha rfl w hw⟩, fun x' y' hx hy => by rw [isNum_unique hx h1, isNum_unique hy h2]; exact ha⟩
    · exact ⟨0, 0, [], 31, ⟨in64 (by decide) (by decide), fun w hw => Mul_no K N K' N' T T' (.inr fun z hz => h2 ⟨z, hz⟩) hN hN' w hw⟩, fun x' y' hx hy => absurd ⟨y', hy⟩ h2⟩
  · exact ⟨0, 0, [], 31, ⟨in64 (by decide) (by decide), fun w hw => Mul_no K N K' N' T T' (.inl fun z hz => h1 ⟨z, hz⟩) hN hN' w hw⟩, fun x' y' hx hy => absurd ⟨x', hx⟩ h1⟩
set_option maxHeartbeats 4000000 in
theorem ring_long1 (K N K' N' K'' N'' : Int) (T T' T'' : List UInt8) (hx : ¬ T.length ≤ 800) (w : World) (hw : Wd w) :
    Calls Tryz.prog 7 #[valV K N T, valV K' N' T', valV K'' N'' T''] w fun e w' => e = .returned (.bool true) ∧ Below w.heap.size w w' := by
  have H_0 := Lib.hid (Below.refl w.heap.size w)
  unfold valV
  go_enter Tryz.func7, Tryz.ntmps7
  have hb : Below (w).heap.size (w) ((w).alloc (.cells #[.int .i64 K, .int .i64 N, .string ⟨T.toArray⟩] 23)) := (Below.refl _ (w)).alloc (Nat.le_refl _) _
  have Bnew := VB.new (w) (.int .i64 K) (.int .i64 N) (.string ⟨T.toArray⟩)
  try simp only [World.size_alloc] at Bnew
  have H_1 := Lib.hid (H_0.out.trans (hb.mono H_0.out.size))
  clear hb H_0
  have Bx_1 := Lib.hid Bnew
  clear Bnew
  have hb : Below ((w).alloc (.cells #[.int .i64 K, .int .i64 N, .string ⟨T.toArray⟩] 23)).heap.size ((w).alloc (.cells #[.int .i64 K, .int .i64 N, .string ⟨T.toArray⟩] 23)) (((w).alloc (.cells #[.int .i64 K, .int .i64 N, .string ⟨T.toArray⟩] 23)).alloc (.cells #[.int .i64 K', .int .i64 N', .string ⟨T'.toArray⟩] 23)) := (Below.refl _ ((w).alloc (.cells #[.int .i64 K, .int .i64 N, .string ⟨T.toArray⟩] 23))).alloc (Nat.le_refl _) _
  have Bnew := VB.new ((w).alloc (.cells #[.int .i64 K, .int .i64 N, .string ⟨T.toArray⟩] 23)) (.int .i64 K') (.int .i64 N') (.string ⟨T'.toArray⟩)
  try simp only [World.size_alloc] at Bnew
  have Bx_2 := Lib.hid (Bx_1.out.below hb Bx_1.out.lt)
  have H_2 := Lib.hid (H_1.out.trans (hb.mono H_1.out.size))
  clear hb H_1 Bx_1
  have By_2 := Lib.hid Bnew
  clear Bnew
  have hb : Below (((w).alloc (.cells #[.int .i64 K, .int .i64 N, .string ⟨T.toArray⟩] 23)).alloc (.cells #[.int .i64 K', .int .i64 N', .string ⟨T'.toArray⟩] 23)).heap.size (((w).alloc (.cells #[.int .i64 K, .int .i64 N, .string ⟨T.toArray⟩] 23)).alloc (.cells #[.int .i64 K', .int .i64 N', .string ⟨T'.toArray⟩] 23)) ((((w).alloc (.cells #[.int .i64 K, .int .i64 N, .string ⟨T.toArray⟩] 23)).alloc (.cells #[.int .i64 K', .int .i64 N', .string ⟨T'.toArray⟩] 23)).alloc (.cells #[.int .i64 K'', .int .i64 N'', .string ⟨T''.toArray⟩] 23)) := (Below.refl _ (((w).alloc (.cells #[.int .i64 K, .int .i64 N, .string ⟨T.toArray⟩] 23)).alloc (.cells #[.int .i64 K', .int .i64 N', .string ⟨T'.toArray⟩] 23))).alloc (Nat.le_refl _) _
  have Bnew := VB.new (((w).alloc (.cells #[.int .i64 K, .int .i64 N, .string ⟨T.toArray⟩] 23)).alloc (.cells #[.int .i64 K', .int .i64 N', .string ⟨T'.toArray⟩] 23)) (.int .i64 K'') (.int .i64 N'') (.string ⟨T''.toArray⟩)
  try simp only [World.size_alloc] at Bnew
  have Bx_3 := Lib.hid (Bx_2.out.below hb Bx_2.out.lt)
  have By_3 := Lib.hid (By_2.out.below hb By_2.out.lt)
  have H_3 := Lib.hid (H_2.out.trans (hb.mono H_2.out.size))
  clear hb H_2 Bx_2 By_2
  have Bz_3 := Lib.hid Bnew
  clear Bnew
  go_wp2_with fail
  have hc := awake_c ((((w).alloc (.cells #[.int .i64 K, .int .i64 N, .string ⟨T.toArray⟩] 23)).alloc (.cells #[.int .i64 K', .int .i64 N', .string ⟨T'.toArray⟩] 23)).alloc (.cells #[.int .i64 K'', .int .i64 N'', .string ⟨T''.toArray⟩] 23)) (hw.below H_3.out)
  unfold valV at hc
  refine hc.mono ?_
  rintro e u1 ⟨rfl, hb⟩
  clear hc
  have Bx_4 := Lib.hid (Bx_3.out.below hb Bx_3.out.lt)
  have By_4 := Lib.hid (By_3.out.below hb By_3.out.lt)
  have Bz_4 := Lib.hid (Bz_3.out.below hb Bz_3.out.lt)
  have H_4 := Lib.hid (H_3.out.trans (hb.mono H_3.out.size))
  clear hb H_3 Bx_3 By_3 Bz_3
  have qx0 := Bx_4.out.c0
  have qx1 := Bx_4.out.c1
  have qx2 := Bx_4.out.c2
  go_wp2_with fail
  clear qx0 qx1 qx2
  have hc := short_not K N T hx (u1)
  unfold valV at hc
  refine hc.mono ?_
  rintro e u2 ⟨rfl, hb⟩
  clear hc
  have Bx_5 := Lib.hid (Bx_4.out.below hb Bx_4.out.lt)
  have By_5 := Lib.hid (By_4.out.below hb By_4.out.lt)
  have Bz_5 := Lib.hid (Bz_4.out.below hb Bz_4.out.lt)
  have H_5 := Lib.hid (H_4.out.trans (hb.mono H_4.out.size))
  clear hb H_4 Bx_4 By_4 Bz_4
  go_wp2_with fail
  go_ret
  exact ⟨rfl, H_5.out⟩

set_option maxHeartbeats 4000000 in
theorem ring_long2 (K N K' N' K'' N'' : Int) (T T' T'' : List UInt8) (hx : T.length ≤ 800) (hy : ¬ T'.length ≤ 800) (w : World) (hw : Wd w) :
    Calls Tryz.prog 7 #[valV K N T, valV K' N' T', valV K'' N'' T''] w fun e w' => e = .returned (.bool true) ∧ Below w.heap.size w w' := by
  have H_0 := Lib.hid (Below.refl w.heap.size w)
  unfold valV
  go_enter Tryz.func7, Tryz.ntmps7
  have hb : Below (w).heap.size (w) ((w).alloc (.cells #[.int .i64 K, .int .i64 N, .string ⟨T.toArray⟩] 23)) := (Below.refl _ (w)).alloc (Nat.le_refl _) _
  have Bnew := VB.new (w) (.int .i64 K) (.int .i64 N) (.string ⟨T.toArray⟩)
  try simp only [World.size_alloc] at Bnew
  have H_1 := Lib.hid (H_0.out.trans (hb.mono H_0.out.size))
  clear hb H_0
  have Bx_1 := Lib.hid Bnew
  clear Bnew
  have hb : Below ((w).alloc (.cells #[.int .i64 K, .int .i64 N, .string ⟨T.toArray⟩] 23)).heap.size ((w).alloc (.cells #[.int .i64 K, .int .i64 N, .string ⟨T.toArray⟩] 23)) (((w).alloc (.cells #[.int .i64 K, .int .i64 N, .string ⟨T.toArray⟩] 23)).alloc (.cells #[.int .i64 K', .int .i64 N', .string ⟨T'.toArray⟩] 23)) := (Below.refl _ ((w).alloc (.cells #[.int .i64 K, .int .i64 N, .string ⟨T.toArray⟩] 23))).alloc (Nat.le_refl _) _
  have Bnew := VB.new ((w).alloc (.cells #[.int .i64 K, .int .i64 N, .string ⟨T.toArray⟩] 23)) (.int .i64 K') (.int .i64 N') (.string ⟨T'.toArray⟩)
  try simp only [World.size_alloc] at Bnew
  have Bx_2 := Lib.hid (Bx_1.out.below hb Bx_1.out.lt)
  have H_2 := Lib.hid (H_1.out.trans (hb.mono H_1.out.size))
  clear hb H_1 Bx_1
  have By_2 := Lib.hid Bnew
  clear Bnew
  have hb : Below (((w).alloc (.cells #[.int .i64 K, .int .i64 N, .string ⟨T.toArray⟩] 23)).alloc (.cells #[.int .i64 K', .int .i64 N', .string ⟨T'.toArray⟩] 23)).heap.size (((w).alloc (.cells #[.int .i64 K, .int .i64 N, .string ⟨T.toArray⟩] 23)).alloc (.cells #[.int .i64 K', .int .i64 N', .string ⟨T'.toArray⟩] 23)) ((((w).alloc (.cells #[.int .i64 K, .int .i64 N, .string ⟨T.toArray⟩] 23)).alloc (.cells #[.int .i64 K', .int .i64 N', .string ⟨T'.toArray⟩] 23)).alloc (.cells #[.int .i64 K'', .int .i64 N'', .string ⟨T''.toArray⟩] 23)) := (Below.refl _ (((w).alloc (.cells #[.int .i64 K, .int .i64 N, .string ⟨T.toArray⟩] 23)).alloc (.cells #[.int .i64 K', .int .i64 N', .string ⟨T'.toArray⟩] 23))).alloc (Nat.le_refl _) _
  have Bnew := VB.new (((w).alloc (.cells #[.int .i64 K, .int .i64 N, .string ⟨T.toArray⟩] 23)).alloc (.cells #[.int .i64 K', .int .i64 N', .string ⟨T'.toArray⟩] 23)) (.int .i64 K'') (.int .i64 N'') (.string ⟨T''.toArray⟩)
  try simp only [World.size_alloc] at Bnew
  have Bx_3 := Lib.hid (Bx_2.out.below hb Bx_2.out.lt)
  have By_3 := Lib.hid (By_2.out.below hb By_2.out.lt)
  have H_3 := Lib.hid (H_2.out.trans (hb.mono H_2.out.size))
  clear hb H_2 Bx_2 By_2
  have Bz_3 := Lib.hid Bnew
  clear Bnew
  go_wp2_with fail
  have hc := awake_c ((((w).alloc (.cells #[.int .i64 K, .int .i64 N, .string ⟨T.toArray⟩] 23)).alloc (.cells #[.int .i64 K', .int .i64 N', .string ⟨T'.toArray⟩] 23)).alloc (.cells #[.int .i64 K'', .int .i64 N'', .string ⟨T''.toArray⟩] 23)) (hw.below H_3.out)
  unfold valV at hc
  refine hc.mono ?_
  rintro e u1 ⟨rfl, hb⟩
  clear hc
  have Bx_4 := Lib.hid (Bx_3.out.below hb Bx_3.out.lt)
  have By_4 := Lib.hid (By_3.out.below hb By_3.out.lt)
  have Bz_4 := Lib.hid (Bz_3.out.below hb Bz_3.out.lt)
  have H_4 := Lib.hid (H_3.out.trans (hb.mono H_3.out.size))
  clear hb H_3 Bx_3 By_3 Bz_3
  have qx0 := Bx_4.out.c0
  have qx1 := Bx_4.out.c1
  have qx2 := Bx_4.out.c2
  go_wp2_with fail
  clear qx0 qx1 qx2
  have hc := short_yes K N T hx (u1)
  unfold valV at hc
  refine hc.mono ?_
  rintro e u2 ⟨rfl, hb⟩
  clear hc
  have Bx_5 := Lib.hid (Bx_4.out.below hb Bx_4.out.lt)
  have By_5 := Lib.hid (By_4.out.below hb By_4.out.lt)
  have Bz_5 := Lib.hid (Bz_4.out.below hb Bz_4.out.lt)
  have H_5 := Lib.hid (H_4.out.trans (hb.mono H_4.out.size))
  clear hb H_4 Bx_4 By_4 Bz_4
  have qy0 := By_5.out.c0
  have qy1 := By_5.out.c1
  have qy2 := By_5.out.c2
  go_wp2_with fail
  clear qy0 qy1 qy2
  have hc := short_not K' N' T' hy (u2)
  unfold valV at hc
  refine hc.mono ?_
  rintro e u3 ⟨rfl, hb⟩
  clear hc
  have Bx_6 := Lib.hid (Bx_5.out.below hb Bx_5.out.lt)
  have By_6 := Lib.hid (By_5.out.below hb By_5.out.lt)
  have Bz_6 := Lib.hid (Bz_5.out.below hb Bz_5.out.lt)
  have H_6 := Lib.hid (H_5.out.trans (hb.mono H_5.out.size))
  clear hb H_5 Bx_5 By_5 Bz_5
  go_wp2_with fail
  go_ret
  exact ⟨rfl, H_6.out⟩

set_option maxHeartbeats 4000000 in
theorem ring_long3 (K N K' N' K'' N'' : Int) (T T' T'' : List UInt8) (hx : T.length ≤ 800) (hy : T'.length ≤ 800) (hz : ¬ T''.length ≤ 800) (w : World) (hw : Wd w) :
    Calls Tryz.prog 7 #[valV K N T, valV K' N' T', valV K'' N'' T''] w fun e w' => e = .returned (.bool true) ∧ Below w.heap.size w w' := by
  have H_0 := Lib.hid (Below.refl w.heap.size w)
  unfold valV
  go_enter Tryz.func7, Tryz.ntmps7
  have hb : Below (w).heap.size (w) ((w).alloc (.cells #[.int .i64 K, .int .i64 N, .string ⟨T.toArray⟩] 23)) := (Below.refl _ (w)).alloc (Nat.le_refl _) _
  have Bnew := VB.new (w) (.int .i64 K) (.int .i64 N) (.string ⟨T.toArray⟩)
  try simp only [World.size_alloc] at Bnew
  have H_1 := Lib.hid (H_0.out.trans (hb.mono H_0.out.size))
  clear hb H_0
  have Bx_1 := Lib.hid Bnew
  clear Bnew
  have hb : Below ((w).alloc (.cells #[.int .i64 K, .int .i64 N, .string ⟨T.toArray⟩] 23)).heap.size ((w).alloc (.cells #[.int .i64 K, .int .i64 N, .string ⟨T.toArray⟩] 23)) (((w).alloc (.cells #[.int .i64 K, .int .i64 N, .string ⟨T.toArray⟩] 23)).alloc (.cells #[.int .i64 K', .int .i64 N', .string ⟨T'.toArray⟩] 23)) := (Below.refl _ ((w).alloc (.cells #[.int .i64 K, .int .i64 N, .string ⟨T.toArray⟩] 23))).alloc (Nat.le_refl _) _
  have Bnew := VB.new ((w).alloc (.cells #[.int .i64 K, .int .i64 N, .string ⟨T.toArray⟩] 23)) (.int .i64 K') (.int .i64 N') (.string ⟨T'.toArray⟩)
  try simp only [World.size_alloc] at Bnew
  have Bx_2 := Lib.hid (Bx_1.out.below hb Bx_1.out.lt)
  have H_2 := Lib.hid (H_1.out.trans (hb.mono H_1.out.size))
  clear hb H_1 Bx_1
  have By_2 := Lib.hid Bnew
  clear Bnew
  have hb : Below (((w).alloc (.cells #[.int .i64 K, .int .i64 N, .string ⟨T.toArray⟩] 23)).alloc (.cells #[.int .i64 K', .int .i64 N', .string ⟨T'.toArray⟩] 23)).heap.size (((w).alloc (.cells #[.int .i64 K, .int .i64 N, .string ⟨T.toArray⟩] 23)).alloc (.cells #[.int .i64 K', .int .i64 N', .string ⟨T'.toArray⟩] 23)) ((((w).alloc (.cells #[.int .i64 K, .int .i64 N, .string ⟨T.toArray⟩] 23)).alloc (.cells #[.int .i64 K', .int .i64 N', .string ⟨T'.toArray⟩] 23)).alloc (.cells #[.int .i64 K'', .int .i64 N'', .string ⟨T''.toArray⟩] 23)) := (Below.refl _ (((w).alloc (.cells #[.int .i64 K, .int .i64 N, .string ⟨T.toArray⟩] 23)).alloc (.cells #[.int .i64 K', .int .i64 N', .string ⟨T'.toArray⟩] 23))).alloc (Nat.le_refl _) _
  have Bnew := VB.new (((w).alloc (.cells #[.int .i64 K, .int .i64 N, .string ⟨T.toArray⟩] 23)).alloc (.cells #[.int .i64 K', .int .i64 N', .string ⟨T'.toArray⟩] 23)) (.int .i64 K'') (.int .i64 N'') (.string ⟨T''.toArray⟩)
  try simp only [World.size_alloc] at Bnew
  have Bx_3 := Lib.hid (Bx_2.out.below hb Bx_2.out.lt)
  have By_3 := Lib.hid (By_2.out.below hb By_2.out.lt)
  have H_3 := Lib.hid (H_2.out.trans (hb.mono H_2.out.size))
  clear hb H_2 Bx_2 By_2
  have Bz_3 := Lib.hid Bnew
  clear Bnew
  go_wp2_with fail
  have hc := awake_c ((((w).alloc (.cells #[.int .i64 K, .int .i64 N, .string ⟨T.toArray⟩] 23)).alloc (.cells #[.int .i64 K', .int .i64 N', .string ⟨T'.toArray⟩] 23)).alloc (.cells #[.int .i64 K'', .int .i64 N'', .string ⟨T''.toArray⟩] 23)) (hw.below H_3.out)
  unfold valV at hc
  refine hc.mono ?_
  rintro e u1 ⟨rfl, hb⟩
  clear hc
  have Bx_4 := Lib.hid (Bx_3.out.below hb Bx_3.out.lt)
  have By_4 := Lib.hid (By_3.out.below hb By_3.out.lt)
  have Bz_4 := Lib.hid (Bz_3.out.below hb Bz_3.out.lt)
  have H_4 := Lib.hid (H_3.out.trans (hb.mono H_3.out.size))
  clear hb H_3 Bx_3 By_3 Bz_3
  have qx0 := Bx_4.out.c0
  have qx1 := Bx_4.out.c1
  have qx2 := Bx_4.out.c2
  go_wp2_with fail
  clear qx0 qx1 qx2
  have hc := short_yes K N T hx (u1)
  unfold valV at hc
  refine hc.mono ?_
  rintro e u2 ⟨rfl, hb⟩
  clear hc
  have Bx_5 := Lib.hid (Bx_4.out.below hb Bx_4.out.lt)
  have By_5 := Lib.hid (By_4.out.below hb By_4.out.lt)
  have Bz_5 := Lib.hid (Bz_4.out.below hb Bz_4.out.lt)
  have H_5 := Lib.hid (H_4.out.trans (hb.mono H_4.out.size))
  clear hb H_4 Bx_4 By_4 Bz_4
  have qy0 := By_5.out.c0
  have qy1 := By_5.out.c1
  have qy2 := By_5.out.c2
  go_wp2_with fail
  clear qy0 qy1 qy2
  have hc := short_yes K' N' T' hy (u2)
  unfold valV at hc
  refine hc.mono ?_
  rintro e u3 ⟨rfl, hb⟩
  clear hc
  have Bx_6 := Lib.hid (Bx_5.out.below hb Bx_5.out.lt)
  have By_6 := Lib.hid (By_5.out.below hb By_5.out.lt)
  have Bz_6 := Lib.hid (Bz_5.out.below hb Bz_5.out.lt)
  have H_6 := Lib.hid (H_5.out.trans (hb.mono H_5.out.size))
  clear hb H_5 Bx_5 By_5 Bz_5
  have qz0 := Bz_6.out.c0
  have qz1 := Bz_6.out.c1
  have qz2 := Bz_6.out.c2
  go_wp2_with fail
  clear qz0 qz1 qz2
  have hc := short_not K'' N'' T'' hz (u3)
  unfold valV at hc
  refine hc.mono ?_
  rintro e u4 ⟨rfl, hb⟩
  clear hc
  have Bx_7 := Lib.hid (Bx_6.out.below hb Bx_6.out.lt)
  have By_7 := Lib.hid (By_6.out.below hb By_6.out.lt)
  have Bz_7 := Lib.hid (Bz_6.out.below hb Bz_6.out.lt)
  have H_7 := Lib.hid (H_6.out.trans (hb.mono H_6.out.size))
  clear hb H_6 Bx_6 By_6 Bz_6
  go_wp2_with fail
  go_ret
  exact ⟨rfl, H_7.out⟩

set_option maxHeartbeats 8000000 in
theorem ring_num (K N K' N' K'' N'' : Int) (T T' T'' : List UInt8) (x y z : Int) (h : IsNum K N T x) (h' : IsNum K' N' T' y) (h'' : IsNum K'' N'' T'' z) (w : World) (hw : Wd w) :
    Calls Tryz.prog 7 #[valV K N T, valV K' N' T', valV K'' N'' T''] w fun e w' => e = .returned (.bool true) ∧ Below w.heap.size w w' := by
  obtain ⟨A0, A1, A2, E, sa⟩ := ans_ex (x + y)
  obtain ⟨P0, P1, P2, G, sp⟩ := ans_ex (x * y)
  obtain ⟨C0, C1, C2, F, sc⟩ := ans_ex (y + z)
  obtain ⟨R0, R1, R2, D, sr⟩ := ans_ex (y * z)
  obtain ⟨S0, S1, S2, M, ss⟩ := ans_ex (x * z)
  obtain ⟨O0, O1, O2, I, ho, so⟩ := Add_gen A0 A1 K'' N'' A2 T'' sa.in64 h''.in64
  obtain ⟨U0, U1, U2, J, ht, st⟩ := Add_gen K N C0 C1 T C2 h.in64 sc.in64
  obtain ⟨B0, B1, B2, Q, hk, sk⟩ := Sub_gen A0 A1 K' N' A2 T' sa.in64 h'.in64
  obtain ⟨O0', O1', O2', I', ho', so'⟩ := Mul_gen P0 P1 K'' N'' P2 T'' sp.in64 h''.in64
  obtain ⟨U0', U1', U2', J', ht', st'⟩ := Mul_gen K N R0 R1 T R2 h.in64 sr.in64
  obtain ⟨O0'', O1'', O2'', I'', ho'', so''⟩ := Mul_gen K N C0 C1 T C2 h.in64 sc.in64
  obtain ⟨U0'', U1'', U2'', J'', ht'', st''⟩ := Add_gen P0 P1 S0 S1 P2 S2 sp.in64 ss.in64
  have Hsa := Lib.hid sa
  have Hsp := Lib.hid sp
  have Hsc := Lib.hid sc
  have Hsr := Lib.hid sr
  have Hss := Lib.hid ss
  have Hso := Lib.hid so
  have Hst := Lib.hid st
  have Hsk := Lib.hid sk
  have Hso' := Lib.hid so'
  have Hst' := Lib.hid st'
  have Hso'' := Lib.hid so''
  have Hst'' := Lib.hid st''
  clear sa sp sc sr ss so st sk so' st' so'' st''
  have Hho := Lib.hid ho
  have Hht := Lib.hid ht
  have Hhk := Lib.hid hk
  have Hho' := Lib.hid ho'
  have Hht' := Lib.hid ht'
  have Hho'' := Lib.hid ho''
  have Hht'' := Lib.hid ht''
  clear ho ht hk ho' ht' ho'' ht''
  have hx : T.length ≤ 800 := by have := h.len; omega
  have hy : T'.length ≤ 800 := by have := h'.len; omega
  have hz : T''.length ≤ 800 := by have := h''.len; omega
  have H_0 := Lib.hid (Below.refl w.heap.size w)
  unfold valV
  go_enter Tryz.func7, Tryz.ntmps7
  have hb : Below (w).heap.size (w) ((w).alloc (.cells #[.int .i64 K, .int .i64 N, .string ⟨T.toArray⟩] 23)) := (Below.refl _ (w)).alloc (Nat.le_refl _) _
  have Bnew := VB.new (w) (.int .i64 K) (.int .i64 N) (.string ⟨T.toArray⟩)
  try simp only [World.size_alloc] at Bnew
  have H_1 := Lib.hid (H_0.out.trans (hb.mono H_0.out.size))
  clear hb H_0
  have Bx_1 := Lib.hid Bnew
  clear Bnew
  have hb : Below ((w).alloc (.cells #[.int .i64 K, .int .i64 N, .string ⟨T.toArray⟩] 23)).heap.size ((w).alloc (.cells #[.int .i64 K, .int .i64 N, .string ⟨T.toArray⟩] 23)) (((w).alloc (.cells #[.int .i64 K, .int .i64 N, .string ⟨T.toArray⟩] 23)).alloc (.cells #[.int .i64 K', .int .i64 N', .string ⟨T'.toArray⟩] 23)) := (Below.refl _ ((w).alloc (.cells #[.int .i64 K, .int .i64 N, .string ⟨T.toArray⟩] 23))).alloc (Nat.le_refl _) _
  have Bnew := VB.new ((w).alloc (.cells #[.int .i64 K, .int .i64 N, .string ⟨T.toArray⟩] 23)) (.int .i64 K') (.int .i64 N') (.string ⟨T'.toArray⟩)
  try simp only [World.size_alloc] at Bnew
  have Bx_2 := Lib.hid (Bx_1.out.below hb Bx_1.out.lt)
  have H_2 := Lib.hid (H_1.out.trans (hb.mono H_1.out.size))
  clear hb H_1 Bx_1
  have By_2 := Lib.hid Bnew
  clear Bnew
  have hb : Below (((w).alloc (.cells #[.int .i64 K, .int .i64 N, .string ⟨T.toArray⟩] 23)).alloc (.cells #[.int .i64 K', .int .i64 N', .string ⟨T'.toArray⟩] 23)).heap.size (((w).alloc (.cells #[.int .i64 K, .int .i64 N, .string ⟨T.toArray⟩] 23)).alloc (.cells #[.int .i64 K', .int .i64 N', .string ⟨T'.toArray⟩] 23)) ((((w).alloc (.cells #[.int .i64 K, .int .i64 N, .string ⟨T.toArray⟩] 23)).alloc (.cells #[.int .i64 K', .int .i64 N', .string ⟨T'.toArray⟩] 23)).alloc (.cells #[.int .i64 K'', .int .i64 N'', .string ⟨T''.toArray⟩] 23)) := (Below.refl _ (((w).alloc (.cells #[.int .i64 K, .int .i64 N, .string ⟨T.toArray⟩] 23)).alloc (.cells #[.int .i64 K', .int .i64 N', .string ⟨T'.toArray⟩] 23))).alloc (Nat.le_refl _) _
  have Bnew := VB.new (((w).alloc (.cells #[.int .i64 K, .int .i64 N, .string ⟨T.toArray⟩] 23)).alloc (.cells #[.int .i64 K', .int .i64 N', .string ⟨T'.toArray⟩] 23)) (.int .i64 K'') (.int .i64 N'') (.string ⟨T''.toArray⟩)
  try simp only [World.size_alloc] at Bnew
  have Bx_3 := Lib.hid (Bx_2.out.below hb Bx_2.out.lt)
  have By_3 := Lib.hid (By_2.out.below hb By_2.out.lt)
  have H_3 := Lib.hid (H_2.out.trans (hb.mono H_2.out.size))
  clear hb H_2 Bx_2 By_2
  have Bz_3 := Lib.hid Bnew
  clear Bnew
  go_wp2_with fail
  have hc := awake_c ((((w).alloc (.cells #[.int .i64 K, .int .i64 N, .string ⟨T.toArray⟩] 23)).alloc (.cells #[.int .i64 K', .int .i64 N', .string ⟨T'.toArray⟩] 23)).alloc (.cells #[.int .i64 K'', .int .i64 N'', .string ⟨T''.toArray⟩] 23)) (hw.below H_3.out)
  unfold valV at hc
  refine hc.mono ?_
  rintro e u1 ⟨rfl, hb⟩
  clear hc
  have Bx_4 := Lib.hid (Bx_3.out.below hb Bx_3.out.lt)
  have By_4 := Lib.hid (By_3.out.below hb By_3.out.lt)
  have Bz_4 := Lib.hid (Bz_3.out.below hb Bz_3.out.lt)
  have H_4 := Lib.hid (H_3.out.trans (hb.mono H_3.out.size))
  clear hb H_3 Bx_3 By_3 Bz_3
  have qx0 := Bx_4.out.c0
  have qx1 := Bx_4.out.c1
  have qx2 := Bx_4.out.c2
  go_wp2_with fail
  clear qx0 qx1 qx2
  have hc := short_yes K N T hx (u1)
  unfold valV at hc
  refine hc.mono ?_
  rintro e u2 ⟨rfl, hb⟩
  clear hc
  have Bx_5 := Lib.hid (Bx_4.out.below hb Bx_4.out.lt)
  have By_5 := Lib.hid (By_4.out.below hb By_4.out.lt)
  have Bz_5 := Lib.hid (Bz_4.out.below hb Bz_4.out.lt)
  have H_5 := Lib.hid (H_4.out.trans (hb.mono H_4.out.size))
  clear hb H_4 Bx_4 By_4 Bz_4
  have qy0 := By_5.out.c0
  have qy1 := By_5.out.c1
  have qy2 := By_5.out.c2
  go_wp2_with fail
  clear qy0 qy1 qy2
  have hc := short_yes K' N' T' hy (u2)
  unfold valV at hc
  refine hc.mono ?_
  rintro e u3 ⟨rfl, hb⟩
  clear hc
  have Bx_6 := Lib.hid (Bx_5.out.below hb Bx_5.out.lt)
  have By_6 := Lib.hid (By_5.out.below hb By_5.out.lt)
  have Bz_6 := Lib.hid (Bz_5.out.below hb Bz_5.out.lt)
  have H_6 := Lib.hid (H_5.out.trans (hb.mono H_5.out.size))
  clear hb H_5 Bx_5 By_5 Bz_5
  have qz0 := Bz_6.out.c0
  have qz1 := Bz_6.out.c1
  have qz2 := Bz_6.out.c2
  go_wp2_with fail
  clear qz0 qz1 qz2
  have hc := short_yes K'' N'' T'' hz (u3)
  unfold valV at hc
  refine hc.mono ?_
  rintro e u4 ⟨rfl, hb⟩
  clear hc
  have Bx_7 := Lib.hid (Bx_6.out.below hb Bx_6.out.lt)
  have By_7 := Lib.hid (By_6.out.below hb By_6.out.lt)
  have Bz_7 := Lib.hid (Bz_6.out.below hb Bz_6.out.lt)
  have H_7 := Lib.hid (H_6.out.trans (hb.mono H_6.out.size))
  clear hb H_6 Bx_6 By_6 Bz_6
  have qx0 := Bx_7.out.c0
  have qx1 := Bx_7.out.c1
  have qx2 := Bx_7.out.c2
  have qy0 := By_7.out.c0
  have qy1 := By_7.out.c1
  have qy2 := By_7.out.c2
  go_wp2_with fail
  clear qx0 qx1 qx2 qy0 qy1 qy2
  have hc := Add_any h h' Hsa.out rfl (u4) (hw.below H_7.out)
  unfold valV at hc
  refine hc.mono ?_
  rintro e u5 ⟨rfl, hb⟩
  clear hc
  have Bx_8 := Lib.hid (Bx_7.out.below hb Bx_7.out.lt)
  have By_8 := Lib.hid (By_7.out.below hb By_7.out.lt)
  have Bz_8 := Lib.hid (Bz_7.out.below hb Bz_7.out.lt)
  have H_8 := Lib.hid (H_7.out.trans (hb.mono H_7.out.size))
  clear hb H_7 Bx_7 By_7 Bz_7
  have hb : Below (u5).heap.size (u5) ((u5).alloc (.cells #[.int .i64 A0, .int .i64 A1, .string ⟨A2.toArray⟩] 23)) := (Below.refl _ (u5)).alloc (Nat.le_refl _) _
  have Lxa := Lib.hid Bx_8.out.lt
  have Lya := Lib.hid By_8.out.lt
  have Lza := Lib.hid Bz_8.out.lt
  have Bnew := VB.new (u5) (.int .i64 A0) (.int .i64 A1) (.string ⟨A2.toArray⟩)
  try simp only [World.size_alloc] at Bnew
  have Bx_9 := Lib.hid (Bx_8.out.below hb Bx_8.out.lt)
  have By_9 := Lib.hid (By_8.out.below hb By_8.out.lt)
  have Bz_9 := Lib.hid (Bz_8.out.below hb Bz_8.out.lt)
  have H_9 := Lib.hid (H_8.out.trans (hb.mono H_8.out.size))
  clear hb H_8 Bx_8 By_8 Bz_8
  have Ba_9 := Lib.hid Bnew
  clear Bnew
  have qx0 := Bx_9.out.c0
  have qx1 := Bx_9.out.c1
  have qx2 := Bx_9.out.c2
  have qy0 := By_9.out.c0
  have qy1 := By_9.out.c1
  have qy2 := By_9.out.c2
  go_wp2_with fail
  clear qx0 qx1 qx2 qy0 qy1 qy2
  have hc := Add_any h' h Hsa.out (Int.add_comm y x) ((u5).alloc (.cells #[.int .i64 A0, .int .i64 A1, .string ⟨A2.toArray⟩] 23)) (hw.below H_9.out)
  unfold valV at hc
  refine hc.mono ?_
  rintro e u6 ⟨rfl, hb⟩
  clear hc
  have Bx_10 := Lib.hid (Bx_9.out.below hb Bx_9.out.lt)
  have By_10 := Lib.hid (By_9.out.below hb By_9.out.lt)
  have Bz_10 := Lib.hid (Bz_9.out.below hb Bz_9.out.lt)
  have Ba_10 := Lib.hid (Ba_9.out.below hb Ba_9.out.lt)
  have H_10 := Lib.hid (H_9.out.trans (hb.mono H_9.out.size))
  clear hb H_9 Bx_9 By_9 Bz_9 Ba_9
  have hb : Below (u6).heap.size (u6) ((u6).alloc (.cells #[.int .i64 A0, .int .i64 A1, .string ⟨A2.toArray⟩] 23)) := (Below.refl _ (u6)).alloc (Nat.le_refl _) _
  have Lab := Lib.hid Ba_10.out.lt
  have Lxb := Lib.hid Bx_10.out.lt
  have Lyb := Lib.hid By_10.out.lt
  have Lzb := Lib.hid Bz_10.out.lt
  have Bnew := VB.new (u6) (.int .i64 A0) (.int .i64 A1) (.string ⟨A2.toArray⟩)
  try simp only [World.size_alloc] at Bnew
  have Bx_11 := Lib.hid (Bx_10.out.below hb Bx_10.out.lt)
  have By_11 := Lib.hid (By_10.out.below hb By_10.out.lt)
  have Bz_11 := Lib.hid (Bz_10.out.below hb Bz_10.out.lt)
  have Ba_11 := Lib.hid (Ba_10.out.below hb Ba_10.out.lt)
  have H_11 := Lib.hid (H_10.out.trans (hb.mono H_10.out.size))
  clear hb H_10 Bx_10 By_10 Bz_10 Ba_10
  have Bb_11 := Lib.hid Bnew
  clear Bnew
  have qx0 := Bx_11.out.c0
  have qx1 := Bx_11.out.c1
  have qx2 := Bx_11.out.c2
  have qy0 := By_11.out.c0
  have qy1 := By_11.out.c1
  have qy2 := By_11.out.c2
  go_wp2_with fail
  clear qx0 qx1 qx2 qy0 qy1 qy2
  have hc := Mul_any h h' Hsp.out rfl ((u6).alloc (.cells #[.int .i64 A0, .int .i64 A1, .string ⟨A2.toArray⟩] 23)) (hw.below H_11.out)
  unfold valV at hc
  refine hc.mono ?_
  rintro e u7 ⟨rfl, hb⟩
  clear hc
  have Bx_12 := Lib.hid (Bx_11.out.below hb Bx_11.out.lt)
  have By_12 := Lib.hid (By_11.out.below hb By_11.out.lt)
  have Bz_12 := Lib.hid (Bz_11.out.below hb Bz_11.out.lt)
  have Ba_12 := Lib.hid (Ba_11.out.below hb Ba_11.out.lt)
  have Bb_12 := Lib.hid (Bb_11.out.below hb Bb_11.out.lt)
  have H_12 := Lib.hid (H_11.out.trans (hb.mono H_11.out.size))
  clear hb H_11 Bx_11 By_11 Bz_11 Ba_11 Bb_11
  have hb : Below (u7).heap.size (u7) ((u7).alloc (.cells #[.int .i64 P0, .int .i64 P1, .string ⟨P2.toArray⟩] 23)) := (Below.refl _ (u7)).alloc (Nat.le_refl _) _
  have Lap := Lib.hid Ba_12.out.lt
  have Lbp := Lib.hid Bb_12.out.lt
  have Lxp := Lib.hid Bx_12.out.lt
  have Lyp := Lib.hid By_12.out.lt
  have Lzp := Lib.hid Bz_12.out.lt
  have Bnew := VB.new (u7) (.int .i64 P0) (.int .i64 P1) (.string ⟨P2.toArray⟩)
  try simp only [World.size_alloc] at Bnew
  have Bx_13 := Lib.hid (Bx_12.out.below hb Bx_12.out.lt)
  have By_13 := Lib.hid (By_12.out.below hb By_12.out.lt)
  have Bz_13 := Lib.hid (Bz_12.out.below hb Bz_12.out.lt)
  have Ba_13 := Lib.hid (Ba_12.out.below hb Ba_12.out.lt)
  have Bb_13 := Lib.hid (Bb_12.out.below hb Bb_12.out.lt)
  have H_13 := Lib.hid (H_12.out.trans (hb.mono H_12.out.size))
  clear hb H_12 Bx_12 By_12 Bz_12 Ba_12 Bb_12
  have Bp_13 := Lib.hid Bnew
  clear Bnew
  have qx0 := Bx_13.out.c0
  have qx1 := Bx_13.out.c1
  have qx2 := Bx_13.out.c2
  have qy0 := By_13.out.c0
  have qy1 := By_13.out.c1
  have qy2 := By_13.out.c2
  go_wp2_with fail
  clear qx0 qx1 qx2 qy0 qy1 qy2
  have hc := Mul_any h' h Hsp.out (Int.mul_comm y x) ((u7).alloc (.cells #[.int .i64 P0, .int .i64 P1, .string ⟨P2.toArray⟩] 23)) (hw.below H_13.out)
  unfold valV at hc
  refine hc.mono ?_
  rintro e u8 ⟨rfl, hb⟩
  clear hc
  have Bx_14 := Lib.hid (Bx_13.out.below hb Bx_13.out.lt)
  have By_14 := Lib.hid (By_13.out.below hb By_13.out.lt)
  have Bz_14 := Lib.hid (Bz_13.out.below hb Bz_13.out.lt)
  have Ba_14 := Lib.hid (Ba_13.out.below hb Ba_13.out.lt)
  have Bb_14 := Lib.hid (Bb_13.out.below hb Bb_13.out.lt)
  have Bp_14 := Lib.hid (Bp_13.out.below hb Bp_13.out.lt)
  have H_14 := Lib.hid (H_13.out.trans (hb.mono H_13.out.size))
  clear hb H_13 Bx_13 By_13 Bz_13 Ba_13 Bb_13 Bp_13
  have hb : Below (u8).heap.size (u8) ((u8).alloc (.cells #[.int .i64 P0, .int .i64 P1, .string ⟨P2.toArray⟩] 23)) := (Below.refl _ (u8)).alloc (Nat.le_refl _) _
  have Laq := Lib.hid Ba_14.out.lt
  have Lbq := Lib.hid Bb_14.out.lt
  have Lpq := Lib.hid Bp_14.out.lt
  have Lxq := Lib.hid Bx_14.out.lt
  have Lyq := Lib.hid By_14.out.lt
  have Lzq := Lib.hid Bz_14.out.lt
  have Bnew := VB.new (u8) (.int .i64 P0) (.int .i64 P1) (.string ⟨P2.toArray⟩)
  try simp only [World.size_alloc] at Bnew
  have Bx_15 := Lib.hid (Bx_14.out.below hb Bx_14.out.lt)
  have By_15 := Lib.hid (By_14.out.below hb By_14.out.lt)
  have Bz_15 := Lib.hid (Bz_14.out.below hb Bz_14.out.lt)
  have Ba_15 := Lib.hid (Ba_14.out.below hb Ba_14.out.lt)
  have Bb_15 := Lib.hid (Bb_14.out.below hb Bb_14.out.lt)
  have Bp_15 := Lib.hid (Bp_14.out.below hb Bp_14.out.lt)
  have H_15 := Lib.hid (H_14.out.trans (hb.mono H_14.out.size))
  clear hb H_14 Bx_14 By_14 Bz_14 Ba_14 Bb_14 Bp_14
  have Bq_15 := Lib.hid Bnew
  clear Bnew
  have qy0 := By_15.out.c0
  have qy1 := By_15.out.c1
  have qy2 := By_15.out.c2
  have qz0 := Bz_15.out.c0
  have qz1 := Bz_15.out.c1
  have qz2 := Bz_15.out.c2
  have qa0 := Ba_15.out.c0
  have qa1 := Ba_15.out.c1
  have qa2 := Ba_15.out.c2
  have qb0 := Bb_15.out.c0
  have qb1 := Bb_15.out.c1
  have qb2 := Bb_15.out.c2
  have qp0 := Bp_15.out.c0
  have qp1 := Bp_15.out.c1
  have qp2 := Bp_15.out.c2
  have qq0 := Bq_15.out.c0
  have qq1 := Bq_15.out.c1
  have qq2 := Bq_15.out.c2
  go_wp2_with fail
  clear qy0 qy1 qy2 qz0 qz1 qz2 qa0 qa1 qa2 qb0 qb1 qb2 qp0 qp1 qp2 qq0 qq1 qq2
  have hc := Add_any h' h'' Hsc.out rfl ((u8).alloc (.cells #[.int .i64 P0, .int .i64 P1, .string ⟨P2.toArray⟩] 23)) (hw.below H_15.out)
  unfold valV at hc
  refine hc.mono ?_
  rintro e u9 ⟨rfl, hb⟩
  clear hc
  have Bx_16 := Lib.hid (Bx_15.out.below hb Bx_15.out.lt)
  have By_16 := Lib.hid (By_15.out.below hb By_15.out.lt)
  have Bz_16 := Lib.hid (Bz_15.out.below hb Bz_15.out.lt)
  have Ba_16 := Lib.hid (Ba_15.out.below hb Ba_15.out.lt)
  have Bb_16 := Lib.hid (Bb_15.out.below hb Bb_15.out.lt)
  have Bp_16 := Lib.hid (Bp_15.out.below hb Bp_15.out.lt)
  have Bq_16 := Lib.hid (Bq_15.out.below hb Bq_15.out.lt)
  have H_16 := Lib.hid (H_15.out.trans (hb.mono H_15.out.size))
  clear hb H_15 Bx_15 By_15 Bz_15 Ba_15 Bb_15 Bp_15 Bq_15
  have hb : Below (u9).heap.size (u9) ((u9).alloc (.cells #[.int .i64 C0, .int .i64 C1, .string ⟨C2.toArray⟩] 23)) := (Below.refl _ (u9)).alloc (Nat.le_refl _) _
  have Lac := Lib.hid Ba_16.out.lt
  have Lbc := Lib.hid Bb_16.out.lt
  have Lpc := Lib.hid Bp_16.out.lt
  have Lqc := Lib.hid Bq_16.out.lt
  have Lxc := Lib.hid Bx_16.out.lt
  have Lyc := Lib.hid By_16.out.lt
  have Lzc := Lib.hid Bz_16.out.lt
  have Bnew := VB.new (u9) (.int .i64 C0) (.int .i64 C1) (.string ⟨C2.toArray⟩)
  try simp only [World.size_alloc] at Bnew
  have Bx_17 := Lib.hid (Bx_16.out.below hb Bx_16.out.lt)
  have By_17 := Lib.hid (By_16.out.below hb By_16.out.lt)
  have Bz_17 := Lib.hid (Bz_16.out.below hb Bz_16.out.lt)
  have Ba_17 := Lib.hid (Ba_16.out.below hb Ba_16.out.lt)
  have Bb_17 := Lib.hid (Bb_16.out.below hb Bb_16.out.lt)
  have Bp_17 := Lib.hid (Bp_16.out.below hb Bp_16.out.lt)
  have Bq_17 := Lib.hid (Bq_16.out.below hb Bq_16.out.lt)
  have H_17 := Lib.hid (H_16.out.trans (hb.mono H_16.out.size))
  clear hb H_16 Bx_16 By_16 Bz_16 Ba_16 Bb_16 Bp_16 Bq_16
  have Bc_17 := Lib.hid Bnew
  clear Bnew
  have qa0 := Ba_17.out.c0
  have qa1 := Ba_17.out.c1
  have qa2 := Ba_17.out.c2
  have qz0 := Bz_17.out.c0
  have qz1 := Bz_17.out.c1
  have qz2 := Bz_17.out.c2
  go_wp2_with fail
  clear qa0 qa1 qa2 qz0 qz1 qz2
  have hc := Hho.out.2 ((u9).alloc (.cells #[.int .i64 C0, .int .i64 C1, .string ⟨C2.toArray⟩] 23)) (hw.below H_17.out)
  unfold valV at hc
  refine hc.mono ?_
  rintro e u10 ⟨rfl, hb⟩
  clear hc
  have Bx_18 := Lib.hid (Bx_17.out.below hb Bx_17.out.lt)
  have By_18 := Lib.hid (By_17.out.below hb By_17.out.lt)
  have Bz_18 := Lib.hid (Bz_17.out.below hb Bz_17.out.lt)
  have Ba_18 := Lib.hid (Ba_17.out.below hb Ba_17.out.lt)
  have Bb_18 := Lib.hid (Bb_17.out.below hb Bb_17.out.lt)
  have Bp_18 := Lib.hid (Bp_17.out.below hb Bp_17.out.lt)
  have Bq_18 := Lib.hid (Bq_17.out.below hb Bq_17.out.lt)
  have Bc_18 := Lib.hid (Bc_17.out.below hb Bc_17.out.lt)
  have H_18 := Lib.hid (H_17.out.trans (hb.mono H_17.out.size))
  clear hb H_17 Bx_17 By_17 Bz_17 Ba_17 Bb_17 Bp_17 Bq_17 Bc_17
  have hb : Below (u10).heap.size (u10) ((u10).alloc (.cells #[.int .i64 O0, .int .i64 O1, .string ⟨O2.toArray⟩] 23)) := (Below.refl _ (u10)).alloc (Nat.le_refl _) _
  have Lao := Lib.hid Ba_18.out.lt
  have Lbo := Lib.hid Bb_18.out.lt
  have Lpo := Lib.hid Bp_18.out.lt
  have Lqo := Lib.hid Bq_18.out.lt
  have Lco := Lib.hid Bc_18.out.lt
  have Lxo := Lib.hid Bx_18.out.lt
  have Lyo := Lib.hid By_18.out.lt
  have Lzo := Lib.hid Bz_18.out.lt
  have Bnew := VB.new (u10) (.int .i64 O0) (.int .i64 O1) (.string ⟨O2.toArray⟩)
  try simp only [World.size_alloc] at Bnew
  have Bx_19 := Lib.hid (Bx_18.out.below hb Bx_18.out.lt)
  have By_19 := Lib.hid (By_18.out.below hb By_18.out.lt)
  have Bz_19 := Lib.hid (Bz_18.out.below hb Bz_18.out.lt)
  have Ba_19 := Lib.hid (Ba_18.out.below hb Ba_18.out.lt)
  have Bb_19 := Lib.hid (Bb_18.out.below hb Bb_18.out.lt)
  have Bp_19 := Lib.hid (Bp_18.out.below hb Bp_18.out.lt)
  have Bq_19 := Lib.hid (Bq_18.out.below hb Bq_18.out.lt)
  have Bc_19 := Lib.hid (Bc_18.out.below hb Bc_18.out.lt)
  have H_19 := Lib.hid (H_18.out.trans (hb.mono H_18.out.size))
  clear hb H_18 Bx_18 By_18 Bz_18 Ba_18 Bb_18 Bp_18 Bq_18 Bc_18
  have Bo_19 := Lib.hid Bnew
  clear Bnew
  have qx0 := Bx_19.out.c0
  have qx1 := Bx_19.out.c1
  have qx2 := Bx_19.out.c2
  have qc0 := Bc_19.out.c0
  have qc1 := Bc_19.out.c1
  have qc2 := Bc_19.out.c2
  go_wp2_with fail
  clear qx0 qx1 qx2 qc0 qc1 qc2
  have hc := Hht.out.2 ((u10).alloc (.cells #[.int .i64 O0, .int .i64 O1, .string ⟨O2.toArray⟩] 23)) (hw.below H_19.out)
  unfold valV at hc
  refine hc.mono ?_
  rintro e u11 ⟨rfl, hb⟩
  clear hc
  have Bx_20 := Lib.hid (Bx_19.out.below hb Bx_19.out.lt)
  have By_20 := Lib.hid (By_19.out.below hb By_19.out.lt)
  have Bz_20 := Lib.hid (Bz_19.out.below hb Bz_19.out.lt)
  have Ba_20 := Lib.hid (Ba_19.out.below hb Ba_19.out.lt)
  have Bb_20 := Lib.hid (Bb_19.out.below hb Bb_19.out.lt)
  have Bp_20 := Lib.hid (Bp_19.out.below hb Bp_19.out.lt)
  have Bq_20 := Lib.hid (Bq_19.out.below hb Bq_19.out.lt)
  have Bc_20 := Lib.hid (Bc_19.out.below hb Bc_19.out.lt)
  have Bo_20 := Lib.hid (Bo_19.out.below hb Bo_19.out.lt)
  have H_20 := Lib.hid (H_19.out.trans (hb.mono H_19.out.size))
  clear hb H_19 Bx_19 By_19 Bz_19 Ba_19 Bb_19 Bp_19 Bq_19 Bc_19 Bo_19
  have hb : Below (u11).heap.size (u11) ((u11).alloc (.cells #[.int .i64 U0, .int .i64 U1, .string ⟨U2.toArray⟩] 23)) := (Below.refl _ (u11)).alloc (Nat.le_refl _) _
  have Lat := Lib.hid Ba_20.out.lt
  have Lbt := Lib.hid Bb_20.out.lt
  have Lpt := Lib.hid Bp_20.out.lt
  have Lqt := Lib.hid Bq_20.out.lt
  have Lct := Lib.hid Bc_20.out.lt
  have Lot := Lib.hid Bo_20.out.lt
  have Lxt := Lib.hid Bx_20.out.lt
  have Lyt := Lib.hid By_20.out.lt
  have Lzt := Lib.hid Bz_20.out.lt
  have Bnew := VB.new (u11) (.int .i64 U0) (.int .i64 U1) (.string ⟨U2.toArray⟩)
  try simp only [World.size_alloc] at Bnew
  have Bx_21 := Lib.hid (Bx_20.out.below hb Bx_20.out.lt)
  have By_21 := Lib.hid (By_20.out.below hb By_20.out.lt)
  have Bz_21 := Lib.hid (Bz_20.out.below hb Bz_20.out.lt)
  have Ba_21 := Lib.hid (Ba_20.out.below hb Ba_20.out.lt)
  have Bb_21 := Lib.hid (Bb_20.out.below hb Bb_20.out.lt)
  have Bp_21 := Lib.hid (Bp_20.out.below hb Bp_20.out.lt)
  have Bq_21 := Lib.hid (Bq_20.out.below hb Bq_20.out.lt)
  have Bc_21 := Lib.hid (Bc_20.out.below hb Bc_20.out.lt)
  have Bo_21 := Lib.hid (Bo_20.out.below hb Bo_20.out.lt)
  have H_21 := Lib.hid (H_20.out.trans (hb.mono H_20.out.size))
  clear hb H_20 Bx_20 By_20 Bz_20 Ba_20 Bb_20 Bp_20 Bq_20 Bc_20 Bo_20
  have Bt_21 := Lib.hid Bnew
  clear Bnew
  go_upto_region 13 with fail
  go_cut [117] from 102 to 118 (fun p117 wx => p117 = .bool false ∧ (u11).alloc (.cells #[.int .i64 U0, .int .i64 U1, .string ⟨U2.toArray⟩] 23) = wx)
  case first =>
    have qo0 := Bo_21.out.c0
    have qo1 := Bo_21.out.c1
    have qo2 := Bo_21.out.c2
    have qt0 := Bt_21.out.c0
    have qt1 := Bt_21.out.c1
    have qt2 := Bt_21.out.c2
    rcases Hsa.out.two with rfl | rfl <;> rcases Hsc.out.two with rfl | rfl
    · obtain ⟨rfl, rfl, rfl, rfl⟩ := (Hso.out _ _ Hsa.out.ok h'').same (Int.add_assoc x y z ▸ Hst.out _ _ h Hsc.out.ok)
      (go_wp2_with fail; go_meet; exact ⟨rfl, rfl⟩)
    all_goals (go_wp2_with fail; go_meet; exact ⟨rfl, rfl⟩)
  case rest =>
    obtain ⟨rfl, rfl⟩ := hcut
    have qa0 := Ba_21.out.c0
    have qa1 := Ba_21.out.c1
    have qa2 := Ba_21.out.c2
    have qy0 := By_21.out.c0
    have qy1 := By_21.out.c1
    have qy2 := By_21.out.c2
    go_wp2_with fail
    clear qa0 qa1 qa2 qy0 qy1 qy2
    have hc := Hhk.out.2 ((u11).alloc (.cells #[.int .i64 U0, .int .i64 U1, .string ⟨U2.toArray⟩] 23)) (hw.below H_21.out)
    unfold valV at hc
    refine hc.mono ?_
    rintro e u12 ⟨rfl, hb⟩
    clear hc
    have Bx_22 := Lib.hid (Bx_21.out.below hb Bx_21.out.lt)
    have By_22 := Lib.hid (By_21.out.below hb By_21.out.lt)
    have Bz_22 := Lib.hid (Bz_21.out.below hb Bz_21.out.lt)
    have Ba_22 := Lib.hid (Ba_21.out.below hb Ba_21.out.lt)
    have Bb_22 := Lib.hid (Bb_21.out.below hb Bb_21.out.lt)
    have Bp_22 := Lib.hid (Bp_21.out.below hb Bp_21.out.lt)
    have Bq_22 := Lib.hid (Bq_21.out.below hb Bq_21.out.lt)
    have Bc_22 := Lib.hid (Bc_21.out.below hb Bc_21.out.lt)
    have Bo_22 := Lib.hid (Bo_21.out.below hb Bo_21.out.lt)
    have Bt_22 := Lib.hid (Bt_21.out.below hb Bt_21.out.lt)
    have H_22 := Lib.hid (H_21.out.trans (hb.mono H_21.out.size))
    clear hb H_21 Bx_21 By_21 Bz_21 Ba_21 Bb_21 Bp_21 Bq_21 Bc_21 Bo_21 Bt_21
    have hb : Below (u12).heap.size (u12) ((u12).alloc (.cells #[.int .i64 B0, .int .i64 B1, .string ⟨B2.toArray⟩] 23)) := (Below.refl _ (u12)).alloc (Nat.le_refl _) _
    have Lak := Lib.hid Ba_22.out.lt
    have Lbk := Lib.hid Bb_22.out.lt
    have Lpk := Lib.hid Bp_22.out.lt
    have Lqk := Lib.hid Bq_22.out.lt
    have Lck := Lib.hid Bc_22.out.lt
    have Lok := Lib.hid Bo_22.out.lt
    have Ltk := Lib.hid Bt_22.out.lt
    have Lxk := Lib.hid Bx_22.out.lt
    have Lyk := Lib.hid By_22.out.lt
    have Lzk := Lib.hid Bz_22.out.lt
    have Bnew := VB.new (u12) (.int .i64 B0) (.int .i64 B1) (.string ⟨B2.toArray⟩)
    try simp only [World.size_alloc] at Bnew
    have Bx_23 := Lib.hid (Bx_22.out.below hb Bx_22.out.lt)
    have By_23 := Lib.hid (By_22.out.below hb By_22.out.lt)
    have Bz_23 := Lib.hid (Bz_22.out.below hb Bz_22.out.lt)
    have Ba_23 := Lib.hid (Ba_22.out.below hb Ba_22.out.lt)
    have Bb_23 := Lib.hid (Bb_22.out.below hb Bb_22.out.lt)
    have Bp_23 := Lib.hid (Bp_22.out.below hb Bp_22.out.lt)
    have Bq_23 := Lib.hid (Bq_22.out.below hb Bq_22.out.lt)
    have Bc_23 := Lib.hid (Bc_22.out.below hb Bc_22.out.lt)
    have Bo_23 := Lib.hid (Bo_22.out.below hb Bo_22.out.lt)
    have Bt_23 := Lib.hid (Bt_22.out.below hb Bt_22.out.lt)
    have H_23 := Lib.hid (H_22.out.trans (hb.mono H_22.out.size))
    clear hb H_22 Bx_22 By_22 Bz_22 Ba_22 Bb_22 Bp_22 Bq_22 Bc_22 Bo_22 Bt_22
    have Bk_23 := Lib.hid Bnew
    clear Bnew
    go_upto_region 16 with fail
    go_cut [134] from 124 to 135 (fun p134 wx => p134 = .bool false ∧ (u12).alloc (.cells #[.int .i64 B0, .int .i64 B1, .string ⟨B2.toArray⟩] 23) = wx)
    case first =>
      have qk0 := Bk_23.out.c0
      have qk1 := Bk_23.out.c1
      have qk2 := Bk_23.out.c2
      have qx0 := Bx_23.out.c0
      have qx1 := Bx_23.out.c1
      have qx2 := Bx_23.out.c2
      rcases Hsa.out.two with rfl | rfl
      · obtain ⟨rfl, rfl, rfl, rfl⟩ := (Ans.num h).same (Int.add_sub_cancel x y ▸ Hsk.out _ _ Hsa.out.ok h')
        (go_wp2_with fail; go_meet; exact ⟨rfl, rfl⟩)
      · (go_wp2_with fail; go_meet; exact ⟨rfl, rfl⟩)
    case rest =>
      obtain ⟨rfl, rfl⟩ := hcut
      have qy0 := By_23.out.c0
      have qy1 := By_23.out.c1
      have qy2 := By_23.out.c2
      have qz0 := Bz_23.out.c0
      have qz1 := Bz_23.out.c1
      have qz2 := Bz_23.out.c2
      go_wp2_with fail
      clear qy0 qy1 qy2 qz0 qz1 qz2
      have hc := Mul_any h' h'' Hsr.out rfl ((u12).alloc (.cells #[.int .i64 B0, .int .i64 B1, .string ⟨B2.toArray⟩] 23)) (hw.below H_23.out)
      unfold valV at hc
      refine hc.mono ?_
      rintro e u13 ⟨rfl, hb⟩
      clear hc
      have Bx_24 := Lib.hid (Bx_23.out.below hb Bx_23.out.lt)
      have By_24 := Lib.hid (By_23.out.below hb By_23.out.lt)
      have Bz_24 := Lib.hid (Bz_23.out.below hb Bz_23.out.lt)
      have Ba_24 := Lib.hid (Ba_23.out.below hb Ba_23.out.lt)
      have Bb_24 := Lib.hid (Bb_23.out.below hb Bb_23.out.lt)
      have Bp_24 := Lib.hid (Bp_23.out.below hb Bp_23.out.lt)
      have Bq_24 := Lib.hid (Bq_23.out.below hb Bq_23.out.lt)
      have Bc_24 := Lib.hid (Bc_23.out.below hb Bc_23.out.lt)
      have Bo_24 := Lib.hid (Bo_23.out.below hb Bo_23.out.lt)
      have Bt_24 := Lib.hid (Bt_23.out.below hb Bt_23.out.lt)
      have Bk_24 := Lib.hid (Bk_23.out.below hb Bk_23.out.lt)
      have H_24 := Lib.hid (H_23.out.trans (hb.mono H_23.out.size))
      clear hb H_23 Bx_23 By_23 Bz_23 Ba_23 Bb_23 Bp_23 Bq_23 Bc_23 Bo_23 Bt_23 Bk_23
      have hb : Below (u13).heap.size (u13) ((u13).alloc (.cells #[.int .i64 R0, .int .i64 R1, .string ⟨R2.toArray⟩] 23)) := (Below.refl _ (u13)).alloc (Nat.le_refl _) _
      have Lar := Lib.hid Ba_24.out.lt
      have Lbr := Lib.hid Bb_24.out.lt
      have Lpr := Lib.hid Bp_24.out.lt
      have Lqr := Lib.hid Bq_24.out.lt
      have Lcr := Lib.hid Bc_24.out.lt
      have Lor := Lib.hid Bo_24.out.lt
      have Ltr := Lib.hid Bt_24.out.lt
      have Lkr := Lib.hid Bk_24.out.lt
      have Lxr := Lib.hid Bx_24.out.lt
      have Lyr := Lib.hid By_24.out.lt
      have Lzr := Lib.hid Bz_24.out.lt
      have Bnew := VB.new (u13) (.int .i64 R0) (.int .i64 R1) (.string ⟨R2.toArray⟩)
      try simp only [World.size_alloc] at Bnew
      have Bx_25 := Lib.hid (Bx_24.out.below hb Bx_24.out.lt)
      have By_25 := Lib.hid (By_24.out.below hb By_24.out.lt)
      have Bz_25 := Lib.hid (Bz_24.out.below hb Bz_24.out.lt)
      have Ba_25 := Lib.hid (Ba_24.out.below hb Ba_24.out.lt)
      have Bb_25 := Lib.hid (Bb_24.out.below hb Bb_24.out.lt)
      have Bp_25 := Lib.hid (Bp_24.out.below hb Bp_24.out.lt)
      have Bq_25 := Lib.hid (Bq_24.out.below hb Bq_24.out.lt)
      have Bc_25 := Lib.hid (Bc_24.out.below hb Bc_24.out.lt)
      have Bo_25 := Lib.hid (Bo_24.out.below hb Bo_24.out.lt)
      have Bt_25 := Lib.hid (Bt_24.out.below hb Bt_24.out.lt)
      have Bk_25 := Lib.hid (Bk_24.out.below hb Bk_24.out.lt)
      have H_25 := Lib.hid (H_24.out.trans (hb.mono H_24.out.size))
      clear hb H_24 Bx_24 By_24 Bz_24 Ba_24 Bb_24 Bp_24 Bq_24 Bc_24 Bo_24 Bt_24 Bk_24
      have Br_25 := Lib.hid Bnew
      clear Bnew
      have qp0 := Bp_25.out.c0
      have qp1 := Bp_25.out.c1
      have qp2 := Bp_25.out.c2
      have qz0 := Bz_25.out.c0
      have qz1 := Bz_25.out.c1
      have qz2 := Bz_25.out.c2
      go_wp2_with fail
      clear qp0 qp1 qp2 qz0 qz1 qz2
      have hc := Hho'.out.2 ((u13).alloc (.cells #[.int .i64 R0, .int .i64 R1, .string ⟨R2.toArray⟩] 23)) (hw.below H_25.out)
      unfold valV at hc
      refine hc.mono ?_
      rintro e u14 ⟨rfl, hb⟩
      clear hc
      have Bx_26 := Lib.hid (Bx_25.out.below hb Bx_25.out.lt)
      have By_26 := Lib.hid (By_25.out.below hb By_25.out.lt)
      have Bz_26 := Lib.hid (Bz_25.out.below hb Bz_25.out.lt)
      have Ba_26 := Lib.hid (Ba_25.out.below hb Ba_25.out.lt)
      have Bb_26 := Lib.hid (Bb_25.out.below hb Bb_25.out.lt)
      have Bp_26 := Lib.hid (Bp_25.out.below hb Bp_25.out.lt)
      have Bq_26 := Lib.hid (Bq_25.out.below hb Bq_25.out.lt)
      have Bc_26 := Lib.hid (Bc_25.out.below hb Bc_25.out.lt)
      have Bo_26 := Lib.hid (Bo_25.out.below hb Bo_25.out.lt)
      have Bt_26 := Lib.hid (Bt_25.out.below hb Bt_25.out.lt)
      have Bk_26 := Lib.hid (Bk_25.out.below hb Bk_25.out.lt)
      have Br_26 := Lib.hid (Br_25.out.below hb Br_25.out.lt)
      have H_26 := Lib.hid (H_25.out.trans (hb.mono H_25.out.size))
      clear hb H_25 Bx_25 By_25 Bz_25 Ba_25 Bb_25 Bp_25 Bq_25 Bc_25 Bo_25 Bt_25 Bk_25 Br_25
      have st15c0 := Bo_26.out.c0
      have st15f0 := Bo_26.out.fz 0
      have st15c1 := Bo_26.out.c1
      have st15f1 := Bo_26.out.fz 1
      have st15c2 := Bo_26.out.c2
      have st15f2 := Bo_26.out.fz 2
      have hne : ((u10).heap.size) ≠ (w.heap.size) := by have h1 := Lxo.out; omega
      have Bx_27 := Lib.hid (((Bx_26.out.other ⟨(u10).heap.size, 0, none⟩ hne (.int .i64 O0')).other ⟨(u10).heap.size, 1, none⟩ hne (.int .i64 O1')).other ⟨(u10).heap.size, 2, none⟩ hne (.string ⟨O2'.toArray⟩))
      clear hne
      have hne : ((u10).heap.size) ≠ (w.heap.size + 1) := by have h1 := Lyo.out; omega
      have By_27 := Lib.hid (((By_26.out.other ⟨(u10).heap.size, 0, none⟩ hne (.int .i64 O0')).other ⟨(u10).heap.size, 1, none⟩ hne (.int .i64 O1')).other ⟨(u10).heap.size, 2, none⟩ hne (.string ⟨O2'.toArray⟩))
      clear hne
      have hne : ((u10).heap.size) ≠ (w.heap.size + 1 + 1) := by have h1 := Lzo.out; omega
      have Bz_27 := Lib.hid (((Bz_26.out.other ⟨(u10).heap.size, 0, none⟩ hne (.int .i64 O0')).other ⟨(u10).heap.size, 1, none⟩ hne (.int .i64 O1')).other ⟨(u10).heap.size, 2, none⟩ hne (.string ⟨O2'.toArray⟩))
      clear hne
      have hne : ((u10).heap.size) ≠ ((u5).heap.size) := by have h1 := Lao.out; omega
      have Ba_27 := Lib.hid (((Ba_26.out.other ⟨(u10).heap.size, 0, none⟩ hne (.int .i64 O0')).other ⟨(u10).heap.size, 1, none⟩ hne (.int .i64 O1')).other ⟨(u10).heap.size, 2, none⟩ hne (.string ⟨O2'.toArray⟩))
      clear hne
      have hne : ((u10).heap.size) ≠ ((u6).heap.size) := by have h1 := Lbo.out; omega
      have Bb_27 := Lib.hid (((Bb_26.out.other ⟨(u10).heap.size, 0, none⟩ hne (.int .i64 O0')).other ⟨(u10).heap.size, 1, none⟩ hne (.int .i64 O1')).other ⟨(u10).heap.size, 2, none⟩ hne (.string ⟨O2'.toArray⟩))
      clear hne
      have hne : ((u10).heap.size) ≠ ((u7).heap.size) := by have h1 := Lpo.out; omega
      have Bp_27 := Lib.hid (((Bp_26.out.other ⟨(u10).heap.size, 0, none⟩ hne (.int .i64 O0')).other ⟨(u10).heap.size, 1, none⟩ hne (.int .i64 O1')).other ⟨(u10).heap.size, 2, none⟩ hne (.string ⟨O2'.toArray⟩))
      clear hne
      have hne : ((u10).heap.size) ≠ ((u8).heap.size) := by have h1 := Lqo.out; omega
      have Bq_27 := Lib.hid (((Bq_26.out.other ⟨(u10).heap.size, 0, none⟩ hne (.int .i64 O0')).other ⟨(u10).heap.size, 1, none⟩ hne (.int .i64 O1')).other ⟨(u10).heap.size, 2, none⟩ hne (.string ⟨O2'.toArray⟩))
      clear hne
      have hne : ((u10).heap.size) ≠ ((u9).heap.size) := by have h1 := Lco.out; omega
      have Bc_27 := Lib.hid (((Bc_26.out.other ⟨(u10).heap.size, 0, none⟩ hne (.int .i64 O0')).other ⟨(u10).heap.size, 1, none⟩ hne (.int .i64 O1')).other ⟨(u10).heap.size, 2, none⟩ hne (.string ⟨O2'.toArray⟩))
      clear hne
      have Bo_27 := Lib.hid (Bo_26.out.put (.int .i64 O0') (.int .i64 O1') (.string ⟨O2'.toArray⟩))
      have hne : ((u10).heap.size) ≠ ((u11).heap.size) := by have h1 := Lot.out; omega
      have Bt_27 := Lib.hid (((Bt_26.out.other ⟨(u10).heap.size, 0, none⟩ hne (.int .i64 O0')).other ⟨(u10).heap.size, 1, none⟩ hne (.int .i64 O1')).other ⟨(u10).heap.size, 2, none⟩ hne (.string ⟨O2'.toArray⟩))
      clear hne
      have hne : ((u10).heap.size) ≠ ((u12).heap.size) := by have h1 := Lok.out; omega
      have Bk_27 := Lib.hid (((Bk_26.out.other ⟨(u10).heap.size, 0, none⟩ hne (.int .i64 O0')).other ⟨(u10).heap.size, 1, none⟩ hne (.int .i64 O1')).other ⟨(u10).heap.size, 2, none⟩ hne (.string ⟨O2'.toArray⟩))
      clear hne
      have hne : ((u10).heap.size) ≠ ((u13).heap.size) := by have h1 := Lor.out; omega
      have Br_27 := Lib.hid (((Br_26.out.other ⟨(u10).heap.size, 0, none⟩ hne (.int .i64 O0')).other ⟨(u10).heap.size, 1, none⟩ hne (.int .i64 O1')).other ⟨(u10).heap.size, 2, none⟩ hne (.string ⟨O2'.toArray⟩))
      clear hne
      have hle : w.heap.size ≤ (u10).heap.size := by have h1 := Lxo.out; omega
      have H_27 := Lib.hid (below_put3 H_26.out hle (.int .i64 O0') (.int .i64 O1') (.string ⟨O2'.toArray⟩))
      clear hle H_26 Bx_26 By_26 Bz_26 Ba_26 Bb_26 Bp_26 Bq_26 Bc_26 Bo_26 Bt_26 Bk_26 Br_26
      have qx0 := Bx_27.out.c0
      have qx1 := Bx_27.out.c1
      have qx2 := Bx_27.out.c2
      have qr0 := Br_27.out.c0
      have qr1 := Br_27.out.c1
      have qr2 := Br_27.out.c2
      go_wp2_with fail
      clear qx0 qx1 qx2 qr0 qr1 qr2
      clear st15c0 st15f0 st15c1 st15f1 st15c2 st15f2
      have hc := Hht'.out.2 ((((u14).setCell ⟨(u10).heap.size, 0, none⟩ (.int .i64 O0')).setCell ⟨(u10).heap.size, 1, none⟩ (.int .i64 O1')).setCell ⟨(u10).heap.size, 2, none⟩ (.string ⟨O2'.toArray⟩)) (hw.below H_27.out)
      unfold valV at hc
      refine hc.mono ?_
      rintro e u16 ⟨rfl, hb⟩
      clear hc
      have Bx_28 := Lib.hid (Bx_27.out.below hb Bx_27.out.lt)
      have By_28 := Lib.hid (By_27.out.below hb By_27.out.lt)
      have Bz_28 := Lib.hid (Bz_27.out.below hb Bz_27.out.lt)
      have Ba_28 := Lib.hid (Ba_27.out.below hb Ba_27.out.lt)
      have Bb_28 := Lib.hid (Bb_27.out.below hb Bb_27.out.lt)
      have Bp_28 := Lib.hid (Bp_27.out.below hb Bp_27.out.lt)
      have Bq_28 := Lib.hid (Bq_27.out.below hb Bq_27.out.lt)
      have Bc_28 := Lib.hid (Bc_27.out.below hb Bc_27.out.lt)
      have Bo_28 := Lib.hid (Bo_27.out.below hb Bo_27.out.lt)
      have Bt_28 := Lib.hid (Bt_27.out.below hb Bt_27.out.lt)
      have Bk_28 := Lib.hid (Bk_27.out.below hb Bk_27.out.lt)
      have Br_28 := Lib.hid (Br_27.out.below hb Br_27.out.lt)
      have H_28 := Lib.hid (H_27.out.trans (hb.mono H_27.out.size))
      clear hb H_27 Bx_27 By_27 Bz_27 Ba_27 Bb_27 Bp_27 Bq_27 Bc_27 Bo_27 Bt_27 Bk_27 Br_27
      have st17c0 := Bt_28.out.c0
      have st17f0 := Bt_28.out.fz 0
      have st17c1 := Bt_28.out.c1
      have st17f1 := Bt_28.out.fz 1
      have st17c2 := Bt_28.out.c2
      have st17f2 := Bt_28.out.fz 2
      have hne : ((u11).heap.size) ≠ (w.heap.size) := by have h1 := Lxt.out; omega
      have Bx_29 := Lib.hid (((Bx_28.out.other ⟨(u11).heap.size, 0, none⟩ hne (.int .i64 U0')).other ⟨(u11).heap.size, 1, none⟩ hne (.int .i64 U1')).other ⟨(u11).heap.size, 2, none⟩ hne (.string ⟨U2'.toArray⟩))
      clear hne
      have hne : ((u11).heap.size) ≠ (w.heap.size + 1) := by have h1 := Lyt.out; omega
      have By_29 := Lib.hid (((By_28.out.other ⟨(u11).heap.size, 0, none⟩ hne (.int .i64 U0')).other ⟨(u11).heap.size, 1, none⟩ hne (.int .i64 U1')).other ⟨(u11).heap.size, 2, none⟩ hne (.string ⟨U2'.toArray⟩))
      clear hne
      have hne : ((u11).heap.size) ≠ (w.heap.size + 1 + 1) := by have h1 := Lzt.out; omega
      have Bz_29 := Lib.hid (((Bz_28.out.other ⟨(u11).heap.size, 0, none⟩ hne (.int .i64 U0')).other ⟨(u11).heap.size, 1, none⟩ hne (.int .i64 U1')).other ⟨(u11).heap.size, 2, none⟩ hne (.string ⟨U2'.toArray⟩))
      clear hne
      have hne : ((u11).heap.size) ≠ ((u5).heap.size) := by have h1 := Lat.out; omega
      have Ba_29 := Lib.hid (((Ba_28.out.other ⟨(u11).heap.size, 0, none⟩ hne (.int .i64 U0')).other ⟨(u11).heap.size, 1, none⟩ hne (.int .i64 U1')).other ⟨(u11).heap.size, 2, none⟩ hne (.string ⟨U2'.toArray⟩))
      clear hne
      have hne : ((u11).heap.size) ≠ ((u6).heap.size) := by have h1 := Lbt.out; omega
      have Bb_29 := Lib.hid (((Bb_28.out.other ⟨(u11).heap.size, 0, none⟩ hne (.int .i64 U0')).other ⟨(u11).heap.size, 1, none⟩ hne (.int .i64 U1')).other ⟨(u11).heap.size, 2, none⟩ hne (.string ⟨U2'.toArray⟩))
      clear hne
      have hne : ((u11).heap.size) ≠ ((u7).heap.size) := by have h1 := Lpt.out; omega
      have Bp_29 := Lib.hid (((Bp_28.out.other ⟨(u11).heap.size, 0, none⟩ hne (.int .i64 U0')).other ⟨(u11).heap.size, 1, none⟩ hne (.int .i64 U1')).other ⟨(u11).heap.size, 2, none⟩ hne (.string ⟨U2'.toArray⟩))
      clear hne
      have hne : ((u11).heap.size) ≠ ((u8).heap.size) := by have h1 := Lqt.out; omega
      have Bq_29 := Lib.hid (((Bq_28.out.other ⟨(u11).heap.size, 0, none⟩ hne (.int .i64 U0')).other ⟨(u11).heap.size, 1, none⟩ hne (.int .i64 U1')).other ⟨(u11).heap.size, 2, none⟩ hne (.string ⟨U2'.toArray⟩))
      clear hne
      have hne : ((u11).heap.size) ≠ ((u9).heap.size) := by have h1 := Lct.out; omega
      have Bc_29 := Lib.hid (((Bc_28.out.other ⟨(u11).heap.size, 0, none⟩ hne (.int .i64 U0')).other ⟨(u11).heap.size, 1, none⟩ hne (.int .i64 U1')).other ⟨(u11).heap.size, 2, none⟩ hne (.string ⟨U2'.toArray⟩))
      clear hne
      have hne : ((u11).heap.size) ≠ ((u10).heap.size) := by have h1 := Lot.out; omega
      have Bo_29 := Lib.hid (((Bo_28.out.other ⟨(u11).heap.size, 0, none⟩ hne (.int .i64 U0')).other ⟨(u11).heap.size, 1, none⟩ hne (.int .i64 U1')).other ⟨(u11).heap.size, 2, none⟩ hne (.string ⟨U2'.toArray⟩))
      clear hne
      have Bt_29 := Lib.hid (Bt_28.out.put (.int .i64 U0') (.int .i64 U1') (.string ⟨U2'.toArray⟩))
      have hne : ((u11).heap.size) ≠ ((u12).heap.size) := by have h1 := Ltk.out; omega
      have Bk_29 := Lib.hid (((Bk_28.out.other ⟨(u11).heap.size, 0, none⟩ hne (.int .i64 U0')).other ⟨(u11).heap.size, 1, none⟩ hne (.int .i64 U1')).other ⟨(u11).heap.size, 2, none⟩ hne (.string ⟨U2'.toArray⟩))
      clear hne
      have hne : ((u11).heap.size) ≠ ((u13).heap.size) := by have h1 := Ltr.out; omega
      have Br_29 := Lib.hid (((Br_28.out.other ⟨(u11).heap.size, 0, none⟩ hne (.int .i64 U0')).other ⟨(u11).heap.size, 1, none⟩ hne (.int .i64 U1')).other ⟨(u11).heap.size, 2, none⟩ hne (.string ⟨U2'.toArray⟩))
      clear hne
      have hle : w.heap.size ≤ (u11).heap.size := by have h1 := Lxt.out; omega
      have H_29 := Lib.hid (below_put3 H_28.out hle (.int .i64 U0') (.int .i64 U1') (.string ⟨U2'.toArray⟩))
      clear hle H_28 Bx_28 By_28 Bz_28 Ba_28 Bb_28 Bp_28 Bq_28 Bc_28 Bo_28 Bt_28 Bk_28 Br_28
      go_upto_region 21 with fail
      clear st17c0 st17f0 st17c1 st17f1 st17c2 st17f2
      go_cut [171] from 153 to 172 (fun p171 wx => p171 = .bool false ∧ (((u16).setCell ⟨(u11).heap.size, 0, none⟩ (.int .i64 U0')).setCell ⟨(u11).heap.size, 1, none⟩ (.int .i64 U1')).setCell ⟨(u11).heap.size, 2, none⟩ (.string ⟨U2'.toArray⟩) = wx)
      case first =>
        have qo0 := Bo_29.out.c0
        have qo1 := Bo_29.out.c1
        have qo2 := Bo_29.out.c2
        have qt0 := Bt_29.out.c0
        have qt1 := Bt_29.out.c1
        have qt2 := Bt_29.out.c2
        rcases Hsp.out.two with rfl | rfl <;> rcases Hsr.out.two with rfl | rfl
        · obtain ⟨rfl, rfl, rfl, rfl⟩ := (Hso'.out _ _ Hsp.out.ok h'').same (Int.mul_assoc x y z ▸ Hst'.out _ _ h Hsr.out.ok)
          rcases (Hso'.out _ _ Hsp.out.ok h'').two with rfl | rfl <;> (go_wp2_with fail; go_meet; exact ⟨rfl, rfl⟩)
        all_goals (go_wp2_with fail; go_meet; exact ⟨rfl, rfl⟩)
      case rest =>
        obtain ⟨rfl, rfl⟩ := hcut
        have qx0 := Bx_29.out.c0
        have qx1 := Bx_29.out.c1
        have qx2 := Bx_29.out.c2
        have qz0 := Bz_29.out.c0
        have qz1 := Bz_29.out.c1
        have qz2 := Bz_29.out.c2
        go_wp2_with fail
        clear qx0 qx1 qx2 qz0 qz1 qz2
        have hc := Mul_any h h'' Hss.out rfl ((((u16).setCell ⟨(u11).heap.size, 0, none⟩ (.int .i64 U0')).setCell ⟨(u11).heap.size, 1, none⟩ (.int .i64 U1')).setCell ⟨(u11).heap.size, 2, none⟩ (.string ⟨U2'.toArray⟩)) (hw.below H_29.out)
        unfold valV at hc
        refine hc.mono ?_
        rintro e u18 ⟨rfl, hb⟩
        clear hc
        have Bx_30 := Lib.hid (Bx_29.out.below hb Bx_29.out.lt)
        have By_30 := Lib.hid (By_29.out.below hb By_29.out.lt)
        have Bz_30 := Lib.hid (Bz_29.out.below hb Bz_29.out.lt)
        have Ba_30 := Lib.hid (Ba_29.out.below hb Ba_29.out.lt)
        have Bb_30 := Lib.hid (Bb_29.out.below hb Bb_29.out.lt)
        have Bp_30 := Lib.hid (Bp_29.out.below hb Bp_29.out.lt)
        have Bq_30 := Lib.hid (Bq_29.out.below hb Bq_29.out.lt)
        have Bc_30 := Lib.hid (Bc_29.out.below hb Bc_29.out.lt)
        have Bo_30 := Lib.hid (Bo_29.out.below hb Bo_29.out.lt)
        have Bt_30 := Lib.hid (Bt_29.out.below hb Bt_29.out.lt)
        have Bk_30 := Lib.hid (Bk_29.out.below hb Bk_29.out.lt)
        have Br_30 := Lib.hid (Br_29.out.below hb Br_29.out.lt)
        have H_30 := Lib.hid (H_29.out.trans (hb.mono H_29.out.size))
        clear hb H_29 Bx_29 By_29 Bz_29 Ba_29 Bb_29 Bp_29 Bq_29 Bc_29 Bo_29 Bt_29 Bk_29 Br_29
        have hb : Below (u18).heap.size (u18) ((u18).alloc (.cells #[.int .i64 S0, .int .i64 S1, .string ⟨S2.toArray⟩] 23)) := (Below.refl _ (u18)).alloc (Nat.le_refl _) _
        have Las := Lib.hid Ba_30.out.lt
        have Lbs := Lib.hid Bb_30.out.lt
        have Lps := Lib.hid Bp_30.out.lt
        have Lqs := Lib.hid Bq_30.out.lt
        have Lcs := Lib.hid Bc_30.out.lt
        have Los := Lib.hid Bo_30.out.lt
        have Lts := Lib.hid Bt_30.out.lt
        have Lks := Lib.hid Bk_30.out.lt
        have Lrs := Lib.hid Br_30.out.lt
        have Lxs := Lib.hid Bx_30.out.lt
        have Lys := Lib.hid By_30.out.lt
        have Lzs := Lib.hid Bz_30.out.lt
        have Bnew := VB.new (u18) (.int .i64 S0) (.int .i64 S1) (.string ⟨S2.toArray⟩)
        try simp only [World.size_alloc] at Bnew
        have Bx_31 := Lib.hid (Bx_30.out.below hb Bx_30.out.lt)
        have By_31 := Lib.hid (By_30.out.below hb By_30.out.lt)
        have Bz_31 := Lib.hid (Bz_30.out.below hb Bz_30.out.lt)
        have Ba_31 := Lib.hid (Ba_30.out.below hb Ba_30.out.lt)
        have Bb_31 := Lib.hid (Bb_30.out.below hb Bb_30.out.lt)
        have Bp_31 := Lib.hid (Bp_30.out.below hb Bp_30.out.lt)
        have Bq_31 := Lib.hid (Bq_30.out.below hb Bq_30.out.lt)
        have Bc_31 := Lib.hid (Bc_30.out.below hb Bc_30.out.lt)
        have Bo_31 := Lib.hid (Bo_30.out.below hb Bo_30.out.lt)
        have Bt_31 := Lib.hid (Bt_30.out.below hb Bt_30.out.lt)
        have Bk_31 := Lib.hid (Bk_30.out.below hb Bk_30.out.lt)
        have Br_31 := Lib.hid (Br_30.out.below hb Br_30.out.lt)
        have H_31 := Lib.hid (H_30.out.trans (hb.mono H_30.out.size))
        clear hb H_30 Bx_30 By_30 Bz_30 Ba_30 Bb_30 Bp_30 Bq_30 Bc_30 Bo_30 Bt_30 Bk_30 Br_30
        have Bs_31 := Lib.hid Bnew
        clear Bnew
        have qx0 := Bx_31.out.c0
        have qx1 := Bx_31.out.c1
        have qx2 := Bx_31.out.c2
        have qc0 := Bc_31.out.c0
        have qc1 := Bc_31.out.c1
        have qc2 := Bc_31.out.c2
        go_wp2_with fail
        clear qx0 qx1 qx2 qc0 qc1 qc2
        have hc := Hho''.out.2 ((u18).alloc (.cells #[.int .i64 S0, .int .i64 S1, .string ⟨S2.toArray⟩] 23)) (hw.below H_31.out)
        unfold valV at hc
        refine hc.mono ?_
        rintro e u19 ⟨rfl, hb⟩
        clear hc
        have Bx_32 := Lib.hid (Bx_31.out.below hb Bx_31.out.lt)
        have By_32 := Lib.hid (By_31.out.below hb By_31.out.lt)
        have Bz_32 := Lib.hid (Bz_31.out.below hb Bz_31.out.lt)
        have Ba_32 := Lib.hid (Ba_31.out.below hb Ba_31.out.lt)
        have Bb_32 := Lib.hid (Bb_31.out.below hb Bb_31.out.lt)
        have Bp_32 := Lib.hid (Bp_31.out.below hb Bp_31.out.lt)
        have Bq_32 := Lib.hid (Bq_31.out.below hb Bq_31.out.lt)
        have Bc_32 := Lib.hid (Bc_31.out.below hb Bc_31.out.lt)
        have Bo_32 := Lib.hid (Bo_31.out.below hb Bo_31.out.lt)
        have Bt_32 := Lib.hid (Bt_31.out.below hb Bt_31.out.lt)
        have Bk_32 := Lib.hid (Bk_31.out.below hb Bk_31.out.lt)
        have Br_32 := Lib.hid (Br_31.out.below hb Br_31.out.lt)
        have Bs_32 := Lib.hid (Bs_31.out.below hb Bs_31.out.lt)
        have H_32 := Lib.hid (H_31.out.trans (hb.mono H_31.out.size))
        clear hb H_31 Bx_31 By_31 Bz_31 Ba_31 Bb_31 Bp_31 Bq_31 Bc_31 Bo_31 Bt_31 Bk_31 Br_31 Bs_31
        have st20c0 := Bo_32.out.c0
        have st20f0 := Bo_32.out.fz 0
        have st20c1 := Bo_32.out.c1
        have st20f1 := Bo_32.out.fz 1
        have st20c2 := Bo_32.out.c2
        have st20f2 := Bo_32.out.fz 2
        have hne : ((u10).heap.size) ≠ (w.heap.size) := by have h1 := Lxo.out; omega
        have Bx_33 := Lib.hid (((Bx_32.out.other ⟨(u10).heap.size, 0, none⟩ hne (.int .i64 O0'')).other ⟨(u10).heap.size, 1, none⟩ hne (.int .i64 O1'')).other ⟨(u10).heap.size, 2, none⟩ hne (.string ⟨O2''.toArray⟩))
        clear hne
        have hne : ((u10).heap.size) ≠ (w.heap.size + 1) := by have h1 := Lyo.out; omega
        have By_33 := Lib.hid (((By_32.out.other ⟨(u10).heap.size, 0, none⟩ hne (.int .i64 O0'')).other ⟨(u10).heap.size, 1, none⟩ hne (.int .i64 O1'')).other ⟨(u10).heap.size, 2, none⟩ hne (.string ⟨O2''.toArray⟩))
        clear hne
        have hne : ((u10).heap.size) ≠ (w.heap.size + 1 + 1) := by have h1 := Lzo.out; omega
        have Bz_33 := Lib.hid (((Bz_32.out.other ⟨(u10).heap.size, 0, none⟩ hne (.int .i64 O0'')).other ⟨(u10).heap.size, 1, none⟩ hne (.int .i64 O1'')).other ⟨(u10).heap.size, 2, none⟩ hne (.string ⟨O2''.toArray⟩))
        clear hne
        have hne : ((u10).heap.size) ≠ ((u5).heap.size) := by have h1 := Lao.out; omega
        have Ba_33 := Lib.hid (((Ba_32.out.other ⟨(u10).heap.size, 0, none⟩ hne (.int .i64 O0'')).other ⟨(u10).heap.size, 1, none⟩ hne (.int .i64 O1'')).other ⟨(u10).heap.size, 2, none⟩ hne (.string ⟨O2''.toArray⟩))
        clear hne
        have hne : ((u10).heap.size) ≠ ((u6).heap.size) := by have h1 := Lbo.out; omega
        have Bb_33 := Lib.hid (((Bb_32.out.other ⟨(u10).heap.size, 0, none⟩ hne (.int .i64 O0'')).other ⟨(u10).heap.size, 1, none⟩ hne (.int .i64 O1'')).other ⟨(u10).heap.size, 2, none⟩ hne (.string ⟨O2''.toArray⟩))
        clear hne
        have hne : ((u10).heap.size) ≠ ((u7).heap.size) := by have h1 := Lpo.out; omega
        have Bp_33 := Lib.hid (((Bp_32.out.other ⟨(u10).heap.size, 0, none⟩ hne (.int .i64 O0'')).other ⟨(u10).heap.size, 1, none⟩ hne (.int .i64 O1'')).other ⟨(u10).heap.size, 2, none⟩ hne (.string ⟨O2''.toArray⟩))
        clear hne
        have hne : ((u10).heap.size) ≠ ((u8).heap.size) := by have h1 := Lqo.out; omega
        have Bq_33 := Lib.hid (((Bq_32.out.other ⟨(u10).heap.size, 0, none⟩ hne (.int .i64 O0'')).other ⟨(u10).heap.size, 1, none⟩ hne (.int .i64 O1'')).other ⟨(u10).heap.size, 2, none⟩ hne (.string ⟨O2''.toArray⟩))
        clear hne
        have hne : ((u10).heap.size) ≠ ((u9).heap.size) := by have h1 := Lco.out; omega
        have Bc_33 := Lib.hid (((Bc_32.out.other ⟨(u10).heap.size, 0, none⟩ hne (.int .i64 O0'')).other ⟨(u10).heap.size, 1, none⟩ hne (.int .i64 O1'')).other ⟨(u10).heap.size, 2, none⟩ hne (.string ⟨O2''.toArray⟩))
        clear hne
        have Bo_33 := Lib.hid (Bo_32.out.put (.int .i64 O0'') (.int .i64 O1'') (.string ⟨O2''.toArray⟩))
        have hne : ((u10).heap.size) ≠ ((u11).heap.size) := by have h1 := Lot.out; omega
        have Bt_33 := Lib.hid (((Bt_32.out.other ⟨(u10).heap.size, 0, none⟩ hne (.int .i64 O0'')).other ⟨(u10).heap.size, 1, none⟩ hne (.int .i64 O1'')).other ⟨(u10).heap.size, 2, none⟩ hne (.string ⟨O2''.toArray⟩))
        clear hne
        have hne : ((u10).heap.size) ≠ ((u12).heap.size) := by have h1 := Lok.out; omega
        have Bk_33 := Lib.hid (((Bk_32.out.other ⟨(u10).heap.size, 0, none⟩ hne (.int .i64 O0'')).other ⟨(u10).heap.size, 1, none⟩ hne (.int .i64 O1'')).other ⟨(u10).heap.size, 2, none⟩ hne (.string ⟨O2''.toArray⟩))
        clear hne
        have hne : ((u10).heap.size) ≠ ((u13).heap.size) := by have h1 := Lor.out; omega
        have Br_33 := Lib.hid (((Br_32.out.other ⟨(u10).heap.size, 0, none⟩ hne (.int .i64 O0'')).other ⟨(u10).heap.size, 1, none⟩ hne (.int .i64 O1'')).other ⟨(u10).heap.size, 2, none⟩ hne (.string ⟨O2''.toArray⟩))
        clear hne
        have hne : ((u10).heap.size) ≠ ((u18).heap.size) := by have h1 := Los.out; omega
        have Bs_33 := Lib.hid (((Bs_32.out.other ⟨(u10).heap.size, 0, none⟩ hne (.int .i64 O0'')).other ⟨(u10).heap.size, 1, none⟩ hne (.int .i64 O1'')).other ⟨(u10).heap.size, 2, none⟩ hne (.string ⟨O2''.toArray⟩))
        clear hne
        have hle : w.heap.size ≤ (u10).heap.size := by have h1 := Lxo.out; omega
        have H_33 := Lib.hid (below_put3 H_32.out hle (.int .i64 O0'') (.int .i64 O1'') (.string ⟨O2''.toArray⟩))
        clear hle H_32 Bx_32 By_32 Bz_32 Ba_32 Bb_32 Bp_32 Bq_32 Bc_32 Bo_32 Bt_32 Bk_32 Br_32 Bs_32
        have qp0 := Bp_33.out.c0
        have qp1 := Bp_33.out.c1
        have qp2 := Bp_33.out.c2
        have qs0 := Bs_33.out.c0
        have qs1 := Bs_33.out.c1
        have qs2 := Bs_33.out.c2
        go_wp2_with fail
        clear qp0 qp1 qp2 qs0 qs1 qs2
        clear st20c0 st20f0 st20c1 st20f1 st20c2 st20f2
        have hc := Hht''.out.2 ((((u19).setCell ⟨(u10).heap.size, 0, none⟩ (.int .i64 O0'')).setCell ⟨(u10).heap.size, 1, none⟩ (.int .i64 O1'')).setCell ⟨(u10).heap.size, 2, none⟩ (.string ⟨O2''.toArray⟩)) (hw.below H_33.out)
        unfold valV at hc
        refine hc.mono ?_
        rintro e u21 ⟨rfl, hb⟩
        clear hc
        have Bx_34 := Lib.hid (Bx_33.out.below hb Bx_33.out.lt)
        have By_34 := Lib.hid (By_33.out.below hb By_33.out.lt)
        have Bz_34 := Lib.hid (Bz_33.out.below hb Bz_33.out.lt)
        have Ba_34 := Lib.hid (Ba_33.out.below hb Ba_33.out.lt)
        have Bb_34 := Lib.hid (Bb_33.out.below hb Bb_33.out.lt)
        have Bp_34 := Lib.hid (Bp_33.out.below hb Bp_33.out.lt)
        have Bq_34 := Lib.hid (Bq_33.out.below hb Bq_33.out.lt)
        have Bc_34 := Lib.hid (Bc_33.out.below hb Bc_33.out.lt)
        have Bo_34 := Lib.hid (Bo_33.out.below hb Bo_33.out.lt)
        have Bt_34 := Lib.hid (Bt_33.out.below hb Bt_33.out.lt)
        have Bk_34 := Lib.hid (Bk_33.out.below hb Bk_33.out.lt)
        have Br_34 := Lib.hid (Br_33.out.below hb Br_33.out.lt)
        have Bs_34 := Lib.hid (Bs_33.out.below hb Bs_33.out.lt)
        have H_34 := Lib.hid (H_33.out.trans (hb.mono H_33.out.size))
        clear hb H_33 Bx_33 By_33 Bz_33 Ba_33 Bb_33 Bp_33 Bq_33 Bc_33 Bo_33 Bt_33 Bk_33 Br_33 Bs_33
        have st22c0 := Bt_34.out.c0
        have st22f0 := Bt_34.out.fz 0
        have st22c1 := Bt_34.out.c1
        have st22f1 := Bt_34.out.fz 1
        have st22c2 := Bt_34.out.c2
        have st22f2 := Bt_34.out.fz 2
        have hne : ((u11).heap.size) ≠ (w.heap.size) := by have h1 := Lxt.out; omega
        have Bx_35 := Lib.hid (((Bx_34.out.other ⟨(u11).heap.size, 0, none⟩ hne (.int .i64 U0'')).other ⟨(u11).heap.size, 1, none⟩ hne (.int .i64 U1'')).other ⟨(u11).heap.size, 2, none⟩ hne (.string ⟨U2''.toArray⟩))
        clear hne
        have hne : ((u11).heap.size) ≠ (w.heap.size + 1) := by have h1 := Lyt.out; omega
        have By_35 := Lib.hid (((By_34.out.other ⟨(u11).heap.size, 0, none⟩ hne (.int .i64 U0'')).other ⟨(u11).heap.size, 1, none⟩ hne (.int .i64 U1'')).other ⟨(u11).heap.size, 2, none⟩ hne (.string ⟨U2''.toArray⟩))
        clear hne
        have hne : ((u11).heap.size) ≠ (w.heap.size + 1 + 1) := by have h1 := Lzt.out; omega
        have Bz_35 := Lib.hid (((Bz_34.out.other ⟨(u11).heap.size, 0, none⟩ hne (.int .i64 U0'')).other ⟨(u11).heap.size, 1, none⟩ hne (.int .i64 U1'')).other ⟨(u11).heap.size, 2, none⟩ hne (.string ⟨U2''.toArray⟩))
        clear hne
        have hne : ((u11).heap.size) ≠ ((u5).heap.size) := by have h1 := Lat.out; omega
        have Ba_35 := Lib.hid (((Ba_34.out.other ⟨(u11).heap.size, 0, none⟩ hne (.int .i64 U0'')).other ⟨(u11).heap.size, 1, none⟩ hne (.int .i64 U1'')).other ⟨(u11).heap.size, 2, none⟩ hne (.string ⟨U2''.toArray⟩))
        clear hne
        have hne : ((u11).heap.size) ≠ ((u6).heap.size) := by have h1 := Lbt.out; omega
        have Bb_35 := Lib.hid (((Bb_34.out.other ⟨(u11).heap.size, 0, none⟩ hne (.int .i64 U0'')).other ⟨(u11).heap.size, 1, none⟩ hne (.int .i64 U1'')).other ⟨(u11).heap.size, 2, none⟩ hne (.string ⟨U2''.toArray⟩))
        clear hne
        have hne : ((u11).heap.size) ≠ ((u7).heap.size) := by have h1 := Lpt.out; omega
        have Bp_35 := Lib.hid (((Bp_34.out.other ⟨(u11).heap.size, 0, none⟩ hne (.int .i64 U0'')).other ⟨(u11).heap.size, 1, none⟩ hne (.int .i64 U1'')).other ⟨(u11).heap.size, 2, none⟩ hne (.string ⟨U2''.toArray⟩))
        clear hne
        have hne : ((u11).heap.size) ≠ ((u8).heap.size) := by have h1 := Lqt.out; omega
        have Bq_35 := Lib.hid (((Bq_34.out.other ⟨(u11).heap.size, 0, none⟩ hne (.int .i64 U0'')).other ⟨(u11).heap.size, 1, none⟩ hne (.int .i64 U1'')).other ⟨(u11).heap.size, 2, none⟩ hne (.string ⟨U2''.toArray⟩))
        clear hne
        have hne : ((u11).heap.size) ≠ ((u9).heap.size) := by have h1 := Lct.out; omega
        have Bc_35 := Lib.hid (((Bc_34.out.other ⟨(u11).heap.size, 0, none⟩ hne (.int .i64 U0'')).other ⟨(u11).heap.size, 1, none⟩ hne (.int .i64 U1'')).other ⟨(u11).heap.size, 2, none⟩ hne (.string ⟨U2''.toArray⟩))
        clear hne
        have hne : ((u11).heap.size) ≠ ((u10).heap.size) := by have h1 := Lot.out; omega
        have Bo_35 := Lib.hid (((Bo_34.out.other ⟨(u11).heap.size, 0, none⟩ hne (.int .i64 U0'')).other ⟨(u11).heap.size, 1, none⟩ hne (.int .i64 U1'')).other ⟨(u11).heap.size, 2, none⟩ hne (.string ⟨U2''.toArray⟩))
        clear hne
        have Bt_35 := Lib.hid (Bt_34.out.put (.int .i64 U0'') (.int .i64 U1'') (.string ⟨U2''.toArray⟩))
        have hne : ((u11).heap.size) ≠ ((u12).heap.size) := by have h1 := Ltk.out; omega
        have Bk_35 := Lib.hid (((Bk_34.out.other ⟨(u11).heap.size, 0, none⟩ hne (.int .i64 U0'')).other ⟨(u11).heap.size, 1, none⟩ hne (.int .i64 U1'')).other ⟨(u11).heap.size, 2, none⟩ hne (.string ⟨U2''.toArray⟩))
        clear hne
        have hne : ((u11).heap.size) ≠ ((u13).heap.size) := by have h1 := Ltr.out; omega
        have Br_35 := Lib.hid (((Br_34.out.other ⟨(u11).heap.size, 0, none⟩ hne (.int .i64 U0'')).other ⟨(u11).heap.size, 1, none⟩ hne (.int .i64 U1'')).other ⟨(u11).heap.size, 2, none⟩ hne (.string ⟨U2''.toArray⟩))
        clear hne
        have hne : ((u11).heap.size) ≠ ((u18).heap.size) := by have h1 := Lts.out; omega
        have Bs_35 := Lib.hid (((Bs_34.out.other ⟨(u11).heap.size, 0, none⟩ hne (.int .i64 U0'')).other ⟨(u11).heap.size, 1, none⟩ hne (.int .i64 U1'')).other ⟨(u11).heap.size, 2, none⟩ hne (.string ⟨U2''.toArray⟩))
        clear hne
        have hle : w.heap.size ≤ (u11).heap.size := by have h1 := Lxt.out; omega
        have H_35 := Lib.hid (below_put3 H_34.out hle (.int .i64 U0'') (.int .i64 U1'') (.string ⟨U2''.toArray⟩))
        clear hle H_34 Bx_34 By_34 Bz_34 Ba_34 Bb_34 Bp_34 Bq_34 Bc_34 Bo_34 Bt_34 Bk_34 Br_34 Bs_34
        have qo0 := Bo_35.out.c0
        have qo1 := Bo_35.out.c1
        have qo2 := Bo_35.out.c2
        have qt0 := Bt_35.out.c0
        have qt1 := Bt_35.out.c1
        have qt2 := Bt_35.out.c2
        rcases Hsc.out.two with rfl | rfl
        · rcases Hsp.out.two with rfl | rfl
          · rcases Hss.out.two with rfl | rfl
            · obtain ⟨rfl, rfl, rfl, rfl⟩ := (Hso''.out _ _ h Hsc.out.ok).same (ring_dist x y z ▸ Hst''.out _ _ Hsp.out.ok Hss.out.ok)
              rcases (Hso''.out _ _ h Hsc.out.ok).two with rfl | rfl
              · go_wp2_with fail
                go_ret
                exact ⟨rfl, H_35.out⟩
              · go_wp2_with fail
                go_ret
                exact ⟨rfl, H_35.out⟩
            · go_wp2_with fail
              go_ret
              exact ⟨rfl, H_35.out⟩
          · go_wp2_with fail
            go_ret
            exact ⟨rfl, H_35.out⟩
        · go_wp2_with fail
          go_ret
          exact ⟨rfl, H_35.out⟩

set_option maxHeartbeats 8000000 in
theorem ring_no (K N K' N' K'' N'' : Int) (T T' T'' : List UInt8) (hx : T.length ≤ 800) (hy : T'.length ≤ 800) (hz : T''.length ≤ 800) (h : (∀ z, ¬ IsNum K N T z) ∨ ∀ z, ¬ IsNum K' N' T' z) (hN : In64Z N) (hN' : In64Z N') (hN'' : In64Z N'') (w : World) (hw : Wd w) :
    Calls Tryz.prog 7 #[valV K N T, valV K' N' T', valV K'' N'' T''] w fun e w' => e = .returned (.bool true) ∧ Below w.heap.size w w' := by
  obtain ⟨C0, C1, C2, F, hc, -⟩ := Add_gen K' N' K'' N'' T' T'' hN' hN''
  obtain ⟨R0, R1, R2, D, hr, -⟩ := Mul_gen K' N' K'' N'' T' T'' hN' hN''
  obtain ⟨S0, S1, S2, M, hs, -⟩ := Mul_gen K N K'' N'' T T'' hN hN''
  obtain ⟨U0, U1, U2, J, ht, -⟩ := Add_gen K N C0 C1 T C2 hN hc.1
  obtain ⟨U0', U1', U2', J', ht', -⟩ := Mul_gen K N R0 R1 T R2 hN hr.1
  obtain ⟨O0'', O1'', O2'', I'', ho'', -⟩ := Mul_gen K N C0 C1 T C2 hN hc.1
  have Hhc := Lib.hid hc
  have Hhr := Lib.hid hr
  have Hhs := Lib.hid hs
  have Hht := Lib.hid ht
  have Hht' := Lib.hid ht'
  have Hho'' := Lib.hid ho''
  clear hc hr hs ht ht' ho''
  have i0 : In64Z 0 := in64 (by decide) (by decide)
  have H_0 := Lib.hid (Below.refl w.heap.size w)
  unfold valV
  go_enter Tryz.func7, Tryz.ntmps7
  have hb : Below (w).heap.size (w) ((w).alloc (.cells #[.int .i64 K, .int .i64 N, .string ⟨T.toArray⟩] 23)) := (Below.refl _ (w)).alloc (Nat.le_refl _) _
  have Bnew := VB.new (w) (.int .i64 K) (.int .i64 N) (.string ⟨T.toArray⟩)
  try simp only [World.size_alloc] at Bnew
  have H_1 := Lib.hid (H_0.out.trans (hb.mono H_0.out.size))
  clear hb H_0
  have Bx_1 := Lib.hid Bnew
  clear Bnew
  have hb : Below ((w).alloc (.cells #[.int .i64 K, .int .i64 N, .string ⟨T.toArray⟩] 23)).heap.size ((w).alloc (.cells #[.int .i64 K, .int .i64 N, .string ⟨T.toArray⟩] 23)) (((w).alloc (.cells #[.int .i64 K, .int .i64 N, .string ⟨T.toArray⟩] 23)).alloc (.cells #[.int .i64 K', .int .i64 N', .string ⟨T'.toArray⟩] 23)) := (Below.refl _ ((w).alloc (.cells #[.int .i64 K, .int .i64 N, .string ⟨T.toArray⟩] 23))).alloc (Nat.le_refl _) _
  have Bnew := VB.new ((w).alloc (.cells #[.int .i64 K, .int .i64 N, .string ⟨T.toArray⟩] 23)) (.int .i64 K') (.int .i64 N') (.string ⟨T'.toArray⟩)
  try simp only [World.size_alloc] at Bnew
  have Bx_2 := Lib.hid (Bx_1.out.below hb Bx_1.out.lt)
  have H_2 := Lib.hid (H_1.out.trans (hb.mono H_1.out.size))
  clear hb H_1 Bx_1
  have By_2 := Lib.hid Bnew
  clear Bnew
  have hb : Below (((w).alloc (.cells #[.int .i64 K, .int .i64 N, .string ⟨T.toArray⟩] 23)).alloc (.cells #[.int .i64 K', .int .i64 N', .string ⟨T'.toArray⟩] 23)).heap.size (((w).alloc (.cells #[.int .i64 K, .int .i64 N, .string ⟨T.toArray⟩] 23)).alloc (.cells #[.int .i64 K', .int .i64 N', .string ⟨T'.toArray⟩] 23)) ((((w).alloc (.cells #[.int .i64 K, .int .i64 N, .string ⟨T.toArray⟩] 23)).alloc (.cells #[.int .i64 K', .int .i64 N', .string ⟨T'.toArray⟩] 23)).alloc (.cells #[.int .i64 K'', .int .i64 N'', .string ⟨T''.toArray⟩] 23)) := (Below.refl _ (((w).alloc (.cells #[.int .i64 K, .int .i64 N, .string ⟨T.toArray⟩] 23)).alloc (.cells #[.int .i64 K', .int .i64 N', .string ⟨T'.toArray⟩] 23))).alloc (Nat.le_refl _) _
  have Bnew := VB.new (((w).alloc (.cells #[.int .i64 K, .int .i64 N, .string ⟨T.toArray⟩] 23)).alloc (.cells #[.int .i64 K', .int .i64 N', .string ⟨T'.toArray⟩] 23)) (.int .i64 K'') (.int .i64 N'') (.string ⟨T''.toArray⟩)
  try simp only [World.size_alloc] at Bnew
  have Bx_3 := Lib.hid (Bx_2.out.below hb Bx_2.out.lt)
  have By_3 := Lib.hid (By_2.out.below hb By_2.out.lt)
  have H_3 := Lib.hid (H_2.out.trans (hb.mono H_2.out.size))
  clear hb H_2 Bx_2 By_2
  have Bz_3 := Lib.hid Bnew
  clear Bnew
  go_wp2_with fail
  have hc := awake_c ((((w).alloc (.cells #[.int .i64 K, .int .i64 N, .string ⟨T.toArray⟩] 23)).alloc (.cells #[.int .i64 K', .int .i64 N', .string ⟨T'.toArray⟩] 23)).alloc (.cells #[.int .i64 K'', .int .i64 N'', .string ⟨T''.toArray⟩] 23)) (hw.below H_3.out)
  unfold valV at hc
  refine hc.mono ?_
  rintro e u1 ⟨rfl, hb⟩
  clear hc
  have Bx_4 := Lib.hid (Bx_3.out.below hb Bx_3.out.lt)
  have By_4 := Lib.hid (By_3.out.below hb By_3.out.lt)
  have Bz_4 := Lib.hid (Bz_3.out.below hb Bz_3.out.lt)
  have H_4 := Lib.hid (H_3.out.trans (hb.mono H_3.out.size))
  clear hb H_3 Bx_3 By_3 Bz_3
  have qx0 := Bx_4.out.c0
  have qx1 := Bx_4.out.c1
  have qx2 := Bx_4.out.c2
  go_wp2_with fail
  clear qx0 qx1 qx2
  have hc := short_yes K N T hx (u1)
  unfold valV at hc
  refine hc.mono ?_
  rintro e u2 ⟨rfl, hb⟩
  clear hc
  have Bx_5 := Lib.hid (Bx_4.out.below hb Bx_4.out.lt)
  have By_5 := Lib.hid (By_4.out.below hb By_4.out.lt)
  have Bz_5 := Lib.hid (Bz_4.out.below hb Bz_4.out.lt)
  have H_5 := Lib.hid (H_4.out.trans (hb.mono H_4.out.size))
  clear hb H_4 Bx_4 By_4 Bz_4
  have qy0 := By_5.out.c0
  have qy1 := By_5.out.c1
  have qy2 := By_5.out.c2
  go_wp2_with fail
  clear qy0 qy1 qy2
  have hc := short_yes K' N' T' hy (u2)
  unfold valV at hc
  refine hc.mono ?_
  rintro e u3 ⟨rfl, hb⟩
  clear hc
  have Bx_6 := Lib.hid (Bx_5.out.below hb Bx_5.out.lt)
  have By_6 := Lib.hid (By_5.out.below hb By_5.out.lt)
  have Bz_6 := Lib.hid (Bz_5.out.below hb Bz_5.out.lt)
  have H_6 := Lib.hid (H_5.out.trans (hb.mono H_5.out.size))
  clear hb H_5 Bx_5 By_5 Bz_5
  have qz0 := Bz_6.out.c0
  have qz1 := Bz_6.out.c1
  have qz2 := Bz_6.out.c2
  go_wp2_with fail
  clear qz0 qz1 qz2
  have hc := short_yes K'' N'' T'' hz (u3)
  unfold valV at hc
  refine hc.mono ?_
  rintro e u4 ⟨rfl, hb⟩
  clear hc
  have Bx_7 := Lib.hid (Bx_6.out.below hb Bx_6.out.lt)
  have By_7 := Lib.hid (By_6.out.below hb By_6.out.lt)
  have Bz_7 := Lib.hid (Bz_6.out.below hb Bz_6.out.lt)
  have H_7 := Lib.hid (H_6.out.trans (hb.mono H_6.out.size))
  clear hb H_6 Bx_6 By_6 Bz_6
  have qx0 := Bx_7.out.c0
  have qx1 := Bx_7.out.c1
  have qx2 := Bx_7.out.c2
  have qy0 := By_7.out.c0
  have qy1 := By_7.out.c1
  have qy2 := By_7.out.c2
  go_wp2_with fail
  clear qx0 qx1 qx2 qy0 qy1 qy2
  have hc := Add_no K N K' N' T T' h hN hN' (u4) (hw.below H_7.out)
  unfold valV at hc
  refine hc.mono ?_
  rintro e u5 ⟨rfl, hb⟩
  clear hc
  have Bx_8 := Lib.hid (Bx_7.out.below hb Bx_7.out.lt)
  have By_8 := Lib.hid (By_7.out.below hb By_7.out.lt)
  have Bz_8 := Lib.hid (Bz_7.out.below hb Bz_7.out.lt)
  have H_8 := Lib.hid (H_7.out.trans (hb.mono H_7.out.size))
  clear hb H_7 Bx_7 By_7 Bz_7
  have hb : Below (u5).heap.size (u5) ((u5).alloc (.cells #[.int .i64 0, .int .i64 0, .string ⟨#[]⟩] 23)) := (Below.refl _ (u5)).alloc (Nat.le_refl _) _
  have Lxa := Lib.hid Bx_8.out.lt
  have Lya := Lib.hid By_8.out.lt
  have Lza := Lib.hid Bz_8.out.lt
  have Bnew := VB.new (u5) (.int .i64 0) (.int .i64 0) (.string ⟨#[]⟩)
  try simp only [World.size_alloc] at Bnew
  have Bx_9 := Lib.hid (Bx_8.out.below hb Bx_8.out.lt)
  have By_9 := Lib.hid (By_8.out.below hb By_8.out.lt)
  have Bz_9 := Lib.hid (Bz_8.out.below hb Bz_8.out.lt)
  have H_9 := Lib.hid (H_8.out.trans (hb.mono H_8.out.size))
  clear hb H_8 Bx_8 By_8 Bz_8
  have Ba_9 := Lib.hid Bnew
  clear Bnew
  have qx0 := Bx_9.out.c0
  have qx1 := Bx_9.out.c1
  have qx2 := Bx_9.out.c2
  have qy0 := By_9.out.c0
  have qy1 := By_9.out.c1
  have qy2 := By_9.out.c2
  go_wp2_with fail
  clear qx0 qx1 qx2 qy0 qy1 qy2
  have hc := Add_no K' N' K N T' T h.symm hN' hN ((u5).alloc (.cells #[.int .i64 0, .int .i64 0, .string ⟨#[]⟩] 23)) (hw.below H_9.out)
  unfold valV at hc
  refine hc.mono ?_
  rintro e u6 ⟨rfl, hb⟩
  clear hc
  have Bx_10 := Lib.hid (Bx_9.out.below hb Bx_9.out.lt)
  have By_10 := Lib.hid (By_9.out.below hb By_9.out.lt)
  have Bz_10 := Lib.hid (Bz_9.out.below hb Bz_9.out.lt)
  have Ba_10 := Lib.hid (Ba_9.out.below hb Ba_9.out.lt)
  have H_10 := Lib.hid (H_9.out.trans (hb.mono H_9.out.size))
  clear hb H_9 Bx_9 By_9 Bz_9 Ba_9
  have hb : Below (u6).heap.size (u6) ((u6).alloc (.cells #[.int .i64 0, .int .i64 0, .string ⟨#[]⟩] 23)) := (Below.refl _ (u6)).alloc (Nat.le_refl _) _
  have Lab := Lib.hid Ba_10.out.lt
  have Lxb := Lib.hid Bx_10.out.lt
  have Lyb := Lib.hid By_10.out.lt
  have Lzb := Lib.hid Bz_10.out.lt
  have Bnew := VB.new (u6) (.int .i64 0) (.int .i64 0) (.string ⟨#[]⟩)
  try simp only [World.size_alloc] at Bnew
  have Bx_11 := Lib.hid (Bx_10.out.below hb Bx_10.out.lt)
  have By_11 := Lib.hid (By_10.out.below hb By_10.out.lt)
  have Bz_11 := Lib.hid (Bz_10.out.below hb Bz_10.out.lt)
  have Ba_11 := Lib.hid (Ba_10.out.below hb Ba_10.out.lt)
  have H_11 := Lib.hid (H_10.out.trans (hb.mono H_10.out.size))
  clear hb H_10 Bx_10 By_10 Bz_10 Ba_10
  have Bb_11 := Lib.hid Bnew
  clear Bnew
  have qx0 := Bx_11.out.c0
  have qx1 := Bx_11.out.c1
  have qx2 := Bx_11.out.c2
  have qy0 := By_11.out.c0
  have qy1 := By_11.out.c1
  have qy2 := By_11.out.c2
  go_wp2_with fail
  clear qx0 qx1 qx2 qy0 qy1 qy2
  have hc := Mul_no K N K' N' T T' h hN hN' ((u6).alloc (.cells #[.int .i64 0, .int .i64 0, .string ⟨#[]⟩] 23)) (hw.below H_11.out)
  unfold valV at hc
  refine hc.mono ?_
  rintro e u7 ⟨rfl, hb⟩
  clear hc
  have Bx_12 := Lib.hid (Bx_11.out.below hb Bx_11.out.lt)
  have By_12 := Lib.hid (By_11.out.below hb By_11.out.lt)
  have Bz_12 := Lib.hid (Bz_11.out.below hb Bz_11.out.lt)
  have Ba_12 := Lib.hid (Ba_11.out.below hb Ba_11.out.lt)
  have Bb_12 := Lib.hid (Bb_11.out.below hb Bb_11.out.lt)
  have H_12 := Lib.hid (H_11.out.trans (hb.mono H_11.out.size))
  clear hb H_11 Bx_11 By_11 Bz_11 Ba_11 Bb_11
  have hb : Below (u7).heap.size (u7) ((u7).alloc (.cells #[.int .i64 0, .int .i64 0, .string ⟨#[]⟩] 23)) := (Below.refl _ (u7)).alloc (Nat.le_refl _) _
  have Lap := Lib.hid Ba_12.out.lt
  have Lbp := Lib.hid Bb_12.out.lt
  have Lxp := Lib.hid Bx_12.out.lt
  have Lyp := Lib.hid By_12.out.lt
  have Lzp := Lib.hid Bz_12.out.lt
  have Bnew := VB.new (u7) (.int .i64 0) (.int .i64 0) (.string ⟨#[]⟩)
  try simp only [World.size_alloc] at Bnew
  have Bx_13 := Lib.hid (Bx_12.out.below hb Bx_12.out.lt)
  have By_13 := Lib.hid (By_12.out.below hb By_12.out.lt)
  have Bz_13 := Lib.hid (Bz_12.out.below hb Bz_12.out.lt)
  have Ba_13 := Lib.hid (Ba_12.out.below hb Ba_12.out.lt)
  have Bb_13 := Lib.hid (Bb_12.out.below hb Bb_12.out.lt)
  have H_13 := Lib.hid (H_12.out.trans (hb.mono H_12.out.size))
  clear hb H_12 Bx_12 By_12 Bz_12 Ba_12 Bb_12
  have Bp_13 := Lib.hid Bnew
  clear Bnew
  have qx0 := Bx_13.out.c0
  have qx1 := Bx_13.out.c1
  have qx2 := Bx_13.out.c2
  have qy0 := By_13.out.c0
  have qy1 := By_13.out.c1
  have qy2 := By_13.out.c2
  go_wp2_with fail
  clear qx0 qx1 qx2 qy0 qy1 qy2
  have hc := Mul_no K' N' K N T' T h.symm hN' hN ((u7).alloc (.cells #[.int .i64 0, .int .i64 0, .string ⟨#[]⟩] 23)) (hw.below H_13.out)
  unfold valV at hc
  refine hc.mono ?_
  rintro e u8 ⟨rfl, hb⟩
  clear hc
  have Bx_14 := Lib.hid (Bx_13.out.below hb Bx_13.out.lt)
  have By_14 := Lib.hid (By_13.out.below hb By_13.out.lt)
  have Bz_14 := Lib.hid (Bz_13.out.below hb Bz_13.out.lt)
  have Ba_14 := Lib.hid (Ba_13.out.below hb Ba_13.out.lt)
  have Bb_14 := Lib.hid (Bb_13.out.below hb Bb_13.out.lt)
  have Bp_14 := Lib.hid (Bp_13.out.below hb Bp_13.out.lt)
  have H_14 := Lib.hid (H_13.out.trans (hb.mono H_13.out.size))
  clear hb H_13 Bx_13 By_13 Bz_13 Ba_13 Bb_13 Bp_13
  have hb : Below (u8).heap.size (u8) ((u8).alloc (.cells #[.int .i64 0, .int .i64 0, .string ⟨#[]⟩] 23)) := (Below.refl _ (u8)).alloc (Nat.le_refl _) _
  have Laq := Lib.hid Ba_14.out.lt
  have Lbq := Lib.hid Bb_14.out.lt
  have Lpq := Lib.hid Bp_14.out.lt
  have Lxq := Lib.hid Bx_14.out.lt
  have Lyq := Lib.hid By_14.out.lt
  have Lzq := Lib.hid Bz_14.out.lt
  have Bnew := VB.new (u8) (.int .i64 0) (.int .i64 0) (.string ⟨#[]⟩)
  try simp only [World.size_alloc] at Bnew
  have Bx_15 := Lib.hid (Bx_14.out.below hb Bx_14.out.lt)
  have By_15 := Lib.hid (By_14.out.below hb By_14.out.lt)
  have Bz_15 := Lib.hid (Bz_14.out.below hb Bz_14.out.lt)
  have Ba_15 := Lib.hid (Ba_14.out.below hb Ba_14.out.lt)
  have Bb_15 := Lib.hid (Bb_14.out.below hb Bb_14.out.lt)
  have Bp_15 := Lib.hid (Bp_14.out.below hb Bp_14.out.lt)
  have H_15 := Lib.hid (H_14.out.trans (hb.mono H_14.out.size))
  clear hb H_14 Bx_14 By_14 Bz_14 Ba_14 Bb_14 Bp_14
  have Bq_15 := Lib.hid Bnew
  clear Bnew
  have qy0 := By_15.out.c0
  have qy1 := By_15.out.c1
  have qy2 := By_15.out.c2
  have qz0 := Bz_15.out.c0
  have qz1 := Bz_15.out.c1
  have qz2 := Bz_15.out.c2
  have qa0 := Ba_15.out.c0
  have qa1 := Ba_15.out.c1
  have qa2 := Ba_15.out.c2
  have qb0 := Bb_15.out.c0
  have qb1 := Bb_15.out.c1
  have qb2 := Bb_15.out.c2
  have qp0 := Bp_15.out.c0
  have qp1 := Bp_15.out.c1
  have qp2 := Bp_15.out.c2
  have qq0 := Bq_15.out.c0
  have qq1 := Bq_15.out.c1
  have qq2 := Bq_15.out.c2
  go_wp2_with fail
  clear qy0 qy1 qy2 qz0 qz1 qz2 qa0 qa1 qa2 qb0 qb1 qb2 qp0 qp1 qp2 qq0 qq1 qq2
  have hc := Hhc.out.2 ((u8).alloc (.cells #[.int .i64 0, .int .i64 0, .string ⟨#[]⟩] 23)) (hw.below H_15.out)
  unfold valV at hc
  refine hc.mono ?_
  rintro e u9 ⟨rfl, hb⟩
  clear hc
  have Bx_16 := Lib.hid (Bx_15.out.below hb Bx_15.out.lt)
  have By_16 := Lib.hid (By_15.out.below hb By_15.out.lt)
  have Bz_16 := Lib.hid (Bz_15.out.below hb Bz_15.out.lt)
  have Ba_16 := Lib.hid (Ba_15.out.below hb Ba_15.out.lt)
  have Bb_16 := Lib.hid (Bb_15.out.below hb Bb_15.out.lt)
  have Bp_16 := Lib.hid (Bp_15.out.below hb Bp_15.out.lt)
  have Bq_16 := Lib.hid (Bq_15.out.below hb Bq_15.out.lt)
  have H_16 := Lib.hid (H_15.out.trans (hb.mono H_15.out.size))
  clear hb H_15 Bx_15 By_15 Bz_15 Ba_15 Bb_15 Bp_15 Bq_15
  have hb : Below (u9).heap.size (u9) ((u9).alloc (.cells #[.int .i64 C0, .int .i64 C1, .string ⟨C2.toArray⟩] 23)) := (Below.refl _ (u9)).alloc (Nat.le_refl _) _
  have Lac := Lib.hid Ba_16.out.lt
  have Lbc := Lib.hid Bb_16.out.lt
  have Lpc := Lib.hid Bp_16.out.lt
  have Lqc := Lib.hid Bq_16.out.lt
  have Lxc := Lib.hid Bx_16.out.lt
  have Lyc := Lib.hid By_16.out.lt
  have Lzc := Lib.hid Bz_16.out.lt
  have Bnew := VB.new (u9) (.int .i64 C0) (.int .i64 C1) (.string ⟨C2.toArray⟩)
  try simp only [World.size_alloc] at Bnew
  have Bx_17 := Lib.hid (Bx_16.out.below hb Bx_16.out.lt)
  have By_17 := Lib.hid (By_16.out.below hb By_16.out.lt)
  have Bz_17 := Lib.hid (Bz_16.out.below hb Bz_16.out.lt)
  have Ba_17 := Lib.hid (Ba_16.out.below hb Ba_16.out.lt)
  have Bb_17 := Lib.hid (Bb_16.out.below hb Bb_16.out.lt)
  have Bp_17 := Lib.hid (Bp_16.out.below hb Bp_16.out.lt)
  have Bq_17 := Lib.hid (Bq_16.out.below hb Bq_16.out.lt)
  have H_17 := Lib.hid (H_16.out.trans (hb.mono H_16.out.size))
  clear hb H_16 Bx_16 By_16 Bz_16 Ba_16 Bb_16 Bp_16 Bq_16
  have Bc_17 := Lib.hid Bnew
  clear Bnew
  have qa0 := Ba_17.out.c0
  have qa1 := Ba_17.out.c1
  have qa2 := Ba_17.out.c2
  have qz0 := Bz_17.out.c0
  have qz1 := Bz_17.out.c1
  have qz2 := Bz_17.out.c2
  go_wp2_with fail
  clear qa0 qa1 qa2 qz0 qz1 qz2
  have hc := Add_no 0 0 K'' N'' [] T'' (.inl not_num) i0 hN'' ((u9).alloc (.cells #[.int .i64 C0, .int .i64 C1, .string ⟨C2.toArray⟩] 23)) (hw.below H_17.out)
  unfold valV at hc
  refine hc.mono ?_
  rintro e u10 ⟨rfl, hb⟩
  clear hc
  have Bx_18 := Lib.hid (Bx_17.out.below hb Bx_17.out.lt)
  have By_18 := Lib.hid (By_17.out.below hb By_17.out.lt)
  have Bz_18 := Lib.hid (Bz_17.out.below hb Bz_17.out.lt)
  have Ba_18 := Lib.hid (Ba_17.out.below hb Ba_17.out.lt)
  have Bb_18 := Lib.hid (Bb_17.out.below hb Bb_17.out.lt)
  have Bp_18 := Lib.hid (Bp_17.out.below hb Bp_17.out.lt)
  have Bq_18 := Lib.hid (Bq_17.out.below hb Bq_17.out.lt)
  have Bc_18 := Lib.hid (Bc_17.out.below hb Bc_17.out.lt)
  have H_18 := Lib.hid (H_17.out.trans (hb.mono H_17.out.size))
  clear hb H_17 Bx_17 By_17 Bz_17 Ba_17 Bb_17 Bp_17 Bq_17 Bc_17
  have hb : Below (u10).heap.size (u10) ((u10).alloc (.cells #[.int .i64 0, .int .i64 0, .string ⟨#[]⟩] 23)) := (Below.refl _ (u10)).alloc (Nat.le_refl _) _
  have Lao := Lib.hid Ba_18.out.lt
  have Lbo := Lib.hid Bb_18.out.lt
  have Lpo := Lib.hid Bp_18.out.lt
  have Lqo := Lib.hid Bq_18.out.lt
  have Lco := Lib.hid Bc_18.out.lt
  have Lxo := Lib.hid Bx_18.out.lt
  have Lyo := Lib.hid By_18.out.lt
  have Lzo := Lib.hid Bz_18.out.lt
  have Bnew := VB.new (u10) (.int .i64 0) (.int .i64 0) (.string ⟨#[]⟩)
  try simp only [World.size_alloc] at Bnew
  have Bx_19 := Lib.hid (Bx_18.out.below hb Bx_18.out.lt)
  have By_19 := Lib.hid (By_18.out.below hb By_18.out.lt)
  have Bz_19 := Lib.hid (Bz_18.out.below hb Bz_18.out.lt)
  have Ba_19 := Lib.hid (Ba_18.out.below hb Ba_18.out.lt)
  have Bb_19 := Lib.hid (Bb_18.out.below hb Bb_18.out.lt)
  have Bp_19 := Lib.hid (Bp_18.out.below hb Bp_18.out.lt)
  have Bq_19 := Lib.hid (Bq_18.out.below hb Bq_18.out.lt)
  have Bc_19 := Lib.hid (Bc_18.out.below hb Bc_18.out.lt)
  have H_19 := Lib.hid (H_18.out.trans (hb.mono H_18.out.size))
  clear hb H_18 Bx_18 By_18 Bz_18 Ba_18 Bb_18 Bp_18 Bq_18 Bc_18
  have Bo_19 := Lib.hid Bnew
  clear Bnew
  have qx0 := Bx_19.out.c0
  have qx1 := Bx_19.out.c1
  have qx2 := Bx_19.out.c2
  have qc0 := Bc_19.out.c0
  have qc1 := Bc_19.out.c1
  have qc2 := Bc_19.out.c2
  go_wp2_with fail
  clear qx0 qx1 qx2 qc0 qc1 qc2
  have hc := Hht.out.2 ((u10).alloc (.cells #[.int .i64 0, .int .i64 0, .string ⟨#[]⟩] 23)) (hw.below H_19.out)
  unfold valV at hc
  refine hc.mono ?_
  rintro e u11 ⟨rfl, hb⟩
  clear hc
  have Bx_20 := Lib.hid (Bx_19.out.below hb Bx_19.out.lt)
  have By_20 := Lib.hid (By_19.out.below hb By_19.out.lt)
  have Bz_20 := Lib.hid (Bz_19.out.below hb Bz_19.out.lt)
  have Ba_20 := Lib.hid (Ba_19.out.below hb Ba_19.out.lt)
  have Bb_20 := Lib.hid (Bb_19.out.below hb Bb_19.out.lt)
  have Bp_20 := Lib.hid (Bp_19.out.below hb Bp_19.out.lt)
  have Bq_20 := Lib.hid (Bq_19.out.below hb Bq_19.out.lt)
  have Bc_20 := Lib.hid (Bc_19.out.below hb Bc_19.out.lt)
  have Bo_20 := Lib.hid (Bo_19.out.below hb Bo_19.out.lt)
  have H_20 := Lib.hid (H_19.out.trans (hb.mono H_19.out.size))
  clear hb H_19 Bx_19 By_19 Bz_19 Ba_19 Bb_19 Bp_19 Bq_19 Bc_19 Bo_19
  have hb : Below (u11).heap.size (u11) ((u11).alloc (.cells #[.int .i64 U0, .int .i64 U1, .string ⟨U2.toArray⟩] 23)) := (Below.refl _ (u11)).alloc (Nat.le_refl _) _
  have Lat := Lib.hid Ba_20.out.lt
  have Lbt := Lib.hid Bb_20.out.lt
  have Lpt := Lib.hid Bp_20.out.lt
  have Lqt := Lib.hid Bq_20.out.lt
  have Lct := Lib.hid Bc_20.out.lt
  have Lot := Lib.hid Bo_20.out.lt
  have Lxt := Lib.hid Bx_20.out.lt
  have Lyt := Lib.hid By_20.out.lt
  have Lzt := Lib.hid Bz_20.out.lt
  have Bnew := VB.new (u11) (.int .i64 U0) (.int .i64 U1) (.string ⟨U2.toArray⟩)
  try simp only [World.size_alloc] at Bnew
  have Bx_21 := Lib.hid (Bx_20.out.below hb Bx_20.out.lt)
  have By_21 := Lib.hid (By_20.out.below hb By_20.out.lt)
  have Bz_21 := Lib.hid (Bz_20.out.below hb Bz_20.out.lt)
  have Ba_21 := Lib.hid (Ba_20.out.below hb Ba_20.out.lt)
  have Bb_21 := Lib.hid (Bb_20.out.below hb Bb_20.out.lt)
  have Bp_21 := Lib.hid (Bp_20.out.below hb Bp_20.out.lt)
  have Bq_21 := Lib.hid (Bq_20.out.below hb Bq_20.out.lt)
  have Bc_21 := Lib.hid (Bc_20.out.below hb Bc_20.out.lt)
  have Bo_21 := Lib.hid (Bo_20.out.below hb Bo_20.out.lt)
  have H_21 := Lib.hid (H_20.out.trans (hb.mono H_20.out.size))
  clear hb H_20 Bx_20 By_20 Bz_20 Ba_20 Bb_20 Bp_20 Bq_20 Bc_20 Bo_20
  have Bt_21 := Lib.hid Bnew
  clear Bnew
  go_upto_region 13 with fail
  go_cut [117] from 102 to 118 (fun p117 wx => p117 = .bool false ∧ (u11).alloc (.cells #[.int .i64 U0, .int .i64 U1, .string ⟨U2.toArray⟩] 23) = wx)
  case first =>
    have qo0 := Bo_21.out.c0
    have qo1 := Bo_21.out.c1
    have qo2 := Bo_21.out.c2
    have qt0 := Bt_21.out.c0
    have qt1 := Bt_21.out.c1
    have qt2 := Bt_21.out.c2
    (go_wp2_with fail; go_meet; exact ⟨rfl, rfl⟩)
  case rest =>
    obtain ⟨rfl, rfl⟩ := hcut
    have qa0 := Ba_21.out.c0
    have qa1 := Ba_21.out.c1
    have qa2 := Ba_21.out.c2
    have qy0 := By_21.out.c0
    have qy1 := By_21.out.c1
    have qy2 := By_21.out.c2
    go_wp2_with fail
    clear qa0 qa1 qa2 qy0 qy1 qy2
    have hc := Sub_no 0 0 K' N' [] T' (.inl not_num) i0 hN' ((u11).alloc (.cells #[.int .i64 U0, .int .i64 U1, .string ⟨U2.toArray⟩] 23)) (hw.below H_21.out)
    unfold valV at hc
    refine hc.mono ?_
    rintro e u12 ⟨rfl, hb⟩
    clear hc
    have Bx_22 := Lib.hid (Bx_21.out.below hb Bx_21.out.lt)
    have By_22 := Lib.hid (By_21.out.below hb By_21.out.lt)
    have Bz_22 := Lib.hid (Bz_21.out.below hb Bz_21.out.lt)
    have Ba_22 := Lib.hid (Ba_21.out.below hb Ba_21.out.lt)
    have Bb_22 := Lib.hid (Bb_21.out.below hb Bb_21.out.lt)
    have Bp_22 := Lib.hid (Bp_21.out.below hb Bp_21.out.lt)
    have Bq_22 := Lib.hid (Bq_21.out.below hb Bq_21.out.lt)
    have Bc_22 := Lib.hid (Bc_21.out.below hb Bc_21.out.lt)
    have Bo_22 := Lib.hid (Bo_21.out.below hb Bo_21.out.lt)
    have Bt_22 := Lib.hid (Bt_21.out.below hb Bt_21.out.lt)
    have H_22 := Lib.hid (H_21.out.trans (hb.mono H_21.out.size))
    clear hb H_21 Bx_21 By_21 Bz_21 Ba_21 Bb_21 Bp_21 Bq_21 Bc_21 Bo_21 Bt_21
    have hb : Below (u12).heap.size (u12) ((u12).alloc (.cells #[.int .i64 0, .int .i64 0, .string ⟨#[]⟩] 23)) := (Below.refl _ (u12)).alloc (Nat.le_refl _) _
    have Lak := Lib.hid Ba_22.out.lt
    have Lbk := Lib.hid Bb_22.out.lt
    have Lpk := Lib.hid Bp_22.out.lt
    have Lqk := Lib.hid Bq_22.out.lt
    have Lck := Lib.hid Bc_22.out.lt
    have Lok := Lib.hid Bo_22.out.lt
    have Ltk := Lib.hid Bt_22.out.lt
    have Lxk := Lib.hid Bx_22.out.lt
    have Lyk := Lib.hid By_22.out.lt
    have Lzk := Lib.hid Bz_22.out.lt
    have Bnew := VB.new (u12) (.int .i64 0) (.int .i64 0) (.string ⟨#[]⟩)
    try simp only [World.size_alloc] at Bnew
    have Bx_23 := Lib.hid (Bx_22.out.below hb Bx_22.out.lt)
    have By_23 := Lib.hid (By_22.out.below hb By_22.out.lt)
    have Bz_23 := Lib.hid (Bz_22.out.below hb Bz_22.out.lt)
    have Ba_23 := Lib.hid (Ba_22.out.below hb Ba_22.out.lt)
    have Bb_23 := Lib.hid (Bb_22.out.below hb Bb_22.out.lt)
    have Bp_23 := Lib.hid (Bp_22.out.below hb Bp_22.out.lt)
    have Bq_23 := Lib.hid (Bq_22.out.below hb Bq_22.out.lt)
    have Bc_23 := Lib.hid (Bc_22.out.below hb Bc_22.out.lt)
    have Bo_23 := Lib.hid (Bo_22.out.below hb Bo_22.out.lt)
    have Bt_23 := Lib.hid (Bt_22.out.below hb Bt_22.out.lt)
    have H_23 := Lib.hid (H_22.out.trans (hb.mono H_22.out.size))
    clear hb H_22 Bx_22 By_22 Bz_22 Ba_22 Bb_22 Bp_22 Bq_22 Bc_22 Bo_22 Bt_22
    have Bk_23 := Lib.hid Bnew
    clear Bnew
    go_upto_region 16 with fail
    go_cut [134] from 124 to 135 (fun p134 wx => p134 = .bool false ∧ (u12).alloc (.cells #[.int .i64 0, .int .i64 0, .string ⟨#[]⟩] 23) = wx)
    case first =>
      have qk0 := Bk_23.out.c0
      have qk1 := Bk_23.out.c1
      have qk2 := Bk_23.out.c2
      have qx0 := Bx_23.out.c0
      have qx1 := Bx_23.out.c1
      have qx2 := Bx_23.out.c2
      (go_wp2_with fail; go_meet; exact ⟨rfl, rfl⟩)
    case rest =>
      obtain ⟨rfl, rfl⟩ := hcut
      have qy0 := By_23.out.c0
      have qy1 := By_23.out.c1
      have qy2 := By_23.out.c2
      have qz0 := Bz_23.out.c0
      have qz1 := Bz_23.out.c1
      have qz2 := Bz_23.out.c2
      go_wp2_with fail
      clear qy0 qy1 qy2 qz0 qz1 qz2
      have hc := Hhr.out.2 ((u12).alloc (.cells #[.int .i64 0, .int .i64 0, .string ⟨#[]⟩] 23)) (hw.below H_23.out)
      unfold valV at hc
      refine hc.mono ?_
      rintro e u13 ⟨rfl, hb⟩
      clear hc
      have Bx_24 := Lib.hid (Bx_23.out.below hb Bx_23.out.lt)
      have By_24 := Lib.hid (By_23.out.below hb By_23.out.lt)
      have Bz_24 := Lib.hid (Bz_23.out.below hb Bz_23.out.lt)
      have Ba_24 := Lib.hid (Ba_23.out.below hb Ba_23.out.lt)
      have Bb_24 := Lib.hid (Bb_23.out.below hb Bb_23.out.lt)
      have Bp_24 := Lib.hid (Bp_23.out.below hb Bp_23.out.lt)
      have Bq_24 := Lib.hid (Bq_23.out.below hb Bq_23.out.lt)
      have Bc_24 := Lib.hid (Bc_23.out.below hb Bc_23.out.lt)
      have Bo_24 := Lib.hid (Bo_23.out.below hb Bo_23.out.lt)
      have Bt_24 := Lib.hid (Bt_23.out.below hb Bt_23.out.lt)
      have Bk_24 := Lib.hid (Bk_23.out.below hb Bk_23.out.lt)
      have H_24 := Lib.hid (H_23.out.trans (hb.mono H_23.out.size))
      clear hb H_23 Bx_23 By_23 Bz_23 Ba_23 Bb_23 Bp_23 Bq_23 Bc_23 Bo_23 Bt_23 Bk_23
      have hb : Below (u13).heap.size (u13) ((u13).alloc (.cells #[.int .i64 R0, .int .i64 R1, .string ⟨R2.toArray⟩] 23)) := (Below.refl _ (u13)).alloc (Nat.le_refl _) _
      have Lar := Lib.hid Ba_24.out.lt
      have Lbr := Lib.hid Bb_24.out.lt
      have Lpr := Lib.hid Bp_24.out.lt
      have Lqr := Lib.hid Bq_24.out.lt
      have Lcr := Lib.hid Bc_24.out.lt
      have Lor := Lib.hid Bo_24.out.lt
      have Ltr := Lib.hid Bt_24.out.lt
      have Lkr := Lib.hid Bk_24.out.lt
      have Lxr := Lib.hid Bx_24.out.lt
      have Lyr := Lib.hid By_24.out.lt
      have Lzr := Lib.hid Bz_24.out.lt
      have Bnew := VB.new (u13) (.int .i64 R0) (.int .i64 R1) (.string ⟨R2.toArray⟩)
      try simp only [World.size_alloc] at Bnew
      have Bx_25 := Lib.hid (Bx_24.out.below hb Bx_24.out.lt)
      have By_25 := Lib.hid (By_24.out.below hb By_24.out.lt)
      have Bz_25 := Lib.hid (Bz_24.out.below hb Bz_24.out.lt)
      have Ba_25 := Lib.hid (Ba_24.out.below hb Ba_24.out.lt)
      have Bb_25 := Lib.hid (Bb_24.out.below hb Bb_24.out.lt)
      have Bp_25 := Lib.hid (Bp_24.out.below hb Bp_24.out.lt)
      have Bq_25 := Lib.hid (Bq_24.out.below hb Bq_24.out.lt)
      have Bc_25 := Lib.hid (Bc_24.out.below hb Bc_24.out.lt)
      have Bo_25 := Lib.hid (Bo_24.out.below hb Bo_24.out.lt)
      have Bt_25 := Lib.hid (Bt_24.out.below hb Bt_24.out.lt)
      have Bk_25 := Lib.hid (Bk_24.out.below hb Bk_24.out.lt)
      have H_25 := Lib.hid (H_24.out.trans (hb.mono H_24.out.size))
      clear hb H_24 Bx_24 By_24 Bz_24 Ba_24 Bb_24 Bp_24 Bq_24 Bc_24 Bo_24 Bt_24 Bk_24
      have Br_25 := Lib.hid Bnew
      clear Bnew
      have qp0 := Bp_25.out.c0
      have qp1 := Bp_25.out.c1
      have qp2 := Bp_25.out.c2
      have qz0 := Bz_25.out.c0
      have qz1 := Bz_25.out.c1
      have qz2 := Bz_25.out.c2
      go_wp2_with fail
      clear qp0 qp1 qp2 qz0 qz1 qz2
      have hc := Mul_no 0 0 K'' N'' [] T'' (.inl not_num) i0 hN'' ((u13).alloc (.cells #[.int .i64 R0, .int .i64 R1, .string ⟨R2.toArray⟩] 23)) (hw.below H_25.out)
      unfold valV at hc
      refine hc.mono ?_
      rintro e u14 ⟨rfl, hb⟩
      clear hc
      have Bx_26 := Lib.hid (Bx_25.out.below hb Bx_25.out.lt)
      have By_26 := Lib.hid (By_25.out.below hb By_25.out.lt)
      have Bz_26 := Lib.hid (Bz_25.out.below hb Bz_25.out.lt)
      have Ba_26 := Lib.hid (Ba_25.out.below hb Ba_25.out.lt)
      have Bb_26 := Lib.hid (Bb_25.out.below hb Bb_25.out.lt)
      have Bp_26 := Lib.hid (Bp_25.out.below hb Bp_25.out.lt)
      have Bq_26 := Lib.hid (Bq_25.out.below hb Bq_25.out.lt)
      have Bc_26 := Lib.hid (Bc_25.out.below hb Bc_25.out.lt)
      have Bo_26 := Lib.hid (Bo_25.out.below hb Bo_25.out.lt)
      have Bt_26 := Lib.hid (Bt_25.out.below hb Bt_25.out.lt)
      have Bk_26 := Lib.hid (Bk_25.out.below hb Bk_25.out.lt)
      have Br_26 := Lib.hid (Br_25.out.below hb Br_25.out.lt)
      have H_26 := Lib.hid (H_25.out.trans (hb.mono H_25.out.size))
      clear hb H_25 Bx_25 By_25 Bz_25 Ba_25 Bb_25 Bp_25 Bq_25 Bc_25 Bo_25 Bt_25 Bk_25 Br_25
      have st15c0 := Bo_26.out.c0
      have st15f0 := Bo_26.out.fz 0
      have st15c1 := Bo_26.out.c1
      have st15f1 := Bo_26.out.fz 1
      have st15c2 := Bo_26.out.c2
      have st15f2 := Bo_26.out.fz 2
      have hne : ((u10).heap.size) ≠ (w.heap.size) := by have h1 := Lxo.out; omega
      have Bx_27 := Lib.hid (((Bx_26.out.other ⟨(u10).heap.size, 0, none⟩ hne (.int .i64 0)).other ⟨(u10).heap.size, 1, none⟩ hne (.int .i64 0)).other ⟨(u10).heap.size, 2, none⟩ hne (.string ⟨#[]⟩))
      clear hne
      have hne : ((u10).heap.size) ≠ (w.heap.size + 1) := by have h1 := Lyo.out; omega
      have By_27 := Lib.hid (((By_26.out.other ⟨(u10).heap.size, 0, none⟩ hne (.int .i64 0)).other ⟨(u10).heap.size, 1, none⟩ hne (.int .i64 0)).other ⟨(u10).heap.size, 2, none⟩ hne (.string ⟨#[]⟩))
      clear hne
      have hne : ((u10).heap.size) ≠ (w.heap.size + 1 + 1) := by have h1 := Lzo.out; omega
      have Bz_27 := Lib.hid (((Bz_26.out.other ⟨(u10).heap.size, 0, none⟩ hne (.int .i64 0)).other ⟨(u10).heap.size, 1, none⟩ hne (.int .i64 0)).other ⟨(u10).heap.size, 2, none⟩ hne (.string ⟨#[]⟩))
      clear hne
      have hne : ((u10).heap.size) ≠ ((u5).heap.size) := by have h1 := Lao.out; omega
      have Ba_27 := Lib.hid (((Ba_26.out.other ⟨(u10).heap.size, 0, none⟩ hne (.int .i64 0)).other ⟨(u10).heap.size, 1, none⟩ hne (.int .i64 0)).other ⟨(u10).heap.size, 2, none⟩ hne (.string ⟨#[]⟩))
      clear hne
      have hne : ((u10).heap.size) ≠ ((u6).heap.size) := by have h1 := Lbo.out; omega
      have Bb_27 := Lib.hid (((Bb_26.out.other ⟨(u10).heap.size, 0, none⟩ hne (.int .i64 0)).other ⟨(u10).heap.size, 1, none⟩ hne (.int .i64 0)).other ⟨(u10).heap.size, 2, none⟩ hne (.string ⟨#[]⟩))
      clear hne
      have hne : ((u10).heap.size) ≠ ((u7).heap.size) := by have h1 := Lpo.out; omega
      have Bp_27 := Lib.hid (((Bp_26.out.other ⟨(u10).heap.size, 0, none⟩ hne (.int .i64 0)).other ⟨(u10).heap.size, 1, none⟩ hne (.int .i64 0)).other ⟨(u10).heap.size, 2, none⟩ hne (.string ⟨#[]⟩))
      clear hne
      have hne : ((u10).heap.size) ≠ ((u8).heap.size) := by have h1 := Lqo.out; omega
      have Bq_27 := Lib.hid (((Bq_26.out.other ⟨(u10).heap.size, 0, none⟩ hne (.int .i64 0)).other ⟨(u10).heap.size, 1, none⟩ hne (.int .i64 0)).other ⟨(u10).heap.size, 2, none⟩ hne (.string ⟨#[]⟩))
      clear hne
      have hne : ((u10).heap.size) ≠ ((u9).heap.size) := by have h1 := Lco.out; omega
      have Bc_27 := Lib.hid (((Bc_26.out.other ⟨(u10).heap.size, 0, none⟩ hne (.int .i64 0)).other ⟨(u10).heap.size, 1, none⟩ hne (.int .i64 0)).other ⟨(u10).heap.size, 2, none⟩ hne (.string ⟨#[]⟩))
      clear hne
      have Bo_27 := Lib.hid (Bo_26.out.put (.int .i64 0) (.int .i64 0) (.string ⟨#[]⟩))
      have hne : ((u10).heap.size) ≠ ((u11).heap.size) := by have h1 := Lot.out; omega
      have Bt_27 := Lib.hid (((Bt_26.out.other ⟨(u10).heap.size, 0, none⟩ hne (.int .i64 0)).other ⟨(u10).heap.size, 1, none⟩ hne (.int .i64 0)).other ⟨(u10).heap.size, 2, none⟩ hne (.string ⟨#[]⟩))
      clear hne
      have hne : ((u10).heap.size) ≠ ((u12).heap.size) := by have h1 := Lok.out; omega
      have Bk_27 := Lib.hid (((Bk_26.out.other ⟨(u10).heap.size, 0, none⟩ hne (.int .i64 0)).other ⟨(u10).heap.size, 1, none⟩ hne (.int .i64 0)).other ⟨(u10).heap.size, 2, none⟩ hne (.string ⟨#[]⟩))
      clear hne
      have hne : ((u10).heap.size) ≠ ((u13).heap.size) := by have h1 := Lor.out; omega
      have Br_27 := Lib.hid (((Br_26.out.other ⟨(u10).heap.size, 0, none⟩ hne (.int .i64 0)).other ⟨(u10).heap.size, 1, none⟩ hne (.int .i64 0)).other ⟨(u10).heap.size, 2, none⟩ hne (.string ⟨#[]⟩))
      clear hne
      have hle : w.heap.size ≤ (u10).heap.size := by have h1 := Lxo.out; omega
      have H_27 := Lib.hid (below_put3 H_26.out hle (.int .i64 0) (.int .i64 0) (.string ⟨#[]⟩))
      clear hle H_26 Bx_26 By_26 Bz_26 Ba_26 Bb_26 Bp_26 Bq_26 Bc_26 Bo_26 Bt_26 Bk_26 Br_26
      have qx0 := Bx_27.out.c0
      have qx1 := Bx_27.out.c1
      have qx2 := Bx_27.out.c2
      have qr0 := Br_27.out.c0
      have qr1 := Br_27.out.c1
      have qr2 := Br_27.out.c2
      go_wp2_with fail
      clear qx0 qx1 qx2 qr0 qr1 qr2
      clear st15c0 st15f0 st15c1 st15f1 st15c2 st15f2
      have hc := Hht'.out.2 ((((u14).setCell ⟨(u10).heap.size, 0, none⟩ (.int .i64 0)).setCell ⟨(u10).heap.size, 1, none⟩ (.int .i64 0)).setCell ⟨(u10).heap.size, 2, none⟩ (.string ⟨#[]⟩)) (hw.below H_27.out)
      unfold valV at hc
      refine hc.mono ?_
      rintro e u16 ⟨rfl, hb⟩
      clear hc
      have Bx_28 := Lib.hid (Bx_27.out.below hb Bx_27.out.lt)
      have By_28 := Lib.hid (By_27.out.below hb By_27.out.lt)
      have Bz_28 := Lib.hid (Bz_27.out.below hb Bz_27.out.lt)
      have Ba_28 := Lib.hid (Ba_27.out.below hb Ba_27.out.lt)
      have Bb_28 := Lib.hid (Bb_27.out.below hb Bb_27.out.lt)
      have Bp_28 := Lib.hid (Bp_27.out.below hb Bp_27.out.lt)
      have Bq_28 := Lib.hid (Bq_27.out.below hb Bq_27.out.lt)
      have Bc_28 := Lib.hid (Bc_27.out.below hb Bc_27.out.lt)
      have Bo_28 := Lib.hid (Bo_27.out.below hb Bo_27.out.lt)
      have Bt_28 := Lib.hid (Bt_27.out.below hb Bt_27.out.lt)
      have Bk_28 := Lib.hid (Bk_27.out.below hb Bk_27.out.lt)
      have Br_28 := Lib.hid (Br_27.out.below hb Br_27.out.lt)
      have H_28 := Lib.hid (H_27.out.trans (hb.mono H_27.out.size))
      clear hb H_27 Bx_27 By_27 Bz_27 Ba_27 Bb_27 Bp_27 Bq_27 Bc_27 Bo_27 Bt_27 Bk_27 Br_27
      have st17c0 := Bt_28.out.c0
      have st17f0 := Bt_28.out.fz 0
      have st17c1 := Bt_28.out.c1
      have st17f1 := Bt_28.out.fz 1
      have st17c2 := Bt_28.out.c2
      have st17f2 := Bt_28.out.fz 2
      have hne : ((u11).heap.size) ≠ (w.heap.size) := by have h1 := Lxt.out; omega
      have Bx_29 := Lib.hid (((Bx_28.out.other ⟨(u11).heap.size, 0, none⟩ hne (.int .i64 U0')).other ⟨(u11).heap.size, 1, none⟩ hne (.int .i64 U1')).other ⟨(u11).heap.size, 2, none⟩ hne (.string ⟨U2'.toArray⟩))
      clear hne
      have hne : ((u11).heap.size) ≠ (w.heap.size + 1) := by have h1 := Lyt.out; omega
      have By_29 := Lib.hid (((By_28.out.other ⟨(u11).heap.size, 0, none⟩ hne (.int .i64 U0')).other ⟨(u11).heap.size, 1, none⟩ hne (.int .i64 U1')).other ⟨(u11).heap.size, 2, none⟩ hne (.string ⟨U2'.toArray⟩))
      clear hne
      have hne : ((u11).heap.size) ≠ (w.heap.size + 1 + 1) := by have h1 := Lzt.out; omega
      have Bz_29 := Lib.hid (((Bz_28.out.other ⟨(u11).heap.size, 0, none⟩ hne (.int .i64 U0')).other ⟨(u11).heap.size, 1, none⟩ hne (.int .i64 U1')).other ⟨(u11).heap.size, 2, none⟩ hne (.string ⟨U2'.toArray⟩))
      clear hne
      have hne : ((u11).heap.size) ≠ ((u5).heap.size) := by have h1 := Lat.out; omega
      have Ba_29 := Lib.hid (((Ba_28.out.other ⟨(u11).heap.size, 0, none⟩ hne (.int .i64 U0')).other ⟨(u11).heap.size, 1, none⟩ hne (.int .i64 U1')).other ⟨(u11).heap.size, 2, none⟩ hne (.string ⟨U2'.toArray⟩))
      clear hne
      have hne : ((u11).heap.size) ≠ ((u6).heap.size) := by have h1 := Lbt.out; omega
      have Bb_29 := Lib.hid (((Bb_28.out.other ⟨(u11).heap.size, 0, none⟩ hne (.int .i64 U0')).other ⟨(u11).heap.size, 1, none⟩ hne (.int .i64 U1')).other ⟨(u11).heap.size, 2, none⟩ hne (.string ⟨U2'.toArray⟩))
      clear hne
      have hne : ((u11).heap.size) ≠ ((u7).heap.size) := by have h1 := Lpt.out; omega
      have Bp_29 := Lib.hid (((Bp_28.out.other ⟨(u11).heap.size, 0, none⟩ hne (.int .i64 U0')).other ⟨(u11).heap.size, 1, none⟩ hne (.int .i64 U1')).other ⟨(u11).heap.size, 2, none⟩ hne (.string ⟨U2'.toArray⟩))
      clear hne
      have hne : ((u11).heap.size) ≠ ((u8).heap.size) := by have h1 := Lqt.out; omega
      have Bq_29 := Lib.hid (((Bq_28.out.other ⟨(u11).heap.size, 0, none⟩ hne (.int .i64 U0')).other ⟨(u11).heap.size, 1, none⟩ hne (.int .i64 U1')).other ⟨(u11).heap.size, 2, none⟩ hne (.string ⟨U2'.toArray⟩))
      clear hne
      have hne : ((u11).heap.size) ≠ ((u9).heap.size) := by have h1 := Lct.out; omega
      have Bc_29 := Lib.hid (((Bc_28.out.other ⟨(u11).heap.size, 0, none⟩ hne (.int .i64 U0')).other ⟨(u11).heap.size, 1, none⟩ hne (.int .i64 U1')).other ⟨(u11).heap.size, 2, none⟩ hne (.string ⟨U2'.toArray⟩))
      clear hne
      have hne : ((u11).heap.size) ≠ ((u10).heap.size) := by have h1 := Lot.out; omega
      have Bo_29 := Lib.hid (((Bo_28.out.other ⟨(u11).heap.size, 0, none⟩ hne (.int .i64 U0')).other ⟨(u11).heap.size, 1, none⟩ hne (.int .i64 U1')).other ⟨(u11).heap.size, 2, none⟩ hne (.string ⟨U2'.toArray⟩))
      clear hne
      have Bt_29 := Lib.hid (Bt_28.out.put (.int .i64 U0') (.int .i64 U1') (.string ⟨U2'.toArray⟩))
      have hne : ((u11).heap.size) ≠ ((u12).heap.size) := by have h1 := Ltk.out; omega
      have Bk_29 := Lib.hid (((Bk_28.out.other ⟨(u11).heap.size, 0, none⟩ hne (.int .i64 U0')).other ⟨(u11).heap.size, 1, none⟩ hne (.int .i64 U1')).other ⟨(u11).heap.size, 2, none⟩ hne (.string ⟨U2'.toArray⟩))
      clear hne
      have hne : ((u11).heap.size) ≠ ((u13).heap.size) := by have h1 := Ltr.out; omega
      have Br_29 := Lib.hid (((Br_28.out.other ⟨(u11).heap.size, 0, none⟩ hne (.int .i64 U0')).other ⟨(u11).heap.size, 1, none⟩ hne (.int .i64 U1')).other ⟨(u11).heap.size, 2, none⟩ hne (.string ⟨U2'.toArray⟩))
      clear hne
      have hle : w.heap.size ≤ (u11).heap.size := by have h1 := Lxt.out; omega
      have H_29 := Lib.hid (below_put3 H_28.out hle (.int .i64 U0') (.int .i64 U1') (.string ⟨U2'.toArray⟩))
      clear hle H_28 Bx_28 By_28 Bz_28 Ba_28 Bb_28 Bp_28 Bq_28 Bc_28 Bo_28 Bt_28 Bk_28 Br_28
      go_upto_region 21 with fail
      clear st17c0 st17f0 st17c1 st17f1 st17c2 st17f2
      go_cut [171] from 153 to 172 (fun p171 wx => p171 = .bool false ∧ (((u16).setCell ⟨(u11).heap.size, 0, none⟩ (.int .i64 U0')).setCell ⟨(u11).heap.size, 1, none⟩ (.int .i64 U1')).setCell ⟨(u11).heap.size, 2, none⟩ (.string ⟨U2'.toArray⟩) = wx)
      case first =>
        have qo0 := Bo_29.out.c0
        have qo1 := Bo_29.out.c1
        have qo2 := Bo_29.out.c2
        have qt0 := Bt_29.out.c0
        have qt1 := Bt_29.out.c1
        have qt2 := Bt_29.out.c2
        (go_wp2_with fail; go_meet; exact ⟨rfl, rfl⟩)
      case rest =>
        obtain ⟨rfl, rfl⟩ := hcut
        have qx0 := Bx_29.out.c0
        have qx1 := Bx_29.out.c1
        have qx2 := Bx_29.out.c2
        have qz0 := Bz_29.out.c0
        have qz1 := Bz_29.out.c1
        have qz2 := Bz_29.out.c2
        go_wp2_with fail
        clear qx0 qx1 qx2 qz0 qz1 qz2
        have hc := Hhs.out.2 ((((u16).setCell ⟨(u11).heap.size, 0, none⟩ (.int .i64 U0')).setCell ⟨(u11).heap.size, 1, none⟩ (.int .i64 U1')).setCell ⟨(u11).heap.size, 2, none⟩ (.string ⟨U2'.toArray⟩)) (hw.below H_29.out)
        unfold valV at hc
        refine hc.mono ?_
        rintro e u18 ⟨rfl, hb⟩
        clear hc
        have Bx_30 := Lib.hid (Bx_29.out.below hb Bx_29.out.lt)
        have By_30 := Lib.hid (By_29.out.below hb By_29.out.lt)
        have Bz_30 := Lib.hid (Bz_29.out.below hb Bz_29.out.lt)
        have Ba_30 := Lib.hid (Ba_29.out.below hb Ba_29.out.lt)
        have Bb_30 := Lib.hid (Bb_29.out.below hb Bb_29.out.lt)
        have Bp_30 := Lib.hid (Bp_29.out.below hb Bp_29.out.lt)
        have Bq_30 := Lib.hid (Bq_29.out.below hb Bq_29.out.lt)
        have Bc_30 := Lib.hid (Bc_29.out.below hb Bc_29.out.lt)
        have Bo_30 := Lib.hid (Bo_29.out.below hb Bo_29.out.lt)
        have Bt_30 := Lib.hid (Bt_29.out.below hb Bt_29.out.lt)
        have Bk_30 := Lib.hid (Bk_29.out.below hb Bk_29.out.lt)
        have Br_30 := Lib.hid (Br_29.out.below hb Br_29.out.lt)
        have H_30 := Lib.hid (H_29.out.trans (hb.mono H_29.out.size))
        clear hb H_29 Bx_29 By_29 Bz_29 Ba_29 Bb_29 Bp_29 Bq_29 Bc_29 Bo_29 Bt_29 Bk_29 Br_29
        have hb : Below (u18).heap.size (u18) ((u18).alloc (.cells #[.int .i64 S0, .int .i64 S1, .string ⟨S2.toArray⟩] 23)) := (Below.refl _ (u18)).alloc (Nat.le_refl _) _
        have Las := Lib.hid Ba_30.out.lt
        have Lbs := Lib.hid Bb_30.out.lt
        have Lps := Lib.hid Bp_30.out.lt
        have Lqs := Lib.hid Bq_30.out.lt
        have Lcs := Lib.hid Bc_30.out.lt
        have Los := Lib.hid Bo_30.out.lt
        have Lts := Lib.hid Bt_30.out.lt
        have Lks := Lib.hid Bk_30.out.lt
        have Lrs := Lib.hid Br_30.out.lt
        have Lxs := Lib.hid Bx_30.out.lt
        have Lys := Lib.hid By_30.out.lt
        have Lzs := Lib.hid Bz_30.out.lt
        have Bnew := VB.new (u18) (.int .i64 S0) (.int .i64 S1) (.string ⟨S2.toArray⟩)
        try simp only [World.size_alloc] at Bnew
        have Bx_31 := Lib.hid (Bx_30.out.below hb Bx_30.out.lt)
        have By_31 := Lib.hid (By_30.out.below hb By_30.out.lt)
        have Bz_31 := Lib.hid (Bz_30.out.below hb Bz_30.out.lt)
        have Ba_31 := Lib.hid (Ba_30.out.below hb Ba_30.out.lt)
        have Bb_31 := Lib.hid (Bb_30.out.below hb Bb_30.out.lt)
        have Bp_31 := Lib.hid (Bp_30.out.below hb Bp_30.out.lt)
        have Bq_31 := Lib.hid (Bq_30.out.below hb Bq_30.out.lt)
        have Bc_31 := Lib.hid (Bc_30.out.below hb Bc_30.out.lt)
        have Bo_31 := Lib.hid (Bo_30.out.below hb Bo_30.out.lt)
        have Bt_31 := Lib.hid (Bt_30.out.below hb Bt_30.out.lt)
        have Bk_31 := Lib.hid (Bk_30.out.below hb Bk_30.out.lt)
        have Br_31 := Lib.hid (Br_30.out.below hb Br_30.out.lt)
        have H_31 := Lib.hid (H_30.out.trans (hb.mono H_30.out.size))
        clear hb H_30 Bx_30 By_30 Bz_30 Ba_30 Bb_30 Bp_30 Bq_30 Bc_30 Bo_30 Bt_30 Bk_30 Br_30
        have Bs_31 := Lib.hid Bnew
        clear Bnew
        have qx0 := Bx_31.out.c0
        have qx1 := Bx_31.out.c1
        have qx2 := Bx_31.out.c2
        have qc0 := Bc_31.out.c0
        have qc1 := Bc_31.out.c1
        have qc2 := Bc_31.out.c2
        go_wp2_with fail
        clear qx0 qx1 qx2 qc0 qc1 qc2
        have hc := Hho''.out.2 ((u18).alloc (.cells #[.int .i64 S0, .int .i64 S1, .string ⟨S2.toArray⟩] 23)) (hw.below H_31.out)
        unfold valV at hc
        refine hc.mono ?_
        rintro e u19 ⟨rfl, hb⟩
        clear hc
        have Bx_32 := Lib.hid (Bx_31.out.below hb Bx_31.out.lt)
        have By_32 := Lib.hid (By_31.out.below hb By_31.out.lt)
        have Bz_32 := Lib.hid (Bz_31.out.below hb Bz_31.out.lt)
        have Ba_32 := Lib.hid (Ba_31.out.below hb Ba_31.out.lt)
        have Bb_32 := Lib.hid (Bb_31.out.below hb Bb_31.out.lt)
        have Bp_32 := Lib.hid (Bp_31.out.below hb Bp_31.out.lt)
        have Bq_32 := Lib.hid (Bq_31.out.below hb Bq_31.out.lt)
        have Bc_32 := Lib.hid (Bc_31.out.below hb Bc_31.out.lt)
        have Bo_32 := Lib.hid (Bo_31.out.below hb Bo_31.out.lt)
        have Bt_32 := Lib.hid (Bt_31.out.below hb Bt_31.out.lt)
        have Bk_32 := Lib.hid (Bk_31.out.below hb Bk_31.out.lt)
        have Br_32 := Lib.hid (Br_31.out.below hb Br_31.out.lt)
        have Bs_32 := Lib.hid (Bs_31.out.below hb Bs_31.out.lt)
        have H_32 := Lib.hid (H_31.out.trans (hb.mono H_31.out.size))
        clear hb H_31 Bx_31 By_31 Bz_31 Ba_31 Bb_31 Bp_31 Bq_31 Bc_31 Bo_31 Bt_31 Bk_31 Br_31 Bs_31
        have st20c0 := Bo_32.out.c0
        have st20f0 := Bo_32.out.fz 0
        have st20c1 := Bo_32.out.c1
        have st20f1 := Bo_32.out.fz 1
        have st20c2 := Bo_32.out.c2
        have st20f2 := Bo_32.out.fz 2
        have hne : ((u10).heap.size) ≠ (w.heap.size) := by have h1 := Lxo.out; omega
        have Bx_33 := Lib.hid (((Bx_32.out.other ⟨(u10).heap.size, 0, none⟩ hne (.int .i64 O0'')).other ⟨(u10).heap.size, 1, none⟩ hne (.int .i64 O1'')).other ⟨(u10).heap.size, 2, none⟩ hne (.string ⟨O2''.toArray⟩))
        clear hne
        have hne : ((u10).heap.size) ≠ (w.heap.size + 1) := by have h1 := Lyo.out; omega
        have By_33 := Lib.hid (((By_32.out.other ⟨(u10).heap.size, 0, none⟩ hne (.int .i64 O0'')).other ⟨(u10).heap.size, 1, none⟩ hne (.int .i64 O1'')).other ⟨(u10).heap.size, 2, none⟩ hne (.string ⟨O2''.toArray⟩))
        clear hne
        have hne : ((u10).heap.size) ≠ (w.heap.size + 1 + 1) := by have h1 := Lzo.out; omega
        have Bz_33 := Lib.hid (((Bz_32.out.other ⟨(u10).heap.size, 0, none⟩ hne (.int .i64 O0'')).other ⟨(u10).heap.size, 1, none⟩ hne (.int .i64 O1'')).other ⟨(u10).heap.size, 2, none⟩ hne (.string ⟨O2''.toArray⟩))
        clear hne
        have hne : ((u10).heap.size) ≠ ((u5).heap.size) := by have h1 := Lao.out; omega
        have Ba_33 := Lib.hid (((Ba_32.out.other ⟨(u10).heap.size, 0, none⟩ hne (.int .i64 O0'')).other ⟨(u10).heap.size, 1, none⟩ hne (.int .i64 O1'')).other ⟨(u10).heap.size, 2, none⟩ hne (.string ⟨O2''.toArray⟩))
        clear hne
        have hne : ((u10).heap.size) ≠ ((u6).heap.size) := by have h1 := Lbo.out; omega
        have Bb_33 := Lib.hid (((Bb_32.out.other ⟨(u10).heap.size, 0, none⟩ hne (.int .i64 O0'')).other ⟨(u10).heap.size, 1, none⟩ hne (.int .i64 O1'')).other ⟨(u10).heap.size, 2, none⟩ hne (.string ⟨O2''.toArray⟩))
        clear hne
        have hne : ((u10).heap.size) ≠ ((u7).heap.size) := by have h1 := Lpo.out; omega
        have Bp_33 := Lib.hid (((Bp_32.out.other ⟨(u10).heap.size, 0, none⟩ hne (.int .i64 O0'')).other ⟨(u10).heap.size, 1, none⟩ hne (.int .i64 O1'')).other ⟨(u10).heap.size, 2, none⟩ hne (.string ⟨O2''.toArray⟩))
        clear hne
        have hne : ((u10).heap.size) ≠ ((u8).heap.size) := by have h1 := Lqo.out; omega
        have Bq_33 := Lib.hid (((Bq_32.out.other ⟨(u10).heap.size, 0, none⟩ hne (.int .i64 O0'')).other ⟨(u10).heap.size, 1, none⟩ hne (.int .i64 O1'')).other ⟨(u10).heap.size, 2, none⟩ hne (.string ⟨O2''.toArray⟩))
        clear hne
        have hne : ((u10).heap.size) ≠ ((u9).heap.size) := by have h1 := Lco.out; omega
        have Bc_33 := Lib.hid (((Bc_32.out.other ⟨(u10).heap.size, 0, none⟩ hne (.int .i64 O0'')).other ⟨(u10).heap.size, 1, none⟩ hne (.int .i64 O1'')).other ⟨(u10).heap.size, 2, none⟩ hne (.string ⟨O2''.toArray⟩))
        clear hne
        have Bo_33 := Lib.hid (Bo_32.out.put (.int .i64 O0'') (.int .i64 O1'') (.string ⟨O2''.toArray⟩))
        have hne : ((u10).heap.size) ≠ ((u11).heap.size) := by have h1 := Lot.out; omega
        have Bt_33 := Lib.hid (((Bt_32.out.other ⟨(u10).heap.size, 0, none⟩ hne (.int .i64 O0'')).other ⟨(u10).heap.size, 1, none⟩ hne (.int .i64 O1'')).other ⟨(u10).heap.size, 2, none⟩ hne (.string ⟨O2''.toArray⟩))
        clear hne
        have hne : ((u10).heap.size) ≠ ((u12).heap.size) := by have h1 := Lok.out; omega
        have Bk_33 := Lib.hid (((Bk_32.out.other ⟨(u10).heap.size, 0, none⟩ hne (.int .i64 O0'')).other ⟨(u10).heap.size, 1, none⟩ hne (.int .i64 O1'')).other ⟨(u10).heap.size, 2, none⟩ hne (.string ⟨O2''.toArray⟩))
        clear hne
        have hne : ((u10).heap.size) ≠ ((u13).heap.size) := by have h1 := Lor.out; omega
        have Br_33 := Lib.hid (((Br_32.out.other ⟨(u10).heap.size, 0, none⟩ hne (.int .i64 O0'')).other ⟨(u10).heap.size, 1, none⟩ hne (.int .i64 O1'')).other ⟨(u10).heap.size, 2, none⟩ hne (.string ⟨O2''.toArray⟩))
        clear hne
        have hne : ((u10).heap.size) ≠ ((u18).heap.size) := by have h1 := Los.out; omega
        have Bs_33 := Lib.hid (((Bs_32.out.other ⟨(u10).heap.size, 0, none⟩ hne (.int .i64 O0'')).other ⟨(u10).heap.size, 1, none⟩ hne (.int .i64 O1'')).other ⟨(u10).heap.size, 2, none⟩ hne (.string ⟨O2''.toArray⟩))
        clear hne
        have hle : w.heap.size ≤ (u10).heap.size := by have h1 := Lxo.out; omega
        have H_33 := Lib.hid (below_put3 H_32.out hle (.int .i64 O0'') (.int .i64 O1'') (.string ⟨O2''.toArray⟩))
        clear hle H_32 Bx_32 By_32 Bz_32 Ba_32 Bb_32 Bp_32 Bq_32 Bc_32 Bo_32 Bt_32 Bk_32 Br_32 Bs_32
        have qp0 := Bp_33.out.c0
        have qp1 := Bp_33.out.c1
        have qp2 := Bp_33.out.c2
        have qs0 := Bs_33.out.c0
        have qs1 := Bs_33.out.c1
        have qs2 := Bs_33.out.c2
        go_wp2_with fail
        clear qp0 qp1 qp2 qs0 qs1 qs2
        clear st20c0 st20f0 st20c1 st20f1 st20c2 st20f2
        have hc := Add_no 0 0 S0 S1 [] S2 (.inl not_num) i0 Hhs.out.1 ((((u19).setCell ⟨(u10).heap.size, 0, none⟩ (.int .i64 O0'')).setCell ⟨(u10).heap.size, 1, none⟩ (.int .i64 O1'')).setCell ⟨(u10).heap.size, 2, none⟩ (.string ⟨O2''.toArray⟩)) (hw.below H_33.out)
        unfold valV at hc
        refine hc.mono ?_
        rintro e u21 ⟨rfl, hb⟩
        clear hc
        have Bx_34 := Lib.hid (Bx_33.out.below hb Bx_33.out.lt)
        have By_34 := Lib.hid (By_33.out.below hb By_33.out.lt)
        have Bz_34 := Lib.hid (Bz_33.out.below hb Bz_33.out.lt)
        have Ba_34 := Lib.hid (Ba_33.out.below hb Ba_33.out.lt)
        have Bb_34 := Lib.hid (Bb_33.out.below hb Bb_33.out.lt)
        have Bp_34 := Lib.hid (Bp_33.out.below hb Bp_33.out.lt)
        have Bq_34 := Lib.hid (Bq_33.out.below hb Bq_33.out.lt)
        have Bc_34 := Lib.hid (Bc_33.out.below hb Bc_33.out.lt)
        have Bo_34 := Lib.hid (Bo_33.out.below hb Bo_33.out.lt)
        have Bt_34 := Lib.hid (Bt_33.out.below hb Bt_33.out.lt)
        have Bk_34 := Lib.hid (Bk_33.out.below hb Bk_33.out.lt)
        have Br_34 := Lib.hid (Br_33.out.below hb Br_33.out.lt)
        have Bs_34 := Lib.hid (Bs_33.out.below hb Bs_33.out.lt)
        have H_34 := Lib.hid (H_33.out.trans (hb.mono H_33.out.size))
        clear hb H_33 Bx_33 By_33 Bz_33 Ba_33 Bb_33 Bp_33 Bq_33 Bc_33 Bo_33 Bt_33 Bk_33 Br_33 Bs_33
        have st22c0 := Bt_34.out.c0
        have st22f0 := Bt_34.out.fz 0
        have st22c1 := Bt_34.out.c1
        have st22f1 := Bt_34.out.fz 1
        have st22c2 := Bt_34.out.c2
        have st22f2 := Bt_34.out.fz 2
        have hne : ((u11).heap.size) ≠ (w.heap.size) := by have h1 := Lxt.out; omega
        have Bx_35 := Lib.hid (((Bx_34.out.other ⟨(u11).heap.size, 0, none⟩ hne (.int .i64 0)).other ⟨(u11).heap.size, 1, none⟩ hne (.int .i64 0)).other ⟨(u11).heap.size, 2, none⟩ hne (.string ⟨#[]⟩))
        clear hne
        have hne : ((u11).heap.size) ≠ (w.heap.size + 1) := by have h1 := Lyt.out; omega
        have By_35 := Lib.hid (((By_34.out.other ⟨(u11).heap.size, 0, none⟩ hne (.int .i64 0)).other ⟨(u11).heap.size, 1, none⟩ hne (.int .i64 0)).other ⟨(u11).heap.size, 2, none⟩ hne (.string ⟨#[]⟩))
        clear hne
        have hne : ((u11).heap.size) ≠ (w.heap.size + 1 + 1) := by have h1 := Lzt.out; omega
        have Bz_35 := Lib.hid (((Bz_34.out.other ⟨(u11).heap.size, 0, none⟩ hne (.int .i64 0)).other ⟨(u11).heap.size, 1, none⟩ hne (.int .i64 0)).other ⟨(u11).heap.size, 2, none⟩ hne (.string ⟨#[]⟩))
        clear hne
        have hne : ((u11).heap.size) ≠ ((u5).heap.size) := by have h1 := Lat.out; omega
        have Ba_35 := Lib.hid (((Ba_34.out.other ⟨(u11).heap.size, 0, none⟩ hne (.int .i64 0)).other ⟨(u11).heap.size, 1, none⟩ hne (.int .i64 0)).other ⟨(u11).heap.size, 2, none⟩ hne (.string ⟨#[]⟩))
        clear hne
        have hne : ((u11).heap.size) ≠ ((u6).heap.size) := by have h1 := Lbt.out; omega
        have Bb_35 := Lib.hid (((Bb_34.out.other ⟨(u11).heap.size, 0, none⟩ hne (.int .i64 0)).other ⟨(u11).heap.size, 1, none⟩ hne (.int .i64 0)).other ⟨(u11).heap.size, 2, none⟩ hne (.string ⟨#[]⟩))
        clear hne
        have hne : ((u11).heap.size) ≠ ((u7).heap.size) := by have h1 := Lpt.out; omega
        have Bp_35 := Lib.hid (((Bp_34.out.other ⟨(u11).heap.size, 0, none⟩ hne (.int .i64 0)).other ⟨(u11).heap.size, 1, none⟩ hne (.int .i64 0)).other ⟨(u11).heap.size, 2, none⟩ hne (.string ⟨#[]⟩))
        clear hne
        have hne : ((u11).heap.size) ≠ ((u8).heap.size) := by have h1 := Lqt.out; omega
        have Bq_35 := Lib.hid (((Bq_34.out.other ⟨(u11).heap.size, 0, none⟩ hne (.int .i64 0)).other ⟨(u11).heap.size, 1, none⟩ hne (.int .i64 0)).other ⟨(u11).heap.size, 2, none⟩ hne (.string ⟨#[]⟩))
        clear hne
        have hne : ((u11).heap.size) ≠ ((u9).heap.size) := by have h1 := Lct.out; omega
        have Bc_35 := Lib.hid (((Bc_34.out.other ⟨(u11).heap.size, 0, none⟩ hne (.int .i64 0)).other ⟨(u11).heap.size, 1, none⟩ hne (.int .i64 0)).other ⟨(u11).heap.size, 2, none⟩ hne (.string ⟨#[]⟩))
        clear hne
        have hne : ((u11).heap.size) ≠ ((u10).heap.size) := by have h1 := Lot.out; omega
        have Bo_35 := Lib.hid (((Bo_34.out.other ⟨(u11).heap.size, 0, none⟩ hne (.int .i64 0)).other ⟨(u11).heap.size, 1, none⟩ hne (.int .i64 0)).other ⟨(u11).heap.size, 2, none⟩ hne (.string ⟨#[]⟩))
        clear hne
        have Bt_35 := Lib.hid (Bt_34.out.put (.int .i64 0) (.int .i64 0) (.string ⟨#[]⟩))
        have hne : ((u11).heap.size) ≠ ((u12).heap.size) := by have h1 := Ltk.out; omega
        have Bk_35 := Lib.hid (((Bk_34.out.other ⟨(u11).heap.size, 0, none⟩ hne (.int .i64 0)).other ⟨(u11).heap.size, 1, none⟩ hne (.int .i64 0)).other ⟨(u11).heap.size, 2, none⟩ hne (.string ⟨#[]⟩))
        clear hne
        have hne : ((u11).heap.size) ≠ ((u13).heap.size) := by have h1 := Ltr.out; omega
        have Br_35 := Lib.hid (((Br_34.out.other ⟨(u11).heap.size, 0, none⟩ hne (.int .i64 0)).other ⟨(u11).heap.size, 1, none⟩ hne (.int .i64 0)).other ⟨(u11).heap.size, 2, none⟩ hne (.string ⟨#[]⟩))
        clear hne
        have hne : ((u11).heap.size) ≠ ((u18).heap.size) := by have h1 := Lts.out; omega
        have Bs_35 := Lib.hid (((Bs_34.out.other ⟨(u11).heap.size, 0, none⟩ hne (.int .i64 0)).other ⟨(u11).heap.size, 1, none⟩ hne (.int .i64 0)).other ⟨(u11).heap.size, 2, none⟩ hne (.string ⟨#[]⟩))
        clear hne
        have hle : w.heap.size ≤ (u11).heap.size := by have h1 := Lxt.out; omega
        have H_35 := Lib.hid (below_put3 H_34.out hle (.int .i64 0) (.int .i64 0) (.string ⟨#[]⟩))
        clear hle H_34 Bx_34 By_34 Bz_34 Ba_34 Bb_34 Bp_34 Bq_34 Bc_34 Bo_34 Bt_34 Bk_34 Br_34 Bs_34
        have qo0 := Bo_35.out.c0
        have qo1 := Bo_35.out.c1
        have qo2 := Bo_35.out.c2
        have qt0 := Bt_35.out.c0
        have qt1 := Bt_35.out.c1
        have qt2 := Bt_35.out.c2
        by_cases hF : F = 0
        · subst hF
          go_wp2_with fail
          go_ret
          exact ⟨rfl, H_35.out⟩
        · go_wp2_with fail
          go_ret
          exact ⟨rfl, H_35.out⟩

set_option maxHeartbeats 8000000 in
theorem ring_noz (K N K' N' K'' N'' : Int) (T T' T'' : List UInt8) (hz : T''.length ≤ 800) (x y : Int) (h : IsNum K N T x) (h' : IsNum K' N' T' y) (hn : ∀ z, ¬ IsNum K'' N'' T'' z) (hN'' : In64Z N'') (w : World) (hw : Wd w) :
    Calls Tryz.prog 7 #[valV K N T, valV K' N' T', valV K'' N'' T''] w fun e w' => e = .returned (.bool true) ∧ Below w.heap.size w w' := by
  obtain ⟨A0, A1, A2, E, sa⟩ := ans_ex (x + y)
  obtain ⟨P0, P1, P2, G, sp⟩ := ans_ex (x * y)
  obtain ⟨B0, B1, B2, Q, hk, sk⟩ := Sub_gen A0 A1 K' N' A2 T' sa.in64 h'.in64
  have Hsa := Lib.hid sa
  have Hsp := Lib.hid sp
  have Hsk := Lib.hid sk
  have Hhk := Lib.hid hk
  clear sa sp sk hk
  have i0 : In64Z 0 := in64 (by decide) (by decide)
  have hx : T.length ≤ 800 := by have := h.len; omega
  have hy : T'.length ≤ 800 := by have := h'.len; omega
  have H_0 := Lib.hid (Below.refl w.heap.size w)
  unfold valV
  go_enter Tryz.func7, Tryz.ntmps7
  have hb : Below (w).heap.size (w) ((w).alloc (.cells #[.int .i64 K, .int .i64 N, .string ⟨T.toArray⟩] 23)) := (Below.refl _ (w)).alloc (Nat.le_refl _) _
  have Bnew := VB.new (w) (.int .i64 K) (.int .i64 N) (.string ⟨T.toArray⟩)
  try simp only [World.size_alloc] at Bnew
  have H_1 := Lib.hid (H_0.out.trans (hb.mono H_0.out.size))
  clear hb H_0
  have Bx_1 := Lib.hid Bnew
  clear Bnew
  have hb : Below ((w).alloc (.cells #[.int .i64 K, .int .i64 N, .string ⟨T.toArray⟩] 23)).heap.size ((w).alloc (.cells #[.int .i64 K, .int .i64 N, .string ⟨T.toArray⟩] 23)) (((w).alloc (.cells #[.int .i64 K, .int .i64 N, .string ⟨T.toArray⟩] 23)).alloc (.cells #[.int .i64 K', .int .i64 N', .string ⟨T'.toArray⟩] 23)) := (Below.refl _ ((w).alloc (.cells #[.int .i64 K, .int .i64 N, .string ⟨T.toArray⟩] 23))).alloc (Nat.le_refl _) _
  have Bnew := VB.new ((w).alloc (.cells #[.int .i64 K, .int .i64 N, .string ⟨T.toArray⟩] 23)) (.int .i64 K') (.int .i64 N') (.string ⟨T'.toArray⟩)
  try simp only [World.size_alloc] at Bnew
  have Bx_2 := Lib.hid (Bx_1.out.below hb Bx_1.out.lt)
  have H_2 := Lib.hid (H_1.out.trans (hb.mono H_1.out.size))
  clear hb H_1 Bx_1
  have By_2 := Lib.hid Bnew
  clear Bnew
  have hb : Below (((w).alloc (.cells #[.int .i64 K, .int .i64 N, .string ⟨T.toArray⟩] 23)).alloc (.cells #[.int .i64 K', .int .i64 N', .string ⟨T'.toArray⟩] 23)).heap.size (((w).alloc (.cells #[.int .i64 K, .int .i64 N, .string ⟨T.toArray⟩] 23)).alloc (.cells #[.int .i64 K', .int .i64 N', .string ⟨T'.toArray⟩] 23)) ((((w).alloc (.cells #[.int .i64 K, .int .i64 N, .string ⟨T.toArray⟩] 23)).alloc (.cells #[.int .i64 K', .int .i64 N', .string ⟨T'.toArray⟩] 23)).alloc (.cells #[.int .i64 K'', .int .i64 N'', .string ⟨T''.toArray⟩] 23)) := (Below.refl _ (((w).alloc (.cells #[.int .i64 K, .int .i64 N, .string ⟨T.toArray⟩] 23)).alloc (.cells #[.int .i64 K', .int .i64 N', .string ⟨T'.toArray⟩] 23))).alloc (Nat.le_refl _) _
  have Bnew := VB.new (((w).alloc (.cells #[.int .i64 K, .int .i64 N, .string ⟨T.toArray⟩] 23)).alloc (.cells #[.int .i64 K', .int .i64 N', .string ⟨T'.toArray⟩] 23)) (.int .i64 K'') (.int .i64 N'') (.string ⟨T''.toArray⟩)
  try simp only [World.size_alloc] at Bnew
  have Bx_3 := Lib.hid (Bx_2.out.below hb Bx_2.out.lt)
  have By_3 := Lib.hid (By_2.out.below hb By_2.out.lt)
  have H_3 := Lib.hid (H_2.out.trans (hb.mono H_2.out.size))
  clear hb H_2 Bx_2 By_2
  have Bz_3 := Lib.hid Bnew
  clear Bnew
  go_wp2_with fail
  have hc := awake_c ((((w).alloc (.cells #[.int .i64 K, .int .i64 N, .string ⟨T.toArray⟩] 23)).alloc (.cells #[.int .i64 K', .int .i64 N', .string ⟨T'.toArray⟩] 23)).alloc (.cells #[.int .i64 K'', .int .i64 N'', .string ⟨T''.toArray⟩] 23)) (hw.below H_3.out)
  unfold valV at hc
  refine hc.mono ?_
  rintro e u1 ⟨rfl, hb⟩
  clear hc
  have Bx_4 := Lib.hid (Bx_3.out.below hb Bx_3.out.lt)
  have By_4 := Lib.hid (By_3.out.below hb By_3.out.lt)
  have Bz_4 := Lib.hid (Bz_3.out.below hb Bz_3.out.lt)
  have H_4 := Lib.hid (H_3.out.trans (hb.mono H_3.out.size))
  clear hb H_3 Bx_3 By_3 Bz_3
  have qx0 := Bx_4.out.c0
  have qx1 := Bx_4.out.c1
  have qx2 := Bx_4.out.c2
  go_wp2_with fail
  clear qx0 qx1 qx2
  have hc := short_yes K N T hx (u1)
  unfold valV at hc
  refine hc.mono ?_
  rintro e u2 ⟨rfl, hb⟩
  clear hc
  have Bx_5 := Lib.hid (Bx_4.out.below hb Bx_4.out.lt)
  have By_5 := Lib.hid (By_4.out.below hb By_4.out.lt)
  have Bz_5 := Lib.hid (Bz_4.out.below hb Bz_4.out.lt)
  have H_5 := Lib.hid (H_4.out.trans (hb.mono H_4.out.size))
  clear hb H_4 Bx_4 By_4 Bz_4
  have qy0 := By_5.out.c0
  have qy1 := By_5.out.c1
  have qy2 := By_5.out.c2
  go_wp2_with fail
  clear qy0 qy1 qy2
  have hc := short_yes K' N' T' hy (u2)
  unfold valV at hc
  refine hc.mono ?_
  rintro e u3 ⟨rfl, hb⟩
  clear hc
  have Bx_6 := Lib.hid (Bx_5.out.below hb Bx_5.out.lt)
  have By_6 := Lib.hid (By_5.out.below hb By_5.out.lt)
  have Bz_6 := Lib.hid (Bz_5.out.below hb Bz_5.out.lt)
  have H_6 := Lib.hid (H_5.out.trans (hb.mono H_5.out.size))
  clear hb H_5 Bx_5 By_5 Bz_5
  have qz0 := Bz_6.out.c0
  have qz1 := Bz_6.out.c1
  have qz2 := Bz_6.out.c2
  go_wp2_with fail
  clear qz0 qz1 qz2
  have hc := short_yes K'' N'' T'' hz (u3)
  unfold valV at hc
  refine hc.mono ?_
  rintro e u4 ⟨rfl, hb⟩
  clear hc
  have Bx_7 := Lib.hid (Bx_6.out.below hb Bx_6.out.lt)
  have By_7 := Lib.hid (By_6.out.below hb By_6.out.lt)
  have Bz_7 := Lib.hid (Bz_6.out.below hb Bz_6.out.lt)
  have H_7 := Lib.hid (H_6.out.trans (hb.mono H_6.out.size))
  clear hb H_6 Bx_6 By_6 Bz_6
  have qx0 := Bx_7.out.c0
  have qx1 := Bx_7.out.c1
  have qx2 := Bx_7.out.c2
  have qy0 := By_7.out.c0
  have qy1 := By_7.out.c1
  have qy2 := By_7.out.c2
  go_wp2_with fail
  clear qx0 qx1 qx2 qy0 qy1 qy2
  have hc := Add_any h h' Hsa.out rfl (u4) (hw.below H_7.out)
  unfold valV at hc
  refine hc.mono ?_
  rintro e u5 ⟨rfl, hb⟩
  clear hc
  have Bx_8 := Lib.hid (Bx_7.out.below hb Bx_7.out.lt)
  have By_8 := Lib.hid (By_7.out.below hb By_7.out.lt)
  have Bz_8 := Lib.hid (Bz_7.out.below hb Bz_7.out.lt)
  have H_8 := Lib.hid (H_7.out.trans (hb.mono H_7.out.size))
  clear hb H_7 Bx_7 By_7 Bz_7
  have hb : Below (u5).heap.size (u5) ((u5).alloc (.cells #[.int .i64 A0, .int .i64 A1, .string ⟨A2.toArray⟩] 23)) := (Below.refl _ (u5)).alloc (Nat.le_refl _) _
  have Lxa := Lib.hid Bx_8.out.lt
  have Lya := Lib.hid By_8.out.lt
  have Lza := Lib.hid Bz_8.out.lt
  have Bnew := VB.new (u5) (.int .i64 A0) (.int .i64 A1) (.string ⟨A2.toArray⟩)
  try simp only [World.size_alloc] at Bnew
  have Bx_9 := Lib.hid (Bx_8.out.below hb Bx_8.out.lt)
  have By_9 := Lib.hid (By_8.out.below hb By_8.out.lt)
  have Bz_9 := Lib.hid (Bz_8.out.below hb Bz_8.out.lt)
  have H_9 := Lib.hid (H_8.out.trans (hb.mono H_8.out.size))
  clear hb H_8 Bx_8 By_8 Bz_8
  have Ba_9 := Lib.hid Bnew
  clear Bnew
  have qx0 := Bx_9.out.c0
  have qx1 := Bx_9.out.c1
  have qx2 := Bx_9.out.c2
  have qy0 := By_9.out.c0
  have qy1 := By_9.out.c1
  have qy2 := By_9.out.c2
  go_wp2_with fail
  clear qx0 qx1 qx2 qy0 qy1 qy2
  have hc := Add_any h' h Hsa.out (Int.add_comm y x) ((u5).alloc (.cells #[.int .i64 A0, .int .i64 A1, .string ⟨A2.toArray⟩] 23)) (hw.below H_9.out)
  unfold valV at hc
  refine hc.mono ?_
  rintro e u6 ⟨rfl, hb⟩
  clear hc
  have Bx_10 := Lib.hid (Bx_9.out.below hb Bx_9.out.lt)
  have By_10 := Lib.hid (By_9.out.below hb By_9.out.lt)
  have Bz_10 := Lib.hid (Bz_9.out.below hb Bz_9.out.lt)
  have Ba_10 := Lib.hid (Ba_9.out.below hb Ba_9.out.lt)
  have H_10 := Lib.hid (H_9.out.trans (hb.mono H_9.out.size))
  clear hb H_9 Bx_9 By_9 Bz_9 Ba_9
  have hb : Below (u6).heap.size (u6) ((u6).alloc (.cells #[.int .i64 A0, .int .i64 A1, .string ⟨A2.toArray⟩] 23)) := (Below.refl _ (u6)).alloc (Nat.le_refl _) _
  have Lab := Lib.hid Ba_10.out.lt
  have Lxb := Lib.hid Bx_10.out.lt
  have Lyb := Lib.hid By_10.out.lt
  have Lzb := Lib.hid Bz_10.out.lt
  have Bnew := VB.new (u6) (.int .i64 A0) (.int .i64 A1) (.string ⟨A2.toArray⟩)
  try simp only [World.size_alloc] at Bnew
  have Bx_11 := Lib.hid (Bx_10.out.below hb Bx_10.out.lt)
  have By_11 := Lib.hid (By_10.out.below hb By_10.out.lt)
  have Bz_11 := Lib.hid (Bz_10.out.below hb Bz_10.out.lt)
  have Ba_11 := Lib.hid (Ba_10.out.below hb Ba_10.out.lt)
  have H_11 := Lib.hid (H_10.out.trans (hb.mono H_10.out.size))
  clear hb H_10 Bx_10 By_10 Bz_10 Ba_10
  have Bb_11 := Lib.hid Bnew
  clear Bnew
  have qx0 := Bx_11.out.c0
  have qx1 := Bx_11.out.c1
  have qx2 := Bx_11.out.c2
  have qy0 := By_11.out.c0
  have qy1 := By_11.out.c1
  have qy2 := By_11.out.c2
  go_wp2_with fail
  clear qx0 qx1 qx2 qy0 qy1 qy2
  have hc := Mul_any h h' Hsp.out rfl ((u6).alloc (.cells #[.int .i64 A0, .int .i64 A1, .string ⟨A2.toArray⟩] 23)) (hw.below H_11.out)
  unfold valV at hc
  refine hc.mono ?_
  rintro e u7 ⟨rfl, hb⟩
  clear hc
  have Bx_12 := Lib.hid (Bx_11.out.below hb Bx_11.out.lt)
  have By_12 := Lib.hid (By_11.out.below hb By_11.out.lt)
  have Bz_12 := Lib.hid (Bz_11.out.below hb Bz_11.out.lt)
  have Ba_12 := Lib.hid (Ba_11.out.below hb Ba_11.out.lt)
  have Bb_12 := Lib.hid (Bb_11.out.below hb Bb_11.out.lt)
  have H_12 := Lib.hid (H_11.out.trans (hb.mono H_11.out.size))
  clear hb H_11 Bx_11 By_11 Bz_11 Ba_11 Bb_11
  have hb : Below (u7).heap.size (u7) ((u7).alloc (.cells #[.int .i64 P0, .int .i64 P1, .string ⟨P2.toArray⟩] 23)) := (Below.refl _ (u7)).alloc (Nat.le_refl _) _
  have Lap := Lib.hid Ba_12.out.lt
  have Lbp := Lib.hid Bb_12.out.lt
  have Lxp := Lib.hid Bx_12.out.lt
  have Lyp := Lib.hid By_12.out.lt
  have Lzp := Lib.hid Bz_12.out.lt
  have Bnew := VB.new (u7) (.int .i64 P0) (.int .i64 P1) (.string ⟨P2.toArray⟩)
  try simp only [World.size_alloc] at Bnew
  have Bx_13 := Lib.hid (Bx_12.out.below hb Bx_12.out.lt)
  have By_13 := Lib.hid (By_12.out.below hb By_12.out.lt)
  have Bz_13 := Lib.hid (Bz_12.out.below hb Bz_12.out.lt)
  have Ba_13 := Lib.hid (Ba_12.out.below hb Ba_12.out.lt)
  have Bb_13 := Lib.hid (Bb_12.out.below hb Bb_12.out.lt)
  have H_13 := Lib.hid (H_12.out.trans (hb.mono H_12.out.size))
  clear hb H_12 Bx_12 By_12 Bz_12 Ba_12 Bb_12
  have Bp_13 := Lib.hid Bnew
  clear Bnew
  have qx0 := Bx_13.out.c0
  have qx1 := Bx_13.out.c1
  have qx2 := Bx_13.out.c2
  have qy0 := By_13.out.c0
  have qy1 := By_13.out.c1
  have qy2 := By_13.out.c2
  go_wp2_with fail
  clear qx0 qx1 qx2 qy0 qy1 qy2
  have hc := Mul_any h' h Hsp.out (Int.mul_comm y x) ((u7).alloc (.cells #[.int .i64 P0, .int .i64 P1, .string ⟨P2.toArray⟩] 23)) (hw.below H_13.out)
  unfold valV at hc
  refine hc.mono ?_
  rintro e u8 ⟨rfl, hb⟩
  clear hc
  have Bx_14 := Lib.hid (Bx_13.out.below hb Bx_13.out.lt)
  have By_14 := Lib.hid (By_13.out.below hb By_13.out.lt)
  have Bz_14 := Lib.hid (Bz_13.out.below hb Bz_13.out.lt)
  have Ba_14 := Lib.hid (Ba_13.out.below hb Ba_13.out.lt)
  have Bb_14 := Lib.hid (Bb_13.out.below hb Bb_13.out.lt)
  have Bp_14 := Lib.hid (Bp_13.out.below hb Bp_13.out.lt)
  have H_14 := Lib.hid (H_13.out.trans (hb.mono H_13.out.size))
  clear hb H_13 Bx_13 By_13 Bz_13 Ba_13 Bb_13 Bp_13
  have hb : Below (u8).heap.size (u8) ((u8).alloc (.cells #[.int .i64 P0, .int .i64 P1, .string ⟨P2.toArray⟩] 23)) := (Below.refl _ (u8)).alloc (Nat.le_refl _) _
  have Laq := Lib.hid Ba_14.out.lt
  have Lbq := Lib.hid Bb_14.out.lt
  have Lpq := Lib.hid Bp_14.out.lt
  have Lxq := Lib.hid Bx_14.out.lt
  have Lyq := Lib.hid By_14.out.lt
  have Lzq := Lib.hid Bz_14.out.lt
  have Bnew := VB.new (u8) (.int .i64 P0) (.int .i64 P1) (.string ⟨P2.toArray⟩)
  try simp only [World.size_alloc] at Bnew
  have Bx_15 := Lib.hid (Bx_14.out.below hb Bx_14.out.lt)
  have By_15 := Lib.hid (By_14.out.below hb By_14.out.lt)
  have Bz_15 := Lib.hid (Bz_14.out.below hb Bz_14.out.lt)
  have Ba_15 := Lib.hid (Ba_14.out.below hb Ba_14.out.lt)
  have Bb_15 := Lib.hid (Bb_14.out.below hb Bb_14.out.lt)
  have Bp_15 := Lib.hid (Bp_14.out.below hb Bp_14.out.lt)
  have H_15 := Lib.hid (H_14.out.trans (hb.mono H_14.out.size))
  clear hb H_14 Bx_14 By_14 Bz_14 Ba_14 Bb_14 Bp_14
  have Bq_15 := Lib.hid Bnew
  clear Bnew
  have qy0 := By_15.out.c0
  have qy1 := By_15.out.c1
  have qy2 := By_15.out.c2
  have qz0 := Bz_15.out.c0
  have qz1 := Bz_15.out.c1
  have qz2 := Bz_15.out.c2
  have qa0 := Ba_15.out.c0
  have qa1 := Ba_15.out.c1
  have qa2 := Ba_15.out.c2
  have qb0 := Bb_15.out.c0
  have qb1 := Bb_15.out.c1
  have qb2 := Bb_15.out.c2
  have qp0 := Bp_15.out.c0
  have qp1 := Bp_15.out.c1
  have qp2 := Bp_15.out.c2
  have qq0 := Bq_15.out.c0
  have qq1 := Bq_15.out.c1
  have qq2 := Bq_15.out.c2
  go_wp2_with fail
  clear qy0 qy1 qy2 qz0 qz1 qz2 qa0 qa1 qa2 qb0 qb1 qb2 qp0 qp1 qp2 qq0 qq1 qq2
  have hc := Add_no K' N' K'' N'' T' T'' (.inr hn) h'.in64 hN'' ((u8).alloc (.cells #[.int .i64 P0, .int .i64 P1, .string ⟨P2.toArray⟩] 23)) (hw.below H_15.out)
  unfold valV at hc
  refine hc.mono ?_
  rintro e u9 ⟨rfl, hb⟩
  clear hc
  have Bx_16 := Lib.hid (Bx_15.out.below hb Bx_15.out.lt)
  have By_16 := Lib.hid (By_15.out.below hb By_15.out.lt)
  have Bz_16 := Lib.hid (Bz_15.out.below hb Bz_15.out.lt)
  have Ba_16 := Lib.hid (Ba_15.out.below hb Ba_15.out.lt)
  have Bb_16 := Lib.hid (Bb_15.out.below hb Bb_15.out.lt)
  have Bp_16 := Lib.hid (Bp_15.out.below hb Bp_15.out.lt)
  have Bq_16 := Lib.hid (Bq_15.out.below hb Bq_15.out.lt)
  have H_16 := Lib.hid (H_15.out.trans (hb.mono H_15.out.size))
  clear hb H_15 Bx_15 By_15 Bz_15 Ba_15 Bb_15 Bp_15 Bq_15
  have hb : Below (u9).heap.size (u9) ((u9).alloc (.cells #[.int .i64 0, .int .i64 0, .string ⟨#[]⟩] 23)) := (Below.refl _ (u9)).alloc (Nat.le_refl _) _
  have Lac := Lib.hid Ba_16.out.lt
  have Lbc := Lib.hid Bb_16.out.lt
  have Lpc := Lib.hid Bp_16.out.lt
  have Lqc := Lib.hid Bq_16.out.lt
  have Lxc := Lib.hid Bx_16.out.lt
  have Lyc := Lib.hid By_16.out.lt
  have Lzc := Lib.hid Bz_16.out.lt
  have Bnew := VB.new (u9) (.int .i64 0) (.int .i64 0) (.string ⟨#[]⟩)
  try simp only [World.size_alloc] at Bnew
  have Bx_17 := Lib.hid (Bx_16.out.below hb Bx_16.out.lt)
  have By_17 := Lib.hid (By_16.out.below hb By_16.out.lt)
  have Bz_17 := Lib.hid (Bz_16.out.below hb Bz_16.out.lt)
  have Ba_17 := Lib.hid (Ba_16.out.below hb Ba_16.out.lt)
  have Bb_17 := Lib.hid (Bb_16.out.below hb Bb_16.out.lt)
  have Bp_17 := Lib.hid (Bp_16.out.below hb Bp_16.out.lt)
  have Bq_17 := Lib.hid (Bq_16.out.below hb Bq_16.out.lt)
  have H_17 := Lib.hid (H_16.out.trans (hb.mono H_16.out.size))
  clear hb H_16 Bx_16 By_16 Bz_16 Ba_16 Bb_16 Bp_16 Bq_16
  have Bc_17 := Lib.hid Bnew
  clear Bnew
  have qa0 := Ba_17.out.c0
  have qa1 := Ba_17.out.c1
  have qa2 := Ba_17.out.c2
  have qz0 := Bz_17.out.c0
  have qz1 := Bz_17.out.c1
  have qz2 := Bz_17.out.c2
  go_wp2_with fail
  clear qa0 qa1 qa2 qz0 qz1 qz2
  have hc := Add_no A0 A1 K'' N'' A2 T'' (.inr hn) Hsa.out.in64 hN'' ((u9).alloc (.cells #[.int .i64 0, .int .i64 0, .string ⟨#[]⟩] 23)) (hw.below H_17.out)
  unfold valV at hc
  refine hc.mono ?_
  rintro e u10 ⟨rfl, hb⟩
  clear hc
  have Bx_18 := Lib.hid (Bx_17.out.below hb Bx_17.out.lt)
  have By_18 := Lib.hid (By_17.out.below hb By_17.out.lt)
  have Bz_18 := Lib.hid (Bz_17.out.below hb Bz_17.out.lt)
  have Ba_18 := Lib.hid (Ba_17.out.below hb Ba_17.out.lt)
  have Bb_18 := Lib.hid (Bb_17.out.below hb Bb_17.out.lt)
  have Bp_18 := Lib.hid (Bp_17.out.below hb Bp_17.out.lt)
  have Bq_18 := Lib.hid (Bq_17.out.below hb Bq_17.out.lt)
  have Bc_18 := Lib.hid (Bc_17.out.below hb Bc_17.out.lt)
  have H_18 := Lib.hid (H_17.out.trans (hb.mono H_17.out.size))
  clear hb H_17 Bx_17 By_17 Bz_17 Ba_17 Bb_17 Bp_17 Bq_17 Bc_17
  have hb : Below (u10).heap.size (u10) ((u10).alloc (.cells #[.int .i64 0, .int .i64 0, .string ⟨#[]⟩] 23)) := (Below.refl _ (u10)).alloc (Nat.le_refl _) _
  have Lao := Lib.hid Ba_18.out.lt
  have Lbo := Lib.hid Bb_18.out.lt
  have Lpo := Lib.hid Bp_18.out.lt
  have Lqo := Lib.hid Bq_18.out.lt
  have Lco := Lib.hid Bc_18.out.lt
  have Lxo := Lib.hid Bx_18.out.lt
  have Lyo := Lib.hid By_18.out.lt
  have Lzo := Lib.hid Bz_18.out.lt
  have Bnew := VB.new (u10) (.int .i64 0) (.int .i64 0) (.string ⟨#[]⟩)
  try simp only [World.size_alloc] at Bnew
  have Bx_19 := Lib.hid (Bx_18.out.below hb Bx_18.out.lt)
  have By_19 := Lib.hid (By_18.out.below hb By_18.out.lt)
  have Bz_19 := Lib.hid (Bz_18.out.below hb Bz_18.out.lt)
  have Ba_19 := Lib.hid (Ba_18.out.below hb Ba_18.out.lt)
  have Bb_19 := Lib.hid (Bb_18.out.below hb Bb_18.out.lt)
  have Bp_19 := Lib.hid (Bp_18.out.below hb Bp_18.out.lt)
  have Bq_19 := Lib.hid (Bq_18.out.below hb Bq_18.out.lt)
  have Bc_19 := Lib.hid (Bc_18.out.below hb Bc_18.out.lt)
  have H_19 := Lib.hid (H_18.out.trans (hb.mono H_18.out.size))
  clear hb H_18 Bx_18 By_18 Bz_18 Ba_18 Bb_18 Bp_18 Bq_18 Bc_18
  have Bo_19 := Lib.hid Bnew
  clear Bnew
  have qx0 := Bx_19.out.c0
  have qx1 := Bx_19.out.c1
  have qx2 := Bx_19.out.c2
  have qc0 := Bc_19.out.c0
  have qc1 := Bc_19.out.c1
  have qc2 := Bc_19.out.c2
  go_wp2_with fail
  clear qx0 qx1 qx2 qc0 qc1 qc2
  have hc := Add_no K N 0 0 T [] (.inr not_num) h.in64 i0 ((u10).alloc (.cells #[.int .i64 0, .int .i64 0, .string ⟨#[]⟩] 23)) (hw.below H_19.out)
  unfold valV at hc
  refine hc.mono ?_
  rintro e u11 ⟨rfl, hb⟩
  clear hc
  have Bx_20 := Lib.hid (Bx_19.out.below hb Bx_19.out.lt)
  have By_20 := Lib.hid (By_19.out.below hb By_19.out.lt)
  have Bz_20 := Lib.hid (Bz_19.out.below hb Bz_19.out.lt)
  have Ba_20 := Lib.hid (Ba_19.out.below hb Ba_19.out.lt)
  have Bb_20 := Lib.hid (Bb_19.out.below hb Bb_19.out.lt)
  have Bp_20 := Lib.hid (Bp_19.out.below hb Bp_19.out.lt)
  have Bq_20 := Lib.hid (Bq_19.out.below hb Bq_19.out.lt)
  have Bc_20 := Lib.hid (Bc_19.out.below hb Bc_19.out.lt)
  have Bo_20 := Lib.hid (Bo_19.out.below hb Bo_19.out.lt)
  have H_20 := Lib.hid (H_19.out.trans (hb.mono H_19.out.size))
  clear hb H_19 Bx_19 By_19 Bz_19 Ba_19 Bb_19 Bp_19 Bq_19 Bc_19 Bo_19
  have hb : Below (u11).heap.size (u11) ((u11).alloc (.cells #[.int .i64 0, .int .i64 0, .string ⟨#[]⟩] 23)) := (Below.refl _ (u11)).alloc (Nat.le_refl _) _
  have Lat := Lib.hid Ba_20.out.lt
  have Lbt := Lib.hid Bb_20.out.lt
  have Lpt := Lib.hid Bp_20.out.lt
  have Lqt := Lib.hid Bq_20.out.lt
  have Lct := Lib.hid Bc_20.out.lt
  have Lot := Lib.hid Bo_20.out.lt
  have Lxt := Lib.hid Bx_20.out.lt
  have Lyt := Lib.hid By_20.out.lt
  have Lzt := Lib.hid Bz_20.out.lt
  have Bnew := VB.new (u11) (.int .i64 0) (.int .i64 0) (.string ⟨#[]⟩)
  try simp only [World.size_alloc] at Bnew
  have Bx_21 := Lib.hid (Bx_20.out.below hb Bx_20.out.lt)
  have By_21 := Lib.hid (By_20.out.below hb By_20.out.lt)
  have Bz_21 := Lib.hid (Bz_20.out.below hb Bz_20.out.lt)
  have Ba_21 := Lib.hid (Ba_20.out.below hb Ba_20.out.lt)
  have Bb_21 := Lib.hid (Bb_20.out.below hb Bb_20.out.lt)
  have Bp_21 := Lib.hid (Bp_20.out.below hb Bp_20.out.lt)
  have Bq_21 := Lib.hid (Bq_20.out.below hb Bq_20.out.lt)
  have Bc_21 := Lib.hid (Bc_20.out.below hb Bc_20.out.lt)
  have Bo_21 := Lib.hid (Bo_20.out.below hb Bo_20.out.lt)
  have H_21 := Lib.hid (H_20.out.trans (hb.mono H_20.out.size))
  clear hb H_20 Bx_20 By_20 Bz_20 Ba_20 Bb_20 Bp_20 Bq_20 Bc_20 Bo_20
  have Bt_21 := Lib.hid Bnew
  clear Bnew
  go_upto_region 13 with fail
  go_cut [117] from 102 to 118 (fun p117 wx => p117 = .bool false ∧ (u11).alloc (.cells #[.int .i64 0, .int .i64 0, .string ⟨#[]⟩] 23) = wx)
  case first =>
    have qo0 := Bo_21.out.c0
    have qo1 := Bo_21.out.c1
    have qo2 := Bo_21.out.c2
    have qt0 := Bt_21.out.c0
    have qt1 := Bt_21.out.c1
    have qt2 := Bt_21.out.c2
    rcases Hsa.out.two with rfl | rfl <;> (go_wp2_with fail; go_meet; exact ⟨rfl, rfl⟩)
  case rest =>
    obtain ⟨rfl, rfl⟩ := hcut
    have qa0 := Ba_21.out.c0
    have qa1 := Ba_21.out.c1
    have qa2 := Ba_21.out.c2
    have qy0 := By_21.out.c0
    have qy1 := By_21.out.c1
    have qy2 := By_21.out.c2
    go_wp2_with fail
    clear qa0 qa1 qa2 qy0 qy1 qy2
    have hc := Hhk.out.2 ((u11).alloc (.cells #[.int .i64 0, .int .i64 0, .string ⟨#[]⟩] 23)) (hw.below H_21.out)
    unfold valV at hc
    refine hc.mono ?_
    rintro e u12 ⟨rfl, hb⟩
    clear hc
    have Bx_22 := Lib.hid (Bx_21.out.below hb Bx_21.out.lt)
    have By_22 := Lib.hid (By_21.out.below hb By_21.out.lt)
    have Bz_22 := Lib.hid (Bz_21.out.below hb Bz_21.out.lt)
    have Ba_22 := Lib.hid (Ba_21.out.below hb Ba_21.out.lt)
    have Bb_22 := Lib.hid (Bb_21.out.below hb Bb_21.out.lt)
    have Bp_22 := Lib.hid (Bp_21.out.below hb Bp_21.out.lt)
    have Bq_22 := Lib.hid (Bq_21.out.below hb Bq_21.out.lt)
    have Bc_22 := Lib.hid (Bc_21.out.below hb Bc_21.out.lt)
    have Bo_22 := Lib.hid (Bo_21.out.below hb Bo_21.out.lt)
    have Bt_22 := Lib.hid (Bt_21.out.below hb Bt_21.out.lt)
    have H_22 := Lib.hid (H_21.out.trans (hb.mono H_21.out.size))
    clear hb H_21 Bx_21 By_21 Bz_21 Ba_21 Bb_21 Bp_21 Bq_21 Bc_21 Bo_21 Bt_21
    have hb : Below (u12).heap.size (u12) ((u12).alloc (.cells #[.int .i64 B0, .int .i64 B1, .string ⟨B2.toArray⟩] 23)) := (Below.refl _ (u12)).alloc (Nat.le_refl _) _
    have Lak := Lib.hid Ba_22.out.lt
    have Lbk := Lib.hid Bb_22.out.lt
    have Lpk := Lib.hid Bp_22.out.lt
    have Lqk := Lib.hid Bq_22.out.lt
    have Lck := Lib.hid Bc_22.out.lt
    have Lok := Lib.hid Bo_22.out.lt
    have Ltk := Lib.hid Bt_22.out.lt
    have Lxk := Lib.hid Bx_22.out.lt
    have Lyk := Lib.hid By_22.out.lt
    have Lzk := Lib.hid Bz_22.out.lt
    have Bnew := VB.new (u12) (.int .i64 B0) (.int .i64 B1) (.string ⟨B2.toArray⟩)
    try simp only [World.size_alloc] at Bnew
    have Bx_23 := Lib.hid (Bx_22.out.below hb Bx_22.out.lt)
    have By_23 := Lib.hid (By_22.out.below hb By_22.out.lt)
    have Bz_23 := Lib.hid (Bz_22.out.below hb Bz_22.out.lt)
    have Ba_23 := Lib.hid (Ba_22.out.below hb Ba_22.out.lt)
    have Bb_23 := Lib.hid (Bb_22.out.below hb Bb_22.out.lt)
    have Bp_23 := Lib.hid (Bp_22.out.below hb Bp_22.out.lt)
    have Bq_23 := Lib.hid (Bq_22.out.below hb Bq_22.out.lt)
    have Bc_23 := Lib.hid (Bc_22.out.below hb Bc_22.out.lt)
    have Bo_23 := Lib.hid (Bo_22.out.below hb Bo_22.out.lt)
    have Bt_23 := Lib.hid (Bt_22.out.below hb Bt_22.out.lt)
    have H_23 := Lib.hid (H_22.out.trans (hb.mono H_22.out.size))
    clear hb H_22 Bx_22 By_22 Bz_22 Ba_22 Bb_22 Bp_22 Bq_22 Bc_22 Bo_22 Bt_22
    have Bk_23 := Lib.hid Bnew
    clear Bnew
    go_upto_region 16 with fail
    go_cut [134] from 124 to 135 (fun p134 wx => p134 = .bool false ∧ (u12).alloc (.cells #[.int .i64 B0, .int .i64 B1, .string ⟨B2.toArray⟩] 23) = wx)
    case first =>
      have qk0 := Bk_23.out.c0
      have qk1 := Bk_23.out.c1
      have qk2 := Bk_23.out.c2
      have qx0 := Bx_23.out.c0
      have qx1 := Bx_23.out.c1
      have qx2 := Bx_23.out.c2
      rcases Hsa.out.two with rfl | rfl
      · obtain ⟨rfl, rfl, rfl, rfl⟩ := (Ans.num h).same (Int.add_sub_cancel x y ▸ Hsk.out _ _ Hsa.out.ok h')
        (go_wp2_with fail; go_meet; exact ⟨rfl, rfl⟩)
      · (go_wp2_with fail; go_meet; exact ⟨rfl, rfl⟩)
    case rest =>
      obtain ⟨rfl, rfl⟩ := hcut
      have qy0 := By_23.out.c0
      have qy1 := By_23.out.c1
      have qy2 := By_23.out.c2
      have qz0 := Bz_23.out.c0
      have qz1 := Bz_23.out.c1
      have qz2 := Bz_23.out.c2
      go_wp2_with fail
      clear qy0 qy1 qy2 qz0 qz1 qz2
      have hc := Mul_no K' N' K'' N'' T' T'' (.inr hn) h'.in64 hN'' ((u12).alloc (.cells #[.int .i64 B0, .int .i64 B1, .string ⟨B2.toArray⟩] 23)) (hw.below H_23.out)
      unfold valV at hc
      refine hc.mono ?_
      rintro e u13 ⟨rfl, hb⟩
      clear hc
      have Bx_24 := Lib.hid (Bx_23.out.below hb Bx_23.out.lt)
      have By_24 := Lib.hid (By_23.out.below hb By_23.out.lt)
      have Bz_24 := Lib.hid (Bz_23.out.below hb Bz_23.out.lt)
      have Ba_24 := Lib.hid (Ba_23.out.below hb Ba_23.out.lt)
      have Bb_24 := Lib.hid (Bb_23.out.below hb Bb_23.out.lt)
      have Bp_24 := Lib.hid (Bp_23.out.below hb Bp_23.out.lt)
      have Bq_24 := Lib.hid (Bq_23.out.below hb Bq_23.out.lt)
      have Bc_24 := Lib.hid (Bc_23.out.below hb Bc_23.out.lt)
      have Bo_24 := Lib.hid (Bo_23.out.below hb Bo_23.out.lt)
      have Bt_24 := Lib.hid (Bt_23.out.below hb Bt_23.out.lt)
      have Bk_24 := Lib.hid (Bk_23.out.below hb Bk_23.out.lt)
      have H_24 := Lib.hid (H_23.out.trans (hb.mono H_23.out.size))
      clear hb H_23 Bx_23 By_23 Bz_23 Ba_23 Bb_23 Bp_23 Bq_23 Bc_23 Bo_23 Bt_23 Bk_23
      have hb : Below (u13).heap.size (u13) ((u13).alloc (.cells #[.int .i64 0, .int .i64 0, .string ⟨#[]⟩] 23)) := (Below.refl _ (u13)).alloc (Nat.le_refl _) _
      have Lar := Lib.hid Ba_24.out.lt
      have Lbr := Lib.hid Bb_24.out.lt
      have Lpr := Lib.hid Bp_24.out.lt
      have Lqr := Lib.hid Bq_24.out.lt
      have Lcr := Lib.hid Bc_24.out.lt
      have Lor := Lib.hid Bo_24.out.lt
      have Ltr := Lib.hid Bt_24.out.lt
      have Lkr := Lib.hid Bk_24.out.lt
      have Lxr := Lib.hid Bx_24.out.lt
      have Lyr := Lib.hid By_24.out.lt
      have Lzr := Lib.hid Bz_24.out.lt
      have Bnew := VB.new (u13) (.int .i64 0) (.int .i64 0) (.string ⟨#[]⟩)
      try simp only [World.size_alloc] at Bnew
      have Bx_25 := Lib.hid (Bx_24.out.below hb Bx_24.out.lt)
      have By_25 := Lib.hid (By_24.out.below hb By_24.out.lt)
      have Bz_25 := Lib.hid (Bz_24.out.below hb Bz_24.out.lt)
      have Ba_25 := Lib.hid (Ba_24.out.below hb Ba_24.out.lt)
      have Bb_25 := Lib.hid (Bb_24.out.below hb Bb_24.out.lt)
      have Bp_25 := Lib.hid (Bp_24.out.below hb Bp_24.out.lt)
      have Bq_25 := Lib.hid (Bq_24.out.below hb Bq_24.out.lt)
      have Bc_25 := Lib.hid (Bc_24.out.below hb Bc_24.out.lt)
      have Bo_25 := Lib.hid (Bo_24.out.below hb Bo_24.out.lt)
      have Bt_25 := Lib.hid (Bt_24.out.below hb Bt_24.out.lt)
      have Bk_25 := Lib.hid (Bk_24.out.below hb Bk_24.out.lt)
      have H_25 := Lib.hid (H_24.out.trans (hb.mono H_24.out.size))
      clear hb H_24 Bx_24 By_24 Bz_24 Ba_24 Bb_24 Bp_24 Bq_24 Bc_24 Bo_24 Bt_24 Bk_24
      have Br_25 := Lib.hid Bnew
      clear Bnew
      have qp0 := Bp_25.out.c0
      have qp1 := Bp_25.out.c1
      have qp2 := Bp_25.out.c2
      have qz0 := Bz_25.out.c0
      have qz1 := Bz_25.out.c1
      have qz2 := Bz_25.out.c2
      go_wp2_with fail
      clear qp0 qp1 qp2 qz0 qz1 qz2
      have hc := Mul_no P0 P1 K'' N'' P2 T'' (.inr hn) Hsp.out.in64 hN'' ((u13).alloc (.cells #[.int .i64 0, .int .i64 0, .string ⟨#[]⟩] 23)) (hw.below H_25.out)
      unfold valV at hc
      refine hc.mono ?_
      rintro e u14 ⟨rfl, hb⟩
      clear hc
      have Bx_26 := Lib.hid (Bx_25.out.below hb Bx_25.out.lt)
      have By_26 := Lib.hid (By_25.out.below hb By_25.out.lt)
      have Bz_26 := Lib.hid (Bz_25.out.below hb Bz_25.out.lt)
      have Ba_26 := Lib.hid (Ba_25.out.below hb Ba_25.out.lt)
      have Bb_26 := Lib.hid (Bb_25.out.below hb Bb_25.out.lt)
      have Bp_26 := Lib.hid (Bp_25.out.below hb Bp_25.out.lt)
      have Bq_26 := Lib.hid (Bq_25.out.below hb Bq_25.out.lt)
      have Bc_26 := Lib.hid (Bc_25.out.below hb Bc_25.out.lt)
      have Bo_26 := Lib.hid (Bo_25.out.below hb Bo_25.out.lt)
      have Bt_26 := Lib.hid (Bt_25.out.below hb Bt_25.out.lt)
      have Bk_26 := Lib.hid (Bk_25.out.below hb Bk_25.out.lt)
      have Br_26 := Lib.hid (Br_25.out.below hb Br_25.out.lt)
      have H_26 := Lib.hid (H_25.out.trans (hb.mono H_25.out.size))
      clear hb H_25 Bx_25 By_25 Bz_25 Ba_25 Bb_25 Bp_25 Bq_25 Bc_25 Bo_25 Bt_25 Bk_25 Br_25
      have st15c0 := Bo_26.out.c0
      have st15f0 := Bo_26.out.fz 0
      have st15c1 := Bo_26.out.c1
      have st15f1 := Bo_26.out.fz 1
      have st15c2 := Bo_26.out.c2
      have st15f2 := Bo_26.out.fz 2
      have hne : ((u10).heap.size) ≠ (w.heap.size) := by have h1 := Lxo.out; omega
      have Bx_27 := Lib.hid (((Bx_26.out.other ⟨(u10).heap.size, 0, none⟩ hne (.int .i64 0)).other ⟨(u10).heap.size, 1, none⟩ hne (.int .i64 0)).other ⟨(u10).heap.size, 2, none⟩ hne (.string ⟨#[]⟩))
      clear hne
      have hne : ((u10).heap.size) ≠ (w.heap.size + 1) := by have h1 := Lyo.out; omega
      have By_27 := Lib.hid (((By_26.out.other ⟨(u10).heap.size, 0, none⟩ hne (.int .i64 0)).other ⟨(u10).heap.size, 1, none⟩ hne (.int .i64 0)).other ⟨(u10).heap.size, 2, none⟩ hne (.string ⟨#[]⟩))
      clear hne
      have hne : ((u10).heap.size) ≠ (w.heap.size + 1 + 1) := by have h1 := Lzo.out; omega
      have Bz_27 := Lib.hid (((Bz_26.out.other ⟨(u10).heap.size, 0, none⟩ hne (.int .i64 0)).other ⟨(u10).heap.size, 1, none⟩ hne (.int .i64 0)).other ⟨(u10).heap.size, 2, none⟩ hne (.string ⟨#[]⟩))
      clear hne
      have hne : ((u10).heap.size) ≠ ((u5).heap.size) := by have h1 := Lao.out; omega
      have Ba_27 := Lib.hid (((Ba_26.out.other ⟨(u10).heap.size, 0, none⟩ hne (.int .i64 0)).other ⟨(u10).heap.size, 1, none⟩ hne (.int .i64 0)).other ⟨(u10).heap.size, 2, none⟩ hne (.string ⟨#[]⟩))
      clear hne
      have hne : ((u10).heap.size) ≠ ((u6).heap.size) := by have h1 := Lbo.out; omega
      have Bb_27 := Lib.hid (((Bb_26.out.other ⟨(u10).heap.size, 0, none⟩ hne (.int .i64 0)).other ⟨(u10).heap.size, 1, none⟩ hne (.int .i64 0)).other ⟨(u10).heap.size, 2, none⟩ hne (.string ⟨#[]⟩))
      clear hne
      have hne : ((u10).heap.size) ≠ ((u7).heap.size) := by have h1 := Lpo.out; omega
      have Bp_27 := Lib.hid (((Bp_26.out.other ⟨(u10).heap.size, 0, none⟩ hne (.int .i64 0)).other ⟨(u10).heap.size, 1, none⟩ hne (.int .i64 0)).other ⟨(u10).heap.size, 2, none⟩ hne (.string ⟨#[]⟩))
      clear hne
      have hne : ((u10).heap.size) ≠ ((u8).heap.size) := by have h1 := Lqo.out; omega
      have Bq_27 := Lib.hid (((Bq_26.out.other ⟨(u10).heap.size, 0, none⟩ hne (.int .i64 0)).other ⟨(u10).heap.size, 1, none⟩ hne (.int .i64 0)).other ⟨(u10).heap.size, 2, none⟩ hne (.string ⟨#[]⟩))
      clear hne
      have hne : ((u10).heap.size) ≠ ((u9).heap.size) := by have h1 := Lco.out; omega
      have Bc_27 := Lib.hid (((Bc_26.out.other ⟨(u10).heap.size, 0, none⟩ hne (.int .i64 0)).other ⟨(u10).heap.size, 1, none⟩ hne (.int .i64 0)).other ⟨(u10).heap.size, 2, none⟩ hne (.string ⟨#[]⟩))
      clear hne
      have Bo_27 := Lib.hid (Bo_26.out.put (.int .i64 0) (.int .i64 0) (.string ⟨#[]⟩))
      have hne : ((u10).heap.size) ≠ ((u11).heap.size) := by have h1 := Lot.out; omega
      have Bt_27 := Lib.hid (((Bt_26.out.other ⟨(u10).heap.size, 0, none⟩ hne (.int .i64 0)).other ⟨(u10).heap.size, 1, none⟩ hne (.int .i64 0)).other ⟨(u10).heap.size, 2, none⟩ hne (.string ⟨#[]⟩))
      clear hne
      have hne : ((u10).heap.size) ≠ ((u12).heap.size) := by have h1 := Lok.out; omega
      have Bk_27 := Lib.hid (((Bk_26.out.other ⟨(u10).heap.size, 0, none⟩ hne (.int .i64 0)).other ⟨(u10).heap.size, 1, none⟩ hne (.int .i64 0)).other ⟨(u10).heap.size, 2, none⟩ hne (.string ⟨#[]⟩))
      clear hne
      have hne : ((u10).heap.size) ≠ ((u13).heap.size) := by have h1 := Lor.out; omega
      have Br_27 := Lib.hid (((Br_26.out.other ⟨(u10).heap.size, 0, none⟩ hne (.int .i64 0)).other ⟨(u10).heap.size, 1, none⟩ hne (.int .i64 0)).other ⟨(u10).heap.size, 2, none⟩ hne (.string ⟨#[]⟩))
      clear hne
      have hle : w.heap.size ≤ (u10).heap.size := by have h1 := Lxo.out; omega
      have H_27 := Lib.hid (below_put3 H_26.out hle (.int .i64 0) (.int .i64 0) (.string ⟨#[]⟩))
      clear hle H_26 Bx_26 By_26 Bz_26 Ba_26 Bb_26 Bp_26 Bq_26 Bc_26 Bo_26 Bt_26 Bk_26 Br_26
      have qx0 := Bx_27.out.c0
      have qx1 := Bx_27.out.c1
      have qx2 := Bx_27.out.c2
      have qr0 := Br_27.out.c0
      have qr1 := Br_27.out.c1
      have qr2 := Br_27.out.c2
      go_wp2_with fail
      clear qx0 qx1 qx2 qr0 qr1 qr2
      clear st15c0 st15f0 st15c1 st15f1 st15c2 st15f2
      have hc := Mul_no K N 0 0 T [] (.inr not_num) h.in64 i0 ((((u14).setCell ⟨(u10).heap.size, 0, none⟩ (.int .i64 0)).setCell ⟨(u10).heap.size, 1, none⟩ (.int .i64 0)).setCell ⟨(u10).heap.size, 2, none⟩ (.string ⟨#[]⟩)) (hw.below H_27.out)
      unfold valV at hc
      refine hc.mono ?_
      rintro e u16 ⟨rfl, hb⟩
      clear hc
      have Bx_28 := Lib.hid (Bx_27.out.below hb Bx_27.out.lt)
      have By_28 := Lib.hid (By_27.out.below hb By_27.out.lt)
      have Bz_28 := Lib.hid (Bz_27.out.below hb Bz_27.out.lt)
      have Ba_28 := Lib.hid (Ba_27.out.below hb Ba_27.out.lt)
      have Bb_28 := Lib.hid (Bb_27.out.below hb Bb_27.out.lt)
      have Bp_28 := Lib.hid (Bp_27.out.below hb Bp_27.out.lt)
      have Bq_28 := Lib.hid (Bq_27.out.below hb Bq_27.out.lt)
      have Bc_28 := Lib.hid (Bc_27.out.below hb Bc_27.out.lt)
      have Bo_28 := Lib.hid (Bo_27.out.below hb Bo_27.out.lt)
      have Bt_28 := Lib.hid (Bt_27.out.below hb Bt_27.out.lt)
      have Bk_28 := Lib.hid (Bk_27.out.below hb Bk_27.out.lt)
      have Br_28 := Lib.hid (Br_27.out.below hb Br_27.out.lt)
      have H_28 := Lib.hid (H_27.out.trans (hb.mono H_27.out.size))
      clear hb H_27 Bx_27 By_27 Bz_27 Ba_27 Bb_27 Bp_27 Bq_27 Bc_27 Bo_27 Bt_27 Bk_27 Br_27
      have st17c0 := Bt_28.out.c0
      have st17f0 := Bt_28.out.fz 0
      have st17c1 := Bt_28.out.c1
      have st17f1 := Bt_28.out.fz 1
      have st17c2 := Bt_28.out.c2
      have st17f2 := Bt_28.out.fz 2
      have hne : ((u11).heap.size) ≠ (w.heap.size) := by have h1 := Lxt.out; omega
      have Bx_29 := Lib.hid (((Bx_28.out.other ⟨(u11).heap.size, 0, none⟩ hne (.int .i64 0)).other ⟨(u11).heap.size, 1, none⟩ hne (.int .i64 0)).other ⟨(u11).heap.size, 2, none⟩ hne (.string ⟨#[]⟩))
      clear hne
      have hne : ((u11).heap.size) ≠ (w.heap.size + 1) := by have h1 := Lyt.out; omega
      have By_29 := Lib.hid (((By_28.out.other ⟨(u11).heap.size, 0, none⟩ hne (.int .i64 0)).other ⟨(u11).heap.size, 1, none⟩ hne (.int .i64 0)).other ⟨(u11).heap.size, 2, none⟩ hne (.string ⟨#[]⟩))
      clear hne
      have hne : ((u11).heap.size) ≠ (w.heap.size + 1 + 1) := by have h1 := Lzt.out; omega
      have Bz_29 := Lib.hid (((Bz_28.out.other ⟨(u11).heap.size, 0, none⟩ hne (.int .i64 0)).other ⟨(u11).heap.size, 1, none⟩ hne (.int .i64 0)).other ⟨(u11).heap.size, 2, none⟩ hne (.string ⟨#[]⟩))
      clear hne
      have hne : ((u11).heap.size) ≠ ((u5).heap.size) := by have h1 := Lat.out; omega
      have Ba_29 := Lib.hid (((Ba_28.out.other ⟨(u11).heap.size, 0, none⟩ hne (.int .i64 0)).other ⟨(u11).heap.size, 1, none⟩ hne (.int .i64 0)).other ⟨(u11).heap.size, 2, none⟩ hne (.string ⟨#[]⟩))
      clear hne
      have hne : ((u11).heap.size) ≠ ((u6).heap.size) := by have h1 := Lbt.out; omega
      have Bb_29 := Lib.hid (((Bb_28.out.other ⟨(u11).heap.size, 0, none⟩ hne (.int .i64 0)).other ⟨(u11).heap.size, 1, none⟩ hne (.int .i64 0)).other ⟨(u11).heap.size, 2, none⟩ hne (.string ⟨#[]⟩))
      clear hne
      have hne : ((u11).heap.size) ≠ ((u7).heap.size) := by have h1 := Lpt.out; omega
      have Bp_29 := Lib.hid (((Bp_28.out.other ⟨(u11).heap.size, 0, none⟩ hne (.int .i64 0)).other ⟨(u11).heap.size, 1, none⟩ hne (.int .i64 0)).other ⟨(u11).heap.size, 2, none⟩ hne (.string ⟨#[]⟩))
      clear hne
      have hne : ((u11).heap.size) ≠ ((u8).heap.size) := by have h1 := Lqt.out; omega
      have Bq_29 := Lib.hid (((Bq_28.out.other ⟨(u11).heap.size, 0, none⟩ hne (.int .i64 0)).other ⟨(u11).heap.size, 1, none⟩ hne (.int .i64 0)).other ⟨(u11).heap.size, 2, none⟩ hne (.string ⟨#[]⟩))
      clear hne
      have hne : ((u11).heap.size) ≠ ((u9).heap.size) := by have h1 := Lct.out; omega
      have Bc_29 := Lib.hid (((Bc_28.out.other ⟨(u11).heap.size, 0, none⟩ hne (.int .i64 0)).other ⟨(u11).heap.size, 1, none⟩ hne (.int .i64 0)).other ⟨(u11).heap.size, 2, none⟩ hne (.string ⟨#[]⟩))
      clear hne
      have hne : ((u11).heap.size) ≠ ((u10).heap.size) := by have h1 := Lot.out; omega
      have Bo_29 := Lib.hid (((Bo_28.out.other ⟨(u11).heap.size, 0, none⟩ hne (.int .i64 0)).other ⟨(u11).heap.size, 1, none⟩ hne (.int .i64 0)).other ⟨(u11).heap.size, 2, none⟩ hne (.string ⟨#[]⟩))
      clear hne
      have Bt_29 := Lib.hid (Bt_28.out.put (.int .i64 0) (.int .i64 0) (.string ⟨#[]⟩))
      have hne : ((u11).heap.size) ≠ ((u12).heap.size) := by have h1 := Ltk.out; omega
      have Bk_29 := Lib.hid (((Bk_28.out.other ⟨(u11).heap.size, 0, none⟩ hne (.int .i64 0)).other ⟨(u11).heap.size, 1, none⟩ hne (.int .i64 0)).other ⟨(u11).heap.size, 2, none⟩ hne (.string ⟨#[]⟩))
      clear hne
      have hne : ((u11).heap.size) ≠ ((u13).heap.size) := by have h1 := Ltr.out; omega
      have Br_29 := Lib.hid (((Br_28.out.other ⟨(u11).heap.size, 0, none⟩ hne (.int .i64 0)).other ⟨(u11).heap.size, 1, none⟩ hne (.int .i64 0)).other ⟨(u11).heap.size, 2, none⟩ hne (.string ⟨#[]⟩))
      clear hne
      have hle : w.heap.size ≤ (u11).heap.size := by have h1 := Lxt.out; omega
      have H_29 := Lib.hid (below_put3 H_28.out hle (.int .i64 0) (.int .i64 0) (.string ⟨#[]⟩))
      clear hle H_28 Bx_28 By_28 Bz_28 Ba_28 Bb_28 Bp_28 Bq_28 Bc_28 Bo_28 Bt_28 Bk_28 Br_28
      go_upto_region 21 with fail
      clear st17c0 st17f0 st17c1 st17f1 st17c2 st17f2
      go_cut [171] from 153 to 172 (fun p171 wx => p171 = .bool false ∧ (((u16).setCell ⟨(u11).heap.size, 0, none⟩ (.int .i64 0)).setCell ⟨(u11).heap.size, 1, none⟩ (.int .i64 0)).setCell ⟨(u11).heap.size, 2, none⟩ (.string ⟨#[]⟩) = wx)
      case first =>
        have qo0 := Bo_29.out.c0
        have qo1 := Bo_29.out.c1
        have qo2 := Bo_29.out.c2
        have qt0 := Bt_29.out.c0
        have qt1 := Bt_29.out.c1
        have qt2 := Bt_29.out.c2
        rcases Hsp.out.two with rfl | rfl <;> (go_wp2_with fail; go_meet; exact ⟨rfl, rfl⟩)
      case rest =>
        obtain ⟨rfl, rfl⟩ := hcut
        have qx0 := Bx_29.out.c0
        have qx1 := Bx_29.out.c1
        have qx2 := Bx_29.out.c2
        have qz0 := Bz_29.out.c0
        have qz1 := Bz_29.out.c1
        have qz2 := Bz_29.out.c2
        go_wp2_with fail
        clear qx0 qx1 qx2 qz0 qz1 qz2
        have hc := Mul_no K N K'' N'' T T'' (.inr hn) h.in64 hN'' ((((u16).setCell ⟨(u11).heap.size, 0, none⟩ (.int .i64 0)).setCell ⟨(u11).heap.size, 1, none⟩ (.int .i64 0)).setCell ⟨(u11).heap.size, 2, none⟩ (.string ⟨#[]⟩)) (hw.below H_29.out)
        unfold valV at hc
        refine hc.mono ?_
        rintro e u18 ⟨rfl, hb⟩
        clear hc
        have Bx_30 := Lib.hid (Bx_29.out.below hb Bx_29.out.lt)
        have By_30 := Lib.hid (By_29.out.below hb By_29.out.lt)
        have Bz_30 := Lib.hid (Bz_29.out.below hb Bz_29.out.lt)
        have Ba_30 := Lib.hid (Ba_29.out.below hb Ba_29.out.lt)
        have Bb_30 := Lib.hid (Bb_29.out.below hb Bb_29.out.lt)
        have Bp_30 := Lib.hid (Bp_29.out.below hb Bp_29.out.lt)
        have Bq_30 := Lib.hid (Bq_29.out.below hb Bq_29.out.lt)
        have Bc_30 := Lib.hid (Bc_29.out.below hb Bc_29.out.lt)
        have Bo_30 := Lib.hid (Bo_29.out.below hb Bo_29.out.lt)
        have Bt_30 := Lib.hid (Bt_29.out.below hb Bt_29.out.lt)
        have Bk_30 := Lib.hid (Bk_29.out.below hb Bk_29.out.lt)
        have Br_30 := Lib.hid (Br_29.out.below hb Br_29.out.lt)
        have H_30 := Lib.hid (H_29.out.trans (hb.mono H_29.out.size))
        clear hb H_29 Bx_29 By_29 Bz_29 Ba_29 Bb_29 Bp_29 Bq_29 Bc_29 Bo_29 Bt_29 Bk_29 Br_29
        have hb : Below (u18).heap.size (u18) ((u18).alloc (.cells #[.int .i64 0, .int .i64 0, .string ⟨#[]⟩] 23)) := (Below.refl _ (u18)).alloc (Nat.le_refl _) _
        have Las := Lib.hid Ba_30.out.lt
        have Lbs := Lib.hid Bb_30.out.lt
        have Lps := Lib.hid Bp_30.out.lt
        have Lqs := Lib.hid Bq_30.out.lt
        have Lcs := Lib.hid Bc_30.out.lt
        have Los := Lib.hid Bo_30.out.lt
        have Lts := Lib.hid Bt_30.out.lt
        have Lks := Lib.hid Bk_30.out.lt
        have Lrs := Lib.hid Br_30.out.lt
        have Lxs := Lib.hid Bx_30.out.lt
        have Lys := Lib.hid By_30.out.lt
        have Lzs := Lib.hid Bz_30.out.lt
        have Bnew := VB.new (u18) (.int .i64 0) (.int .i64 0) (.string ⟨#[]⟩)
        try simp only [World.size_alloc] at Bnew
        have Bx_31 := Lib.hid (Bx_30.out.below hb Bx_30.out.lt)
        have By_31 := Lib.hid (By_30.out.below hb By_30.out.lt)
        have Bz_31 := Lib.hid (Bz_30.out.below hb Bz_30.out.lt)
        have Ba_31 := Lib.hid (Ba_30.out.below hb Ba_30.out.lt)
        have Bb_31 := Lib.hid (Bb_30.out.below hb Bb_30.out.lt)
        have Bp_31 := Lib.hid (Bp_30.out.below hb Bp_30.out.lt)
        have Bq_31 := Lib.hid (Bq_30.out.below hb Bq_30.out.lt)
        have Bc_31 := Lib.hid (Bc_30.out.below hb Bc_30.out.lt)
        have Bo_31 := Lib.hid (Bo_30.out.below hb Bo_30.out.lt)
        have Bt_31 := Lib.hid (Bt_30.out.below hb Bt_30.out.lt)
        have Bk_31 := Lib.hid (Bk_30.out.below hb Bk_30.out.lt)
        have Br_31 := Lib.hid (Br_30.out.below hb Br_30.out.lt)
        have H_31 := Lib.hid (H_30.out.trans (hb.mono H_30.out.size))
        clear hb H_30 Bx_30 By_30 Bz_30 Ba_30 Bb_30 Bp_30 Bq_30 Bc_30 Bo_30 Bt_30 Bk_30 Br_30
        have Bs_31 := Lib.hid Bnew
        clear Bnew
        have qx0 := Bx_31.out.c0
        have qx1 := Bx_31.out.c1
        have qx2 := Bx_31.out.c2
        have qc0 := Bc_31.out.c0
        have qc1 := Bc_31.out.c1
        have qc2 := Bc_31.out.c2
        go_wp2_with fail
        clear qx0 qx1 qx2 qc0 qc1 qc2
        have hc := Mul_no K N 0 0 T [] (.inr not_num) h.in64 i0 ((u18).alloc (.cells #[.int .i64 0, .int .i64 0, .string ⟨#[]⟩] 23)) (hw.below H_31.out)
        unfold valV at hc
        refine hc.mono ?_
        rintro e u19 ⟨rfl, hb⟩
        clear hc
        have Bx_32 := Lib.hid (Bx_31.out.below hb Bx_31.out.lt)
        have By_32 := Lib.hid (By_31.out.below hb By_31.out.lt)
        have Bz_32 := Lib.hid (Bz_31.out.below hb Bz_31.out.lt)
        have Ba_32 := Lib.hid (Ba_31.out.below hb Ba_31.out.lt)
        have Bb_32 := Lib.hid (Bb_31.out.below hb Bb_31.out.lt)
        have Bp_32 := Lib.hid (Bp_31.out.below hb Bp_31.out.lt)
        have Bq_32 := Lib.hid (Bq_31.out.below hb Bq_31.out.lt)
        have Bc_32 := Lib.hid (Bc_31.out.below hb Bc_31.out.lt)
        have Bo_32 := Lib.hid (Bo_31.out.below hb Bo_31.out.lt)
        have Bt_32 := Lib.hid (Bt_31.out.below hb Bt_31.out.lt)
        have Bk_32 := Lib.hid (Bk_31.out.below hb Bk_31.out.lt)
        have Br_32 := Lib.hid (Br_31.out.below hb Br_31.out.lt)
        have Bs_32 := Lib.hid (Bs_31.out.below hb Bs_31.out.lt)
        have H_32 := Lib.hid (H_31.out.trans (hb.mono H_31.out.size))
        clear hb H_31 Bx_31 By_31 Bz_31 Ba_31 Bb_31 Bp_31 Bq_31 Bc_31 Bo_31 Bt_31 Bk_31 Br_31 Bs_31
        have st20c0 := Bo_32.out.c0
        have st20f0 := Bo_32.out.fz 0
        have st20c1 := Bo_32.out.c1
        have st20f1 := Bo_32.out.fz 1
        have st20c2 := Bo_32.out.c2
        have st20f2 := Bo_32.out.fz 2
        have hne : ((u10).heap.size) ≠ (w.heap.size) := by have h1 := Lxo.out; omega
        have Bx_33 := Lib.hid (((Bx_32.out.other ⟨(u10).heap.size, 0, none⟩ hne (.int .i64 0)).other ⟨(u10).heap.size, 1, none⟩ hne (.int .i64 0)).other ⟨(u10).heap.size, 2, none⟩ hne (.string ⟨#[]⟩))
        clear hne
        have hne : ((u10).heap.size) ≠ (w.heap.size + 1) := by have h1 := Lyo.out; omega
        have By_33 := Lib.hid (((By_32.out.other ⟨(u10).heap.size, 0, none⟩ hne (.int .i64 0)).other ⟨(u10).heap.size, 1, none⟩ hne (.int .i64 0)).other ⟨(u10).heap.size, 2, none⟩ hne (.string ⟨#[]⟩))
        clear hne
        have hne : ((u10).heap.size) ≠ (w.heap.size + 1 + 1) := by have h1 := Lzo.out; omega
        have Bz_33 := Lib.hid (((Bz_32.out.other ⟨(u10).heap.size, 0, none⟩ hne (.int .i64 0)).other ⟨(u10).heap.size, 1, none⟩ hne (.int .i64 0)).other ⟨(u10).heap.size, 2, none⟩ hne (.string ⟨#[]⟩))
        clear hne
        have hne : ((u10).heap.size) ≠ ((u5).heap.size) := by have h1 := Lao.out; omega
        have Ba_33 := Lib.hid (((Ba_32.out.other ⟨(u10).heap.size, 0, none⟩ hne (.int .i64 0)).other ⟨(u10).heap.size, 1, none⟩ hne (.int .i64 0)).other ⟨(u10).heap.size, 2, none⟩ hne (.string ⟨#[]⟩))
        clear hne
        have hne : ((u10).heap.size) ≠ ((u6).heap.size) := by have h1 := Lbo.out; omega
        have Bb_33 := Lib.hid (((Bb_32.out.other ⟨(u10).heap.size, 0, none⟩ hne (.int .i64 0)).other ⟨(u10).heap.size, 1, none⟩ hne (.int .i64 0)).other ⟨(u10).heap.size, 2, none⟩ hne (.string ⟨#[]⟩))
        clear hne
        have hne : ((u10).heap.size) ≠ ((u7).heap.size) := by have h1 := Lpo.out; omega
        have Bp_33 := Lib.hid (((Bp_32.out.other ⟨(u10).heap.size, 0, none⟩ hne (.int .i64 0)).other ⟨(u10).heap.size, 1, none⟩ hne (.int .i64 0)).other ⟨(u10).heap.size, 2, none⟩ hne (.string ⟨#[]⟩))
        clear hne
        have hne : ((u10).heap.size) ≠ ((u8).heap.size) := by have h1 := Lqo.out; omega
        have Bq_33 := Lib.hid (((Bq_32.out.other ⟨(u10).heap.size, 0, none⟩ hne (.int .i64 0)).other ⟨(u10).heap.size, 1, none⟩ hne (.int .i64 0)).other ⟨(u10).heap.size, 2, none⟩ hne (.string ⟨#[]⟩))
        clear hne
        have hne : ((u10).heap.size) ≠ ((u9).heap.size) := by have h1 := Lco.out; omega
        have Bc_33 := Lib.hid (((Bc_32.out.other ⟨(u10).heap.size, 0, none⟩ hne (.int .i64 0)).other ⟨(u10).heap.size, 1, none⟩ hne (.int .i64 0)).other ⟨(u10).heap.size, 2, none⟩ hne (.string ⟨#[]⟩))
        clear hne
        have Bo_33 := Lib.hid (Bo_32.out.put (.int .i64 0) (.int .i64 0) (.string ⟨#[]⟩))
        have hne : ((u10).heap.size) ≠ ((u11).heap.size) := by have h1 := Lot.out; omega
        have Bt_33 := Lib.hid (((Bt_32.out.other ⟨(u10).heap.size, 0, none⟩ hne (.int .i64 0)).other ⟨(u10).heap.size, 1, none⟩ hne (.int .i64 0)).other ⟨(u10).heap.size, 2, none⟩ hne (.string ⟨#[]⟩))
        clear hne
        have hne : ((u10).heap.size) ≠ ((u12).heap.size) := by have h1 := Lok.out; omega
        have Bk_33 := Lib.hid (((Bk_32.out.other ⟨(u10).heap.size, 0, none⟩ hne (.int .i64 0)).other ⟨(u10).heap.size, 1, none⟩ hne (.int .i64 0)).other ⟨(u10).heap.size, 2, none⟩ hne (.string ⟨#[]⟩))
        clear hne
        have hne : ((u10).heap.size) ≠ ((u13).heap.size) := by have h1 := Lor.out; omega
        have Br_33 := Lib.hid (((Br_32.out.other ⟨(u10).heap.size, 0, none⟩ hne (.int .i64 0)).other ⟨(u10).heap.size, 1, none⟩ hne (.int .i64 0)).other ⟨(u10).heap.size, 2, none⟩ hne (.string ⟨#[]⟩))
        clear hne
        have hne : ((u10).heap.size) ≠ ((u18).heap.size) := by have h1 := Los.out; omega
        have Bs_33 := Lib.hid (((Bs_32.out.other ⟨(u10).heap.size, 0, none⟩ hne (.int .i64 0)).other ⟨(u10).heap.size, 1, none⟩ hne (.int .i64 0)).other ⟨(u10).heap.size, 2, none⟩ hne (.string ⟨#[]⟩))
        clear hne
        have hle : w.heap.size ≤ (u10).heap.size := by have h1 := Lxo.out; omega
        have H_33 := Lib.hid (below_put3 H_32.out hle (.int .i64 0) (.int .i64 0) (.string ⟨#[]⟩))
        clear hle H_32 Bx_32 By_32 Bz_32 Ba_32 Bb_32 Bp_32 Bq_32 Bc_32 Bo_32 Bt_32 Bk_32 Br_32 Bs_32
        have qp0 := Bp_33.out.c0
        have qp1 := Bp_33.out.c1
        have qp2 := Bp_33.out.c2
        have qs0 := Bs_33.out.c0
        have qs1 := Bs_33.out.c1
        have qs2 := Bs_33.out.c2
        go_wp2_with fail
        clear qp0 qp1 qp2 qs0 qs1 qs2
        clear st20c0 st20f0 st20c1 st20f1 st20c2 st20f2
        have hc := Add_no P0 P1 0 0 P2 [] (.inr not_num) Hsp.out.in64 i0 ((((u19).setCell ⟨(u10).heap.size, 0, none⟩ (.int .i64 0)).setCell ⟨(u10).heap.size, 1, none⟩ (.int .i64 0)).setCell ⟨(u10).heap.size, 2, none⟩ (.string ⟨#[]⟩)) (hw.below H_33.out)
        unfold valV at hc
        refine hc.mono ?_
        rintro e u21 ⟨rfl, hb⟩
        clear hc
        have Bx_34 := Lib.hid (Bx_33.out.below hb Bx_33.out.lt)
        have By_34 := Lib.hid (By_33.out.below hb By_33.out.lt)
        have Bz_34 := Lib.hid (Bz_33.out.below hb Bz_33.out.lt)
        have Ba_34 := Lib.hid (Ba_33.out.below hb Ba_33.out.lt)
        have Bb_34 := Lib.hid (Bb_33.out.below hb Bb_33.out.lt)
        have Bp_34 := Lib.hid (Bp_33.out.below hb Bp_33.out.lt)
        have Bq_34 := Lib.hid (Bq_33.out.below hb Bq_33.out.lt)
        have Bc_34 := Lib.hid (Bc_33.out.below hb Bc_33.out.lt)
        have Bo_34 := Lib.hid (Bo_33.out.below hb Bo_33.out.lt)
        have Bt_34 := Lib.hid (Bt_33.out.below hb Bt_33.out.lt)
        have Bk_34 := Lib.hid (Bk_33.out.below hb Bk_33.out.lt)
        have Br_34 := Lib.hid (Br_33.out.below hb Br_33.out.lt)
        have Bs_34 := Lib.hid (Bs_33.out.below hb Bs_33.out.lt)
        have H_34 := Lib.hid (H_33.out.trans (hb.mono H_33.out.size))
        clear hb H_33 Bx_33 By_33 Bz_33 Ba_33 Bb_33 Bp_33 Bq_33 Bc_33 Bo_33 Bt_33 Bk_33 Br_33 Bs_33
        have st22c0 := Bt_34.out.c0
        have st22f0 := Bt_34.out.fz 0
        have st22c1 := Bt_34.out.c1
        have st22f1 := Bt_34.out.fz 1
        have st22c2 := Bt_34.out.c2
        have st22f2 := Bt_34.out.fz 2
        have hne : ((u11).heap.size) ≠ (w.heap.size) := by have h1 := Lxt.out; omega
        have Bx_35 := Lib.hid (((Bx_34.out.other ⟨(u11).heap.size, 0, none⟩ hne (.int .i64 0)).other ⟨(u11).heap.size, 1, none⟩ hne (.int .i64 0)).other ⟨(u11).heap.size, 2, none⟩ hne (.string ⟨#[]⟩))
        clear hne
        have hne : ((u11).heap.size) ≠ (w.heap.size + 1) := by have h1 := Lyt.out; omega
        have By_35 := Lib.hid (((By_34.out.other ⟨(u11).heap.size, 0, none⟩ hne (.int .i64 0)).other ⟨(u11).heap.size, 1, none⟩ hne (.int .i64 0)).other ⟨(u11).heap.size, 2, none⟩ hne (.string ⟨#[]⟩))
        clear hne
        have hne : ((u11).heap.size) ≠ (w.heap.size + 1 + 1) := by have h1 := Lzt.out; omega
        have Bz_35 := Lib.hid (((Bz_34.out.other ⟨(u11).heap.size, 0, none⟩ hne (.int .i64 0)).other ⟨(u11).heap.size, 1, none⟩ hne (.int .i64 0)).other ⟨(u11).heap.size, 2, none⟩ hne (.string ⟨#[]⟩))
        clear hne
        have hne : ((u11).heap.size) ≠ ((u5).heap.size) := by have h1 := Lat.out; omega
        have Ba_35 := Lib.hid (((Ba_34.out.other ⟨(u11).heap.size, 0, none⟩ hne (.int .i64 0)).other ⟨(u11).heap.size, 1, none⟩ hne (.int .i64 0)).other ⟨(u11).heap.size, 2, none⟩ hne (.string ⟨#[]⟩))
        clear hne
        have hne : ((u11).heap.size) ≠ ((u6).heap.size) := by have h1 := Lbt.out; omega
        have Bb_35 := Lib.hid (((Bb_34.out.other ⟨(u11).heap.size, 0, none⟩ hne (.int .i64 0)).other ⟨(u11).heap.size, 1, none⟩ hne (.int .i64 0)).other ⟨(u11).heap.size, 2, none⟩ hne (.string ⟨#[]⟩))
        clear hne
        have hne : ((u11).heap.size) ≠ ((u7).heap.size) := by have h1 := Lpt.out; omega
        have Bp_35 := Lib.hid (((Bp_34.out.other ⟨(u11).heap.size, 0, none⟩ hne (.int .i64 0)).other ⟨(u11).heap.size, 1, none⟩ hne (.int .i64 0)).other ⟨(u11).heap.size, 2, none⟩ hne (.string ⟨#[]⟩))
        clear hne
        have hne : ((u11).heap.size) ≠ ((u8).heap.size) := by have h1 := Lqt.out; omega
        have Bq_35 := Lib.hid (((Bq_34.out.other ⟨(u11).heap.size, 0, none⟩ hne (.int .i64 0)).other ⟨(u11).heap.size, 1, none⟩ hne (.int .i64 0)).other ⟨(u11).heap.size, 2, none⟩ hne (.string ⟨#[]⟩))
        clear hne
        have hne : ((u11).heap.size) ≠ ((u9).heap.size) := by have h1 := Lct.out; omega
        have Bc_35 := Lib.hid (((Bc_34.out.other ⟨(u11).heap.size, 0, none⟩ hne (.int .i64 0)).other ⟨(u11).heap.size, 1, none⟩ hne (.int .i64 0)).other ⟨(u11).heap.size, 2, none⟩ hne (.string ⟨#[]⟩))
        clear hne
        have hne : ((u11).heap.size) ≠ ((u10).heap.size) := by have h1 := Lot.out; omega
        have Bo_35 := Lib.hid (((Bo_34.out.other ⟨(u11).heap.size, 0, none⟩ hne (.int .i64 0)).other ⟨(u11).heap.size, 1, none⟩ hne (.int .i64 0)).other ⟨(u11).heap.size, 2, none⟩ hne (.string ⟨#[]⟩))
        clear hne
        have Bt_35 := Lib.hid (Bt_34.out.put (.int .i64 0) (.int .i64 0) (.string ⟨#[]⟩))
        have hne : ((u11).heap.size) ≠ ((u12).heap.size) := by have h1 := Ltk.out; omega
        have Bk_35 := Lib.hid (((Bk_34.out.other ⟨(u11).heap.size, 0, none⟩ hne (.int .i64 0)).other ⟨(u11).heap.size, 1, none⟩ hne (.int .i64 0)).other ⟨(u11).heap.size, 2, none⟩ hne (.string ⟨#[]⟩))
        clear hne
        have hne : ((u11).heap.size) ≠ ((u13).heap.size) := by have h1 := Ltr.out; omega
        have Br_35 := Lib.hid (((Br_34.out.other ⟨(u11).heap.size, 0, none⟩ hne (.int .i64 0)).other ⟨(u11).heap.size, 1, none⟩ hne (.int .i64 0)).other ⟨(u11).heap.size, 2, none⟩ hne (.string ⟨#[]⟩))
        clear hne
        have hne : ((u11).heap.size) ≠ ((u18).heap.size) := by have h1 := Lts.out; omega
        have Bs_35 := Lib.hid (((Bs_34.out.other ⟨(u11).heap.size, 0, none⟩ hne (.int .i64 0)).other ⟨(u11).heap.size, 1, none⟩ hne (.int .i64 0)).other ⟨(u11).heap.size, 2, none⟩ hne (.string ⟨#[]⟩))
        clear hne
        have hle : w.heap.size ≤ (u11).heap.size := by have h1 := Lxt.out; omega
        have H_35 := Lib.hid (below_put3 H_34.out hle (.int .i64 0) (.int .i64 0) (.string ⟨#[]⟩))
        clear hle H_34 Bx_34 By_34 Bz_34 Ba_34 Bb_34 Bp_34 Bq_34 Bc_34 Bo_34 Bt_34 Bk_34 Br_34 Bs_34
        have qo0 := Bo_35.out.c0
        have qo1 := Bo_35.out.c1
        have qo2 := Bo_35.out.c2
        have qt0 := Bt_35.out.c0
        have qt1 := Bt_35.out.c1
        have qt2 := Bt_35.out.c2
        go_wp2_with fail
        go_ret
        exact ⟨rfl, H_35.out⟩

theorem ring_c (K N : Int) (T : List UInt8) (K' N' : Int) (T' : List UInt8) (K'' N'' : Int) (T'' : List UInt8) (hN : In64Z N) (hN' : In64Z N') (hN'' : In64Z N'') (w : World) (hw : Wd w) :
    Calls Tryz.prog 7 #[valV K N T, valV K' N' T', valV K'' N'' T''] w fun e w' => e = .returned (.bool true) ∧ Below w.heap.size w w' := by
  by_cases hx : T.length ≤ 800
  · by_cases hy : T'.length ≤ 800
    · by_cases hz : T''.length ≤ 800
      · by_cases h1 : ∃ z, IsNum K N T z
        · by_cases h2 : ∃ z, IsNum K' N' T' z
          · obtain ⟨x, h1⟩ := h1
            obtain ⟨y, h2⟩ := h2
            by_cases h3 : ∃ z, IsNum K'' N'' T'' z
            · obtain ⟨z, h3⟩ := h3
              exact ring_num K N K' N' K'' N'' T T' T'' x y z h1 h2 h3 w hw
            · exact ring_noz K N K' N' K'' N'' T T' T'' hz x y h1 h2 (fun z hz => h3 ⟨z, hz⟩) hN'' w hw
          · exact ring_no K N K' N' K'' N'' T T' T'' hx hy hz (.inr fun z hz => h2 ⟨z, hz⟩) hN hN' hN'' w hw
        · exact ring_no K N K' N' K'' N'' T T' T'' hx hy hz (.inl fun z hz => h1 ⟨z, hz⟩) hN hN' hN'' w hw
      · exact ring_long3 K N K' N' K'' N'' T T' T'' hx hy hz w hw
    · exact ring_long2 K N K' N' K'' N'' T T' T'' hx hy w hw
  · exact ring_long1 K N K' N' K'' N'' T T' T'' hx w hw
end Go.Proofs.YthbfbpbppjkoeaaGreatDoor
