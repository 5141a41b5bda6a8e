/- The walk of BigSums of package proteuslaw03, case by case. Conditions: those in the statements. -/
import Derived.Test.YthbfbpbppjkoeaaGreatDoorBigTz
import Derived.Test.YthbfbpbppjkoeaaGreatDoorBigQu
namespace Go.Proofs.YthbfbpbppjkoeaaGreatDoor
open Go.RowKit Go.Shelf
set_option exponentiation.threshold 500
set_option maxRecDepth 100000
set_option linter.unusedSimpArgs false
set_option linter.unusedVariables false
attribute [local irreducible] wpQuiet

theorem sums_Add (K N K' N' : Int) (T T' : List UInt8) (hN : In64Z N) (hN' : In64Z N') (hT : T.length ≤ 1000) (hT' : T'.length ≤ 1000) : ∃ (A B : Int) (S : List UInt8) (E : Int), (∀ (w : World), Wd w → Calls Tryz.prog 25 #[valV K N T, valV K' N' T'] w fun e w' => e = .returned (.tuple #[valV A B S, .int .i64 E]) ∧ Below w.heap.size w w') ∧ (∀ (w : World), Calls Tryz.prog 26 #[valV K N T, valV K' N' T'] w fun e w' => e = .returned (.tuple #[valV A B S, .int .i64 E]) ∧ Below w.heap.size w w') := by
  by_cases h1 : ∃ z, IsNum K N T z
  · by_cases h2 : ∃ z, IsNum K' N' T' z
    · obtain ⟨x, h1⟩ := h1
      obtain ⟨y, h2⟩ := h2
      obtain ⟨A, B, S, E, ha⟩ := ans_ex (x + y)
      exact ⟨A, B, S, E, fun w hw => Add_any h1 h2 ha rfl w hw, fun w => AddRef_ok h1 h2 ha rfl w⟩
    · exact ⟨0, 0, [], 31, fun w hw => Add_no K N K' N' T T' (.inr fun z hz => h2 ⟨z, hz⟩) hN hN' w hw, fun w => AddRef_no K N K' N' T T' w (.inr fun z hz => h2 ⟨z, hz⟩) hN hN' hT hT'⟩
  · exact ⟨0, 0, [], 31, fun w hw => Add_no K N K' N' T T' (.inl fun z hz => h1 ⟨z, hz⟩) hN hN' w hw, fun w => AddRef_no K N K' N' T T' w (.inl fun z hz => h1 ⟨z, hz⟩) hN hN' hT hT'⟩
theorem sums_Sub (K N K' N' : Int) (T T' : List UInt8) (hN : In64Z N) (hN' : In64Z N') (hT : T.length ≤ 1000) (hT' : T'.length ≤ 1000) : ∃ (A B : Int) (S : List UInt8) (E : Int), (∀ (w : World), Wd w → Calls Tryz.prog 27 #[valV K N T, valV K' N' T'] w fun e w' => e = .returned (.tuple #[valV A B S, .int .i64 E]) ∧ Below w.heap.size w w') ∧ (∀ (w : World), Calls Tryz.prog 28 #[valV K N T, valV K' N' T'] w fun e w' => e = .returned (.tuple #[valV A B S, .int .i64 E]) ∧ Below w.heap.size w w') := by
  by_cases h1 : ∃ z, IsNum K N T z
  · by_cases h2 : ∃ z, IsNum K' N' T' z
    · obtain ⟨x, h1⟩ := h1
      obtain ⟨y, h2⟩ := h2
      obtain ⟨A, B, S, E, ha⟩ := ans_ex (x - y)
      exact ⟨A, B, S, E, fun w hw => Sub_any h1 h2 ha rfl w hw, fun w => SubRef_ok h1 h2 ha rfl w⟩
    · exact ⟨0, 0, [], 31, fun w hw => Sub_no K N K' N' T T' (.inr fun z hz => h2 ⟨z, hz⟩) hN hN' w hw, fun w => SubRef_no K N K' N' T T' w (.inr fun z hz => h2 ⟨z, hz⟩) hN hN' hT hT'⟩
  · exact ⟨0, 0, [], 31, fun w hw => Sub_no K N K' N' T T' (.inl fun z hz => h1 ⟨z, hz⟩) hN hN' w hw, fun w => SubRef_no K N K' N' T T' w (.inl fun z hz => h1 ⟨z, hz⟩) hN hN' hT hT'⟩
theorem sums_Mul (K N K' N' : Int) (T T' : List UInt8) (hN : In64Z N) (hN' : In64Z N') (hT : T.length ≤ 1000) (hT' : T'.length ≤ 1000) : ∃ (A B : Int) (S : List UInt8) (E : Int), (∀ (w : World), Wd w → Calls Tryz.prog 29 #[valV K N T, valV K' N' T'] w fun e w' => e = .returned (.tuple #[valV A B S, .int .i64 E]) ∧ Below w.heap.size w w') ∧ (∀ (w : World), Calls Tryz.prog 30 #[valV K N T, valV K' N' T'] w fun e w' => e = .returned (.tuple #[valV A B S, .int .i64 E]) ∧ Below w.heap.size w w') := by
  by_cases h1 : ∃ z, IsNum K N T z
  · by_cases h2 : ∃ z, IsNum K' N' T' z
    · obtain ⟨x, h1⟩ := h1
      obtain ⟨y, h2⟩ := h2
      obtain ⟨A, B, S, E, ha⟩ := ans_ex (x * y)
      exact ⟨A, B, S, E, fun w hw => Mul_any h1 h2 ha rfl w hw, fun w => MulRef_ok h1 h2 ha rfl w⟩
    · exact ⟨0, 0, [], 31, fun w hw => Mul_no K N K' N' T T' (.inr fun z hz => h2 ⟨z, hz⟩) hN hN' w hw, fun w => MulRef_no K N K' N' T T' w (.inr fun z hz => h2 ⟨z, hz⟩) hN hN' hT hT'⟩
  · exact ⟨0, 0, [], 31, fun w hw => Mul_no K N K' N' T T' (.inl fun z hz => h1 ⟨z, hz⟩) hN hN' w hw, fun w => MulRef_no K N K' N' T T' w (.inl fun z hz => h1 ⟨z, hz⟩) hN hN' hT hT'⟩
theorem sums_Less (K N K' N' : Int) (T T' : List UInt8) (hN : In64Z N) (hN' : In64Z N') (hT : T.length ≤ 1000) (hT' : T'.length ≤ 1000) : ∃ (d : Bool) (E : Int), (∀ (w : World), Wd w → Calls Tryz.prog 31 #[valV K N T, valV K' N' T'] w fun e w' => e = .returned (.tuple #[.bool d, .int .i64 E]) ∧ Below w.heap.size w w') ∧ (∀ (w : World), Calls Tryz.prog 32 #[valV K N T, valV K' N' T'] w fun e w' => e = .returned (.tuple #[.bool d, .int .i64 E]) ∧ Below w.heap.size w w') := by
  by_cases h1 : ∃ z, IsNum K N T z
  · by_cases h2 : ∃ z, IsNum K' N' T' z
    · obtain ⟨x, h1⟩ := h1
      obtain ⟨y, h2⟩ := h2
      exact ⟨_, 0, fun w hw => Less_num h1 h2 _ rfl w hw, fun w => LessRef_ok h1 h2 _ rfl w⟩
    · exact ⟨false, 31, fun w hw => Less_no K N K' N' T T' (.inr fun z hz => h2 ⟨z, hz⟩) hN hN' w hw, fun w => LessRef_no K N K' N' T T' w (.inr fun z hz => h2 ⟨z, hz⟩) hN hN' hT hT'⟩
  · exact ⟨false, 31, fun w hw => Less_no K N K' N' T T' (.inl fun z hz => h1 ⟨z, hz⟩) hN hN' w hw, fun w => LessRef_no K N K' N' T T' w (.inl fun z hz => h1 ⟨z, hz⟩) hN hN' hT hT'⟩
set_option maxHeartbeats 4000000 in
theorem sums_long1 (K N K' N' : Int) (T T' : List UInt8) (hx : ¬ T.length ≤ 800) (w : World) (hw : Wd w) :
    Calls Tryz.prog 4 #[valV K N T, valV K' N' T'] w fun e w' => e = .returned (.bool true) ∧ Below w.heap.size w w' := by
  have H_0 := Lib.hid (Below.refl w.heap.size w)
  try unfold valV
  go_enter Tryz.func4, Tryz.ntmps4
  have hb : Below (w).heap.size (w) ((w).alloc (.cells #[.int .i64 K, .int .i64 N, .string ⟨T.toArray⟩] 23)) := (Below.refl _ (w)).alloc (Nat.le_refl _) _
  have Bnew := VB.new (w) (.int .i64 K) (.int .i64 N) (.string ⟨T.toArray⟩)
  try simp only [World.size_alloc] at Bnew
  have H_1 := Lib.hid (H_0.out.trans (hb.mono H_0.out.size))
  clear hb H_0
  have Bx_1 := Lib.hid Bnew
  clear Bnew
  have hb : Below ((w).alloc (.cells #[.int .i64 K, .int .i64 N, .string ⟨T.toArray⟩] 23)).heap.size ((w).alloc (.cells #[.int .i64 K, .int .i64 N, .string ⟨T.toArray⟩] 23)) (((w).alloc (.cells #[.int .i64 K, .int .i64 N, .string ⟨T.toArray⟩] 23)).alloc (.cells #[.int .i64 K', .int .i64 N', .string ⟨T'.toArray⟩] 23)) := (Below.refl _ ((w).alloc (.cells #[.int .i64 K, .int .i64 N, .string ⟨T.toArray⟩] 23))).alloc (Nat.le_refl _) _
  have Bnew := VB.new ((w).alloc (.cells #[.int .i64 K, .int .i64 N, .string ⟨T.toArray⟩] 23)) (.int .i64 K') (.int .i64 N') (.string ⟨T'.toArray⟩)
  try simp only [World.size_alloc] at Bnew
  have Bx_2 := Lib.hid (Bx_1.out.below hb Bx_1.out.lt)
  have H_2 := Lib.hid (H_1.out.trans (hb.mono H_1.out.size))
  clear hb H_1 Bx_1
  have By_2 := Lib.hid Bnew
  clear Bnew
  go_wp2_with fail
  have hc := awake_c (((w).alloc (.cells #[.int .i64 K, .int .i64 N, .string ⟨T.toArray⟩] 23)).alloc (.cells #[.int .i64 K', .int .i64 N', .string ⟨T'.toArray⟩] 23)) (hw.below H_2.out)
  unfold valV at hc
  refine hc.mono ?_
  rintro e u1 ⟨rfl, hb⟩
  clear hc
  have Bx_3 := Lib.hid (Bx_2.out.below hb Bx_2.out.lt)
  have By_3 := Lib.hid (By_2.out.below hb By_2.out.lt)
  have H_3 := Lib.hid (H_2.out.trans (hb.mono H_2.out.size))
  clear hb H_2 Bx_2 By_2
  have qx0 := Bx_3.out.c0
  have qx1 := Bx_3.out.c1
  have qx2 := Bx_3.out.c2
  go_wp2_with fail
  clear qx0 qx1 qx2
  have hc := short_not K N T hx (u1)
  unfold valV at hc
  refine hc.mono ?_
  rintro e u2 ⟨rfl, hb⟩
  clear hc
  have Bx_4 := Lib.hid (Bx_3.out.below hb Bx_3.out.lt)
  have By_4 := Lib.hid (By_3.out.below hb By_3.out.lt)
  have H_4 := Lib.hid (H_3.out.trans (hb.mono H_3.out.size))
  clear hb H_3 Bx_3 By_3
  go_wp2_with fail
  go_ret
  exact ⟨rfl, H_4.out⟩

set_option maxHeartbeats 4000000 in
theorem sums_long2 (K N K' N' : Int) (T T' : List UInt8) (hx : T.length ≤ 800) (hy : ¬ T'.length ≤ 800) (w : World) (hw : Wd w) :
    Calls Tryz.prog 4 #[valV K N T, valV K' N' T'] w fun e w' => e = .returned (.bool true) ∧ Below w.heap.size w w' := by
  have H_0 := Lib.hid (Below.refl w.heap.size w)
  try unfold valV
  go_enter Tryz.func4, Tryz.ntmps4
  have hb : Below (w).heap.size (w) ((w).alloc (.cells #[.int .i64 K, .int .i64 N, .string ⟨T.toArray⟩] 23)) := (Below.refl _ (w)).alloc (Nat.le_refl _) _
  have Bnew := VB.new (w) (.int .i64 K) (.int .i64 N) (.string ⟨T.toArray⟩)
  try simp only [World.size_alloc] at Bnew
  have H_1 := Lib.hid (H_0.out.trans (hb.mono H_0.out.size))
  clear hb H_0
  have Bx_1 := Lib.hid Bnew
  clear Bnew
  have hb : Below ((w).alloc (.cells #[.int .i64 K, .int .i64 N, .string ⟨T.toArray⟩] 23)).heap.size ((w).alloc (.cells #[.int .i64 K, .int .i64 N, .string ⟨T.toArray⟩] 23)) (((w).alloc (.cells #[.int .i64 K, .int .i64 N, .string ⟨T.toArray⟩] 23)).alloc (.cells #[.int .i64 K', .int .i64 N', .string ⟨T'.toArray⟩] 23)) := (Below.refl _ ((w).alloc (.cells #[.int .i64 K, .int .i64 N, .string ⟨T.toArray⟩] 23))).alloc (Nat.le_refl _) _
  have Bnew := VB.new ((w).alloc (.cells #[.int .i64 K, .int .i64 N, .string ⟨T.toArray⟩] 23)) (.int .i64 K') (.int .i64 N') (.string ⟨T'.toArray⟩)
  try simp only [World.size_alloc] at Bnew
  have Bx_2 := Lib.hid (Bx_1.out.below hb Bx_1.out.lt)
  have H_2 := Lib.hid (H_1.out.trans (hb.mono H_1.out.size))
  clear hb H_1 Bx_1
  have By_2 := Lib.hid Bnew
  clear Bnew
  go_wp2_with fail
  have hc := awake_c (((w).alloc (.cells #[.int .i64 K, .int .i64 N, .string ⟨T.toArray⟩] 23)).alloc (.cells #[.int .i64 K', .int .i64 N', .string ⟨T'.toArray⟩] 23)) (hw.below H_2.out)
  unfold valV at hc
  refine hc.mono ?_
  rintro e u1 ⟨rfl, hb⟩
  clear hc
  have Bx_3 := Lib.hid (Bx_2.out.below hb Bx_2.out.lt)
  have By_3 := Lib.hid (By_2.out.below hb By_2.out.lt)
  have H_3 := Lib.hid (H_2.out.trans (hb.mono H_2.out.size))
  clear hb H_2 Bx_2 By_2
  have qx0 := Bx_3.out.c0
  have qx1 := Bx_3.out.c1
  have qx2 := Bx_3.out.c2
  go_wp2_with fail
  clear qx0 qx1 qx2
  have hc := short_yes K N T hx (u1)
  unfold valV at hc
  refine hc.mono ?_
  rintro e u2 ⟨rfl, hb⟩
  clear hc
  have Bx_4 := Lib.hid (Bx_3.out.below hb Bx_3.out.lt)
  have By_4 := Lib.hid (By_3.out.below hb By_3.out.lt)
  have H_4 := Lib.hid (H_3.out.trans (hb.mono H_3.out.size))
  clear hb H_3 Bx_3 By_3
  have qy0 := By_4.out.c0
  have qy1 := By_4.out.c1
  have qy2 := By_4.out.c2
  go_wp2_with fail
  clear qy0 qy1 qy2
  have hc := short_not K' N' T' hy (u2)
  unfold valV at hc
  refine hc.mono ?_
  rintro e u3 ⟨rfl, hb⟩
  clear hc
  have Bx_5 := Lib.hid (Bx_4.out.below hb Bx_4.out.lt)
  have By_5 := Lib.hid (By_4.out.below hb By_4.out.lt)
  have H_5 := Lib.hid (H_4.out.trans (hb.mono H_4.out.size))
  clear hb H_4 Bx_4 By_4
  go_wp2_with fail
  go_ret
  exact ⟨rfl, H_5.out⟩

set_option maxHeartbeats 8000000 in
theorem sums_all (K N K' N' : Int) (T T' : List UInt8) (hx : T.length ≤ 800) (hy : T'.length ≤ 800) (hN : In64Z N) (hN' : In64Z N') (w : World) (hw : Wd w) :
    Calls Tryz.prog 4 #[valV K N T, valV K' N' T'] w fun e w' => e = .returned (.bool true) ∧ Below w.heap.size w w' := by
  obtain ⟨A0, A1, A2, E, ha, har⟩ := sums_Add K N K' N' T T' hN hN' (by omega) (by omega)
  obtain ⟨B0, B1, B2, F, hb', hbr⟩ := sums_Sub K N K' N' T T' hN hN' (by omega) (by omega)
  obtain ⟨C0, C1, C2, G, hc', hcr⟩ := sums_Mul K N K' N' T T' hN hN' (by omega) (by omega)
  obtain ⟨d, J, hd', hdr⟩ := sums_Less K N K' N' T T' hN hN' (by omega) (by omega)
  have Hha := Lib.hid ha
  have Hhar := Lib.hid har
  have Hhb' := Lib.hid hb'
  have Hhbr := Lib.hid hbr
  have Hhc' := Lib.hid hc'
  have Hhcr := Lib.hid hcr
  have Hhd' := Lib.hid hd'
  have Hhdr := Lib.hid hdr
  clear ha har hb' hbr hc' hcr hd' hdr
  have H_0 := Lib.hid (Below.refl w.heap.size w)
  try unfold valV
  go_enter Tryz.func4, Tryz.ntmps4
  have hb : Below (w).heap.size (w) ((w).alloc (.cells #[.int .i64 K, .int .i64 N, .string ⟨T.toArray⟩] 23)) := (Below.refl _ (w)).alloc (Nat.le_refl _) _
  have Bnew := VB.new (w) (.int .i64 K) (.int .i64 N) (.string ⟨T.toArray⟩)
  try simp only [World.size_alloc] at Bnew
  have H_1 := Lib.hid (H_0.out.trans (hb.mono H_0.out.size))
  clear hb H_0
  have Bx_1 := Lib.hid Bnew
  clear Bnew
  have hb : Below ((w).alloc (.cells #[.int .i64 K, .int .i64 N, .string ⟨T.toArray⟩] 23)).heap.size ((w).alloc (.cells #[.int .i64 K, .int .i64 N, .string ⟨T.toArray⟩] 23)) (((w).alloc (.cells #[.int .i64 K, .int .i64 N, .string ⟨T.toArray⟩] 23)).alloc (.cells #[.int .i64 K', .int .i64 N', .string ⟨T'.toArray⟩] 23)) := (Below.refl _ ((w).alloc (.cells #[.int .i64 K, .int .i64 N, .string ⟨T.toArray⟩] 23))).alloc (Nat.le_refl _) _
  have Bnew := VB.new ((w).alloc (.cells #[.int .i64 K, .int .i64 N, .string ⟨T.toArray⟩] 23)) (.int .i64 K') (.int .i64 N') (.string ⟨T'.toArray⟩)
  try simp only [World.size_alloc] at Bnew
  have Bx_2 := Lib.hid (Bx_1.out.below hb Bx_1.out.lt)
  have H_2 := Lib.hid (H_1.out.trans (hb.mono H_1.out.size))
  clear hb H_1 Bx_1
  have By_2 := Lib.hid Bnew
  clear Bnew
  go_wp2_with fail
  have hc := awake_c (((w).alloc (.cells #[.int .i64 K, .int .i64 N, .string ⟨T.toArray⟩] 23)).alloc (.cells #[.int .i64 K', .int .i64 N', .string ⟨T'.toArray⟩] 23)) (hw.below H_2.out)
  unfold valV at hc
  refine hc.mono ?_
  rintro e u1 ⟨rfl, hb⟩
  clear hc
  have Bx_3 := Lib.hid (Bx_2.out.below hb Bx_2.out.lt)
  have By_3 := Lib.hid (By_2.out.below hb By_2.out.lt)
  have H_3 := Lib.hid (H_2.out.trans (hb.mono H_2.out.size))
  clear hb H_2 Bx_2 By_2
  have qx0 := Bx_3.out.c0
  have qx1 := Bx_3.out.c1
  have qx2 := Bx_3.out.c2
  go_wp2_with fail
  clear qx0 qx1 qx2
  have hc := short_yes K N T hx (u1)
  unfold valV at hc
  refine hc.mono ?_
  rintro e u2 ⟨rfl, hb⟩
  clear hc
  have Bx_4 := Lib.hid (Bx_3.out.below hb Bx_3.out.lt)
  have By_4 := Lib.hid (By_3.out.below hb By_3.out.lt)
  have H_4 := Lib.hid (H_3.out.trans (hb.mono H_3.out.size))
  clear hb H_3 Bx_3 By_3
  have qy0 := By_4.out.c0
  have qy1 := By_4.out.c1
  have qy2 := By_4.out.c2
  go_wp2_with fail
  clear qy0 qy1 qy2
  have hc := short_yes K' N' T' hy (u2)
  unfold valV at hc
  refine hc.mono ?_
  rintro e u3 ⟨rfl, hb⟩
  clear hc
  have Bx_5 := Lib.hid (Bx_4.out.below hb Bx_4.out.lt)
  have By_5 := Lib.hid (By_4.out.below hb By_4.out.lt)
  have H_5 := Lib.hid (H_4.out.trans (hb.mono H_4.out.size))
  clear hb H_4 Bx_4 By_4
  have qx0 := Bx_5.out.c0
  have qx1 := Bx_5.out.c1
  have qx2 := Bx_5.out.c2
  have qy0 := By_5.out.c0
  have qy1 := By_5.out.c1
  have qy2 := By_5.out.c2
  go_wp2_with fail
  clear qx0 qx1 qx2 qy0 qy1 qy2
  have hc := Hha.out (u3) (hw.below H_5.out)
  unfold valV at hc
  refine hc.mono ?_
  rintro e u4 ⟨rfl, hb⟩
  clear hc
  have Bx_6 := Lib.hid (Bx_5.out.below hb Bx_5.out.lt)
  have By_6 := Lib.hid (By_5.out.below hb By_5.out.lt)
  have H_6 := Lib.hid (H_5.out.trans (hb.mono H_5.out.size))
  clear hb H_5 Bx_5 By_5
  have hb : Below (u4).heap.size (u4) ((u4).alloc (.cells #[.int .i64 A0, .int .i64 A1, .string ⟨A2.toArray⟩] 23)) := (Below.refl _ (u4)).alloc (Nat.le_refl _) _
  have Lxa := Lib.hid Bx_6.out.lt
  have Lya := Lib.hid By_6.out.lt
  have Bnew := VB.new (u4) (.int .i64 A0) (.int .i64 A1) (.string ⟨A2.toArray⟩)
  try simp only [World.size_alloc] at Bnew
  have Bx_7 := Lib.hid (Bx_6.out.below hb Bx_6.out.lt)
  have By_7 := Lib.hid (By_6.out.below hb By_6.out.lt)
  have H_7 := Lib.hid (H_6.out.trans (hb.mono H_6.out.size))
  clear hb H_6 Bx_6 By_6
  have Ba_7 := Lib.hid Bnew
  clear Bnew
  have qx0 := Bx_7.out.c0
  have qx1 := Bx_7.out.c1
  have qx2 := Bx_7.out.c2
  have qy0 := By_7.out.c0
  have qy1 := By_7.out.c1
  have qy2 := By_7.out.c2
  go_wp2_with fail
  clear qx0 qx1 qx2 qy0 qy1 qy2
  have hc := Hhar.out ((u4).alloc (.cells #[.int .i64 A0, .int .i64 A1, .string ⟨A2.toArray⟩] 23))
  unfold valV at hc
  refine hc.mono ?_
  rintro e u5 ⟨rfl, hb⟩
  clear hc
  have Bx_8 := Lib.hid (Bx_7.out.below hb Bx_7.out.lt)
  have By_8 := Lib.hid (By_7.out.below hb By_7.out.lt)
  have Ba_8 := Lib.hid (Ba_7.out.below hb Ba_7.out.lt)
  have H_8 := Lib.hid (H_7.out.trans (hb.mono H_7.out.size))
  clear hb H_7 Bx_7 By_7 Ba_7
  have hb : Below (u5).heap.size (u5) ((u5).alloc (.cells #[.int .i64 A0, .int .i64 A1, .string ⟨A2.toArray⟩] 23)) := (Below.refl _ (u5)).alloc (Nat.le_refl _) _
  have Lab := Lib.hid Ba_8.out.lt
  have Lxb := Lib.hid Bx_8.out.lt
  have Lyb := Lib.hid By_8.out.lt
  have Bnew := VB.new (u5) (.int .i64 A0) (.int .i64 A1) (.string ⟨A2.toArray⟩)
  try simp only [World.size_alloc] at Bnew
  have Bx_9 := Lib.hid (Bx_8.out.below hb Bx_8.out.lt)
  have By_9 := Lib.hid (By_8.out.below hb By_8.out.lt)
  have Ba_9 := Lib.hid (Ba_8.out.below hb Ba_8.out.lt)
  have H_9 := Lib.hid (H_8.out.trans (hb.mono H_8.out.size))
  clear hb H_8 Bx_8 By_8 Ba_8
  have Bb_9 := Lib.hid Bnew
  clear Bnew
  have qa0 := Ba_9.out.c0
  have qa1 := Ba_9.out.c1
  have qa2 := Ba_9.out.c2
  have qb0 := Bb_9.out.c0
  have qb1 := Bb_9.out.c1
  have qb2 := Bb_9.out.c2
  have qx0 := Bx_9.out.c0
  have qx1 := Bx_9.out.c1
  have qx2 := Bx_9.out.c2
  have qy0 := By_9.out.c0
  have qy1 := By_9.out.c1
  have qy2 := By_9.out.c2
  go_wp2_with fail
  clear qx0 qx1 qx2 qy0 qy1 qy2
  have hc := Hhb'.out ((u5).alloc (.cells #[.int .i64 A0, .int .i64 A1, .string ⟨A2.toArray⟩] 23)) (hw.below H_9.out)
  unfold valV at hc
  refine hc.mono ?_
  rintro e u6 ⟨rfl, hb⟩
  clear hc
  have Bx_10 := Lib.hid (Bx_9.out.below hb Bx_9.out.lt)
  have By_10 := Lib.hid (By_9.out.below hb By_9.out.lt)
  have Ba_10 := Lib.hid (Ba_9.out.below hb Ba_9.out.lt)
  have Bb_10 := Lib.hid (Bb_9.out.below hb Bb_9.out.lt)
  have H_10 := Lib.hid (H_9.out.trans (hb.mono H_9.out.size))
  clear hb H_9 Bx_9 By_9 Ba_9 Bb_9
  have st7c0 := Ba_10.out.c0
  have st7f0 := Ba_10.out.fz 0
  have st7c1 := Ba_10.out.c1
  have st7f1 := Ba_10.out.fz 1
  have st7c2 := Ba_10.out.c2
  have st7f2 := Ba_10.out.fz 2
  have hne : ((u4).heap.size) ≠ (w.heap.size) := by have h1 := Lxa.out; omega
  have Bx_11 := Lib.hid (((Bx_10.out.other ⟨(u4).heap.size, 0, none⟩ hne (.int .i64 B0)).other ⟨(u4).heap.size, 1, none⟩ hne (.int .i64 B1)).other ⟨(u4).heap.size, 2, none⟩ hne (.string ⟨B2.toArray⟩))
  clear hne
  have hne : ((u4).heap.size) ≠ (w.heap.size + 1) := by have h1 := Lya.out; omega
  have By_11 := Lib.hid (((By_10.out.other ⟨(u4).heap.size, 0, none⟩ hne (.int .i64 B0)).other ⟨(u4).heap.size, 1, none⟩ hne (.int .i64 B1)).other ⟨(u4).heap.size, 2, none⟩ hne (.string ⟨B2.toArray⟩))
  clear hne
  have Ba_11 := Lib.hid (Ba_10.out.put (.int .i64 B0) (.int .i64 B1) (.string ⟨B2.toArray⟩))
  have hne : ((u4).heap.size) ≠ ((u5).heap.size) := by have h1 := Lab.out; omega
  have Bb_11 := Lib.hid (((Bb_10.out.other ⟨(u4).heap.size, 0, none⟩ hne (.int .i64 B0)).other ⟨(u4).heap.size, 1, none⟩ hne (.int .i64 B1)).other ⟨(u4).heap.size, 2, none⟩ hne (.string ⟨B2.toArray⟩))
  clear hne
  have hle : w.heap.size ≤ (u4).heap.size := by have h1 := Lxa.out; omega
  have H_11 := Lib.hid (below_put3 H_10.out hle (.int .i64 B0) (.int .i64 B1) (.string ⟨B2.toArray⟩))
  clear hle H_10 Bx_10 By_10 Ba_10 Bb_10
  have qx0 := Bx_11.out.c0
  have qx1 := Bx_11.out.c1
  have qx2 := Bx_11.out.c2
  have qy0 := By_11.out.c0
  have qy1 := By_11.out.c1
  have qy2 := By_11.out.c2
  go_wp2_with fail
  clear qx0 qx1 qx2 qy0 qy1 qy2
  clear st7c0 st7f0 st7c1 st7f1 st7c2 st7f2
  have hc := Hhbr.out ((((u6).setCell ⟨(u4).heap.size, 0, none⟩ (.int .i64 B0)).setCell ⟨(u4).heap.size, 1, none⟩ (.int .i64 B1)).setCell ⟨(u4).heap.size, 2, none⟩ (.string ⟨B2.toArray⟩))
  unfold valV at hc
  refine hc.mono ?_
  rintro e u8 ⟨rfl, hb⟩
  clear hc
  have Bx_12 := Lib.hid (Bx_11.out.below hb Bx_11.out.lt)
  have By_12 := Lib.hid (By_11.out.below hb By_11.out.lt)
  have Ba_12 := Lib.hid (Ba_11.out.below hb Ba_11.out.lt)
  have Bb_12 := Lib.hid (Bb_11.out.below hb Bb_11.out.lt)
  have H_12 := Lib.hid (H_11.out.trans (hb.mono H_11.out.size))
  clear hb H_11 Bx_11 By_11 Ba_11 Bb_11
  have st9c0 := Bb_12.out.c0
  have st9f0 := Bb_12.out.fz 0
  have st9c1 := Bb_12.out.c1
  have st9f1 := Bb_12.out.fz 1
  have st9c2 := Bb_12.out.c2
  have st9f2 := Bb_12.out.fz 2
  have hne : ((u5).heap.size) ≠ (w.heap.size) := by have h1 := Lxb.out; omega
  have Bx_13 := Lib.hid (((Bx_12.out.other ⟨(u5).heap.size, 0, none⟩ hne (.int .i64 B0)).other ⟨(u5).heap.size, 1, none⟩ hne (.int .i64 B1)).other ⟨(u5).heap.size, 2, none⟩ hne (.string ⟨B2.toArray⟩))
  clear hne
  have hne : ((u5).heap.size) ≠ (w.heap.size + 1) := by have h1 := Lyb.out; omega
  have By_13 := Lib.hid (((By_12.out.other ⟨(u5).heap.size, 0, none⟩ hne (.int .i64 B0)).other ⟨(u5).heap.size, 1, none⟩ hne (.int .i64 B1)).other ⟨(u5).heap.size, 2, none⟩ hne (.string ⟨B2.toArray⟩))
  clear hne
  have hne : ((u5).heap.size) ≠ ((u4).heap.size) := by have h1 := Lab.out; omega
  have Ba_13 := Lib.hid (((Ba_12.out.other ⟨(u5).heap.size, 0, none⟩ hne (.int .i64 B0)).other ⟨(u5).heap.size, 1, none⟩ hne (.int .i64 B1)).other ⟨(u5).heap.size, 2, none⟩ hne (.string ⟨B2.toArray⟩))
  clear hne
  have Bb_13 := Lib.hid (Bb_12.out.put (.int .i64 B0) (.int .i64 B1) (.string ⟨B2.toArray⟩))
  have hle : w.heap.size ≤ (u5).heap.size := by have h1 := Lxb.out; omega
  have H_13 := Lib.hid (below_put3 H_12.out hle (.int .i64 B0) (.int .i64 B1) (.string ⟨B2.toArray⟩))
  clear hle H_12 Bx_12 By_12 Ba_12 Bb_12
  have qa0 := Ba_13.out.c0
  have qa1 := Ba_13.out.c1
  have qa2 := Ba_13.out.c2
  have qb0 := Bb_13.out.c0
  have qb1 := Bb_13.out.c1
  have qb2 := Bb_13.out.c2
  have qx0 := Bx_13.out.c0
  have qx1 := Bx_13.out.c1
  have qx2 := Bx_13.out.c2
  have qy0 := By_13.out.c0
  have qy1 := By_13.out.c1
  have qy2 := By_13.out.c2
  go_wp2_with fail
  clear qx0 qx1 qx2 qy0 qy1 qy2
  clear st9c0 st9f0 st9c1 st9f1 st9c2 st9f2
  have hc := Hhc'.out ((((u8).setCell ⟨(u5).heap.size, 0, none⟩ (.int .i64 B0)).setCell ⟨(u5).heap.size, 1, none⟩ (.int .i64 B1)).setCell ⟨(u5).heap.size, 2, none⟩ (.string ⟨B2.toArray⟩)) (hw.below H_13.out)
  unfold valV at hc
  refine hc.mono ?_
  rintro e u10 ⟨rfl, hb⟩
  clear hc
  have Bx_14 := Lib.hid (Bx_13.out.below hb Bx_13.out.lt)
  have By_14 := Lib.hid (By_13.out.below hb By_13.out.lt)
  have Ba_14 := Lib.hid (Ba_13.out.below hb Ba_13.out.lt)
  have Bb_14 := Lib.hid (Bb_13.out.below hb Bb_13.out.lt)
  have H_14 := Lib.hid (H_13.out.trans (hb.mono H_13.out.size))
  clear hb H_13 Bx_13 By_13 Ba_13 Bb_13
  have st11c0 := Ba_14.out.c0
  have st11f0 := Ba_14.out.fz 0
  have st11c1 := Ba_14.out.c1
  have st11f1 := Ba_14.out.fz 1
  have st11c2 := Ba_14.out.c2
  have st11f2 := Ba_14.out.fz 2
  have hne : ((u4).heap.size) ≠ (w.heap.size) := by have h1 := Lxa.out; omega
  have Bx_15 := Lib.hid (((Bx_14.out.other ⟨(u4).heap.size, 0, none⟩ hne (.int .i64 C0)).other ⟨(u4).heap.size, 1, none⟩ hne (.int .i64 C1)).other ⟨(u4).heap.size, 2, none⟩ hne (.string ⟨C2.toArray⟩))
  clear hne
  have hne : ((u4).heap.size) ≠ (w.heap.size + 1) := by have h1 := Lya.out; omega
  have By_15 := Lib.hid (((By_14.out.other ⟨(u4).heap.size, 0, none⟩ hne (.int .i64 C0)).other ⟨(u4).heap.size, 1, none⟩ hne (.int .i64 C1)).other ⟨(u4).heap.size, 2, none⟩ hne (.string ⟨C2.toArray⟩))
  clear hne
  have Ba_15 := Lib.hid (Ba_14.out.put (.int .i64 C0) (.int .i64 C1) (.string ⟨C2.toArray⟩))
  have hne : ((u4).heap.size) ≠ ((u5).heap.size) := by have h1 := Lab.out; omega
  have Bb_15 := Lib.hid (((Bb_14.out.other ⟨(u4).heap.size, 0, none⟩ hne (.int .i64 C0)).other ⟨(u4).heap.size, 1, none⟩ hne (.int .i64 C1)).other ⟨(u4).heap.size, 2, none⟩ hne (.string ⟨C2.toArray⟩))
  clear hne
  have hle : w.heap.size ≤ (u4).heap.size := by have h1 := Lxa.out; omega
  have H_15 := Lib.hid (below_put3 H_14.out hle (.int .i64 C0) (.int .i64 C1) (.string ⟨C2.toArray⟩))
  clear hle H_14 Bx_14 By_14 Ba_14 Bb_14
  have qx0 := Bx_15.out.c0
  have qx1 := Bx_15.out.c1
  have qx2 := Bx_15.out.c2
  have qy0 := By_15.out.c0
  have qy1 := By_15.out.c1
  have qy2 := By_15.out.c2
  go_wp2_with fail
  clear qx0 qx1 qx2 qy0 qy1 qy2
  clear st11c0 st11f0 st11c1 st11f1 st11c2 st11f2
  have hc := Hhcr.out ((((u10).setCell ⟨(u4).heap.size, 0, none⟩ (.int .i64 C0)).setCell ⟨(u4).heap.size, 1, none⟩ (.int .i64 C1)).setCell ⟨(u4).heap.size, 2, none⟩ (.string ⟨C2.toArray⟩))
  unfold valV at hc
  refine hc.mono ?_
  rintro e u12 ⟨rfl, hb⟩
  clear hc
  have Bx_16 := Lib.hid (Bx_15.out.below hb Bx_15.out.lt)
  have By_16 := Lib.hid (By_15.out.below hb By_15.out.lt)
  have Ba_16 := Lib.hid (Ba_15.out.below hb Ba_15.out.lt)
  have Bb_16 := Lib.hid (Bb_15.out.below hb Bb_15.out.lt)
  have H_16 := Lib.hid (H_15.out.trans (hb.mono H_15.out.size))
  clear hb H_15 Bx_15 By_15 Ba_15 Bb_15
  have st13c0 := Bb_16.out.c0
  have st13f0 := Bb_16.out.fz 0
  have st13c1 := Bb_16.out.c1
  have st13f1 := Bb_16.out.fz 1
  have st13c2 := Bb_16.out.c2
  have st13f2 := Bb_16.out.fz 2
  have hne : ((u5).heap.size) ≠ (w.heap.size) := by have h1 := Lxb.out; omega
  have Bx_17 := Lib.hid (((Bx_16.out.other ⟨(u5).heap.size, 0, none⟩ hne (.int .i64 C0)).other ⟨(u5).heap.size, 1, none⟩ hne (.int .i64 C1)).other ⟨(u5).heap.size, 2, none⟩ hne (.string ⟨C2.toArray⟩))
  clear hne
  have hne : ((u5).heap.size) ≠ (w.heap.size + 1) := by have h1 := Lyb.out; omega
  have By_17 := Lib.hid (((By_16.out.other ⟨(u5).heap.size, 0, none⟩ hne (.int .i64 C0)).other ⟨(u5).heap.size, 1, none⟩ hne (.int .i64 C1)).other ⟨(u5).heap.size, 2, none⟩ hne (.string ⟨C2.toArray⟩))
  clear hne
  have hne : ((u5).heap.size) ≠ ((u4).heap.size) := by have h1 := Lab.out; omega
  have Ba_17 := Lib.hid (((Ba_16.out.other ⟨(u5).heap.size, 0, none⟩ hne (.int .i64 C0)).other ⟨(u5).heap.size, 1, none⟩ hne (.int .i64 C1)).other ⟨(u5).heap.size, 2, none⟩ hne (.string ⟨C2.toArray⟩))
  clear hne
  have Bb_17 := Lib.hid (Bb_16.out.put (.int .i64 C0) (.int .i64 C1) (.string ⟨C2.toArray⟩))
  have hle : w.heap.size ≤ (u5).heap.size := by have h1 := Lxb.out; omega
  have H_17 := Lib.hid (below_put3 H_16.out hle (.int .i64 C0) (.int .i64 C1) (.string ⟨C2.toArray⟩))
  clear hle H_16 Bx_16 By_16 Ba_16 Bb_16
  have qx0 := Bx_17.out.c0
  have qx1 := Bx_17.out.c1
  have qx2 := Bx_17.out.c2
  have qy0 := By_17.out.c0
  have qy1 := By_17.out.c1
  have qy2 := By_17.out.c2
  go_wp2_with fail
  clear qx0 qx1 qx2 qy0 qy1 qy2
  clear st13c0 st13f0 st13c1 st13f1 st13c2 st13f2
  have hc := Hhd'.out ((((u12).setCell ⟨(u5).heap.size, 0, none⟩ (.int .i64 C0)).setCell ⟨(u5).heap.size, 1, none⟩ (.int .i64 C1)).setCell ⟨(u5).heap.size, 2, none⟩ (.string ⟨C2.toArray⟩)) (hw.below H_17.out)
  unfold valV at hc
  refine hc.mono ?_
  rintro e u14 ⟨rfl, hb⟩
  clear hc
  have Bx_18 := Lib.hid (Bx_17.out.below hb Bx_17.out.lt)
  have By_18 := Lib.hid (By_17.out.below hb By_17.out.lt)
  have Ba_18 := Lib.hid (Ba_17.out.below hb Ba_17.out.lt)
  have Bb_18 := Lib.hid (Bb_17.out.below hb Bb_17.out.lt)
  have H_18 := Lib.hid (H_17.out.trans (hb.mono H_17.out.size))
  clear hb H_17 Bx_17 By_17 Ba_17 Bb_17
  have qx0 := Bx_18.out.c0
  have qx1 := Bx_18.out.c1
  have qx2 := Bx_18.out.c2
  have qy0 := By_18.out.c0
  have qy1 := By_18.out.c1
  have qy2 := By_18.out.c2
  go_wp2_with fail
  clear qx0 qx1 qx2 qy0 qy1 qy2
  have hc := Hhdr.out (u14)
  unfold valV at hc
  refine hc.mono ?_
  rintro e u15 ⟨rfl, hb⟩
  clear hc
  have Bx_19 := Lib.hid (Bx_18.out.below hb Bx_18.out.lt)
  have By_19 := Lib.hid (By_18.out.below hb By_18.out.lt)
  have Ba_19 := Lib.hid (Ba_18.out.below hb Ba_18.out.lt)
  have Bb_19 := Lib.hid (Bb_18.out.below hb Bb_18.out.lt)
  have H_19 := Lib.hid (H_18.out.trans (hb.mono H_18.out.size))
  clear hb H_18 Bx_18 By_18 Ba_18 Bb_18
  have qa0 := Ba_19.out.c0
  have qa1 := Ba_19.out.c1
  have qa2 := Ba_19.out.c2
  have qb0 := Bb_19.out.c0
  have qb1 := Bb_19.out.c1
  have qb2 := Bb_19.out.c2
  go_wp2_with fail
  go_ret
  exact ⟨rfl, H_19.out⟩

theorem sums_c (K N : Int) (T : List UInt8) (K' N' : Int) (T' : List UInt8) (hN : In64Z N) (hN' : In64Z N') (w : World) (hw : Wd w) :
    Calls Tryz.prog 4 #[valV K N T, valV K' N' T'] w fun e w' => e = .returned (.bool true) ∧ Below w.heap.size w w' := by
  by_cases hx : T.length ≤ 800
  · by_cases hy : T'.length ≤ 800
    · exact sums_all K N K' N' T T' hx hy hN hN' w hw
    · exact sums_long2 K N K' N' T T' hx hy w hw
  · exact sums_long1 K N K' N' T T' hx w hw
end Go.Proofs.YthbfbpbppjkoeaaGreatDoor
