/- The walk of BigNines of package proteuslaw03, case by case. Conditions: those in the statements. -/
import Derived.Test.YthbfbpbppjkoeaaGreatDoorBigNn
namespace Go.Proofs.YthbfbpbppjkoeaaGreatDoor
open Go.RowKit Go.Shelf
set_option exponentiation.threshold 500
set_option maxRecDepth 100000
set_option linter.unusedSimpArgs false
set_option linter.unusedVariables false
attribute [local irreducible] wpQuiet

theorem not_num : ∀ z, ¬ IsNum 0 0 [] z := fun z hz => by
  rcases hz.cells with ⟨_, h, _⟩ | ⟨_, h, _⟩ <;> cases h
theorem Ans.none {A B z : Int} {S : List UInt8} (h : Ans A B S 2 z) : A = 0 ∧ B = 0 ∧ S = [] := by
  rcases h with ⟨h, _⟩ | ⟨_, h1, h2, h3, _⟩
  · cases h
  · exact ⟨h1, h2, h3⟩
theorem mul_le_64 {a b : Int} (a0 : 0 ≤ a) (a8 : a ≤ 8) (b0 : 0 ≤ b) (b8 : b ≤ 8) : a * b ≤ 64 :=
  Int.le_trans (Int.mul_le_mul a8 b8 b0 (by decide)) (by decide)
theorem Text_num {K N z : Int} {T t : List UInt8} (h : IsNum K N T z) (ht : t = Lib.itoa z) (w : World) (hw : Wd w) :
    Calls Tryz.prog 19 #[valV K N T] w fun e w' => e = .returned (.tuple #[.string ⟨t.toArray⟩, .int .i64 0]) ∧ Below w.heap.size w w' := by
  have := text_ok K N z T h w hw; rw [← ht] at this; exact this
theorem Text_ex (K N : Int) (T : List UInt8) (hN : In64Z N) : ∃ t F, ∀ (w : World), Wd w →
    Calls Tryz.prog 19 #[valV K N T] w fun e w' => e = .returned (.tuple #[.string t, .int .i64 F]) ∧ Below w.heap.size w w' := by
  by_cases h : ∃ z, IsNum K N T z
  · obtain ⟨z, h⟩ := h
    exact ⟨_, _, fun w hw => text_ok K N z T h w hw⟩
  · exact ⟨_, _, fun w hw => text_no K N T (fun z hz => h ⟨z, hz⟩) hN w hw⟩
set_option maxHeartbeats 4000000 in
theorem nines_long1 (K N K' N' : Int) (T T' : List UInt8) (hx : ¬ T.length ≤ 800) (w : World) (hw : Wd w) :
    Calls Tryz.prog 14 #[valV K N T, valV K' N' T'] w fun e w' => e = .returned (.bool true) ∧ Below w.heap.size w w' := by
  have H_0 := Lib.hid (Below.refl w.heap.size w)
  try unfold valV
  go_enter Tryz.func14, Tryz.ntmps14
  have hb : Below (w).heap.size (w) ((w).alloc (.cells #[.int .i64 K, .int .i64 N, .string ⟨T.toArray⟩] 23)) := (Below.refl _ (w)).alloc (Nat.le_refl _) _
  have Bnew := VB.new (w) (.int .i64 K) (.int .i64 N) (.string ⟨T.toArray⟩)
  try simp only [World.size_alloc] at Bnew
  have H_1 := Lib.hid (H_0.out.trans (hb.mono H_0.out.size))
  clear hb H_0
  have Bx_1 := Lib.hid Bnew
  clear Bnew
  have hb : Below ((w).alloc (.cells #[.int .i64 K, .int .i64 N, .string ⟨T.toArray⟩] 23)).heap.size ((w).alloc (.cells #[.int .i64 K, .int .i64 N, .string ⟨T.toArray⟩] 23)) (((w).alloc (.cells #[.int .i64 K, .int .i64 N, .string ⟨T.toArray⟩] 23)).alloc (.cells #[.int .i64 K', .int .i64 N', .string ⟨T'.toArray⟩] 23)) := (Below.refl _ ((w).alloc (.cells #[.int .i64 K, .int .i64 N, .string ⟨T.toArray⟩] 23))).alloc (Nat.le_refl _) _
  have Bnew := VB.new ((w).alloc (.cells #[.int .i64 K, .int .i64 N, .string ⟨T.toArray⟩] 23)) (.int .i64 K') (.int .i64 N') (.string ⟨T'.toArray⟩)
  try simp only [World.size_alloc] at Bnew
  have Bx_2 := Lib.hid (Bx_1.out.below hb Bx_1.out.lt)
  have H_2 := Lib.hid (H_1.out.trans (hb.mono H_1.out.size))
  clear hb H_1 Bx_1
  have By_2 := Lib.hid Bnew
  clear Bnew
  go_wp2_with fail
  have hc := awake_c (((w).alloc (.cells #[.int .i64 K, .int .i64 N, .string ⟨T.toArray⟩] 23)).alloc (.cells #[.int .i64 K', .int .i64 N', .string ⟨T'.toArray⟩] 23)) (hw.below H_2.out)
  unfold valV at hc
  refine hc.mono ?_
  rintro e u1 ⟨rfl, hb⟩
  clear hc
  have Bx_3 := Lib.hid (Bx_2.out.below hb Bx_2.out.lt)
  have By_3 := Lib.hid (By_2.out.below hb By_2.out.lt)
  have H_3 := Lib.hid (H_2.out.trans (hb.mono H_2.out.size))
  clear hb H_2 Bx_2 By_2
  have qx0 := Bx_3.out.c0
  have qx1 := Bx_3.out.c1
  have qx2 := Bx_3.out.c2
  go_wp2_with fail
  clear qx0 qx1 qx2
  have hc := short_not K N T hx (u1)
  unfold valV at hc
  refine hc.mono ?_
  rintro e u2 ⟨rfl, hb⟩
  clear hc
  have Bx_4 := Lib.hid (Bx_3.out.below hb Bx_3.out.lt)
  have By_4 := Lib.hid (By_3.out.below hb By_3.out.lt)
  have H_4 := Lib.hid (H_3.out.trans (hb.mono H_3.out.size))
  clear hb H_3 Bx_3 By_3
  go_wp2_with fail
  go_ret
  exact ⟨rfl, H_4.out⟩

set_option maxHeartbeats 4000000 in
theorem nines_long2 (K N K' N' : Int) (T T' : List UInt8) (hx : T.length ≤ 800) (hy : ¬ T'.length ≤ 800) (w : World) (hw : Wd w) :
    Calls Tryz.prog 14 #[valV K N T, valV K' N' T'] w fun e w' => e = .returned (.bool true) ∧ Below w.heap.size w w' := by
  have H_0 := Lib.hid (Below.refl w.heap.size w)
  try unfold valV
  go_enter Tryz.func14, Tryz.ntmps14
  have hb : Below (w).heap.size (w) ((w).alloc (.cells #[.int .i64 K, .int .i64 N, .string ⟨T.toArray⟩] 23)) := (Below.refl _ (w)).alloc (Nat.le_refl _) _
  have Bnew := VB.new (w) (.int .i64 K) (.int .i64 N) (.string ⟨T.toArray⟩)
  try simp only [World.size_alloc] at Bnew
  have H_1 := Lib.hid (H_0.out.trans (hb.mono H_0.out.size))
  clear hb H_0
  have Bx_1 := Lib.hid Bnew
  clear Bnew
  have hb : Below ((w).alloc (.cells #[.int .i64 K, .int .i64 N, .string ⟨T.toArray⟩] 23)).heap.size ((w).alloc (.cells #[.int .i64 K, .int .i64 N, .string ⟨T.toArray⟩] 23)) (((w).alloc (.cells #[.int .i64 K, .int .i64 N, .string ⟨T.toArray⟩] 23)).alloc (.cells #[.int .i64 K', .int .i64 N', .string ⟨T'.toArray⟩] 23)) := (Below.refl _ ((w).alloc (.cells #[.int .i64 K, .int .i64 N, .string ⟨T.toArray⟩] 23))).alloc (Nat.le_refl _) _
  have Bnew := VB.new ((w).alloc (.cells #[.int .i64 K, .int .i64 N, .string ⟨T.toArray⟩] 23)) (.int .i64 K') (.int .i64 N') (.string ⟨T'.toArray⟩)
  try simp only [World.size_alloc] at Bnew
  have Bx_2 := Lib.hid (Bx_1.out.below hb Bx_1.out.lt)
  have H_2 := Lib.hid (H_1.out.trans (hb.mono H_1.out.size))
  clear hb H_1 Bx_1
  have By_2 := Lib.hid Bnew
  clear Bnew
  go_wp2_with fail
  have hc := awake_c (((w).alloc (.cells #[.int .i64 K, .int .i64 N, .string ⟨T.toArray⟩] 23)).alloc (.cells #[.int .i64 K', .int .i64 N', .string ⟨T'.toArray⟩] 23)) (hw.below H_2.out)
  unfold valV at hc
  refine hc.mono ?_
  rintro e u1 ⟨rfl, hb⟩
  clear hc
  have Bx_3 := Lib.hid (Bx_2.out.below hb Bx_2.out.lt)
  have By_3 := Lib.hid (By_2.out.below hb By_2.out.lt)
  have H_3 := Lib.hid (H_2.out.trans (hb.mono H_2.out.size))
  clear hb H_2 Bx_2 By_2
  have qx0 := Bx_3.out.c0
  have qx1 := Bx_3.out.c1
  have qx2 := Bx_3.out.c2
  go_wp2_with fail
  clear qx0 qx1 qx2
  have hc := short_yes K N T hx (u1)
  unfold valV at hc
  refine hc.mono ?_
  rintro e u2 ⟨rfl, hb⟩
  clear hc
  have Bx_4 := Lib.hid (Bx_3.out.below hb Bx_3.out.lt)
  have By_4 := Lib.hid (By_3.out.below hb By_3.out.lt)
  have H_4 := Lib.hid (H_3.out.trans (hb.mono H_3.out.size))
  clear hb H_3 Bx_3 By_3
  have qy0 := By_4.out.c0
  have qy1 := By_4.out.c1
  have qy2 := By_4.out.c2
  go_wp2_with fail
  clear qy0 qy1 qy2
  have hc := short_not K' N' T' hy (u2)
  unfold valV at hc
  refine hc.mono ?_
  rintro e u3 ⟨rfl, hb⟩
  clear hc
  have Bx_5 := Lib.hid (Bx_4.out.below hb Bx_4.out.lt)
  have By_5 := Lib.hid (By_4.out.below hb By_4.out.lt)
  have H_5 := Lib.hid (H_4.out.trans (hb.mono H_4.out.size))
  clear hb H_4 Bx_4 By_4
  go_wp2_with fail
  go_ret
  exact ⟨rfl, H_5.out⟩

set_option maxHeartbeats 4000000 in
theorem nines_nox (K N K' N' : Int) (T T' : List UInt8) (hx : T.length ≤ 800) (hy : T'.length ≤ 800) (h : ∀ z, ¬ IsNum K N T z) (hN : In64Z N) (hN' : In64Z N') (w : World) (hw : Wd w) :
    Calls Tryz.prog 14 #[valV K N T, valV K' N' T'] w fun e w' => e = .returned (.bool true) ∧ Below w.heap.size w w' := by
  obtain ⟨t, F, ht⟩ := Text_ex K' N' T' hN'
  have H_0 := Lib.hid (Below.refl w.heap.size w)
  try unfold valV
  go_enter Tryz.func14, Tryz.ntmps14
  have hb : Below (w).heap.size (w) ((w).alloc (.cells #[.int .i64 K, .int .i64 N, .string ⟨T.toArray⟩] 23)) := (Below.refl _ (w)).alloc (Nat.le_refl _) _
  have Bnew := VB.new (w) (.int .i64 K) (.int .i64 N) (.string ⟨T.toArray⟩)
  try simp only [World.size_alloc] at Bnew
  have H_1 := Lib.hid (H_0.out.trans (hb.mono H_0.out.size))
  clear hb H_0
  have Bx_1 := Lib.hid Bnew
  clear Bnew
  have hb : Below ((w).alloc (.cells #[.int .i64 K, .int .i64 N, .string ⟨T.toArray⟩] 23)).heap.size ((w).alloc (.cells #[.int .i64 K, .int .i64 N, .string ⟨T.toArray⟩] 23)) (((w).alloc (.cells #[.int .i64 K, .int .i64 N, .string ⟨T.toArray⟩] 23)).alloc (.cells #[.int .i64 K', .int .i64 N', .string ⟨T'.toArray⟩] 23)) := (Below.refl _ ((w).alloc (.cells #[.int .i64 K, .int .i64 N, .string ⟨T.toArray⟩] 23))).alloc (Nat.le_refl _) _
  have Bnew := VB.new ((w).alloc (.cells #[.int .i64 K, .int .i64 N, .string ⟨T.toArray⟩] 23)) (.int .i64 K') (.int .i64 N') (.string ⟨T'.toArray⟩)
  try simp only [World.size_alloc] at Bnew
  have Bx_2 := Lib.hid (Bx_1.out.below hb Bx_1.out.lt)
  have H_2 := Lib.hid (H_1.out.trans (hb.mono H_1.out.size))
  clear hb H_1 Bx_1
  have By_2 := Lib.hid Bnew
  clear Bnew
  go_wp2_with fail
  have hc := awake_c (((w).alloc (.cells #[.int .i64 K, .int .i64 N, .string ⟨T.toArray⟩] 23)).alloc (.cells #[.int .i64 K', .int .i64 N', .string ⟨T'.toArray⟩] 23)) (hw.below H_2.out)
  unfold valV at hc
  refine hc.mono ?_
  rintro e u1 ⟨rfl, hb⟩
  clear hc
  have Bx_3 := Lib.hid (Bx_2.out.below hb Bx_2.out.lt)
  have By_3 := Lib.hid (By_2.out.below hb By_2.out.lt)
  have H_3 := Lib.hid (H_2.out.trans (hb.mono H_2.out.size))
  clear hb H_2 Bx_2 By_2
  have qx0 := Bx_3.out.c0
  have qx1 := Bx_3.out.c1
  have qx2 := Bx_3.out.c2
  go_wp2_with fail
  clear qx0 qx1 qx2
  have hc := short_yes K N T hx (u1)
  unfold valV at hc
  refine hc.mono ?_
  rintro e u2 ⟨rfl, hb⟩
  clear hc
  have Bx_4 := Lib.hid (Bx_3.out.below hb Bx_3.out.lt)
  have By_4 := Lib.hid (By_3.out.below hb By_3.out.lt)
  have H_4 := Lib.hid (H_3.out.trans (hb.mono H_3.out.size))
  clear hb H_3 Bx_3 By_3
  have qy0 := By_4.out.c0
  have qy1 := By_4.out.c1
  have qy2 := By_4.out.c2
  go_wp2_with fail
  clear qy0 qy1 qy2
  have hc := short_yes K' N' T' hy (u2)
  unfold valV at hc
  refine hc.mono ?_
  rintro e u3 ⟨rfl, hb⟩
  clear hc
  have Bx_5 := Lib.hid (Bx_4.out.below hb Bx_4.out.lt)
  have By_5 := Lib.hid (By_4.out.below hb By_4.out.lt)
  have H_5 := Lib.hid (H_4.out.trans (hb.mono H_4.out.size))
  clear hb H_4 Bx_4 By_4
  have qx0 := Bx_5.out.c0
  have qx1 := Bx_5.out.c1
  have qx2 := Bx_5.out.c2
  go_wp2_with fail
  clear qx0 qx1 qx2
  have hc := text_no K N T h hN (u3) (hw.below H_5.out)
  unfold valV at hc
  refine hc.mono ?_
  rintro e u4 ⟨rfl, hb⟩
  clear hc
  have Bx_6 := Lib.hid (Bx_5.out.below hb Bx_5.out.lt)
  have By_6 := Lib.hid (By_5.out.below hb By_5.out.lt)
  have H_6 := Lib.hid (H_5.out.trans (hb.mono H_5.out.size))
  clear hb H_5 Bx_5 By_5
  have qy0 := By_6.out.c0
  have qy1 := By_6.out.c1
  have qy2 := By_6.out.c2
  go_wp2_with fail
  clear qy0 qy1 qy2
  have hc := ht (u4) (hw.below H_6.out)
  unfold valV at hc
  refine hc.mono ?_
  rintro e u5 ⟨rfl, hb⟩
  clear hc
  have Bx_7 := Lib.hid (Bx_6.out.below hb Bx_6.out.lt)
  have By_7 := Lib.hid (By_6.out.below hb By_6.out.lt)
  have H_7 := Lib.hid (H_6.out.trans (hb.mono H_6.out.size))
  clear hb H_6 Bx_6 By_6
  go_wp2_with fail
  go_ret
  exact ⟨rfl, H_7.out⟩

set_option maxHeartbeats 4000000 in
theorem nines_noy (K N K' N' : Int) (T T' : List UInt8) (hx : T.length ≤ 800) (hy : T'.length ≤ 800) (x : Int) (h : IsNum K N T x) (hn : ∀ z, ¬ IsNum K' N' T' z) (hN' : In64Z N') (w : World) (hw : Wd w) :
    Calls Tryz.prog 14 #[valV K N T, valV K' N' T'] w fun e w' => e = .returned (.bool true) ∧ Below w.heap.size w w' := by
  obtain ⟨s, hs⟩ : ∃ s, s = Lib.itoa x := ⟨_, rfl⟩
  have HS := Lib.hid hs
  clear hs
  have H_0 := Lib.hid (Below.refl w.heap.size w)
  try unfold valV
  go_enter Tryz.func14, Tryz.ntmps14
  have hb : Below (w).heap.size (w) ((w).alloc (.cells #[.int .i64 K, .int .i64 N, .string ⟨T.toArray⟩] 23)) := (Below.refl _ (w)).alloc (Nat.le_refl _) _
  have Bnew := VB.new (w) (.int .i64 K) (.int .i64 N) (.string ⟨T.toArray⟩)
  try simp only [World.size_alloc] at Bnew
  have H_1 := Lib.hid (H_0.out.trans (hb.mono H_0.out.size))
  clear hb H_0
  have Bx_1 := Lib.hid Bnew
  clear Bnew
  have hb : Below ((w).alloc (.cells #[.int .i64 K, .int .i64 N, .string ⟨T.toArray⟩] 23)).heap.size ((w).alloc (.cells #[.int .i64 K, .int .i64 N, .string ⟨T.toArray⟩] 23)) (((w).alloc (.cells #[.int .i64 K, .int .i64 N, .string ⟨T.toArray⟩] 23)).alloc (.cells #[.int .i64 K', .int .i64 N', .string ⟨T'.toArray⟩] 23)) := (Below.refl _ ((w).alloc (.cells #[.int .i64 K, .int .i64 N, .string ⟨T.toArray⟩] 23))).alloc (Nat.le_refl _) _
  have Bnew := VB.new ((w).alloc (.cells #[.int .i64 K, .int .i64 N, .string ⟨T.toArray⟩] 23)) (.int .i64 K') (.int .i64 N') (.string ⟨T'.toArray⟩)
  try simp only [World.size_alloc] at Bnew
  have Bx_2 := Lib.hid (Bx_1.out.below hb Bx_1.out.lt)
  have H_2 := Lib.hid (H_1.out.trans (hb.mono H_1.out.size))
  clear hb H_1 Bx_1
  have By_2 := Lib.hid Bnew
  clear Bnew
  go_wp2_with fail
  have hc := awake_c (((w).alloc (.cells #[.int .i64 K, .int .i64 N, .string ⟨T.toArray⟩] 23)).alloc (.cells #[.int .i64 K', .int .i64 N', .string ⟨T'.toArray⟩] 23)) (hw.below H_2.out)
  unfold valV at hc
  refine hc.mono ?_
  rintro e u1 ⟨rfl, hb⟩
  clear hc
  have Bx_3 := Lib.hid (Bx_2.out.below hb Bx_2.out.lt)
  have By_3 := Lib.hid (By_2.out.below hb By_2.out.lt)
  have H_3 := Lib.hid (H_2.out.trans (hb.mono H_2.out.size))
  clear hb H_2 Bx_2 By_2
  have qx0 := Bx_3.out.c0
  have qx1 := Bx_3.out.c1
  have qx2 := Bx_3.out.c2
  go_wp2_with fail
  clear qx0 qx1 qx2
  have hc := short_yes K N T hx (u1)
  unfold valV at hc
  refine hc.mono ?_
  rintro e u2 ⟨rfl, hb⟩
  clear hc
  have Bx_4 := Lib.hid (Bx_3.out.below hb Bx_3.out.lt)
  have By_4 := Lib.hid (By_3.out.below hb By_3.out.lt)
  have H_4 := Lib.hid (H_3.out.trans (hb.mono H_3.out.size))
  clear hb H_3 Bx_3 By_3
  have qy0 := By_4.out.c0
  have qy1 := By_4.out.c1
  have qy2 := By_4.out.c2
  go_wp2_with fail
  clear qy0 qy1 qy2
  have hc := short_yes K' N' T' hy (u2)
  unfold valV at hc
  refine hc.mono ?_
  rintro e u3 ⟨rfl, hb⟩
  clear hc
  have Bx_5 := Lib.hid (Bx_4.out.below hb Bx_4.out.lt)
  have By_5 := Lib.hid (By_4.out.below hb By_4.out.lt)
  have H_5 := Lib.hid (H_4.out.trans (hb.mono H_4.out.size))
  clear hb H_4 Bx_4 By_4
  have qx0 := Bx_5.out.c0
  have qx1 := Bx_5.out.c1
  have qx2 := Bx_5.out.c2
  go_wp2_with fail
  clear qx0 qx1 qx2
  have hc := Text_num h HS.out (u3) (hw.below H_5.out)
  unfold valV at hc
  refine hc.mono ?_
  rintro e u4 ⟨rfl, hb⟩
  clear hc
  have Bx_6 := Lib.hid (Bx_5.out.below hb Bx_5.out.lt)
  have By_6 := Lib.hid (By_5.out.below hb By_5.out.lt)
  have H_6 := Lib.hid (H_5.out.trans (hb.mono H_5.out.size))
  clear hb H_5 Bx_5 By_5
  have qy0 := By_6.out.c0
  have qy1 := By_6.out.c1
  have qy2 := By_6.out.c2
  go_wp2_with fail
  clear qy0 qy1 qy2
  have hc := text_no K' N' T' hn hN' (u4) (hw.below H_6.out)
  unfold valV at hc
  refine hc.mono ?_
  rintro e u5 ⟨rfl, hb⟩
  clear hc
  have Bx_7 := Lib.hid (Bx_6.out.below hb Bx_6.out.lt)
  have By_7 := Lib.hid (By_6.out.below hb By_6.out.lt)
  have H_7 := Lib.hid (H_6.out.trans (hb.mono H_6.out.size))
  clear hb H_6 Bx_6 By_6
  go_wp2_with fail
  go_ret
  exact ⟨rfl, H_7.out⟩

set_option maxHeartbeats 8000000 in
theorem nines_both (K N K' N' : Int) (T T' : List UInt8) (x y : Int) (h : IsNum K N T x) (h' : IsNum K' N' T' y) (w : World) (hw : Wd w) :
    Calls Tryz.prog 14 #[valV K N T, valV K' N' T'] w fun e w' => e = .returned (.bool true) ∧ Below w.heap.size w w' := by
  obtain ⟨s, hs⟩ : ∃ s, s = Lib.itoa (x) := ⟨_, rfl⟩
  obtain ⟨t, ht⟩ : ∃ s, s = Lib.itoa (y) := ⟨_, rfl⟩
  obtain ⟨u, hu⟩ : ∃ s, s = Lib.itoa (x + y) := ⟨_, rfl⟩
  obtain ⟨v, hv⟩ : ∃ s, s = Lib.itoa (x * y) := ⟨_, rfl⟩
  obtain ⟨nx, hnx⟩ : ∃ n, (x) % 9 = n := ⟨_, rfl⟩
  obtain ⟨ny, hny⟩ : ∃ n, (y) % 9 = n := ⟨_, rfl⟩
  obtain ⟨nu, hnu⟩ : ∃ n, (x + y) % 9 = n := ⟨_, rfl⟩
  obtain ⟨nv, hnv⟩ : ∃ n, (x * y) % 9 = n := ⟨_, rfl⟩
  have b1 : 0 ≤ nx := by omega
  have b2 : nx ≤ 8 := by omega
  have b3 : 0 ≤ ny := by omega
  have b4 : ny ≤ 8 := by omega
  have b5 : 0 ≤ nx * ny := Int.mul_nonneg b1 b3
  have b6 : nx * ny ≤ 64 := mul_le_64 b1 b2 b3 b4
  have r1 : (nx + ny).tmod 9 = nu := by rw [Int.tmod_eq_emod_of_nonneg (by omega)]; omega
  have r2 : (nx * ny).tmod 9 = nv := by rw [Int.tmod_eq_emod_of_nonneg b5, ← hnx, ← hny, ← hnv, ← Int.mul_emod]
  obtain ⟨A0, A1, A2, E, sa⟩ := ans_ex (x + y)
  obtain ⟨B0, B1, B2, F, sb⟩ := ans_ex (x * y)
  have Hhs := Lib.hid hs
  have Hht := Lib.hid ht
  have Hhu := Lib.hid hu
  have Hhv := Lib.hid hv
  have Hhnx := Lib.hid hnx
  have Hhny := Lib.hid hny
  have Hhnu := Lib.hid hnu
  have Hhnv := Lib.hid hnv
  have Hsa := Lib.hid sa
  have Hsb := Lib.hid sb
  clear hs ht hu hv hnx hny hnu hnv sa sb
  have hx : T.length ≤ 800 := by have := h.len; omega
  have hy : T'.length ≤ 800 := by have := h'.len; omega
  have H_0 := Lib.hid (Below.refl w.heap.size w)
  try unfold valV
  go_enter Tryz.func14, Tryz.ntmps14
  have hb : Below (w).heap.size (w) ((w).alloc (.cells #[.int .i64 K, .int .i64 N, .string ⟨T.toArray⟩] 23)) := (Below.refl _ (w)).alloc (Nat.le_refl _) _
  have Bnew := VB.new (w) (.int .i64 K) (.int .i64 N) (.string ⟨T.toArray⟩)
  try simp only [World.size_alloc] at Bnew
  have H_1 := Lib.hid (H_0.out.trans (hb.mono H_0.out.size))
  clear hb H_0
  have Bx_1 := Lib.hid Bnew
  clear Bnew
  have hb : Below ((w).alloc (.cells #[.int .i64 K, .int .i64 N, .string ⟨T.toArray⟩] 23)).heap.size ((w).alloc (.cells #[.int .i64 K, .int .i64 N, .string ⟨T.toArray⟩] 23)) (((w).alloc (.cells #[.int .i64 K, .int .i64 N, .string ⟨T.toArray⟩] 23)).alloc (.cells #[.int .i64 K', .int .i64 N', .string ⟨T'.toArray⟩] 23)) := (Below.refl _ ((w).alloc (.cells #[.int .i64 K, .int .i64 N, .string ⟨T.toArray⟩] 23))).alloc (Nat.le_refl _) _
  have Bnew := VB.new ((w).alloc (.cells #[.int .i64 K, .int .i64 N, .string ⟨T.toArray⟩] 23)) (.int .i64 K') (.int .i64 N') (.string ⟨T'.toArray⟩)
  try simp only [World.size_alloc] at Bnew
  have Bx_2 := Lib.hid (Bx_1.out.below hb Bx_1.out.lt)
  have H_2 := Lib.hid (H_1.out.trans (hb.mono H_1.out.size))
  clear hb H_1 Bx_1
  have By_2 := Lib.hid Bnew
  clear Bnew
  go_wp2_with fail
  have hc := awake_c (((w).alloc (.cells #[.int .i64 K, .int .i64 N, .string ⟨T.toArray⟩] 23)).alloc (.cells #[.int .i64 K', .int .i64 N', .string ⟨T'.toArray⟩] 23)) (hw.below H_2.out)
  unfold valV at hc
  refine hc.mono ?_
  rintro e u1 ⟨rfl, hb⟩
  clear hc
  have Bx_3 := Lib.hid (Bx_2.out.below hb Bx_2.out.lt)
  have By_3 := Lib.hid (By_2.out.below hb By_2.out.lt)
  have H_3 := Lib.hid (H_2.out.trans (hb.mono H_2.out.size))
  clear hb H_2 Bx_2 By_2
  have qx0 := Bx_3.out.c0
  have qx1 := Bx_3.out.c1
  have qx2 := Bx_3.out.c2
  go_wp2_with fail
  clear qx0 qx1 qx2
  have hc := short_yes K N T hx (u1)
  unfold valV at hc
  refine hc.mono ?_
  rintro e u2 ⟨rfl, hb⟩
  clear hc
  have Bx_4 := Lib.hid (Bx_3.out.below hb Bx_3.out.lt)
  have By_4 := Lib.hid (By_3.out.below hb By_3.out.lt)
  have H_4 := Lib.hid (H_3.out.trans (hb.mono H_3.out.size))
  clear hb H_3 Bx_3 By_3
  have qy0 := By_4.out.c0
  have qy1 := By_4.out.c1
  have qy2 := By_4.out.c2
  go_wp2_with fail
  clear qy0 qy1 qy2
  have hc := short_yes K' N' T' hy (u2)
  unfold valV at hc
  refine hc.mono ?_
  rintro e u3 ⟨rfl, hb⟩
  clear hc
  have Bx_5 := Lib.hid (Bx_4.out.below hb Bx_4.out.lt)
  have By_5 := Lib.hid (By_4.out.below hb By_4.out.lt)
  have H_5 := Lib.hid (H_4.out.trans (hb.mono H_4.out.size))
  clear hb H_4 Bx_4 By_4
  have qx0 := Bx_5.out.c0
  have qx1 := Bx_5.out.c1
  have qx2 := Bx_5.out.c2
  go_wp2_with fail
  clear qx0 qx1 qx2
  have hc := Text_num h Hhs.out (u3) (hw.below H_5.out)
  unfold valV at hc
  refine hc.mono ?_
  rintro e u4 ⟨rfl, hb⟩
  clear hc
  have Bx_6 := Lib.hid (Bx_5.out.below hb Bx_5.out.lt)
  have By_6 := Lib.hid (By_5.out.below hb By_5.out.lt)
  have H_6 := Lib.hid (H_5.out.trans (hb.mono H_5.out.size))
  clear hb H_5 Bx_5 By_5
  have qy0 := By_6.out.c0
  have qy1 := By_6.out.c1
  have qy2 := By_6.out.c2
  go_wp2_with fail
  clear qy0 qy1 qy2
  have hc := Text_num h' Hht.out (u4) (hw.below H_6.out)
  unfold valV at hc
  refine hc.mono ?_
  rintro e u5 ⟨rfl, hb⟩
  clear hc
  have Bx_7 := Lib.hid (Bx_6.out.below hb Bx_6.out.lt)
  have By_7 := Lib.hid (By_6.out.below hb By_6.out.lt)
  have H_7 := Lib.hid (H_6.out.trans (hb.mono H_6.out.size))
  clear hb H_6 Bx_6 By_6
  have qx0 := Bx_7.out.c0
  have qx1 := Bx_7.out.c1
  have qx2 := Bx_7.out.c2
  have qy0 := By_7.out.c0
  have qy1 := By_7.out.c1
  have qy2 := By_7.out.c2
  go_wp2_with fail
  clear qx0 qx1 qx2 qy0 qy1 qy2
  have hc := Add_any h h' Hsa.out rfl (u5) (hw.below H_7.out)
  unfold valV at hc
  refine hc.mono ?_
  rintro e u6 ⟨rfl, hb⟩
  clear hc
  have Bx_8 := Lib.hid (Bx_7.out.below hb Bx_7.out.lt)
  have By_8 := Lib.hid (By_7.out.below hb By_7.out.lt)
  have H_8 := Lib.hid (H_7.out.trans (hb.mono H_7.out.size))
  clear hb H_7 Bx_7 By_7
  have hb : Below (u6).heap.size (u6) ((u6).alloc (.cells #[.int .i64 A0, .int .i64 A1, .string ⟨A2.toArray⟩] 23)) := (Below.refl _ (u6)).alloc (Nat.le_refl _) _
  have Bnew := VB.new (u6) (.int .i64 A0) (.int .i64 A1) (.string ⟨A2.toArray⟩)
  try simp only [World.size_alloc] at Bnew
  have Bx_9 := Lib.hid (Bx_8.out.below hb Bx_8.out.lt)
  have By_9 := Lib.hid (By_8.out.below hb By_8.out.lt)
  have H_9 := Lib.hid (H_8.out.trans (hb.mono H_8.out.size))
  clear hb H_8 Bx_8 By_8
  have Ba_9 := Lib.hid Bnew
  clear Bnew
  have qx0 := Bx_9.out.c0
  have qx1 := Bx_9.out.c1
  have qx2 := Bx_9.out.c2
  have qy0 := By_9.out.c0
  have qy1 := By_9.out.c1
  have qy2 := By_9.out.c2
  go_wp2_with fail
  clear qx0 qx1 qx2 qy0 qy1 qy2
  have hc := Mul_any h h' Hsb.out rfl ((u6).alloc (.cells #[.int .i64 A0, .int .i64 A1, .string ⟨A2.toArray⟩] 23)) (hw.below H_9.out)
  unfold valV at hc
  refine hc.mono ?_
  rintro e u7 ⟨rfl, hb⟩
  clear hc
  have Bx_10 := Lib.hid (Bx_9.out.below hb Bx_9.out.lt)
  have By_10 := Lib.hid (By_9.out.below hb By_9.out.lt)
  have Ba_10 := Lib.hid (Ba_9.out.below hb Ba_9.out.lt)
  have H_10 := Lib.hid (H_9.out.trans (hb.mono H_9.out.size))
  clear hb H_9 Bx_9 By_9 Ba_9
  have hb : Below (u7).heap.size (u7) ((u7).alloc (.cells #[.int .i64 B0, .int .i64 B1, .string ⟨B2.toArray⟩] 23)) := (Below.refl _ (u7)).alloc (Nat.le_refl _) _
  have Bnew := VB.new (u7) (.int .i64 B0) (.int .i64 B1) (.string ⟨B2.toArray⟩)
  try simp only [World.size_alloc] at Bnew
  have Bx_11 := Lib.hid (Bx_10.out.below hb Bx_10.out.lt)
  have By_11 := Lib.hid (By_10.out.below hb By_10.out.lt)
  have Ba_11 := Lib.hid (Ba_10.out.below hb Ba_10.out.lt)
  have H_11 := Lib.hid (H_10.out.trans (hb.mono H_10.out.size))
  clear hb H_10 Bx_10 By_10 Ba_10
  have Bb_11 := Lib.hid Bnew
  clear Bnew
  rcases Hsa.out.two with rfl | rfl
  · rcases Hsb.out.two with rfl | rfl
    · have qa0 := Ba_11.out.c0
      have qa1 := Ba_11.out.c1
      have qa2 := Ba_11.out.c2
      have qb0 := Bb_11.out.c0
      have qb1 := Bb_11.out.c1
      have qb2 := Bb_11.out.c2
      go_wp2_with fail
      clear qa0 qa1 qa2 qb0 qb1 qb2
      have hc := Text_num Hsa.out.ok Hhu.out ((u7).alloc (.cells #[.int .i64 B0, .int .i64 B1, .string ⟨B2.toArray⟩] 23)) (hw.below H_11.out)
      unfold valV at hc
      refine hc.mono ?_
      rintro e u8 ⟨rfl, hb⟩
      clear hc
      have Bx_12 := Lib.hid (Bx_11.out.below hb Bx_11.out.lt)
      have By_12 := Lib.hid (By_11.out.below hb By_11.out.lt)
      have Ba_12 := Lib.hid (Ba_11.out.below hb Ba_11.out.lt)
      have Bb_12 := Lib.hid (Bb_11.out.below hb Bb_11.out.lt)
      have H_12 := Lib.hid (H_11.out.trans (hb.mono H_11.out.size))
      clear hb H_11 Bx_11 By_11 Ba_11 Bb_11
      have qb0 := Bb_12.out.c0
      have qb1 := Bb_12.out.c1
      have qb2 := Bb_12.out.c2
      go_wp2_with fail
      clear qb0 qb1 qb2
      have hc := Text_num Hsb.out.ok Hhv.out (u8) (hw.below H_12.out)
      unfold valV at hc
      refine hc.mono ?_
      rintro e u9 ⟨rfl, hb⟩
      clear hc
      have Bx_13 := Lib.hid (Bx_12.out.below hb Bx_12.out.lt)
      have By_13 := Lib.hid (By_12.out.below hb By_12.out.lt)
      have Ba_13 := Lib.hid (Ba_12.out.below hb Ba_12.out.lt)
      have Bb_13 := Lib.hid (Bb_12.out.below hb Bb_12.out.lt)
      have H_13 := Lib.hid (H_12.out.trans (hb.mono H_12.out.size))
      clear hb H_12 Bx_12 By_12 Ba_12 Bb_12
      go_wp2_with fail
      have hc := nines_num Hsa.out.ok.1 Hhu.out Hhnu.out (u9)
      refine hc.mono ?_
      rintro e u10 ⟨rfl, hb⟩
      clear hc
      have Bx_14 := Lib.hid (Bx_13.out.below hb Bx_13.out.lt)
      have By_14 := Lib.hid (By_13.out.below hb By_13.out.lt)
      have Ba_14 := Lib.hid (Ba_13.out.below hb Ba_13.out.lt)
      have Bb_14 := Lib.hid (Bb_13.out.below hb Bb_13.out.lt)
      have H_14 := Lib.hid (H_13.out.trans (hb.mono H_13.out.size))
      clear hb H_13 Bx_13 By_13 Ba_13 Bb_13
      go_wp2_with fail
      have hc := nines_num h.1 Hhs.out Hhnx.out (u10)
      refine hc.mono ?_
      rintro e u11 ⟨rfl, hb⟩
      clear hc
      have Bx_15 := Lib.hid (Bx_14.out.below hb Bx_14.out.lt)
      have By_15 := Lib.hid (By_14.out.below hb By_14.out.lt)
      have Ba_15 := Lib.hid (Ba_14.out.below hb Ba_14.out.lt)
      have Bb_15 := Lib.hid (Bb_14.out.below hb Bb_14.out.lt)
      have H_15 := Lib.hid (H_14.out.trans (hb.mono H_14.out.size))
      clear hb H_14 Bx_14 By_14 Ba_14 Bb_14
      go_wp2_with fail
      have hc := nines_num h'.1 Hht.out Hhny.out (u11)
      refine hc.mono ?_
      rintro e u12 ⟨rfl, hb⟩
      clear hc
      have Bx_16 := Lib.hid (Bx_15.out.below hb Bx_15.out.lt)
      have By_16 := Lib.hid (By_15.out.below hb By_15.out.lt)
      have Ba_16 := Lib.hid (Ba_15.out.below hb Ba_15.out.lt)
      have Bb_16 := Lib.hid (Bb_15.out.below hb Bb_15.out.lt)
      have H_16 := Lib.hid (H_15.out.trans (hb.mono H_15.out.size))
      clear hb H_15 Bx_15 By_15 Ba_15 Bb_15
      go_wp2_with fail
      have hc := nines_num Hsb.out.ok.1 Hhv.out Hhnv.out (u12)
      refine hc.mono ?_
      rintro e u13 ⟨rfl, hb⟩
      clear hc
      have Bx_17 := Lib.hid (Bx_16.out.below hb Bx_16.out.lt)
      have By_17 := Lib.hid (By_16.out.below hb By_16.out.lt)
      have Ba_17 := Lib.hid (Ba_16.out.below hb Ba_16.out.lt)
      have Bb_17 := Lib.hid (Bb_16.out.below hb Bb_16.out.lt)
      have H_17 := Lib.hid (H_16.out.trans (hb.mono H_16.out.size))
      clear hb H_16 Bx_16 By_16 Ba_16 Bb_16
      go_wp2_with fail
      have hc := nines_num h.1 Hhs.out Hhnx.out (u13)
      refine hc.mono ?_
      rintro e u14 ⟨rfl, hb⟩
      clear hc
      have Bx_18 := Lib.hid (Bx_17.out.below hb Bx_17.out.lt)
      have By_18 := Lib.hid (By_17.out.below hb By_17.out.lt)
      have Ba_18 := Lib.hid (Ba_17.out.below hb Ba_17.out.lt)
      have Bb_18 := Lib.hid (Bb_17.out.below hb Bb_17.out.lt)
      have H_18 := Lib.hid (H_17.out.trans (hb.mono H_17.out.size))
      clear hb H_17 Bx_17 By_17 Ba_17 Bb_17
      go_wp2_with fail
      have hc := nines_num h'.1 Hht.out Hhny.out (u14)
      refine hc.mono ?_
      rintro e u15 ⟨rfl, hb⟩
      clear hc
      have Bx_19 := Lib.hid (Bx_18.out.below hb Bx_18.out.lt)
      have By_19 := Lib.hid (By_18.out.below hb By_18.out.lt)
      have Ba_19 := Lib.hid (Ba_18.out.below hb Ba_18.out.lt)
      have Bb_19 := Lib.hid (Bb_18.out.below hb Bb_18.out.lt)
      have H_19 := Lib.hid (H_18.out.trans (hb.mono H_18.out.size))
      clear hb H_18 Bx_18 By_18 Ba_18 Bb_18
      go_wp2_with fail
      go_ret
      exact ⟨rfl, H_19.out⟩
    · obtain ⟨rfl, rfl, rfl⟩ := Hsb.out.none
      have qa0 := Ba_11.out.c0
      have qa1 := Ba_11.out.c1
      have qa2 := Ba_11.out.c2
      have qb0 := Bb_11.out.c0
      have qb1 := Bb_11.out.c1
      have qb2 := Bb_11.out.c2
      go_wp2_with fail
      clear qa0 qa1 qa2 qb0 qb1 qb2
      have hc := Text_num Hsa.out.ok Hhu.out ((u7).alloc (.cells #[.int .i64 0, .int .i64 0, .string ⟨([] : List UInt8).toArray⟩] 23)) (hw.below H_11.out)
      unfold valV at hc
      refine hc.mono ?_
      rintro e u8 ⟨rfl, hb⟩
      clear hc
      have Bx_12 := Lib.hid (Bx_11.out.below hb Bx_11.out.lt)
      have By_12 := Lib.hid (By_11.out.below hb By_11.out.lt)
      have Ba_12 := Lib.hid (Ba_11.out.below hb Ba_11.out.lt)
      have Bb_12 := Lib.hid (Bb_11.out.below hb Bb_11.out.lt)
      have H_12 := Lib.hid (H_11.out.trans (hb.mono H_11.out.size))
      clear hb H_11 Bx_11 By_11 Ba_11 Bb_11
      have qb0 := Bb_12.out.c0
      have qb1 := Bb_12.out.c1
      have qb2 := Bb_12.out.c2
      go_wp2_with fail
      clear qb0 qb1 qb2
      have hc := text_no 0 0 [] not_num (in64 (by decide) (by decide)) (u8) (hw.below H_12.out)
      unfold valV at hc
      refine hc.mono ?_
      rintro e u9 ⟨rfl, hb⟩
      clear hc
      have Bx_13 := Lib.hid (Bx_12.out.below hb Bx_12.out.lt)
      have By_13 := Lib.hid (By_12.out.below hb By_12.out.lt)
      have Ba_13 := Lib.hid (Ba_12.out.below hb Ba_12.out.lt)
      have Bb_13 := Lib.hid (Bb_12.out.below hb Bb_12.out.lt)
      have H_13 := Lib.hid (H_12.out.trans (hb.mono H_12.out.size))
      clear hb H_12 Bx_12 By_12 Ba_12 Bb_12
      go_wp2_with fail
      have hc := nines_num Hsa.out.ok.1 Hhu.out Hhnu.out (u9)
      refine hc.mono ?_
      rintro e u10 ⟨rfl, hb⟩
      clear hc
      have Bx_14 := Lib.hid (Bx_13.out.below hb Bx_13.out.lt)
      have By_14 := Lib.hid (By_13.out.below hb By_13.out.lt)
      have Ba_14 := Lib.hid (Ba_13.out.below hb Ba_13.out.lt)
      have Bb_14 := Lib.hid (Bb_13.out.below hb Bb_13.out.lt)
      have H_14 := Lib.hid (H_13.out.trans (hb.mono H_13.out.size))
      clear hb H_13 Bx_13 By_13 Ba_13 Bb_13
      go_wp2_with fail
      have hc := nines_num h.1 Hhs.out Hhnx.out (u10)
      refine hc.mono ?_
      rintro e u11 ⟨rfl, hb⟩
      clear hc
      have Bx_15 := Lib.hid (Bx_14.out.below hb Bx_14.out.lt)
      have By_15 := Lib.hid (By_14.out.below hb By_14.out.lt)
      have Ba_15 := Lib.hid (Ba_14.out.below hb Ba_14.out.lt)
      have Bb_15 := Lib.hid (Bb_14.out.below hb Bb_14.out.lt)
      have H_15 := Lib.hid (H_14.out.trans (hb.mono H_14.out.size))
      clear hb H_14 Bx_14 By_14 Ba_14 Bb_14
      go_wp2_with fail
      have hc := nines_num h'.1 Hht.out Hhny.out (u11)
      refine hc.mono ?_
      rintro e u12 ⟨rfl, hb⟩
      clear hc
      have Bx_16 := Lib.hid (Bx_15.out.below hb Bx_15.out.lt)
      have By_16 := Lib.hid (By_15.out.below hb By_15.out.lt)
      have Ba_16 := Lib.hid (Ba_15.out.below hb Ba_15.out.lt)
      have Bb_16 := Lib.hid (Bb_15.out.below hb Bb_15.out.lt)
      have H_16 := Lib.hid (H_15.out.trans (hb.mono H_15.out.size))
      clear hb H_15 Bx_15 By_15 Ba_15 Bb_15
      go_wp2_with fail
      go_ret
      exact ⟨rfl, H_16.out⟩
  · obtain ⟨rfl, rfl, rfl⟩ := Hsa.out.none
    rcases Hsb.out.two with rfl | rfl
    · have qa0 := Ba_11.out.c0
      have qa1 := Ba_11.out.c1
      have qa2 := Ba_11.out.c2
      have qb0 := Bb_11.out.c0
      have qb1 := Bb_11.out.c1
      have qb2 := Bb_11.out.c2
      go_wp2_with fail
      clear qa0 qa1 qa2 qb0 qb1 qb2
      have hc := text_no 0 0 [] not_num (in64 (by decide) (by decide)) ((u7).alloc (.cells #[.int .i64 B0, .int .i64 B1, .string ⟨B2.toArray⟩] 23)) (hw.below H_11.out)
      unfold valV at hc
      refine hc.mono ?_
      rintro e u8 ⟨rfl, hb⟩
      clear hc
      have Bx_12 := Lib.hid (Bx_11.out.below hb Bx_11.out.lt)
      have By_12 := Lib.hid (By_11.out.below hb By_11.out.lt)
      have Ba_12 := Lib.hid (Ba_11.out.below hb Ba_11.out.lt)
      have Bb_12 := Lib.hid (Bb_11.out.below hb Bb_11.out.lt)
      have H_12 := Lib.hid (H_11.out.trans (hb.mono H_11.out.size))
      clear hb H_11 Bx_11 By_11 Ba_11 Bb_11
      have qb0 := Bb_12.out.c0
      have qb1 := Bb_12.out.c1
      have qb2 := Bb_12.out.c2
      go_wp2_with fail
      clear qb0 qb1 qb2
      have hc := Text_num Hsb.out.ok Hhv.out (u8) (hw.below H_12.out)
      unfold valV at hc
      refine hc.mono ?_
      rintro e u9 ⟨rfl, hb⟩
      clear hc
      have Bx_13 := Lib.hid (Bx_12.out.below hb Bx_12.out.lt)
      have By_13 := Lib.hid (By_12.out.below hb By_12.out.lt)
      have Ba_13 := Lib.hid (Ba_12.out.below hb Ba_12.out.lt)
      have Bb_13 := Lib.hid (Bb_12.out.below hb Bb_12.out.lt)
      have H_13 := Lib.hid (H_12.out.trans (hb.mono H_12.out.size))
      clear hb H_12 Bx_12 By_12 Ba_12 Bb_12
      go_wp2_with fail
      have hc := nines_num Hsb.out.ok.1 Hhv.out Hhnv.out (u9)
      refine hc.mono ?_
      rintro e u10 ⟨rfl, hb⟩
      clear hc
      have Bx_14 := Lib.hid (Bx_13.out.below hb Bx_13.out.lt)
      have By_14 := Lib.hid (By_13.out.below hb By_13.out.lt)
      have Ba_14 := Lib.hid (Ba_13.out.below hb Ba_13.out.lt)
      have Bb_14 := Lib.hid (Bb_13.out.below hb Bb_13.out.lt)
      have H_14 := Lib.hid (H_13.out.trans (hb.mono H_13.out.size))
      clear hb H_13 Bx_13 By_13 Ba_13 Bb_13
      go_wp2_with fail
      have hc := nines_num h.1 Hhs.out Hhnx.out (u10)
      refine hc.mono ?_
      rintro e u11 ⟨rfl, hb⟩
      clear hc
      have Bx_15 := Lib.hid (Bx_14.out.below hb Bx_14.out.lt)
      have By_15 := Lib.hid (By_14.out.below hb By_14.out.lt)
      have Ba_15 := Lib.hid (Ba_14.out.below hb Ba_14.out.lt)
      have Bb_15 := Lib.hid (Bb_14.out.below hb Bb_14.out.lt)
      have H_15 := Lib.hid (H_14.out.trans (hb.mono H_14.out.size))
      clear hb H_14 Bx_14 By_14 Ba_14 Bb_14
      go_wp2_with fail
      have hc := nines_num h'.1 Hht.out Hhny.out (u11)
      refine hc.mono ?_
      rintro e u12 ⟨rfl, hb⟩
      clear hc
      have Bx_16 := Lib.hid (Bx_15.out.below hb Bx_15.out.lt)
      have By_16 := Lib.hid (By_15.out.below hb By_15.out.lt)
      have Ba_16 := Lib.hid (Ba_15.out.below hb Ba_15.out.lt)
      have Bb_16 := Lib.hid (Bb_15.out.below hb Bb_15.out.lt)
      have H_16 := Lib.hid (H_15.out.trans (hb.mono H_15.out.size))
      clear hb H_15 Bx_15 By_15 Ba_15 Bb_15
      go_wp2_with fail
      go_ret
      exact ⟨rfl, H_16.out⟩
    · obtain ⟨rfl, rfl, rfl⟩ := Hsb.out.none
      have qa0 := Ba_11.out.c0
      have qa1 := Ba_11.out.c1
      have qa2 := Ba_11.out.c2
      have qb0 := Bb_11.out.c0
      have qb1 := Bb_11.out.c1
      have qb2 := Bb_11.out.c2
      go_wp2_with fail
      clear qa0 qa1 qa2 qb0 qb1 qb2
      have hc := text_no 0 0 [] not_num (in64 (by decide) (by decide)) ((u7).alloc (.cells #[.int .i64 0, .int .i64 0, .string ⟨([] : List UInt8).toArray⟩] 23)) (hw.below H_11.out)
      unfold valV at hc
      refine hc.mono ?_
      rintro e u8 ⟨rfl, hb⟩
      clear hc
      have Bx_12 := Lib.hid (Bx_11.out.below hb Bx_11.out.lt)
      have By_12 := Lib.hid (By_11.out.below hb By_11.out.lt)
      have Ba_12 := Lib.hid (Ba_11.out.below hb Ba_11.out.lt)
      have Bb_12 := Lib.hid (Bb_11.out.below hb Bb_11.out.lt)
      have H_12 := Lib.hid (H_11.out.trans (hb.mono H_11.out.size))
      clear hb H_11 Bx_11 By_11 Ba_11 Bb_11
      have qb0 := Bb_12.out.c0
      have qb1 := Bb_12.out.c1
      have qb2 := Bb_12.out.c2
      go_wp2_with fail
      clear qb0 qb1 qb2
      have hc := text_no 0 0 [] not_num (in64 (by decide) (by decide)) (u8) (hw.below H_12.out)
      unfold valV at hc
      refine hc.mono ?_
      rintro e u9 ⟨rfl, hb⟩
      clear hc
      have Bx_13 := Lib.hid (Bx_12.out.below hb Bx_12.out.lt)
      have By_13 := Lib.hid (By_12.out.below hb By_12.out.lt)
      have Ba_13 := Lib.hid (Ba_12.out.below hb Ba_12.out.lt)
      have Bb_13 := Lib.hid (Bb_12.out.below hb Bb_12.out.lt)
      have H_13 := Lib.hid (H_12.out.trans (hb.mono H_12.out.size))
      clear hb H_12 Bx_12 By_12 Ba_12 Bb_12
      go_wp2_with fail
      go_ret
      exact ⟨rfl, H_13.out⟩

theorem nines_law (K N : Int) (T : List UInt8) (K' N' : Int) (T' : List UInt8) (hN : In64Z N) (hN' : In64Z N') (w : World) (hw : Wd w) :
    Calls Tryz.prog 14 #[valV K N T, valV K' N' T'] w fun e w' => e = .returned (.bool true) ∧ Below w.heap.size w w' := by
  by_cases hx : T.length ≤ 800
  · by_cases hy : T'.length ≤ 800
    · by_cases h1 : ∃ z, IsNum K N T z
      · obtain ⟨x, h1⟩ := h1
        by_cases h2 : ∃ z, IsNum K' N' T' z
        · obtain ⟨y, h2⟩ := h2
          exact nines_both K N K' N' T T' x y h1 h2 w hw
        · exact nines_noy K N K' N' T T' hx hy x h1 (fun z hz => h2 ⟨z, hz⟩) hN' w hw
      · exact nines_nox K N K' N' T T' hx hy (fun z hz => h1 ⟨z, hz⟩) hN hN' w hw
    · exact nines_long2 K N K' N' T T' hx hy w hw
  · exact nines_long1 K N K' N' T T' hx w hw
end Go.Proofs.YthbfbpbppjkoeaaGreatDoor
