/- The walk of BigDivisors of package proteuslaw03, case by case. Conditions: those in the statements. -/
import Derived.Test.YthbfbpbppjkoeaaGreatDoorBigLb
import Derived.Test.YthbfbpbppjkoeaaGreatDoorBigRc
namespace Go.Proofs.YthbfbpbppjkoeaaGreatDoor
open Go.RowKit Go.Shelf
set_option exponentiation.threshold 500
set_option maxRecDepth 100000
set_option linter.unusedSimpArgs false
set_option linter.unusedVariables false
attribute [local irreducible] wpQuiet

theorem gcd_nz' {y : Int} (h : ((Int.gcd 0 y : Nat) : Int) ≠ 0) : y ≠ 0 := fun e => h (by rw [e]; decide)
theorem fmod_of_dvd {x z : Int} (h : z ∣ x) : x.fmod z = 0 := by
  obtain ⟨c, rfl⟩ := h
  exact Int.mul_fmod_right z c
theorem gcd_rest_left (x y : Int) : x.fmod ((Int.gcd x y : Nat) : Int) = 0 := fmod_of_dvd (Int.gcd_dvd_left x y)
theorem gcd_rest_right (x y : Int) : y.fmod ((Int.gcd x y : Nat) : Int) = 0 := fmod_of_dvd (Int.gcd_dvd_right x y)
theorem gcd_rest_of {x y z : Int} (h : x.fmod z = 0) (h' : y.fmod z = 0) : ((Int.gcd x y : Nat) : Int).fmod z = 0 :=
  fmod_of_dvd (Int.dvd_coe_gcd (Int.dvd_of_fmod_eq_zero h) (Int.dvd_of_fmod_eq_zero h'))

set_option maxHeartbeats 4000000 in
theorem div_long1 (K N K' N' K'' N'' : Int) (T T' T'' : List UInt8) (hx : ¬ T.length ≤ 800) (w : World) (hw : Wd w) :
    Calls Tryz.prog 11 #[valV K N T, valV K' N' T', valV K'' N'' T''] w fun e w' => e = .returned (.bool true) ∧ Below w.heap.size w w' := by
  have H_0 := Lib.hid (Below.refl w.heap.size w)
  unfold valV
  go_enter Tryz.func11, Tryz.ntmps11
  have hb : Below (w).heap.size (w) ((w).alloc (.cells #[.int .i64 K, .int .i64 N, .string ⟨T.toArray⟩] 23)) := (Below.refl _ (w)).alloc (Nat.le_refl _) _
  have Bnew := VB.new (w) (.int .i64 K) (.int .i64 N) (.string ⟨T.toArray⟩)
  try simp only [World.size_alloc] at Bnew
  have H_1 := Lib.hid (H_0.out.trans (hb.mono H_0.out.size))
  clear hb H_0
  have Bx_1 := Lib.hid Bnew
  clear Bnew
  have hb : Below ((w).alloc (.cells #[.int .i64 K, .int .i64 N, .string ⟨T.toArray⟩] 23)).heap.size ((w).alloc (.cells #[.int .i64 K, .int .i64 N, .string ⟨T.toArray⟩] 23)) (((w).alloc (.cells #[.int .i64 K, .int .i64 N, .string ⟨T.toArray⟩] 23)).alloc (.cells #[.int .i64 K', .int .i64 N', .string ⟨T'.toArray⟩] 23)) := (Below.refl _ ((w).alloc (.cells #[.int .i64 K, .int .i64 N, .string ⟨T.toArray⟩] 23))).alloc (Nat.le_refl _) _
  have Bnew := VB.new ((w).alloc (.cells #[.int .i64 K, .int .i64 N, .string ⟨T.toArray⟩] 23)) (.int .i64 K') (.int .i64 N') (.string ⟨T'.toArray⟩)
  try simp only [World.size_alloc] at Bnew
  have Bx_2 := Lib.hid (Bx_1.out.below hb Bx_1.out.lt)
  have H_2 := Lib.hid (H_1.out.trans (hb.mono H_1.out.size))
  clear hb H_1 Bx_1
  have By_2 := Lib.hid Bnew
  clear Bnew
  have hb : Below (((w).alloc (.cells #[.int .i64 K, .int .i64 N, .string ⟨T.toArray⟩] 23)).alloc (.cells #[.int .i64 K', .int .i64 N', .string ⟨T'.toArray⟩] 23)).heap.size (((w).alloc (.cells #[.int .i64 K, .int .i64 N, .string ⟨T.toArray⟩] 23)).alloc (.cells #[.int .i64 K', .int .i64 N', .string ⟨T'.toArray⟩] 23)) ((((w).alloc (.cells #[.int .i64 K, .int .i64 N, .string ⟨T.toArray⟩] 23)).alloc (.cells #[.int .i64 K', .int .i64 N', .string ⟨T'.toArray⟩] 23)).alloc (.cells #[.int .i64 K'', .int .i64 N'', .string ⟨T''.toArray⟩] 23)) := (Below.refl _ (((w).alloc (.cells #[.int .i64 K, .int .i64 N, .string ⟨T.toArray⟩] 23)).alloc (.cells #[.int .i64 K', .int .i64 N', .string ⟨T'.toArray⟩] 23))).alloc (Nat.le_refl _) _
  have Bnew := VB.new (((w).alloc (.cells #[.int .i64 K, .int .i64 N, .string ⟨T.toArray⟩] 23)).alloc (.cells #[.int .i64 K', .int .i64 N', .string ⟨T'.toArray⟩] 23)) (.int .i64 K'') (.int .i64 N'') (.string ⟨T''.toArray⟩)
  try simp only [World.size_alloc] at Bnew
  have Bx_3 := Lib.hid (Bx_2.out.below hb Bx_2.out.lt)
  have By_3 := Lib.hid (By_2.out.below hb By_2.out.lt)
  have H_3 := Lib.hid (H_2.out.trans (hb.mono H_2.out.size))
  clear hb H_2 Bx_2 By_2
  have Bz_3 := Lib.hid Bnew
  clear Bnew
  go_wp2_with fail
  have hc := awake_c ((((w).alloc (.cells #[.int .i64 K, .int .i64 N, .string ⟨T.toArray⟩] 23)).alloc (.cells #[.int .i64 K', .int .i64 N', .string ⟨T'.toArray⟩] 23)).alloc (.cells #[.int .i64 K'', .int .i64 N'', .string ⟨T''.toArray⟩] 23)) (hw.below H_3.out)
  unfold valV at hc
  refine hc.mono ?_
  rintro e u1 ⟨rfl, hb⟩
  clear hc
  have Bx_4 := Lib.hid (Bx_3.out.below hb Bx_3.out.lt)
  have By_4 := Lib.hid (By_3.out.below hb By_3.out.lt)
  have Bz_4 := Lib.hid (Bz_3.out.below hb Bz_3.out.lt)
  have H_4 := Lib.hid (H_3.out.trans (hb.mono H_3.out.size))
  clear hb H_3 Bx_3 By_3 Bz_3
  have qx0 := Bx_4.out.c0
  have qx1 := Bx_4.out.c1
  have qx2 := Bx_4.out.c2
  go_wp2_with fail
  clear qx0 qx1 qx2
  have hc := short_not K N T hx (u1)
  unfold valV at hc
  refine hc.mono ?_
  rintro e u2 ⟨rfl, hb⟩
  clear hc
  have Bx_5 := Lib.hid (Bx_4.out.below hb Bx_4.out.lt)
  have By_5 := Lib.hid (By_4.out.below hb By_4.out.lt)
  have Bz_5 := Lib.hid (Bz_4.out.below hb Bz_4.out.lt)
  have H_5 := Lib.hid (H_4.out.trans (hb.mono H_4.out.size))
  clear hb H_4 Bx_4 By_4 Bz_4
  go_wp2_with fail
  go_ret
  exact ⟨rfl, H_5.out⟩

set_option maxHeartbeats 4000000 in
theorem div_long2 (K N K' N' K'' N'' : Int) (T T' T'' : List UInt8) (hx : T.length ≤ 800) (hy : ¬ T'.length ≤ 800) (w : World) (hw : Wd w) :
    Calls Tryz.prog 11 #[valV K N T, valV K' N' T', valV K'' N'' T''] w fun e w' => e = .returned (.bool true) ∧ Below w.heap.size w w' := by
  have H_0 := Lib.hid (Below.refl w.heap.size w)
  unfold valV
  go_enter Tryz.func11, Tryz.ntmps11
  have hb : Below (w).heap.size (w) ((w).alloc (.cells #[.int .i64 K, .int .i64 N, .string ⟨T.toArray⟩] 23)) := (Below.refl _ (w)).alloc (Nat.le_refl _) _
  have Bnew := VB.new (w) (.int .i64 K) (.int .i64 N) (.string ⟨T.toArray⟩)
  try simp only [World.size_alloc] at Bnew
  have H_1 := Lib.hid (H_0.out.trans (hb.mono H_0.out.size))
  clear hb H_0
  have Bx_1 := Lib.hid Bnew
  clear Bnew
  have hb : Below ((w).alloc (.cells #[.int .i64 K, .int .i64 N, .string ⟨T.toArray⟩] 23)).heap.size ((w).alloc (.cells #[.int .i64 K, .int .i64 N, .string ⟨T.toArray⟩] 23)) (((w).alloc (.cells #[.int .i64 K, .int .i64 N, .string ⟨T.toArray⟩] 23)).alloc (.cells #[.int .i64 K', .int .i64 N', .string ⟨T'.toArray⟩] 23)) := (Below.refl _ ((w).alloc (.cells #[.int .i64 K, .int .i64 N, .string ⟨T.toArray⟩] 23))).alloc (Nat.le_refl _) _
  have Bnew := VB.new ((w).alloc (.cells #[.int .i64 K, .int .i64 N, .string ⟨T.toArray⟩] 23)) (.int .i64 K') (.int .i64 N') (.string ⟨T'.toArray⟩)
  try simp only [World.size_alloc] at Bnew
  have Bx_2 := Lib.hid (Bx_1.out.below hb Bx_1.out.lt)
  have H_2 := Lib.hid (H_1.out.trans (hb.mono H_1.out.size))
  clear hb H_1 Bx_1
  have By_2 := Lib.hid Bnew
  clear Bnew
  have hb : Below (((w).alloc (.cells #[.int .i64 K, .int .i64 N, .string ⟨T.toArray⟩] 23)).alloc (.cells #[.int .i64 K', .int .i64 N', .string ⟨T'.toArray⟩] 23)).heap.size (((w).alloc (.cells #[.int .i64 K, .int .i64 N, .string ⟨T.toArray⟩] 23)).alloc (.cells #[.int .i64 K', .int .i64 N', .string ⟨T'.toArray⟩] 23)) ((((w).alloc (.cells #[.int .i64 K, .int .i64 N, .string ⟨T.toArray⟩] 23)).alloc (.cells #[.int .i64 K', .int .i64 N', .string ⟨T'.toArray⟩] 23)).alloc (.cells #[.int .i64 K'', .int .i64 N'', .string ⟨T''.toArray⟩] 23)) := (Below.refl _ (((w).alloc (.cells #[.int .i64 K, .int .i64 N, .string ⟨T.toArray⟩] 23)).alloc (.cells #[.int .i64 K', .int .i64 N', .string ⟨T'.toArray⟩] 23))).alloc (Nat.le_refl _) _
  have Bnew := VB.new (((w).alloc (.cells #[.int .i64 K, .int .i64 N, .string ⟨T.toArray⟩] 23)).alloc (.cells #[.int .i64 K', .int .i64 N', .string ⟨T'.toArray⟩] 23)) (.int .i64 K'') (.int .i64 N'') (.string ⟨T''.toArray⟩)
  try simp only [World.size_alloc] at Bnew
  have Bx_3 := Lib.hid (Bx_2.out.below hb Bx_2.out.lt)
  have By_3 := Lib.hid (By_2.out.below hb By_2.out.lt)
  have H_3 := Lib.hid (H_2.out.trans (hb.mono H_2.out.size))
  clear hb H_2 Bx_2 By_2
  have Bz_3 := Lib.hid Bnew
  clear Bnew
  go_wp2_with fail
  have hc := awake_c ((((w).alloc (.cells #[.int .i64 K, .int .i64 N, .string ⟨T.toArray⟩] 23)).alloc (.cells #[.int .i64 K', .int .i64 N', .string ⟨T'.toArray⟩] 23)).alloc (.cells #[.int .i64 K'', .int .i64 N'', .string ⟨T''.toArray⟩] 23)) (hw.below H_3.out)
  unfold valV at hc
  refine hc.mono ?_
  rintro e u1 ⟨rfl, hb⟩
  clear hc
  have Bx_4 := Lib.hid (Bx_3.out.below hb Bx_3.out.lt)
  have By_4 := Lib.hid (By_3.out.below hb By_3.out.lt)
  have Bz_4 := Lib.hid (Bz_3.out.below hb Bz_3.out.lt)
  have H_4 := Lib.hid (H_3.out.trans (hb.mono H_3.out.size))
  clear hb H_3 Bx_3 By_3 Bz_3
  have qx0 := Bx_4.out.c0
  have qx1 := Bx_4.out.c1
  have qx2 := Bx_4.out.c2
  go_wp2_with fail
  clear qx0 qx1 qx2
  have hc := short_yes K N T hx (u1)
  unfold valV at hc
  refine hc.mono ?_
  rintro e u2 ⟨rfl, hb⟩
  clear hc
  have Bx_5 := Lib.hid (Bx_4.out.below hb Bx_4.out.lt)
  have By_5 := Lib.hid (By_4.out.below hb By_4.out.lt)
  have Bz_5 := Lib.hid (Bz_4.out.below hb Bz_4.out.lt)
  have H_5 := Lib.hid (H_4.out.trans (hb.mono H_4.out.size))
  clear hb H_4 Bx_4 By_4 Bz_4
  have qy0 := By_5.out.c0
  have qy1 := By_5.out.c1
  have qy2 := By_5.out.c2
  go_wp2_with fail
  clear qy0 qy1 qy2
  have hc := short_not K' N' T' hy (u2)
  unfold valV at hc
  refine hc.mono ?_
  rintro e u3 ⟨rfl, hb⟩
  clear hc
  have Bx_6 := Lib.hid (Bx_5.out.below hb Bx_5.out.lt)
  have By_6 := Lib.hid (By_5.out.below hb By_5.out.lt)
  have Bz_6 := Lib.hid (Bz_5.out.below hb Bz_5.out.lt)
  have H_6 := Lib.hid (H_5.out.trans (hb.mono H_5.out.size))
  clear hb H_5 Bx_5 By_5 Bz_5
  go_wp2_with fail
  go_ret
  exact ⟨rfl, H_6.out⟩

set_option maxHeartbeats 4000000 in
theorem div_long3 (K N K' N' K'' N'' : Int) (T T' T'' : List UInt8) (hx : T.length ≤ 800) (hy : T'.length ≤ 800) (hz : ¬ T''.length ≤ 800) (w : World) (hw : Wd w) :
    Calls Tryz.prog 11 #[valV K N T, valV K' N' T', valV K'' N'' T''] w fun e w' => e = .returned (.bool true) ∧ Below w.heap.size w w' := by
  have H_0 := Lib.hid (Below.refl w.heap.size w)
  unfold valV
  go_enter Tryz.func11, Tryz.ntmps11
  have hb : Below (w).heap.size (w) ((w).alloc (.cells #[.int .i64 K, .int .i64 N, .string ⟨T.toArray⟩] 23)) := (Below.refl _ (w)).alloc (Nat.le_refl _) _
  have Bnew := VB.new (w) (.int .i64 K) (.int .i64 N) (.string ⟨T.toArray⟩)
  try simp only [World.size_alloc] at Bnew
  have H_1 := Lib.hid (H_0.out.trans (hb.mono H_0.out.size))
  clear hb H_0
  have Bx_1 := Lib.hid Bnew
  clear Bnew
  have hb : Below ((w).alloc (.cells #[.int .i64 K, .int .i64 N, .string ⟨T.toArray⟩] 23)).heap.size ((w).alloc (.cells #[.int .i64 K, .int .i64 N, .string ⟨T.toArray⟩] 23)) (((w).alloc (.cells #[.int .i64 K, .int .i64 N, .string ⟨T.toArray⟩] 23)).alloc (.cells #[.int .i64 K', .int .i64 N', .string ⟨T'.toArray⟩] 23)) := (Below.refl _ ((w).alloc (.cells #[.int .i64 K, .int .i64 N, .string ⟨T.toArray⟩] 23))).alloc (Nat.le_refl _) _
  have Bnew := VB.new ((w).alloc (.cells #[.int .i64 K, .int .i64 N, .string ⟨T.toArray⟩] 23)) (.int .i64 K') (.int .i64 N') (.string ⟨T'.toArray⟩)
  try simp only [World.size_alloc] at Bnew
  have Bx_2 := Lib.hid (Bx_1.out.below hb Bx_1.out.lt)
  have H_2 := Lib.hid (H_1.out.trans (hb.mono H_1.out.size))
  clear hb H_1 Bx_1
  have By_2 := Lib.hid Bnew
  clear Bnew
  have hb : Below (((w).alloc (.cells #[.int .i64 K, .int .i64 N, .string ⟨T.toArray⟩] 23)).alloc (.cells #[.int .i64 K', .int .i64 N', .string ⟨T'.toArray⟩] 23)).heap.size (((w).alloc (.cells #[.int .i64 K, .int .i64 N, .string ⟨T.toArray⟩] 23)).alloc (.cells #[.int .i64 K', .int .i64 N', .string ⟨T'.toArray⟩] 23)) ((((w).alloc (.cells #[.int .i64 K, .int .i64 N, .string ⟨T.toArray⟩] 23)).alloc (.cells #[.int .i64 K', .int .i64 N', .string ⟨T'.toArray⟩] 23)).alloc (.cells #[.int .i64 K'', .int .i64 N'', .string ⟨T''.toArray⟩] 23)) := (Below.refl _ (((w).alloc (.cells #[.int .i64 K, .int .i64 N, .string ⟨T.toArray⟩] 23)).alloc (.cells #[.int .i64 K', .int .i64 N', .string ⟨T'.toArray⟩] 23))).alloc (Nat.le_refl _) _
  have Bnew := VB.new (((w).alloc (.cells #[.int .i64 K, .int .i64 N, .string ⟨T.toArray⟩] 23)).alloc (.cells #[.int .i64 K', .int .i64 N', .string ⟨T'.toArray⟩] 23)) (.int .i64 K'') (.int .i64 N'') (.string ⟨T''.toArray⟩)
  try simp only [World.size_alloc] at Bnew
  have Bx_3 := Lib.hid (Bx_2.out.below hb Bx_2.out.lt)
  have By_3 := Lib.hid (By_2.out.below hb By_2.out.lt)
  have H_3 := Lib.hid (H_2.out.trans (hb.mono H_2.out.size))
  clear hb H_2 Bx_2 By_2
  have Bz_3 := Lib.hid Bnew
  clear Bnew
  go_wp2_with fail
  have hc := awake_c ((((w).alloc (.cells #[.int .i64 K, .int .i64 N, .string ⟨T.toArray⟩] 23)).alloc (.cells #[.int .i64 K', .int .i64 N', .string ⟨T'.toArray⟩] 23)).alloc (.cells #[.int .i64 K'', .int .i64 N'', .string ⟨T''.toArray⟩] 23)) (hw.below H_3.out)
  unfold valV at hc
  refine hc.mono ?_
  rintro e u1 ⟨rfl, hb⟩
  clear hc
  have Bx_4 := Lib.hid (Bx_3.out.below hb Bx_3.out.lt)
  have By_4 := Lib.hid (By_3.out.below hb By_3.out.lt)
  have Bz_4 := Lib.hid (Bz_3.out.below hb Bz_3.out.lt)
  have H_4 := Lib.hid (H_3.out.trans (hb.mono H_3.out.size))
  clear hb H_3 Bx_3 By_3 Bz_3
  have qx0 := Bx_4.out.c0
  have qx1 := Bx_4.out.c1
  have qx2 := Bx_4.out.c2
  go_wp2_with fail
  clear qx0 qx1 qx2
  have hc := short_yes K N T hx (u1)
  unfold valV at hc
  refine hc.mono ?_
  rintro e u2 ⟨rfl, hb⟩
  clear hc
  have Bx_5 := Lib.hid (Bx_4.out.below hb Bx_4.out.lt)
  have By_5 := Lib.hid (By_4.out.below hb By_4.out.lt)
  have Bz_5 := Lib.hid (Bz_4.out.below hb Bz_4.out.lt)
  have H_5 := Lib.hid (H_4.out.trans (hb.mono H_4.out.size))
  clear hb H_4 Bx_4 By_4 Bz_4
  have qy0 := By_5.out.c0
  have qy1 := By_5.out.c1
  have qy2 := By_5.out.c2
  go_wp2_with fail
  clear qy0 qy1 qy2
  have hc := short_yes K' N' T' hy (u2)
  unfold valV at hc
  refine hc.mono ?_
  rintro e u3 ⟨rfl, hb⟩
  clear hc
  have Bx_6 := Lib.hid (Bx_5.out.below hb Bx_5.out.lt)
  have By_6 := Lib.hid (By_5.out.below hb By_5.out.lt)
  have Bz_6 := Lib.hid (Bz_5.out.below hb Bz_5.out.lt)
  have H_6 := Lib.hid (H_5.out.trans (hb.mono H_5.out.size))
  clear hb H_5 Bx_5 By_5 Bz_5
  have qz0 := Bz_6.out.c0
  have qz1 := Bz_6.out.c1
  have qz2 := Bz_6.out.c2
  go_wp2_with fail
  clear qz0 qz1 qz2
  have hc := short_not K'' N'' T'' hz (u3)
  unfold valV at hc
  refine hc.mono ?_
  rintro e u4 ⟨rfl, hb⟩
  clear hc
  have Bx_7 := Lib.hid (Bx_6.out.below hb Bx_6.out.lt)
  have By_7 := Lib.hid (By_6.out.below hb By_6.out.lt)
  have Bz_7 := Lib.hid (Bz_6.out.below hb Bz_6.out.lt)
  have H_7 := Lib.hid (H_6.out.trans (hb.mono H_6.out.size))
  clear hb H_6 Bx_6 By_6 Bz_6
  go_wp2_with fail
  go_ret
  exact ⟨rfl, H_7.out⟩

set_option maxHeartbeats 4000000 in
theorem div_no (K N K' N' K'' N'' : Int) (T T' T'' : List UInt8) (hx : T.length ≤ 800) (hy : T'.length ≤ 800) (hz : T''.length ≤ 800) (h : (∀ z, ¬ IsNum K N T z) ∨ ∀ z, ¬ IsNum K' N' T' z) (hN : In64Z N) (hN' : In64Z N') (w : World) (hw : Wd w) :
    Calls Tryz.prog 11 #[valV K N T, valV K' N' T', valV K'' N'' T''] w fun e w' => e = .returned (.bool true) ∧ Below w.heap.size w w' := by
  have H_0 := Lib.hid (Below.refl w.heap.size w)
  unfold valV
  go_enter Tryz.func11, Tryz.ntmps11
  have hb : Below (w).heap.size (w) ((w).alloc (.cells #[.int .i64 K, .int .i64 N, .string ⟨T.toArray⟩] 23)) := (Below.refl _ (w)).alloc (Nat.le_refl _) _
  have Bnew := VB.new (w) (.int .i64 K) (.int .i64 N) (.string ⟨T.toArray⟩)
  try simp only [World.size_alloc] at Bnew
  have H_1 := Lib.hid (H_0.out.trans (hb.mono H_0.out.size))
  clear hb H_0
  have Bx_1 := Lib.hid Bnew
  clear Bnew
  have hb : Below ((w).alloc (.cells #[.int .i64 K, .int .i64 N, .string ⟨T.toArray⟩] 23)).heap.size ((w).alloc (.cells #[.int .i64 K, .int .i64 N, .string ⟨T.toArray⟩] 23)) (((w).alloc (.cells #[.int .i64 K, .int .i64 N, .string ⟨T.toArray⟩] 23)).alloc (.cells #[.int .i64 K', .int .i64 N', .string ⟨T'.toArray⟩] 23)) := (Below.refl _ ((w).alloc (.cells #[.int .i64 K, .int .i64 N, .string ⟨T.toArray⟩] 23))).alloc (Nat.le_refl _) _
  have Bnew := VB.new ((w).alloc (.cells #[.int .i64 K, .int .i64 N, .string ⟨T.toArray⟩] 23)) (.int .i64 K') (.int .i64 N') (.string ⟨T'.toArray⟩)
  try simp only [World.size_alloc] at Bnew
  have Bx_2 := Lib.hid (Bx_1.out.below hb Bx_1.out.lt)
  have H_2 := Lib.hid (H_1.out.trans (hb.mono H_1.out.size))
  clear hb H_1 Bx_1
  have By_2 := Lib.hid Bnew
  clear Bnew
  have hb : Below (((w).alloc (.cells #[.int .i64 K, .int .i64 N, .string ⟨T.toArray⟩] 23)).alloc (.cells #[.int .i64 K', .int .i64 N', .string ⟨T'.toArray⟩] 23)).heap.size (((w).alloc (.cells #[.int .i64 K, .int .i64 N, .string ⟨T.toArray⟩] 23)).alloc (.cells #[.int .i64 K', .int .i64 N', .string ⟨T'.toArray⟩] 23)) ((((w).alloc (.cells #[.int .i64 K, .int .i64 N, .string ⟨T.toArray⟩] 23)).alloc (.cells #[.int .i64 K', .int .i64 N', .string ⟨T'.toArray⟩] 23)).alloc (.cells #[.int .i64 K'', .int .i64 N'', .string ⟨T''.toArray⟩] 23)) := (Below.refl _ (((w).alloc (.cells #[.int .i64 K, .int .i64 N, .string ⟨T.toArray⟩] 23)).alloc (.cells #[.int .i64 K', .int .i64 N', .string ⟨T'.toArray⟩] 23))).alloc (Nat.le_refl _) _
  have Bnew := VB.new (((w).alloc (.cells #[.int .i64 K, .int .i64 N, .string ⟨T.toArray⟩] 23)).alloc (.cells #[.int .i64 K', .int .i64 N', .string ⟨T'.toArray⟩] 23)) (.int .i64 K'') (.int .i64 N'') (.string ⟨T''.toArray⟩)
  try simp only [World.size_alloc] at Bnew
  have Bx_3 := Lib.hid (Bx_2.out.below hb Bx_2.out.lt)
  have By_3 := Lib.hid (By_2.out.below hb By_2.out.lt)
  have H_3 := Lib.hid (H_2.out.trans (hb.mono H_2.out.size))
  clear hb H_2 Bx_2 By_2
  have Bz_3 := Lib.hid Bnew
  clear Bnew
  go_wp2_with fail
  have hc := awake_c ((((w).alloc (.cells #[.int .i64 K, .int .i64 N, .string ⟨T.toArray⟩] 23)).alloc (.cells #[.int .i64 K', .int .i64 N', .string ⟨T'.toArray⟩] 23)).alloc (.cells #[.int .i64 K'', .int .i64 N'', .string ⟨T''.toArray⟩] 23)) (hw.below H_3.out)
  unfold valV at hc
  refine hc.mono ?_
  rintro e u1 ⟨rfl, hb⟩
  clear hc
  have Bx_4 := Lib.hid (Bx_3.out.below hb Bx_3.out.lt)
  have By_4 := Lib.hid (By_3.out.below hb By_3.out.lt)
  have Bz_4 := Lib.hid (Bz_3.out.below hb Bz_3.out.lt)
  have H_4 := Lib.hid (H_3.out.trans (hb.mono H_3.out.size))
  clear hb H_3 Bx_3 By_3 Bz_3
  have qx0 := Bx_4.out.c0
  have qx1 := Bx_4.out.c1
  have qx2 := Bx_4.out.c2
  go_wp2_with fail
  clear qx0 qx1 qx2
  have hc := short_yes K N T hx (u1)
  unfold valV at hc
  refine hc.mono ?_
  rintro e u2 ⟨rfl, hb⟩
  clear hc
  have Bx_5 := Lib.hid (Bx_4.out.below hb Bx_4.out.lt)
  have By_5 := Lib.hid (By_4.out.below hb By_4.out.lt)
  have Bz_5 := Lib.hid (Bz_4.out.below hb Bz_4.out.lt)
  have H_5 := Lib.hid (H_4.out.trans (hb.mono H_4.out.size))
  clear hb H_4 Bx_4 By_4 Bz_4
  have qy0 := By_5.out.c0
  have qy1 := By_5.out.c1
  have qy2 := By_5.out.c2
  go_wp2_with fail
  clear qy0 qy1 qy2
  have hc := short_yes K' N' T' hy (u2)
  unfold valV at hc
  refine hc.mono ?_
  rintro e u3 ⟨rfl, hb⟩
  clear hc
  have Bx_6 := Lib.hid (Bx_5.out.below hb Bx_5.out.lt)
  have By_6 := Lib.hid (By_5.out.below hb By_5.out.lt)
  have Bz_6 := Lib.hid (Bz_5.out.below hb Bz_5.out.lt)
  have H_6 := Lib.hid (H_5.out.trans (hb.mono H_5.out.size))
  clear hb H_5 Bx_5 By_5 Bz_5
  have qz0 := Bz_6.out.c0
  have qz1 := Bz_6.out.c1
  have qz2 := Bz_6.out.c2
  go_wp2_with fail
  clear qz0 qz1 qz2
  have hc := short_yes K'' N'' T'' hz (u3)
  unfold valV at hc
  refine hc.mono ?_
  rintro e u4 ⟨rfl, hb⟩
  clear hc
  have Bx_7 := Lib.hid (Bx_6.out.below hb Bx_6.out.lt)
  have By_7 := Lib.hid (By_6.out.below hb By_6.out.lt)
  have Bz_7 := Lib.hid (Bz_6.out.below hb Bz_6.out.lt)
  have H_7 := Lib.hid (H_6.out.trans (hb.mono H_6.out.size))
  clear hb H_6 Bx_6 By_6 Bz_6
  have qx0 := Bx_7.out.c0
  have qx1 := Bx_7.out.c1
  have qx2 := Bx_7.out.c2
  have qy0 := By_7.out.c0
  have qy1 := By_7.out.c1
  have qy2 := By_7.out.c2
  go_wp2_with fail
  clear qx0 qx1 qx2 qy0 qy1 qy2
  have hc := Gcd_no K N K' N' T T' h hN hN' (u4) (hw.below H_7.out)
  unfold valV at hc
  refine hc.mono ?_
  rintro e u5 ⟨rfl, hb⟩
  clear hc
  have Bx_8 := Lib.hid (Bx_7.out.below hb Bx_7.out.lt)
  have By_8 := Lib.hid (By_7.out.below hb By_7.out.lt)
  have Bz_8 := Lib.hid (Bz_7.out.below hb Bz_7.out.lt)
  have H_8 := Lib.hid (H_7.out.trans (hb.mono H_7.out.size))
  clear hb H_7 Bx_7 By_7 Bz_7
  have hb : Below (u5).heap.size (u5) ((u5).alloc (.cells #[.int .i64 0, .int .i64 0, .string ⟨#[]⟩] 23)) := (Below.refl _ (u5)).alloc (Nat.le_refl _) _
  have Bnew := VB.new (u5) (.int .i64 0) (.int .i64 0) (.string ⟨#[]⟩)
  try simp only [World.size_alloc] at Bnew
  have Bx_9 := Lib.hid (Bx_8.out.below hb Bx_8.out.lt)
  have By_9 := Lib.hid (By_8.out.below hb By_8.out.lt)
  have Bz_9 := Lib.hid (Bz_8.out.below hb Bz_8.out.lt)
  have H_9 := Lib.hid (H_8.out.trans (hb.mono H_8.out.size))
  clear hb H_8 Bx_8 By_8 Bz_8
  have Bg_9 := Lib.hid Bnew
  clear Bnew
  go_wp2_with fail
  go_ret
  exact ⟨rfl, H_9.out⟩

set_option maxHeartbeats 4000000 in
theorem div_zero (K N K' N' K'' N'' : Int) (T T' T'' : List UInt8) (hz : T''.length ≤ 800) (h : IsNum K N T 0) (h' : IsNum K' N' T' 0) (w : World) (hw : Wd w) :
    Calls Tryz.prog 11 #[valV K N T, valV K' N' T', valV K'' N'' T''] w fun e w' => e = .returned (.bool true) ∧ Below w.heap.size w w' := by
  obtain ⟨rfl, rfl, rfl⟩ : K = 1 ∧ N = 0 ∧ T = [] := (h.eq_iff isNum_zero).2 rfl
  obtain ⟨rfl, rfl, rfl⟩ : K' = 1 ∧ N' = 0 ∧ T' = [] := (h'.eq_iff isNum_zero).2 rfl
  have hx : ([] : List UInt8).length ≤ 800 := by simp
  have H_0 := Lib.hid (Below.refl w.heap.size w)
  unfold valV
  go_enter Tryz.func11, Tryz.ntmps11
  have hb : Below (w).heap.size (w) ((w).alloc (.cells #[.int .i64 1, .int .i64 0, .string ⟨[].toArray⟩] 23)) := (Below.refl _ (w)).alloc (Nat.le_refl _) _
  have Bnew := VB.new (w) (.int .i64 1) (.int .i64 0) (.string ⟨[].toArray⟩)
  try simp only [World.size_alloc] at Bnew
  have H_1 := Lib.hid (H_0.out.trans (hb.mono H_0.out.size))
  clear hb H_0
  have Bx_1 := Lib.hid Bnew
  clear Bnew
  have hb : Below ((w).alloc (.cells #[.int .i64 1, .int .i64 0, .string ⟨[].toArray⟩] 23)).heap.size ((w).alloc (.cells #[.int .i64 1, .int .i64 0, .string ⟨[].toArray⟩] 23)) (((w).alloc (.cells #[.int .i64 1, .int .i64 0, .string ⟨[].toArray⟩] 23)).alloc (.cells #[.int .i64 1, .int .i64 0, .string ⟨[].toArray⟩] 23)) := (Below.refl _ ((w).alloc (.cells #[.int .i64 1, .int .i64 0, .string ⟨[].toArray⟩] 23))).alloc (Nat.le_refl _) _
  have Bnew := VB.new ((w).alloc (.cells #[.int .i64 1, .int .i64 0, .string ⟨[].toArray⟩] 23)) (.int .i64 1) (.int .i64 0) (.string ⟨[].toArray⟩)
  try simp only [World.size_alloc] at Bnew
  have Bx_2 := Lib.hid (Bx_1.out.below hb Bx_1.out.lt)
  have H_2 := Lib.hid (H_1.out.trans (hb.mono H_1.out.size))
  clear hb H_1 Bx_1
  have By_2 := Lib.hid Bnew
  clear Bnew
  have hb : Below (((w).alloc (.cells #[.int .i64 1, .int .i64 0, .string ⟨[].toArray⟩] 23)).alloc (.cells #[.int .i64 1, .int .i64 0, .string ⟨[].toArray⟩] 23)).heap.size (((w).alloc (.cells #[.int .i64 1, .int .i64 0, .string ⟨[].toArray⟩] 23)).alloc (.cells #[.int .i64 1, .int .i64 0, .string ⟨[].toArray⟩] 23)) ((((w).alloc (.cells #[.int .i64 1, .int .i64 0, .string ⟨[].toArray⟩] 23)).alloc (.cells #[.int .i64 1, .int .i64 0, .string ⟨[].toArray⟩] 23)).alloc (.cells #[.int .i64 K'', .int .i64 N'', .string ⟨T''.toArray⟩] 23)) := (Below.refl _ (((w).alloc (.cells #[.int .i64 1, .int .i64 0, .string ⟨[].toArray⟩] 23)).alloc (.cells #[.int .i64 1, .int .i64 0, .string ⟨[].toArray⟩] 23))).alloc (Nat.le_refl _) _
  have Bnew := VB.new (((w).alloc (.cells #[.int .i64 1, .int .i64 0, .string ⟨[].toArray⟩] 23)).alloc (.cells #[.int .i64 1, .int .i64 0, .string ⟨[].toArray⟩] 23)) (.int .i64 K'') (.int .i64 N'') (.string ⟨T''.toArray⟩)
  try simp only [World.size_alloc] at Bnew
  have Bx_3 := Lib.hid (Bx_2.out.below hb Bx_2.out.lt)
  have By_3 := Lib.hid (By_2.out.below hb By_2.out.lt)
  have H_3 := Lib.hid (H_2.out.trans (hb.mono H_2.out.size))
  clear hb H_2 Bx_2 By_2
  have Bz_3 := Lib.hid Bnew
  clear Bnew
  go_wp2_with fail
  have hc := awake_c ((((w).alloc (.cells #[.int .i64 1, .int .i64 0, .string ⟨[].toArray⟩] 23)).alloc (.cells #[.int .i64 1, .int .i64 0, .string ⟨[].toArray⟩] 23)).alloc (.cells #[.int .i64 K'', .int .i64 N'', .string ⟨T''.toArray⟩] 23)) (hw.below H_3.out)
  unfold valV at hc
  refine hc.mono ?_
  rintro e u1 ⟨rfl, hb⟩
  clear hc
  have Bx_4 := Lib.hid (Bx_3.out.below hb Bx_3.out.lt)
  have By_4 := Lib.hid (By_3.out.below hb By_3.out.lt)
  have Bz_4 := Lib.hid (Bz_3.out.below hb Bz_3.out.lt)
  have H_4 := Lib.hid (H_3.out.trans (hb.mono H_3.out.size))
  clear hb H_3 Bx_3 By_3 Bz_3
  have qx0 := Bx_4.out.c0
  have qx1 := Bx_4.out.c1
  have qx2 := Bx_4.out.c2
  go_wp2_with fail
  clear qx0 qx1 qx2
  have hc := short_yes 1 0 [] hx (u1)
  unfold valV at hc
  refine hc.mono ?_
  rintro e u2 ⟨rfl, hb⟩
  clear hc
  have Bx_5 := Lib.hid (Bx_4.out.below hb Bx_4.out.lt)
  have By_5 := Lib.hid (By_4.out.below hb By_4.out.lt)
  have Bz_5 := Lib.hid (Bz_4.out.below hb Bz_4.out.lt)
  have H_5 := Lib.hid (H_4.out.trans (hb.mono H_4.out.size))
  clear hb H_4 Bx_4 By_4 Bz_4
  have qy0 := By_5.out.c0
  have qy1 := By_5.out.c1
  have qy2 := By_5.out.c2
  go_wp2_with fail
  clear qy0 qy1 qy2
  have hc := short_yes 1 0 [] hx (u2)
  unfold valV at hc
  refine hc.mono ?_
  rintro e u3 ⟨rfl, hb⟩
  clear hc
  have Bx_6 := Lib.hid (Bx_5.out.below hb Bx_5.out.lt)
  have By_6 := Lib.hid (By_5.out.below hb By_5.out.lt)
  have Bz_6 := Lib.hid (Bz_5.out.below hb Bz_5.out.lt)
  have H_6 := Lib.hid (H_5.out.trans (hb.mono H_5.out.size))
  clear hb H_5 Bx_5 By_5 Bz_5
  have qz0 := Bz_6.out.c0
  have qz1 := Bz_6.out.c1
  have qz2 := Bz_6.out.c2
  go_wp2_with fail
  clear qz0 qz1 qz2
  have hc := short_yes K'' N'' T'' hz (u3)
  unfold valV at hc
  refine hc.mono ?_
  rintro e u4 ⟨rfl, hb⟩
  clear hc
  have Bx_7 := Lib.hid (Bx_6.out.below hb Bx_6.out.lt)
  have By_7 := Lib.hid (By_6.out.below hb By_6.out.lt)
  have Bz_7 := Lib.hid (Bz_6.out.below hb Bz_6.out.lt)
  have H_7 := Lib.hid (H_6.out.trans (hb.mono H_6.out.size))
  clear hb H_6 Bx_6 By_6 Bz_6
  have qx0 := Bx_7.out.c0
  have qx1 := Bx_7.out.c1
  have qx2 := Bx_7.out.c2
  have qy0 := By_7.out.c0
  have qy1 := By_7.out.c1
  have qy2 := By_7.out.c2
  go_wp2_with fail
  clear qx0 qx1 qx2 qy0 qy1 qy2
  have hc := Gcd_num h h' (show ((Int.gcd 0 0 : Nat) : Int) = 0 by decide) isNum_zero (u4) (hw.below H_7.out)
  unfold valV at hc
  refine hc.mono ?_
  rintro e u5 ⟨rfl, hb⟩
  clear hc
  have Bx_8 := Lib.hid (Bx_7.out.below hb Bx_7.out.lt)
  have By_8 := Lib.hid (By_7.out.below hb By_7.out.lt)
  have Bz_8 := Lib.hid (Bz_7.out.below hb Bz_7.out.lt)
  have H_8 := Lib.hid (H_7.out.trans (hb.mono H_7.out.size))
  clear hb H_7 Bx_7 By_7 Bz_7
  have hb : Below (u5).heap.size (u5) ((u5).alloc (.cells #[.int .i64 1, .int .i64 0, .string ⟨#[]⟩] 23)) := (Below.refl _ (u5)).alloc (Nat.le_refl _) _
  have Bnew := VB.new (u5) (.int .i64 1) (.int .i64 0) (.string ⟨#[]⟩)
  try simp only [World.size_alloc] at Bnew
  have Bx_9 := Lib.hid (Bx_8.out.below hb Bx_8.out.lt)
  have By_9 := Lib.hid (By_8.out.below hb By_8.out.lt)
  have Bz_9 := Lib.hid (Bz_8.out.below hb Bz_8.out.lt)
  have H_9 := Lib.hid (H_8.out.trans (hb.mono H_8.out.size))
  clear hb H_8 Bx_8 By_8 Bz_8
  have Bg_9 := Lib.hid Bnew
  clear Bnew
  go_upto_region 7 with fail
  refine region_grown (by kernel_rfl) ?_
  apply quiet_wanted
  · go_simp
  · intro W hW; have hV := Bg_9.out.below hW Bg_9.out.lt; have c0 := hV.c0; have c1 := hV.c1; have c2 := hV.c2; clear hV; unfold Oper.quietAt; go_simp; (try exact ⟨rfl, rfl⟩); (try rfl)
  (try simp only [Act.put, List.setIfInBounds_toArray, List.set_cons_zero, List.set_cons_succ])
  apply quiet_wanted
  · go_simp
  · intro W hW; unfold Oper.quietAt; go_simp; have hc := negative_num isNum_zero false rfl W; unfold valV at hc; exact hc.mono fun e w' hr => ⟨hr.1, Grown.trans hW hr.2⟩
  (try simp only [Act.put, List.setIfInBounds_toArray, List.set_cons_zero, List.set_cons_succ])
  apply quiet_wanted
  · go_simp
  · intro W hW; unfold Oper.quietAt; go_simp; (try exact ⟨rfl, rfl⟩); (try rfl)
  (try simp only [Act.put, List.setIfInBounds_toArray, List.set_cons_zero, List.set_cons_succ])
  apply quiet_wanted
  · go_simp
  · intro W hW; have hV := Bg_9.out.below hW Bg_9.out.lt; have c0 := hV.c0; have c1 := hV.c1; have c2 := hV.c2; clear hV; unfold Oper.quietAt; go_simp; (try exact ⟨rfl, rfl⟩); (try rfl)
  (try simp only [Act.put, List.setIfInBounds_toArray, List.set_cons_zero, List.set_cons_succ])
  apply quiet_wanted
  · go_simp
  · intro W hW; unfold Oper.quietAt; go_simp; have hc := number_c 0 W; unfold valV at hc; exact hc.mono fun e w' hr => ⟨hr.1, Grown.trans hW hr.2⟩
  (try simp only [Act.put, List.setIfInBounds_toArray, List.set_cons_zero, List.set_cons_succ])
  apply quiet_wanted
  · go_simp
  · intro W hW; unfold Oper.quietAt; go_simp; (try exact ⟨rfl, rfl⟩); (try rfl)
  (try simp only [Act.put, List.setIfInBounds_toArray, List.set_cons_zero, List.set_cons_succ])
  apply quiet_wanted
  · go_simp
  · intro W hW; have hV := Bx_9.out.below hW Bx_9.out.lt; have c0 := hV.c0; have c1 := hV.c1; have c2 := hV.c2; clear hV; unfold Oper.quietAt; go_simp; (try exact ⟨rfl, rfl⟩); (try rfl)
  (try simp only [Act.put, List.setIfInBounds_toArray, List.set_cons_zero, List.set_cons_succ])
  apply quiet_wanted
  · go_simp
  · intro W hW; unfold Oper.quietAt; go_simp; have hc := number_c 0 W; unfold valV at hc; exact hc.mono fun e w' hr => ⟨hr.1, Grown.trans hW hr.2⟩
  (try simp only [Act.put, List.setIfInBounds_toArray, List.set_cons_zero, List.set_cons_succ])
  apply quiet_wanted
  · go_simp
  · intro W hW; unfold Oper.quietAt; go_simp; (try exact ⟨rfl, rfl⟩); (try rfl)
  (try simp only [Act.put, List.setIfInBounds_toArray, List.set_cons_zero, List.set_cons_succ])
  apply quiet_wanted
  · go_simp
  · intro W hW; unfold Oper.quietAt; go_simp; (try exact ⟨rfl, rfl⟩); (try rfl)
  (try simp only [Act.put, List.setIfInBounds_toArray, List.set_cons_zero, List.set_cons_succ])
  apply quiet_wanted
  · go_simp
  · intro W hW; have hV := By_9.out.below hW By_9.out.lt; have c0 := hV.c0; have c1 := hV.c1; have c2 := hV.c2; clear hV; unfold Oper.quietAt; go_simp; (try exact ⟨rfl, rfl⟩); (try rfl)
  (try simp only [Act.put, List.setIfInBounds_toArray, List.set_cons_zero, List.set_cons_succ])
  apply quiet_wanted
  · go_simp
  · intro W hW; unfold Oper.quietAt; go_simp; have hc := number_c 0 W; unfold valV at hc; exact hc.mono fun e w' hr => ⟨hr.1, Grown.trans hW hr.2⟩
  (try simp only [Act.put, List.setIfInBounds_toArray, List.set_cons_zero, List.set_cons_succ])
  apply quiet_wanted
  · go_simp
  · intro W hW; unfold Oper.quietAt; go_simp; (try exact ⟨rfl, rfl⟩); (try rfl)
  (try simp only [Act.put, List.setIfInBounds_toArray, List.set_cons_zero, List.set_cons_succ])
  apply quiet_wanted
  · go_simp
  · intro W hW; unfold Oper.quietAt; go_simp; (try exact ⟨rfl, rfl⟩); (try rfl)
  (try simp only [Act.put, List.setIfInBounds_toArray, List.set_cons_zero, List.set_cons_succ])
  apply quiet_wanted
  · go_simp
  · intro W hW; unfold Oper.quietAt; go_simp; (try exact ⟨rfl, rfl⟩); (try rfl)
  (try simp only [Act.put, List.setIfInBounds_toArray, List.set_cons_zero, List.set_cons_succ])
  apply quiet_wanted
  · go_simp
  · intro W hW; unfold Oper.quietAt; go_simp; (try exact ⟨rfl, rfl⟩); (try rfl)
  (try simp only [Act.put, List.setIfInBounds_toArray, List.set_cons_zero, List.set_cons_succ])
  refine wpQuiet_nil ?_
  intro u6 hb
  unfold Grown at hb
  have Bx_10 := Lib.hid (Bx_9.out.below hb Bx_9.out.lt)
  have By_10 := Lib.hid (By_9.out.below hb By_9.out.lt)
  have Bz_10 := Lib.hid (Bz_9.out.below hb Bz_9.out.lt)
  have Bg_10 := Lib.hid (Bg_9.out.below hb Bg_9.out.lt)
  have H_10 := Lib.hid (H_9.out.trans (hb.mono H_9.out.size))
  clear hb H_9 Bx_9 By_9 Bz_9 Bg_9
  go_upto_region 9 with fail
  refine region_grown (by kernel_rfl) ?_
  apply quiet_wanted
  · go_simp
  · intro W hW; have hV := Bg_10.out.below hW Bg_10.out.lt; have c0 := hV.c0; have c1 := hV.c1; have c2 := hV.c2; clear hV; unfold Oper.quietAt; go_simp; (try exact ⟨rfl, rfl⟩); (try rfl)
  (try simp only [Act.put, List.setIfInBounds_toArray, List.set_cons_zero, List.set_cons_succ])
  apply quiet_wanted
  · go_simp
  · intro W hW; unfold Oper.quietAt; go_simp; have hc := number_c 0 W; unfold valV at hc; exact hc.mono fun e w' hr => ⟨hr.1, Grown.trans hW hr.2⟩
  (try simp only [Act.put, List.setIfInBounds_toArray, List.set_cons_zero, List.set_cons_succ])
  apply quiet_wanted
  · go_simp
  · intro W hW; unfold Oper.quietAt; go_simp; (try exact ⟨rfl, rfl⟩); (try rfl)
  (try simp only [Act.put, List.setIfInBounds_toArray, List.set_cons_zero, List.set_cons_succ])
  refine wpQuiet_nil ?_
  intro u7 hb
  unfold Grown at hb
  have Bx_11 := Lib.hid (Bx_10.out.below hb Bx_10.out.lt)
  have By_11 := Lib.hid (By_10.out.below hb By_10.out.lt)
  have Bz_11 := Lib.hid (Bz_10.out.below hb Bz_10.out.lt)
  have Bg_11 := Lib.hid (Bg_10.out.below hb Bg_10.out.lt)
  have H_11 := Lib.hid (H_10.out.trans (hb.mono H_10.out.size))
  clear hb H_10 Bx_10 By_10 Bz_10 Bg_10
  go_wp2_with fail
  go_ret
  exact ⟨rfl, H_11.out⟩

set_option maxHeartbeats 8000000 in
theorem div_noz (K N K' N' K'' N'' : Int) (T T' T'' : List UInt8) (hz : T''.length ≤ 800) (x y : Int) (h : IsNum K N T x) (h' : IsNum K' N' T' y) (hg0 : ((Int.gcd x y : Nat) : Int) ≠ 0) (E : Int) (hE : E = 30 ∨ E = 31) (hxz : ∀ (w : World), Wd w → Calls Tryz.prog 35 #[valV K N T, valV K'' N'' T''] w fun e w' => e = .returned (.tuple #[valV 0 0 [], .int .i64 E]) ∧ Below w.heap.size w w') (hyz : ∀ (w : World), Wd w → Calls Tryz.prog 35 #[valV K' N' T', valV K'' N'' T''] w fun e w' => e = .returned (.tuple #[valV 0 0 [], .int .i64 E]) ∧ Below w.heap.size w w') (w : World) (hw : Wd w) :
    Calls Tryz.prog 11 #[valV K N T, valV K' N' T', valV K'' N'' T''] w fun e w' => e = .returned (.bool true) ∧ Below w.heap.size w w' := by
  have hx : T.length ≤ 800 := by have := h.len; omega
  have hy : T'.length ≤ 800 := by have := h'.len; omega
  obtain ⟨G0, G1, G2, hg⟩ := isNum_few (few_gcd h.1 h'.1)
  have hne := hg.ne isNum_zero hg0
  have H_0 := Lib.hid (Below.refl w.heap.size w)
  unfold valV
  go_enter Tryz.func11, Tryz.ntmps11
  have hb : Below (w).heap.size (w) ((w).alloc (.cells #[.int .i64 K, .int .i64 N, .string ⟨T.toArray⟩] 23)) := (Below.refl _ (w)).alloc (Nat.le_refl _) _
  have Bnew := VB.new (w) (.int .i64 K) (.int .i64 N) (.string ⟨T.toArray⟩)
  try simp only [World.size_alloc] at Bnew
  have H_1 := Lib.hid (H_0.out.trans (hb.mono H_0.out.size))
  clear hb H_0
  have Bx_1 := Lib.hid Bnew
  clear Bnew
  have hb : Below ((w).alloc (.cells #[.int .i64 K, .int .i64 N, .string ⟨T.toArray⟩] 23)).heap.size ((w).alloc (.cells #[.int .i64 K, .int .i64 N, .string ⟨T.toArray⟩] 23)) (((w).alloc (.cells #[.int .i64 K, .int .i64 N, .string ⟨T.toArray⟩] 23)).alloc (.cells #[.int .i64 K', .int .i64 N', .string ⟨T'.toArray⟩] 23)) := (Below.refl _ ((w).alloc (.cells #[.int .i64 K, .int .i64 N, .string ⟨T.toArray⟩] 23))).alloc (Nat.le_refl _) _
  have Bnew := VB.new ((w).alloc (.cells #[.int .i64 K, .int .i64 N, .string ⟨T.toArray⟩] 23)) (.int .i64 K') (.int .i64 N') (.string ⟨T'.toArray⟩)
  try simp only [World.size_alloc] at Bnew
  have Bx_2 := Lib.hid (Bx_1.out.below hb Bx_1.out.lt)
  have H_2 := Lib.hid (H_1.out.trans (hb.mono H_1.out.size))
  clear hb H_1 Bx_1
  have By_2 := Lib.hid Bnew
  clear Bnew
  have hb : Below (((w).alloc (.cells #[.int .i64 K, .int .i64 N, .string ⟨T.toArray⟩] 23)).alloc (.cells #[.int .i64 K', .int .i64 N', .string ⟨T'.toArray⟩] 23)).heap.size (((w).alloc (.cells #[.int .i64 K, .int .i64 N, .string ⟨T.toArray⟩] 23)).alloc (.cells #[.int .i64 K', .int .i64 N', .string ⟨T'.toArray⟩] 23)) ((((w).alloc (.cells #[.int .i64 K, .int .i64 N, .string ⟨T.toArray⟩] 23)).alloc (.cells #[.int .i64 K', .int .i64 N', .string ⟨T'.toArray⟩] 23)).alloc (.cells #[.int .i64 K'', .int .i64 N'', .string ⟨T''.toArray⟩] 23)) := (Below.refl _ (((w).alloc (.cells #[.int .i64 K, .int .i64 N, .string ⟨T.toArray⟩] 23)).alloc (.cells #[.int .i64 K', .int .i64 N', .string ⟨T'.toArray⟩] 23))).alloc (Nat.le_refl _) _
  have Bnew := VB.new (((w).alloc (.cells #[.int .i64 K, .int .i64 N, .string ⟨T.toArray⟩] 23)).alloc (.cells #[.int .i64 K', .int .i64 N', .string ⟨T'.toArray⟩] 23)) (.int .i64 K'') (.int .i64 N'') (.string ⟨T''.toArray⟩)
  try simp only [World.size_alloc] at Bnew
  have Bx_3 := Lib.hid (Bx_2.out.below hb Bx_2.out.lt)
  have By_3 := Lib.hid (By_2.out.below hb By_2.out.lt)
  have H_3 := Lib.hid (H_2.out.trans (hb.mono H_2.out.size))
  clear hb H_2 Bx_2 By_2
  have Bz_3 := Lib.hid Bnew
  clear Bnew
  go_wp2_with fail
  have hc := awake_c ((((w).alloc (.cells #[.int .i64 K, .int .i64 N, .string ⟨T.toArray⟩] 23)).alloc (.cells #[.int .i64 K', .int .i64 N', .string ⟨T'.toArray⟩] 23)).alloc (.cells #[.int .i64 K'', .int .i64 N'', .string ⟨T''.toArray⟩] 23)) (hw.below H_3.out)
  unfold valV at hc
  refine hc.mono ?_
  rintro e u1 ⟨rfl, hb⟩
  clear hc
  have Bx_4 := Lib.hid (Bx_3.out.below hb Bx_3.out.lt)
  have By_4 := Lib.hid (By_3.out.below hb By_3.out.lt)
  have Bz_4 := Lib.hid (Bz_3.out.below hb Bz_3.out.lt)
  have H_4 := Lib.hid (H_3.out.trans (hb.mono H_3.out.size))
  clear hb H_3 Bx_3 By_3 Bz_3
  have qx0 := Bx_4.out.c0
  have qx1 := Bx_4.out.c1
  have qx2 := Bx_4.out.c2
  go_wp2_with fail
  clear qx0 qx1 qx2
  have hc := short_yes K N T hx (u1)
  unfold valV at hc
  refine hc.mono ?_
  rintro e u2 ⟨rfl, hb⟩
  clear hc
  have Bx_5 := Lib.hid (Bx_4.out.below hb Bx_4.out.lt)
  have By_5 := Lib.hid (By_4.out.below hb By_4.out.lt)
  have Bz_5 := Lib.hid (Bz_4.out.below hb Bz_4.out.lt)
  have H_5 := Lib.hid (H_4.out.trans (hb.mono H_4.out.size))
  clear hb H_4 Bx_4 By_4 Bz_4
  have qy0 := By_5.out.c0
  have qy1 := By_5.out.c1
  have qy2 := By_5.out.c2
  go_wp2_with fail
  clear qy0 qy1 qy2
  have hc := short_yes K' N' T' hy (u2)
  unfold valV at hc
  refine hc.mono ?_
  rintro e u3 ⟨rfl, hb⟩
  clear hc
  have Bx_6 := Lib.hid (Bx_5.out.below hb Bx_5.out.lt)
  have By_6 := Lib.hid (By_5.out.below hb By_5.out.lt)
  have Bz_6 := Lib.hid (Bz_5.out.below hb Bz_5.out.lt)
  have H_6 := Lib.hid (H_5.out.trans (hb.mono H_5.out.size))
  clear hb H_5 Bx_5 By_5 Bz_5
  have qz0 := Bz_6.out.c0
  have qz1 := Bz_6.out.c1
  have qz2 := Bz_6.out.c2
  go_wp2_with fail
  clear qz0 qz1 qz2
  have hc := short_yes K'' N'' T'' hz (u3)
  unfold valV at hc
  refine hc.mono ?_
  rintro e u4 ⟨rfl, hb⟩
  clear hc
  have Bx_7 := Lib.hid (Bx_6.out.below hb Bx_6.out.lt)
  have By_7 := Lib.hid (By_6.out.below hb By_6.out.lt)
  have Bz_7 := Lib.hid (Bz_6.out.below hb Bz_6.out.lt)
  have H_7 := Lib.hid (H_6.out.trans (hb.mono H_6.out.size))
  clear hb H_6 Bx_6 By_6 Bz_6
  have qx0 := Bx_7.out.c0
  have qx1 := Bx_7.out.c1
  have qx2 := Bx_7.out.c2
  have qy0 := By_7.out.c0
  have qy1 := By_7.out.c1
  have qy2 := By_7.out.c2
  go_wp2_with fail
  clear qx0 qx1 qx2 qy0 qy1 qy2
  have hc := Gcd_num h h' rfl hg (u4) (hw.below H_7.out)
  unfold valV at hc
  refine hc.mono ?_
  rintro e u5 ⟨rfl, hb⟩
  clear hc
  have Bx_8 := Lib.hid (Bx_7.out.below hb Bx_7.out.lt)
  have By_8 := Lib.hid (By_7.out.below hb By_7.out.lt)
  have Bz_8 := Lib.hid (Bz_7.out.below hb Bz_7.out.lt)
  have H_8 := Lib.hid (H_7.out.trans (hb.mono H_7.out.size))
  clear hb H_7 Bx_7 By_7 Bz_7
  have hb : Below (u5).heap.size (u5) ((u5).alloc (.cells #[.int .i64 G0, .int .i64 G1, .string ⟨G2.toArray⟩] 23)) := (Below.refl _ (u5)).alloc (Nat.le_refl _) _
  have Bnew := VB.new (u5) (.int .i64 G0) (.int .i64 G1) (.string ⟨G2.toArray⟩)
  try simp only [World.size_alloc] at Bnew
  have Bx_9 := Lib.hid (Bx_8.out.below hb Bx_8.out.lt)
  have By_9 := Lib.hid (By_8.out.below hb By_8.out.lt)
  have Bz_9 := Lib.hid (Bz_8.out.below hb Bz_8.out.lt)
  have H_9 := Lib.hid (H_8.out.trans (hb.mono H_8.out.size))
  clear hb H_8 Bx_8 By_8 Bz_8
  have Bg_9 := Lib.hid Bnew
  clear Bnew
  go_upto_region 7 with fail
  go_cut [71] from 56 to 72 (fun p71 wx => ∃ (U' : World), U' = wx ∧ p71 = .bool false ∧ Hid (Below ((u5).alloc (.cells #[.int .i64 G0, .int .i64 G1, .string ⟨G2.toArray⟩] 23)).heap.size ((u5).alloc (.cells #[.int .i64 G0, .int .i64 G1, .string ⟨G2.toArray⟩] 23)) wx))
  case first =>
    by_cases hx0 : x = 0
    · subst hx0
      have hy0 := gcd_nz' hg0
      have hney := h'.ne isNum_zero hy0
      obtain ⟨rfl, rfl, rfl⟩ : K = 1 ∧ N = 0 ∧ T = [] := (h.eq_iff isNum_zero).2 rfl
      refine region_grown (by kernel_rfl) ?_
      apply quiet_wanted
      · go_simp
      · intro W hW; have hV := Bg_9.out.below hW Bg_9.out.lt; have c0 := hV.c0; have c1 := hV.c1; have c2 := hV.c2; clear hV; unfold Oper.quietAt; go_simp; (try exact ⟨rfl, rfl⟩); (try rfl)
      (try simp only [Act.put, List.setIfInBounds_toArray, List.set_cons_zero, List.set_cons_succ])
      apply quiet_wanted
      · go_simp
      · intro W hW; unfold Oper.quietAt; go_simp; have hc := negative_num hg false (decide_eq_false (by omega)) W; unfold valV at hc; exact hc.mono fun e w' hr => ⟨hr.1, Grown.trans hW hr.2⟩
      (try simp only [Act.put, List.setIfInBounds_toArray, List.set_cons_zero, List.set_cons_succ])
      apply quiet_wanted
      · go_simp
      · intro W hW; unfold Oper.quietAt; go_simp; (try exact ⟨rfl, rfl⟩); (try rfl)
      (try simp only [Act.put, List.setIfInBounds_toArray, List.set_cons_zero, List.set_cons_succ])
      apply quiet_wanted
      · go_simp
      · intro W hW; have hV := Bg_9.out.below hW Bg_9.out.lt; have c0 := hV.c0; have c1 := hV.c1; have c2 := hV.c2; clear hV; unfold Oper.quietAt; go_simp; (try exact ⟨rfl, rfl⟩); (try rfl)
      (try simp only [Act.put, List.setIfInBounds_toArray, List.set_cons_zero, List.set_cons_succ])
      apply quiet_wanted
      · go_simp
      · intro W hW; unfold Oper.quietAt; go_simp; have hc := number_c 0 W; unfold valV at hc; exact hc.mono fun e w' hr => ⟨hr.1, Grown.trans hW hr.2⟩
      (try simp only [Act.put, List.setIfInBounds_toArray, List.set_cons_zero, List.set_cons_succ])
      refine quiet_wanted (v := .bool false) (by go_simp) (fun W hW => ?_) ?_
      · unfold Oper.quietAt; by_cases e1 : G0 = 1 <;> by_cases e2 : G1 = 0 <;> by_cases e3 : G2 = [] <;> first | (go_simp; done) | exact absurd ⟨e1, e2, e3⟩ (hne)
      (try simp only [Act.put, List.setIfInBounds_toArray, List.set_cons_zero, List.set_cons_succ])
      apply quiet_wanted
      · go_simp
      · intro W hW; have hV := Bx_9.out.below hW Bx_9.out.lt; have c0 := hV.c0; have c1 := hV.c1; have c2 := hV.c2; clear hV; unfold Oper.quietAt; go_simp; (try exact ⟨rfl, rfl⟩); (try rfl)
      (try simp only [Act.put, List.setIfInBounds_toArray, List.set_cons_zero, List.set_cons_succ])
      apply quiet_wanted
      · go_simp
      · intro W hW; unfold Oper.quietAt; go_simp; have hc := number_c 0 W; unfold valV at hc; exact hc.mono fun e w' hr => ⟨hr.1, Grown.trans hW hr.2⟩
      (try simp only [Act.put, List.setIfInBounds_toArray, List.set_cons_zero, List.set_cons_succ])
      apply quiet_wanted
      · go_simp
      · intro W hW; unfold Oper.quietAt; go_simp; (try exact ⟨rfl, rfl⟩); (try rfl)
      (try simp only [Act.put, List.setIfInBounds_toArray, List.set_cons_zero, List.set_cons_succ])
      apply quiet_wanted
      · go_simp
      · intro W hW; unfold Oper.quietAt; go_simp; (try exact ⟨rfl, rfl⟩); (try rfl)
      (try simp only [Act.put, List.setIfInBounds_toArray, List.set_cons_zero, List.set_cons_succ])
      apply quiet_wanted
      · go_simp
      · intro W hW; have hV := By_9.out.below hW By_9.out.lt; have c0 := hV.c0; have c1 := hV.c1; have c2 := hV.c2; clear hV; unfold Oper.quietAt; go_simp; (try exact ⟨rfl, rfl⟩); (try rfl)
      (try simp only [Act.put, List.setIfInBounds_toArray, List.set_cons_zero, List.set_cons_succ])
      apply quiet_wanted
      · go_simp
      · intro W hW; unfold Oper.quietAt; go_simp; have hc := number_c 0 W; unfold valV at hc; exact hc.mono fun e w' hr => ⟨hr.1, Grown.trans hW hr.2⟩
      (try simp only [Act.put, List.setIfInBounds_toArray, List.set_cons_zero, List.set_cons_succ])
      refine quiet_wanted (v := .bool false) (by go_simp) (fun W hW => ?_) ?_
      · unfold Oper.quietAt; by_cases e1 : K' = 1 <;> by_cases e2 : N' = 0 <;> by_cases e3 : T' = [] <;> first | (go_simp; done) | exact absurd ⟨e1, e2, e3⟩ (hney)
      (try simp only [Act.put, List.setIfInBounds_toArray, List.set_cons_zero, List.set_cons_succ])
      apply quiet_wanted
      · go_simp
      · intro W hW; unfold Oper.quietAt; go_simp; (try exact ⟨rfl, rfl⟩); (try rfl)
      (try simp only [Act.put, List.setIfInBounds_toArray, List.set_cons_zero, List.set_cons_succ])
      apply quiet_wanted
      · go_simp
      · intro W hW; unfold Oper.quietAt; go_simp; (try exact ⟨rfl, rfl⟩); (try rfl)
      (try simp only [Act.put, List.setIfInBounds_toArray, List.set_cons_zero, List.set_cons_succ])
      apply quiet_wanted
      · go_simp
      · intro W hW; unfold Oper.quietAt; go_simp; (try exact ⟨rfl, rfl⟩); (try rfl)
      (try simp only [Act.put, List.setIfInBounds_toArray, List.set_cons_zero, List.set_cons_succ])
      refine wpQuiet_nil ?_
      intro u6 hb
      unfold Grown at hb
      have HG := Lib.hid hb
      have Bx_10 := Lib.hid (Bx_9.out.below hb Bx_9.out.lt)
      have By_10 := Lib.hid (By_9.out.below hb By_9.out.lt)
      have Bz_10 := Lib.hid (Bz_9.out.below hb Bz_9.out.lt)
      have Bg_10 := Lib.hid (Bg_9.out.below hb Bg_9.out.lt)
      have H_10 := Lib.hid (H_9.out.trans (hb.mono H_9.out.size))
      clear hb H_9 Bx_9 By_9 Bz_9 Bg_9
      go_wp2_with fail
      go_meet
      exact ⟨_, rfl, rfl, HG⟩
    · have hnex := h.ne isNum_zero hx0
      refine region_grown (by kernel_rfl) ?_
      apply quiet_wanted
      · go_simp
      · intro W hW; have hV := Bg_9.out.below hW Bg_9.out.lt; have c0 := hV.c0; have c1 := hV.c1; have c2 := hV.c2; clear hV; unfold Oper.quietAt; go_simp; (try exact ⟨rfl, rfl⟩); (try rfl)
      (try simp only [Act.put, List.setIfInBounds_toArray, List.set_cons_zero, List.set_cons_succ])
      apply quiet_wanted
      · go_simp
      · intro W hW; unfold Oper.quietAt; go_simp; have hc := negative_num hg false (decide_eq_false (by omega)) W; unfold valV at hc; exact hc.mono fun e w' hr => ⟨hr.1, Grown.trans hW hr.2⟩
      (try simp only [Act.put, List.setIfInBounds_toArray, List.set_cons_zero, List.set_cons_succ])
      apply quiet_wanted
      · go_simp
      · intro W hW; unfold Oper.quietAt; go_simp; (try exact ⟨rfl, rfl⟩); (try rfl)
      (try simp only [Act.put, List.setIfInBounds_toArray, List.set_cons_zero, List.set_cons_succ])
      apply quiet_wanted
      · go_simp
      · intro W hW; have hV := Bg_9.out.below hW Bg_9.out.lt; have c0 := hV.c0; have c1 := hV.c1; have c2 := hV.c2; clear hV; unfold Oper.quietAt; go_simp; (try exact ⟨rfl, rfl⟩); (try rfl)
      (try simp only [Act.put, List.setIfInBounds_toArray, List.set_cons_zero, List.set_cons_succ])
      apply quiet_wanted
      · go_simp
      · intro W hW; unfold Oper.quietAt; go_simp; have hc := number_c 0 W; unfold valV at hc; exact hc.mono fun e w' hr => ⟨hr.1, Grown.trans hW hr.2⟩
      (try simp only [Act.put, List.setIfInBounds_toArray, List.set_cons_zero, List.set_cons_succ])
      refine quiet_wanted (v := .bool false) (by go_simp) (fun W hW => ?_) ?_
      · unfold Oper.quietAt; by_cases e1 : G0 = 1 <;> by_cases e2 : G1 = 0 <;> by_cases e3 : G2 = [] <;> first | (go_simp; done) | exact absurd ⟨e1, e2, e3⟩ (hne)
      (try simp only [Act.put, List.setIfInBounds_toArray, List.set_cons_zero, List.set_cons_succ])
      apply quiet_wanted
      · go_simp
      · intro W hW; have hV := Bx_9.out.below hW Bx_9.out.lt; have c0 := hV.c0; have c1 := hV.c1; have c2 := hV.c2; clear hV; unfold Oper.quietAt; go_simp; (try exact ⟨rfl, rfl⟩); (try rfl)
      (try simp only [Act.put, List.setIfInBounds_toArray, List.set_cons_zero, List.set_cons_succ])
      apply quiet_wanted
      · go_simp
      · intro W hW; unfold Oper.quietAt; go_simp; have hc := number_c 0 W; unfold valV at hc; exact hc.mono fun e w' hr => ⟨hr.1, Grown.trans hW hr.2⟩
      (try simp only [Act.put, List.setIfInBounds_toArray, List.set_cons_zero, List.set_cons_succ])
      refine quiet_wanted (v := .bool false) (by go_simp) (fun W hW => ?_) ?_
      · unfold Oper.quietAt; by_cases e1 : K = 1 <;> by_cases e2 : N = 0 <;> by_cases e3 : T = [] <;> first | (go_simp; done) | exact absurd ⟨e1, e2, e3⟩ (hnex)
      (try simp only [Act.put, List.setIfInBounds_toArray, List.set_cons_zero, List.set_cons_succ])
      apply quiet_wanted
      · go_simp
      · intro W hW; unfold Oper.quietAt; go_simp; (try exact ⟨rfl, rfl⟩); (try rfl)
      (try simp only [Act.put, List.setIfInBounds_toArray, List.set_cons_zero, List.set_cons_succ])
      refine quiet_unwanted (by first | (go_simp; done) | (go_simp; intro hh; cases hh)) ?_
      (try simp only [Act.put, List.setIfInBounds_toArray, List.set_cons_zero, List.set_cons_succ])
      refine quiet_unwanted (by first | (go_simp; done) | (go_simp; intro hh; cases hh)) ?_
      (try simp only [Act.put, List.setIfInBounds_toArray, List.set_cons_zero, List.set_cons_succ])
      refine quiet_unwanted (by first | (go_simp; done) | (go_simp; intro hh; cases hh)) ?_
      (try simp only [Act.put, List.setIfInBounds_toArray, List.set_cons_zero, List.set_cons_succ])
      apply quiet_wanted
      · go_simp
      · intro W hW; unfold Oper.quietAt; go_simp; (try exact ⟨rfl, rfl⟩); (try rfl)
      (try simp only [Act.put, List.setIfInBounds_toArray, List.set_cons_zero, List.set_cons_succ])
      apply quiet_wanted
      · go_simp
      · intro W hW; unfold Oper.quietAt; go_simp; (try exact ⟨rfl, rfl⟩); (try rfl)
      (try simp only [Act.put, List.setIfInBounds_toArray, List.set_cons_zero, List.set_cons_succ])
      apply quiet_wanted
      · go_simp
      · intro W hW; unfold Oper.quietAt; go_simp; (try exact ⟨rfl, rfl⟩); (try rfl)
      (try simp only [Act.put, List.setIfInBounds_toArray, List.set_cons_zero, List.set_cons_succ])
      refine wpQuiet_nil ?_
      intro u6 hb
      unfold Grown at hb
      have HG := Lib.hid hb
      have Bx_10 := Lib.hid (Bx_9.out.below hb Bx_9.out.lt)
      have By_10 := Lib.hid (By_9.out.below hb By_9.out.lt)
      have Bz_10 := Lib.hid (Bz_9.out.below hb Bz_9.out.lt)
      have Bg_10 := Lib.hid (Bg_9.out.below hb Bg_9.out.lt)
      have H_10 := Lib.hid (H_9.out.trans (hb.mono H_9.out.size))
      clear hb H_9 Bx_9 By_9 Bz_9 Bg_9
      go_wp2_with fail
      go_meet
      exact ⟨_, rfl, rfl, HG⟩
  case rest =>
    obtain ⟨u55, rfl, rfl, hbn⟩ := hcut
    have hb := hbn.out
    clear hbn
    have Bx_10 := Lib.hid (Bx_9.out.below hb Bx_9.out.lt)
    have By_10 := Lib.hid (By_9.out.below hb By_9.out.lt)
    have Bz_10 := Lib.hid (Bz_9.out.below hb Bz_9.out.lt)
    have Bg_10 := Lib.hid (Bg_9.out.below hb Bg_9.out.lt)
    have H_10 := Lib.hid (H_9.out.trans (hb.mono H_9.out.size))
    clear hb H_9 Bx_9 By_9 Bz_9 Bg_9
    go_upto_region 9 with fail
    refine region_grown (by kernel_rfl) ?_
    apply quiet_wanted
    · go_simp
    · intro W hW; have hV := Bg_10.out.below hW Bg_10.out.lt; have c0 := hV.c0; have c1 := hV.c1; have c2 := hV.c2; clear hV; unfold Oper.quietAt; go_simp; (try exact ⟨rfl, rfl⟩); (try rfl)
    (try simp only [Act.put, List.setIfInBounds_toArray, List.set_cons_zero, List.set_cons_succ])
    apply quiet_wanted
    · go_simp
    · intro W hW; unfold Oper.quietAt; go_simp; have hc := number_c 0 W; unfold valV at hc; exact hc.mono fun e w' hr => ⟨hr.1, Grown.trans hW hr.2⟩
    (try simp only [Act.put, List.setIfInBounds_toArray, List.set_cons_zero, List.set_cons_succ])
    refine quiet_wanted (v := .bool false) (by go_simp) (fun W hW => ?_) ?_
    · unfold Oper.quietAt; by_cases e1 : G0 = 1 <;> by_cases e2 : G1 = 0 <;> by_cases e3 : G2 = [] <;> first | (go_simp; done) | exact absurd ⟨e1, e2, e3⟩ (hne)
    (try simp only [Act.put, List.setIfInBounds_toArray, List.set_cons_zero, List.set_cons_succ])
    refine wpQuiet_nil ?_
    intro u56 hb
    unfold Grown at hb
    have Bx_11 := Lib.hid (Bx_10.out.below hb Bx_10.out.lt)
    have By_11 := Lib.hid (By_10.out.below hb By_10.out.lt)
    have Bz_11 := Lib.hid (Bz_10.out.below hb Bz_10.out.lt)
    have Bg_11 := Lib.hid (Bg_10.out.below hb Bg_10.out.lt)
    have H_11 := Lib.hid (H_10.out.trans (hb.mono H_10.out.size))
    clear hb H_10 Bx_10 By_10 Bz_10 Bg_10
    have qx0 := Bx_11.out.c0
    have qx1 := Bx_11.out.c1
    have qx2 := Bx_11.out.c2
    have qg0 := Bg_11.out.c0
    have qg1 := Bg_11.out.c1
    have qg2 := Bg_11.out.c2
    go_wp2_with fail
    clear qx0 qx1 qx2 qg0 qg1 qg2
    have hc := Mod_num h hg hg0 (gcd_rest_left x y) isNum_zero (u56) (hw.below H_11.out)
    unfold valV at hc
    refine hc.mono ?_
    rintro e u57 ⟨rfl, hb⟩
    clear hc
    have Bx_12 := Lib.hid (Bx_11.out.below hb Bx_11.out.lt)
    have By_12 := Lib.hid (By_11.out.below hb By_11.out.lt)
    have Bz_12 := Lib.hid (Bz_11.out.below hb Bz_11.out.lt)
    have Bg_12 := Lib.hid (Bg_11.out.below hb Bg_11.out.lt)
    have H_12 := Lib.hid (H_11.out.trans (hb.mono H_11.out.size))
    clear hb H_11 Bx_11 By_11 Bz_11 Bg_11
    have hb : Below (u57).heap.size (u57) ((u57).alloc (.cells #[.int .i64 1, .int .i64 0, .string ⟨#[]⟩] 23)) := (Below.refl _ (u57)).alloc (Nat.le_refl _) _
    have Bnew := VB.new (u57) (.int .i64 1) (.int .i64 0) (.string ⟨#[]⟩)
    try simp only [World.size_alloc] at Bnew
    have Bx_13 := Lib.hid (Bx_12.out.below hb Bx_12.out.lt)
    have By_13 := Lib.hid (By_12.out.below hb By_12.out.lt)
    have Bz_13 := Lib.hid (Bz_12.out.below hb Bz_12.out.lt)
    have Bg_13 := Lib.hid (Bg_12.out.below hb Bg_12.out.lt)
    have H_13 := Lib.hid (H_12.out.trans (hb.mono H_12.out.size))
    clear hb H_12 Bx_12 By_12 Bz_12 Bg_12
    have Ba_13 := Lib.hid Bnew
    clear Bnew
    have qy0 := By_13.out.c0
    have qy1 := By_13.out.c1
    have qy2 := By_13.out.c2
    have qg0 := Bg_13.out.c0
    have qg1 := Bg_13.out.c1
    have qg2 := Bg_13.out.c2
    go_wp2_with fail
    clear qy0 qy1 qy2 qg0 qg1 qg2
    have hc := Mod_num h' hg hg0 (gcd_rest_right x y) isNum_zero ((u57).alloc (.cells #[.int .i64 1, .int .i64 0, .string ⟨#[]⟩] 23)) (hw.below H_13.out)
    unfold valV at hc
    refine hc.mono ?_
    rintro e u58 ⟨rfl, hb⟩
    clear hc
    have Bx_14 := Lib.hid (Bx_13.out.below hb Bx_13.out.lt)
    have By_14 := Lib.hid (By_13.out.below hb By_13.out.lt)
    have Bz_14 := Lib.hid (Bz_13.out.below hb Bz_13.out.lt)
    have Bg_14 := Lib.hid (Bg_13.out.below hb Bg_13.out.lt)
    have Ba_14 := Lib.hid (Ba_13.out.below hb Ba_13.out.lt)
    have H_14 := Lib.hid (H_13.out.trans (hb.mono H_13.out.size))
    clear hb H_13 Bx_13 By_13 Bz_13 Bg_13 Ba_13
    have hb : Below (u58).heap.size (u58) ((u58).alloc (.cells #[.int .i64 1, .int .i64 0, .string ⟨#[]⟩] 23)) := (Below.refl _ (u58)).alloc (Nat.le_refl _) _
    have Bnew := VB.new (u58) (.int .i64 1) (.int .i64 0) (.string ⟨#[]⟩)
    try simp only [World.size_alloc] at Bnew
    have Bx_15 := Lib.hid (Bx_14.out.below hb Bx_14.out.lt)
    have By_15 := Lib.hid (By_14.out.below hb By_14.out.lt)
    have Bz_15 := Lib.hid (Bz_14.out.below hb Bz_14.out.lt)
    have Bg_15 := Lib.hid (Bg_14.out.below hb Bg_14.out.lt)
    have Ba_15 := Lib.hid (Ba_14.out.below hb Ba_14.out.lt)
    have H_15 := Lib.hid (H_14.out.trans (hb.mono H_14.out.size))
    clear hb H_14 Bx_14 By_14 Bz_14 Bg_14 Ba_14
    have Bb_15 := Lib.hid Bnew
    clear Bnew
    go_upto_region 13 with fail
    refine region_grown (by kernel_rfl) ?_
    apply quiet_wanted
    · go_simp
    · intro W hW; unfold Oper.quietAt; go_simp; (try exact ⟨rfl, rfl⟩); (try rfl)
    (try simp only [Act.put, List.setIfInBounds_toArray, List.set_cons_zero, List.set_cons_succ])
    apply quiet_wanted
    · go_simp
    · intro W hW; unfold Oper.quietAt; go_simp; (try exact ⟨rfl, rfl⟩); (try rfl)
    (try simp only [Act.put, List.setIfInBounds_toArray, List.set_cons_zero, List.set_cons_succ])
    apply quiet_wanted
    · go_simp
    · intro W hW; unfold Oper.quietAt; go_simp; (try exact ⟨rfl, rfl⟩); (try rfl)
    (try simp only [Act.put, List.setIfInBounds_toArray, List.set_cons_zero, List.set_cons_succ])
    apply quiet_wanted
    · go_simp
    · intro W hW; unfold Oper.quietAt; go_simp; (try exact ⟨rfl, rfl⟩); (try rfl)
    (try simp only [Act.put, List.setIfInBounds_toArray, List.set_cons_zero, List.set_cons_succ])
    apply quiet_wanted
    · go_simp
    · intro W hW; unfold Oper.quietAt; go_simp; (try exact ⟨rfl, rfl⟩); (try rfl)
    (try simp only [Act.put, List.setIfInBounds_toArray, List.set_cons_zero, List.set_cons_succ])
    apply quiet_wanted
    · go_simp
    · intro W hW; unfold Oper.quietAt; go_simp; (try exact ⟨rfl, rfl⟩); (try rfl)
    (try simp only [Act.put, List.setIfInBounds_toArray, List.set_cons_zero, List.set_cons_succ])
    apply quiet_wanted
    · go_simp
    · intro W hW; unfold Oper.quietAt; go_simp; (try exact ⟨rfl, rfl⟩); (try rfl)
    (try simp only [Act.put, List.setIfInBounds_toArray, List.set_cons_zero, List.set_cons_succ])
    apply quiet_wanted
    · go_simp
    · intro W hW; have hV := Ba_15.out.below hW Ba_15.out.lt; have c0 := hV.c0; have c1 := hV.c1; have c2 := hV.c2; clear hV; unfold Oper.quietAt; go_simp; (try exact ⟨rfl, rfl⟩); (try rfl)
    (try simp only [Act.put, List.setIfInBounds_toArray, List.set_cons_zero, List.set_cons_succ])
    apply quiet_wanted
    · go_simp
    · intro W hW; unfold Oper.quietAt; go_simp; have hc := number_c 0 W; unfold valV at hc; exact hc.mono fun e w' hr => ⟨hr.1, Grown.trans hW hr.2⟩
    (try simp only [Act.put, List.setIfInBounds_toArray, List.set_cons_zero, List.set_cons_succ])
    apply quiet_wanted
    · go_simp
    · intro W hW; unfold Oper.quietAt; go_simp; (try exact ⟨rfl, rfl⟩); (try rfl)
    (try simp only [Act.put, List.setIfInBounds_toArray, List.set_cons_zero, List.set_cons_succ])
    apply quiet_wanted
    · go_simp
    · intro W hW; unfold Oper.quietAt; go_simp; (try exact ⟨rfl, rfl⟩); (try rfl)
    (try simp only [Act.put, List.setIfInBounds_toArray, List.set_cons_zero, List.set_cons_succ])
    apply quiet_wanted
    · go_simp
    · intro W hW; unfold Oper.quietAt; go_simp; (try exact ⟨rfl, rfl⟩); (try rfl)
    (try simp only [Act.put, List.setIfInBounds_toArray, List.set_cons_zero, List.set_cons_succ])
    apply quiet_wanted
    · go_simp
    · intro W hW; have hV := Bb_15.out.below hW Bb_15.out.lt; have c0 := hV.c0; have c1 := hV.c1; have c2 := hV.c2; clear hV; unfold Oper.quietAt; go_simp; (try exact ⟨rfl, rfl⟩); (try rfl)
    (try simp only [Act.put, List.setIfInBounds_toArray, List.set_cons_zero, List.set_cons_succ])
    apply quiet_wanted
    · go_simp
    · intro W hW; unfold Oper.quietAt; go_simp; have hc := number_c 0 W; unfold valV at hc; exact hc.mono fun e w' hr => ⟨hr.1, Grown.trans hW hr.2⟩
    (try simp only [Act.put, List.setIfInBounds_toArray, List.set_cons_zero, List.set_cons_succ])
    apply quiet_wanted
    · go_simp
    · intro W hW; unfold Oper.quietAt; go_simp; (try exact ⟨rfl, rfl⟩); (try rfl)
    (try simp only [Act.put, List.setIfInBounds_toArray, List.set_cons_zero, List.set_cons_succ])
    apply quiet_wanted
    · go_simp
    · intro W hW; unfold Oper.quietAt; go_simp; (try exact ⟨rfl, rfl⟩); (try rfl)
    (try simp only [Act.put, List.setIfInBounds_toArray, List.set_cons_zero, List.set_cons_succ])
    refine wpQuiet_nil ?_
    intro u59 hb
    unfold Grown at hb
    have Bx_16 := Lib.hid (Bx_15.out.below hb Bx_15.out.lt)
    have By_16 := Lib.hid (By_15.out.below hb By_15.out.lt)
    have Bz_16 := Lib.hid (Bz_15.out.below hb Bz_15.out.lt)
    have Bg_16 := Lib.hid (Bg_15.out.below hb Bg_15.out.lt)
    have Ba_16 := Lib.hid (Ba_15.out.below hb Ba_15.out.lt)
    have Bb_16 := Lib.hid (Bb_15.out.below hb Bb_15.out.lt)
    have H_16 := Lib.hid (H_15.out.trans (hb.mono H_15.out.size))
    clear hb H_15 Bx_15 By_15 Bz_15 Bg_15 Ba_15 Bb_15
    have qx0 := Bx_16.out.c0
    have qx1 := Bx_16.out.c1
    have qx2 := Bx_16.out.c2
    have qz0 := Bz_16.out.c0
    have qz1 := Bz_16.out.c1
    have qz2 := Bz_16.out.c2
    go_wp2_with fail
    clear qx0 qx1 qx2 qz0 qz1 qz2
    have hc := hxz (u59) (hw.below H_16.out)
    unfold valV at hc
    refine hc.mono ?_
    rintro e u60 ⟨rfl, hb⟩
    clear hc
    have Bx_17 := Lib.hid (Bx_16.out.below hb Bx_16.out.lt)
    have By_17 := Lib.hid (By_16.out.below hb By_16.out.lt)
    have Bz_17 := Lib.hid (Bz_16.out.below hb Bz_16.out.lt)
    have Bg_17 := Lib.hid (Bg_16.out.below hb Bg_16.out.lt)
    have Ba_17 := Lib.hid (Ba_16.out.below hb Ba_16.out.lt)
    have Bb_17 := Lib.hid (Bb_16.out.below hb Bb_16.out.lt)
    have H_17 := Lib.hid (H_16.out.trans (hb.mono H_16.out.size))
    clear hb H_16 Bx_16 By_16 Bz_16 Bg_16 Ba_16 Bb_16
    have hb : Below (u60).heap.size (u60) ((u60).alloc (.cells #[.int .i64 0, .int .i64 0, .string ⟨#[]⟩] 23)) := (Below.refl _ (u60)).alloc (Nat.le_refl _) _
    have Bnew := VB.new (u60) (.int .i64 0) (.int .i64 0) (.string ⟨#[]⟩)
    try simp only [World.size_alloc] at Bnew
    have Bx_18 := Lib.hid (Bx_17.out.below hb Bx_17.out.lt)
    have By_18 := Lib.hid (By_17.out.below hb By_17.out.lt)
    have Bz_18 := Lib.hid (Bz_17.out.below hb Bz_17.out.lt)
    have Bg_18 := Lib.hid (Bg_17.out.below hb Bg_17.out.lt)
    have Ba_18 := Lib.hid (Ba_17.out.below hb Ba_17.out.lt)
    have Bb_18 := Lib.hid (Bb_17.out.below hb Bb_17.out.lt)
    have H_18 := Lib.hid (H_17.out.trans (hb.mono H_17.out.size))
    clear hb H_17 Bx_17 By_17 Bz_17 Bg_17 Ba_17 Bb_17
    have Bc_18 := Lib.hid Bnew
    clear Bnew
    have qy0 := By_18.out.c0
    have qy1 := By_18.out.c1
    have qy2 := By_18.out.c2
    have qz0 := Bz_18.out.c0
    have qz1 := Bz_18.out.c1
    have qz2 := Bz_18.out.c2
    go_wp2_with fail
    clear qy0 qy1 qy2 qz0 qz1 qz2
    have hc := hyz ((u60).alloc (.cells #[.int .i64 0, .int .i64 0, .string ⟨#[]⟩] 23)) (hw.below H_18.out)
    unfold valV at hc
    refine hc.mono ?_
    rintro e u61 ⟨rfl, hb⟩
    clear hc
    have Bx_19 := Lib.hid (Bx_18.out.below hb Bx_18.out.lt)
    have By_19 := Lib.hid (By_18.out.below hb By_18.out.lt)
    have Bz_19 := Lib.hid (Bz_18.out.below hb Bz_18.out.lt)
    have Bg_19 := Lib.hid (Bg_18.out.below hb Bg_18.out.lt)
    have Ba_19 := Lib.hid (Ba_18.out.below hb Ba_18.out.lt)
    have Bb_19 := Lib.hid (Bb_18.out.below hb Bb_18.out.lt)
    have Bc_19 := Lib.hid (Bc_18.out.below hb Bc_18.out.lt)
    have H_19 := Lib.hid (H_18.out.trans (hb.mono H_18.out.size))
    clear hb H_18 Bx_18 By_18 Bz_18 Bg_18 Ba_18 Bb_18 Bc_18
    have hb : Below (u61).heap.size (u61) ((u61).alloc (.cells #[.int .i64 0, .int .i64 0, .string ⟨#[]⟩] 23)) := (Below.refl _ (u61)).alloc (Nat.le_refl _) _
    have Bnew := VB.new (u61) (.int .i64 0) (.int .i64 0) (.string ⟨#[]⟩)
    try simp only [World.size_alloc] at Bnew
    have Bx_20 := Lib.hid (Bx_19.out.below hb Bx_19.out.lt)
    have By_20 := Lib.hid (By_19.out.below hb By_19.out.lt)
    have Bz_20 := Lib.hid (Bz_19.out.below hb Bz_19.out.lt)
    have Bg_20 := Lib.hid (Bg_19.out.below hb Bg_19.out.lt)
    have Ba_20 := Lib.hid (Ba_19.out.below hb Ba_19.out.lt)
    have Bb_20 := Lib.hid (Bb_19.out.below hb Bb_19.out.lt)
    have Bc_20 := Lib.hid (Bc_19.out.below hb Bc_19.out.lt)
    have H_20 := Lib.hid (H_19.out.trans (hb.mono H_19.out.size))
    clear hb H_19 Bx_19 By_19 Bz_19 Bg_19 Ba_19 Bb_19 Bc_19
    have Bd_20 := Lib.hid Bnew
    clear Bnew
    rcases hE with rfl | rfl
    · go_upto_region 17 with fail
      refine region_grown (by kernel_rfl) ?_
      apply quiet_wanted
      · go_simp
      · intro W hW; unfold Oper.quietAt; go_simp; (try exact ⟨rfl, rfl⟩); (try rfl)
      (try simp only [Act.put, List.setIfInBounds_toArray, List.set_cons_zero, List.set_cons_succ])
      apply quiet_wanted
      · go_simp
      · intro W hW; unfold Oper.quietAt; go_simp; (try exact ⟨rfl, rfl⟩); (try rfl)
      (try simp only [Act.put, List.setIfInBounds_toArray, List.set_cons_zero, List.set_cons_succ])
      apply quiet_wanted
      · go_simp
      · intro W hW; unfold Oper.quietAt; go_simp; (try exact ⟨rfl, rfl⟩); (try rfl)
      (try simp only [Act.put, List.setIfInBounds_toArray, List.set_cons_zero, List.set_cons_succ])
      refine quiet_unwanted (by first | (go_simp; done) | (go_simp; intro hh; cases hh)) ?_
      (try simp only [Act.put, List.setIfInBounds_toArray, List.set_cons_zero, List.set_cons_succ])
      refine quiet_unwanted (by first | (go_simp; done) | (go_simp; intro hh; cases hh)) ?_
      (try simp only [Act.put, List.setIfInBounds_toArray, List.set_cons_zero, List.set_cons_succ])
      apply quiet_wanted
      · go_simp
      · intro W hW; unfold Oper.quietAt; go_simp; (try exact ⟨rfl, rfl⟩); (try rfl)
      (try simp only [Act.put, List.setIfInBounds_toArray, List.set_cons_zero, List.set_cons_succ])
      apply quiet_wanted
      · go_simp
      · intro W hW; unfold Oper.quietAt; go_simp; (try exact ⟨rfl, rfl⟩); (try rfl)
      (try simp only [Act.put, List.setIfInBounds_toArray, List.set_cons_zero, List.set_cons_succ])
      refine quiet_unwanted (by first | (go_simp; done) | (go_simp; intro hh; cases hh)) ?_
      (try simp only [Act.put, List.setIfInBounds_toArray, List.set_cons_zero, List.set_cons_succ])
      refine quiet_unwanted (by first | (go_simp; done) | (go_simp; intro hh; cases hh)) ?_
      (try simp only [Act.put, List.setIfInBounds_toArray, List.set_cons_zero, List.set_cons_succ])
      refine quiet_unwanted (by first | (go_simp; done) | (go_simp; intro hh; cases hh)) ?_
      (try simp only [Act.put, List.setIfInBounds_toArray, List.set_cons_zero, List.set_cons_succ])
      apply quiet_wanted
      · go_simp
      · intro W hW; unfold Oper.quietAt; go_simp; (try exact ⟨rfl, rfl⟩); (try rfl)
      (try simp only [Act.put, List.setIfInBounds_toArray, List.set_cons_zero, List.set_cons_succ])
      apply quiet_wanted
      · go_simp
      · intro W hW; unfold Oper.quietAt; go_simp; (try exact ⟨rfl, rfl⟩); (try rfl)
      (try simp only [Act.put, List.setIfInBounds_toArray, List.set_cons_zero, List.set_cons_succ])
      refine quiet_unwanted (by first | (go_simp; done) | (go_simp; intro hh; cases hh)) ?_
      (try simp only [Act.put, List.setIfInBounds_toArray, List.set_cons_zero, List.set_cons_succ])
      refine quiet_unwanted (by first | (go_simp; done) | (go_simp; intro hh; cases hh)) ?_
      (try simp only [Act.put, List.setIfInBounds_toArray, List.set_cons_zero, List.set_cons_succ])
      refine quiet_unwanted (by first | (go_simp; done) | (go_simp; intro hh; cases hh)) ?_
      (try simp only [Act.put, List.setIfInBounds_toArray, List.set_cons_zero, List.set_cons_succ])
      apply quiet_wanted
      · go_simp
      · intro W hW; unfold Oper.quietAt; go_simp; (try exact ⟨rfl, rfl⟩); (try rfl)
      (try simp only [Act.put, List.setIfInBounds_toArray, List.set_cons_zero, List.set_cons_succ])
      refine wpQuiet_nil ?_
      intro u62 hb
      unfold Grown at hb
      have Bx_21 := Lib.hid (Bx_20.out.below hb Bx_20.out.lt)
      have By_21 := Lib.hid (By_20.out.below hb By_20.out.lt)
      have Bz_21 := Lib.hid (Bz_20.out.below hb Bz_20.out.lt)
      have Bg_21 := Lib.hid (Bg_20.out.below hb Bg_20.out.lt)
      have Ba_21 := Lib.hid (Ba_20.out.below hb Ba_20.out.lt)
      have Bb_21 := Lib.hid (Bb_20.out.below hb Bb_20.out.lt)
      have Bc_21 := Lib.hid (Bc_20.out.below hb Bc_20.out.lt)
      have Bd_21 := Lib.hid (Bd_20.out.below hb Bd_20.out.lt)
      have H_21 := Lib.hid (H_20.out.trans (hb.mono H_20.out.size))
      clear hb H_20 Bx_20 By_20 Bz_20 Bg_20 Ba_20 Bb_20 Bc_20 Bd_20
      by_cases hy0' : y = 0
      · have hy0 := hy0'
        subst hy0
        have qx0 := Bx_21.out.c0
        have qx1 := Bx_21.out.c1
        have qx2 := Bx_21.out.c2
        have qy0 := By_21.out.c0
        have qy1 := By_21.out.c1
        have qy2 := By_21.out.c2
        go_wp2_with fail
        clear qx0 qx1 qx2 qy0 qy1 qy2
        have hc := Mod_zero K N x K' N' 0 T T' h h' rfl (u62) (hw.below H_21.out)
        unfold valV at hc
        refine hc.mono ?_
        rintro e u63 ⟨rfl, hb⟩
        clear hc
        have Bx_22 := Lib.hid (Bx_21.out.below hb Bx_21.out.lt)
        have By_22 := Lib.hid (By_21.out.below hb By_21.out.lt)
        have Bz_22 := Lib.hid (Bz_21.out.below hb Bz_21.out.lt)
        have Bg_22 := Lib.hid (Bg_21.out.below hb Bg_21.out.lt)
        have Ba_22 := Lib.hid (Ba_21.out.below hb Ba_21.out.lt)
        have Bb_22 := Lib.hid (Bb_21.out.below hb Bb_21.out.lt)
        have Bc_22 := Lib.hid (Bc_21.out.below hb Bc_21.out.lt)
        have Bd_22 := Lib.hid (Bd_21.out.below hb Bd_21.out.lt)
        have H_22 := Lib.hid (H_21.out.trans (hb.mono H_21.out.size))
        clear hb H_21 Bx_21 By_21 Bz_21 Bg_21 Ba_21 Bb_21 Bc_21 Bd_21
        have hb : Below (u63).heap.size (u63) ((u63).alloc (.cells #[.int .i64 0, .int .i64 0, .string ⟨#[]⟩] 23)) := (Below.refl _ (u63)).alloc (Nat.le_refl _) _
        have Bnew := VB.new (u63) (.int .i64 0) (.int .i64 0) (.string ⟨#[]⟩)
        try simp only [World.size_alloc] at Bnew
        have Bx_23 := Lib.hid (Bx_22.out.below hb Bx_22.out.lt)
        have By_23 := Lib.hid (By_22.out.below hb By_22.out.lt)
        have Bz_23 := Lib.hid (Bz_22.out.below hb Bz_22.out.lt)
        have Bg_23 := Lib.hid (Bg_22.out.below hb Bg_22.out.lt)
        have Ba_23 := Lib.hid (Ba_22.out.below hb Ba_22.out.lt)
        have Bb_23 := Lib.hid (Bb_22.out.below hb Bb_22.out.lt)
        have Bc_23 := Lib.hid (Bc_22.out.below hb Bc_22.out.lt)
        have Bd_23 := Lib.hid (Bd_22.out.below hb Bd_22.out.lt)
        have H_23 := Lib.hid (H_22.out.trans (hb.mono H_22.out.size))
        clear hb H_22 Bx_22 By_22 Bz_22 Bg_22 Ba_22 Bb_22 Bc_22 Bd_22
        have Bm_23 := Lib.hid Bnew
        clear Bnew
        go_wp2_with fail
        go_ret
        exact ⟨rfl, H_23.out⟩
      · obtain ⟨M0, M1, M2, hm⟩ := isNum_few (few_fmod (x := x) h'.1 hy0')
        have qx0 := Bx_21.out.c0
        have qx1 := Bx_21.out.c1
        have qx2 := Bx_21.out.c2
        have qy0 := By_21.out.c0
        have qy1 := By_21.out.c1
        have qy2 := By_21.out.c2
        go_wp2_with fail
        clear qx0 qx1 qx2 qy0 qy1 qy2
        have hc := Mod_num h h' hy0' rfl hm (u62) (hw.below H_21.out)
        unfold valV at hc
        refine hc.mono ?_
        rintro e u63 ⟨rfl, hb⟩
        clear hc
        have Bx_22 := Lib.hid (Bx_21.out.below hb Bx_21.out.lt)
        have By_22 := Lib.hid (By_21.out.below hb By_21.out.lt)
        have Bz_22 := Lib.hid (Bz_21.out.below hb Bz_21.out.lt)
        have Bg_22 := Lib.hid (Bg_21.out.below hb Bg_21.out.lt)
        have Ba_22 := Lib.hid (Ba_21.out.below hb Ba_21.out.lt)
        have Bb_22 := Lib.hid (Bb_21.out.below hb Bb_21.out.lt)
        have Bc_22 := Lib.hid (Bc_21.out.below hb Bc_21.out.lt)
        have Bd_22 := Lib.hid (Bd_21.out.below hb Bd_21.out.lt)
        have H_22 := Lib.hid (H_21.out.trans (hb.mono H_21.out.size))
        clear hb H_21 Bx_21 By_21 Bz_21 Bg_21 Ba_21 Bb_21 Bc_21 Bd_21
        have hb : Below (u63).heap.size (u63) ((u63).alloc (.cells #[.int .i64 M0, .int .i64 M1, .string ⟨M2.toArray⟩] 23)) := (Below.refl _ (u63)).alloc (Nat.le_refl _) _
        have Bnew := VB.new (u63) (.int .i64 M0) (.int .i64 M1) (.string ⟨M2.toArray⟩)
        try simp only [World.size_alloc] at Bnew
        have Bx_23 := Lib.hid (Bx_22.out.below hb Bx_22.out.lt)
        have By_23 := Lib.hid (By_22.out.below hb By_22.out.lt)
        have Bz_23 := Lib.hid (Bz_22.out.below hb Bz_22.out.lt)
        have Bg_23 := Lib.hid (Bg_22.out.below hb Bg_22.out.lt)
        have Ba_23 := Lib.hid (Ba_22.out.below hb Ba_22.out.lt)
        have Bb_23 := Lib.hid (Bb_22.out.below hb Bb_22.out.lt)
        have Bc_23 := Lib.hid (Bc_22.out.below hb Bc_22.out.lt)
        have Bd_23 := Lib.hid (Bd_22.out.below hb Bd_22.out.lt)
        have H_23 := Lib.hid (H_22.out.trans (hb.mono H_22.out.size))
        clear hb H_22 Bx_22 By_22 Bz_22 Bg_22 Ba_22 Bb_22 Bc_22 Bd_22
        have Bm_23 := Lib.hid Bnew
        clear Bnew
        have qy0 := By_23.out.c0
        have qy1 := By_23.out.c1
        have qy2 := By_23.out.c2
        have qm0 := Bm_23.out.c0
        have qm1 := Bm_23.out.c1
        have qm2 := Bm_23.out.c2
        go_wp2_with fail
        clear qy0 qy1 qy2 qm0 qm1 qm2
        have hc := Gcd_num h' hm (by rw [← Bg.gcd_step]) hg ((u63).alloc (.cells #[.int .i64 M0, .int .i64 M1, .string ⟨M2.toArray⟩] 23)) (hw.below H_23.out)
        unfold valV at hc
        refine hc.mono ?_
        rintro e u64 ⟨rfl, hb⟩
        clear hc
        have Bx_24 := Lib.hid (Bx_23.out.below hb Bx_23.out.lt)
        have By_24 := Lib.hid (By_23.out.below hb By_23.out.lt)
        have Bz_24 := Lib.hid (Bz_23.out.below hb Bz_23.out.lt)
        have Bg_24 := Lib.hid (Bg_23.out.below hb Bg_23.out.lt)
        have Ba_24 := Lib.hid (Ba_23.out.below hb Ba_23.out.lt)
        have Bb_24 := Lib.hid (Bb_23.out.below hb Bb_23.out.lt)
        have Bc_24 := Lib.hid (Bc_23.out.below hb Bc_23.out.lt)
        have Bd_24 := Lib.hid (Bd_23.out.below hb Bd_23.out.lt)
        have Bm_24 := Lib.hid (Bm_23.out.below hb Bm_23.out.lt)
        have H_24 := Lib.hid (H_23.out.trans (hb.mono H_23.out.size))
        clear hb H_23 Bx_23 By_23 Bz_23 Bg_23 Ba_23 Bb_23 Bc_23 Bd_23 Bm_23
        have hb : Below (u64).heap.size (u64) ((u64).alloc (.cells #[.int .i64 G0, .int .i64 G1, .string ⟨G2.toArray⟩] 23)) := (Below.refl _ (u64)).alloc (Nat.le_refl _) _
        have Bnew := VB.new (u64) (.int .i64 G0) (.int .i64 G1) (.string ⟨G2.toArray⟩)
        try simp only [World.size_alloc] at Bnew
        have Bx_25 := Lib.hid (Bx_24.out.below hb Bx_24.out.lt)
        have By_25 := Lib.hid (By_24.out.below hb By_24.out.lt)
        have Bz_25 := Lib.hid (Bz_24.out.below hb Bz_24.out.lt)
        have Bg_25 := Lib.hid (Bg_24.out.below hb Bg_24.out.lt)
        have Ba_25 := Lib.hid (Ba_24.out.below hb Ba_24.out.lt)
        have Bb_25 := Lib.hid (Bb_24.out.below hb Bb_24.out.lt)
        have Bc_25 := Lib.hid (Bc_24.out.below hb Bc_24.out.lt)
        have Bd_25 := Lib.hid (Bd_24.out.below hb Bd_24.out.lt)
        have Bm_25 := Lib.hid (Bm_24.out.below hb Bm_24.out.lt)
        have H_25 := Lib.hid (H_24.out.trans (hb.mono H_24.out.size))
        clear hb H_24 Bx_24 By_24 Bz_24 Bg_24 Ba_24 Bb_24 Bc_24 Bd_24 Bm_24
        have Bk_25 := Lib.hid Bnew
        clear Bnew
        have qk0 := Bk_25.out.c0
        have qk1 := Bk_25.out.c1
        have qk2 := Bk_25.out.c2
        have qg0 := Bg_25.out.c0
        have qg1 := Bg_25.out.c1
        have qg2 := Bg_25.out.c2
        go_wp2_with fail
        go_ret
        exact ⟨rfl, H_25.out⟩
    · go_upto_region 17 with fail
      refine region_grown (by kernel_rfl) ?_
      apply quiet_wanted
      · go_simp
      · intro W hW; unfold Oper.quietAt; go_simp; (try exact ⟨rfl, rfl⟩); (try rfl)
      (try simp only [Act.put, List.setIfInBounds_toArray, List.set_cons_zero, List.set_cons_succ])
      apply quiet_wanted
      · go_simp
      · intro W hW; unfold Oper.quietAt; go_simp; (try exact ⟨rfl, rfl⟩); (try rfl)
      (try simp only [Act.put, List.setIfInBounds_toArray, List.set_cons_zero, List.set_cons_succ])
      apply quiet_wanted
      · go_simp
      · intro W hW; unfold Oper.quietAt; go_simp; (try exact ⟨rfl, rfl⟩); (try rfl)
      (try simp only [Act.put, List.setIfInBounds_toArray, List.set_cons_zero, List.set_cons_succ])
      refine quiet_unwanted (by first | (go_simp; done) | (go_simp; intro hh; cases hh)) ?_
      (try simp only [Act.put, List.setIfInBounds_toArray, List.set_cons_zero, List.set_cons_succ])
      refine quiet_unwanted (by first | (go_simp; done) | (go_simp; intro hh; cases hh)) ?_
      (try simp only [Act.put, List.setIfInBounds_toArray, List.set_cons_zero, List.set_cons_succ])
      apply quiet_wanted
      · go_simp
      · intro W hW; unfold Oper.quietAt; go_simp; (try exact ⟨rfl, rfl⟩); (try rfl)
      (try simp only [Act.put, List.setIfInBounds_toArray, List.set_cons_zero, List.set_cons_succ])
      apply quiet_wanted
      · go_simp
      · intro W hW; unfold Oper.quietAt; go_simp; (try exact ⟨rfl, rfl⟩); (try rfl)
      (try simp only [Act.put, List.setIfInBounds_toArray, List.set_cons_zero, List.set_cons_succ])
      refine quiet_unwanted (by first | (go_simp; done) | (go_simp; intro hh; cases hh)) ?_
      (try simp only [Act.put, List.setIfInBounds_toArray, List.set_cons_zero, List.set_cons_succ])
      refine quiet_unwanted (by first | (go_simp; done) | (go_simp; intro hh; cases hh)) ?_
      (try simp only [Act.put, List.setIfInBounds_toArray, List.set_cons_zero, List.set_cons_succ])
      refine quiet_unwanted (by first | (go_simp; done) | (go_simp; intro hh; cases hh)) ?_
      (try simp only [Act.put, List.setIfInBounds_toArray, List.set_cons_zero, List.set_cons_succ])
      apply quiet_wanted
      · go_simp
      · intro W hW; unfold Oper.quietAt; go_simp; (try exact ⟨rfl, rfl⟩); (try rfl)
      (try simp only [Act.put, List.setIfInBounds_toArray, List.set_cons_zero, List.set_cons_succ])
      apply quiet_wanted
      · go_simp
      · intro W hW; unfold Oper.quietAt; go_simp; (try exact ⟨rfl, rfl⟩); (try rfl)
      (try simp only [Act.put, List.setIfInBounds_toArray, List.set_cons_zero, List.set_cons_succ])
      refine quiet_unwanted (by first | (go_simp; done) | (go_simp; intro hh; cases hh)) ?_
      (try simp only [Act.put, List.setIfInBounds_toArray, List.set_cons_zero, List.set_cons_succ])
      refine quiet_unwanted (by first | (go_simp; done) | (go_simp; intro hh; cases hh)) ?_
      (try simp only [Act.put, List.setIfInBounds_toArray, List.set_cons_zero, List.set_cons_succ])
      refine quiet_unwanted (by first | (go_simp; done) | (go_simp; intro hh; cases hh)) ?_
      (try simp only [Act.put, List.setIfInBounds_toArray, List.set_cons_zero, List.set_cons_succ])
      apply quiet_wanted
      · go_simp
      · intro W hW; unfold Oper.quietAt; go_simp; (try exact ⟨rfl, rfl⟩); (try rfl)
      (try simp only [Act.put, List.setIfInBounds_toArray, List.set_cons_zero, List.set_cons_succ])
      refine wpQuiet_nil ?_
      intro u62 hb
      unfold Grown at hb
      have Bx_21 := Lib.hid (Bx_20.out.below hb Bx_20.out.lt)
      have By_21 := Lib.hid (By_20.out.below hb By_20.out.lt)
      have Bz_21 := Lib.hid (Bz_20.out.below hb Bz_20.out.lt)
      have Bg_21 := Lib.hid (Bg_20.out.below hb Bg_20.out.lt)
      have Ba_21 := Lib.hid (Ba_20.out.below hb Ba_20.out.lt)
      have Bb_21 := Lib.hid (Bb_20.out.below hb Bb_20.out.lt)
      have Bc_21 := Lib.hid (Bc_20.out.below hb Bc_20.out.lt)
      have Bd_21 := Lib.hid (Bd_20.out.below hb Bd_20.out.lt)
      have H_21 := Lib.hid (H_20.out.trans (hb.mono H_20.out.size))
      clear hb H_20 Bx_20 By_20 Bz_20 Bg_20 Ba_20 Bb_20 Bc_20 Bd_20
      by_cases hy0' : y = 0
      · have hy0 := hy0'
        subst hy0
        have qx0 := Bx_21.out.c0
        have qx1 := Bx_21.out.c1
        have qx2 := Bx_21.out.c2
        have qy0 := By_21.out.c0
        have qy1 := By_21.out.c1
        have qy2 := By_21.out.c2
        go_wp2_with fail
        clear qx0 qx1 qx2 qy0 qy1 qy2
        have hc := Mod_zero K N x K' N' 0 T T' h h' rfl (u62) (hw.below H_21.out)
        unfold valV at hc
        refine hc.mono ?_
        rintro e u63 ⟨rfl, hb⟩
        clear hc
        have Bx_22 := Lib.hid (Bx_21.out.below hb Bx_21.out.lt)
        have By_22 := Lib.hid (By_21.out.below hb By_21.out.lt)
        have Bz_22 := Lib.hid (Bz_21.out.below hb Bz_21.out.lt)
        have Bg_22 := Lib.hid (Bg_21.out.below hb Bg_21.out.lt)
        have Ba_22 := Lib.hid (Ba_21.out.below hb Ba_21.out.lt)
        have Bb_22 := Lib.hid (Bb_21.out.below hb Bb_21.out.lt)
        have Bc_22 := Lib.hid (Bc_21.out.below hb Bc_21.out.lt)
        have Bd_22 := Lib.hid (Bd_21.out.below hb Bd_21.out.lt)
        have H_22 := Lib.hid (H_21.out.trans (hb.mono H_21.out.size))
        clear hb H_21 Bx_21 By_21 Bz_21 Bg_21 Ba_21 Bb_21 Bc_21 Bd_21
        have hb : Below (u63).heap.size (u63) ((u63).alloc (.cells #[.int .i64 0, .int .i64 0, .string ⟨#[]⟩] 23)) := (Below.refl _ (u63)).alloc (Nat.le_refl _) _
        have Bnew := VB.new (u63) (.int .i64 0) (.int .i64 0) (.string ⟨#[]⟩)
        try simp only [World.size_alloc] at Bnew
        have Bx_23 := Lib.hid (Bx_22.out.below hb Bx_22.out.lt)
        have By_23 := Lib.hid (By_22.out.below hb By_22.out.lt)
        have Bz_23 := Lib.hid (Bz_22.out.below hb Bz_22.out.lt)
        have Bg_23 := Lib.hid (Bg_22.out.below hb Bg_22.out.lt)
        have Ba_23 := Lib.hid (Ba_22.out.below hb Ba_22.out.lt)
        have Bb_23 := Lib.hid (Bb_22.out.below hb Bb_22.out.lt)
        have Bc_23 := Lib.hid (Bc_22.out.below hb Bc_22.out.lt)
        have Bd_23 := Lib.hid (Bd_22.out.below hb Bd_22.out.lt)
        have H_23 := Lib.hid (H_22.out.trans (hb.mono H_22.out.size))
        clear hb H_22 Bx_22 By_22 Bz_22 Bg_22 Ba_22 Bb_22 Bc_22 Bd_22
        have Bm_23 := Lib.hid Bnew
        clear Bnew
        go_wp2_with fail
        go_ret
        exact ⟨rfl, H_23.out⟩
      · obtain ⟨M0, M1, M2, hm⟩ := isNum_few (few_fmod (x := x) h'.1 hy0')
        have qx0 := Bx_21.out.c0
        have qx1 := Bx_21.out.c1
        have qx2 := Bx_21.out.c2
        have qy0 := By_21.out.c0
        have qy1 := By_21.out.c1
        have qy2 := By_21.out.c2
        go_wp2_with fail
        clear qx0 qx1 qx2 qy0 qy1 qy2
        have hc := Mod_num h h' hy0' rfl hm (u62) (hw.below H_21.out)
        unfold valV at hc
        refine hc.mono ?_
        rintro e u63 ⟨rfl, hb⟩
        clear hc
        have Bx_22 := Lib.hid (Bx_21.out.below hb Bx_21.out.lt)
        have By_22 := Lib.hid (By_21.out.below hb By_21.out.lt)
        have Bz_22 := Lib.hid (Bz_21.out.below hb Bz_21.out.lt)
        have Bg_22 := Lib.hid (Bg_21.out.below hb Bg_21.out.lt)
        have Ba_22 := Lib.hid (Ba_21.out.below hb Ba_21.out.lt)
        have Bb_22 := Lib.hid (Bb_21.out.below hb Bb_21.out.lt)
        have Bc_22 := Lib.hid (Bc_21.out.below hb Bc_21.out.lt)
        have Bd_22 := Lib.hid (Bd_21.out.below hb Bd_21.out.lt)
        have H_22 := Lib.hid (H_21.out.trans (hb.mono H_21.out.size))
        clear hb H_21 Bx_21 By_21 Bz_21 Bg_21 Ba_21 Bb_21 Bc_21 Bd_21
        have hb : Below (u63).heap.size (u63) ((u63).alloc (.cells #[.int .i64 M0, .int .i64 M1, .string ⟨M2.toArray⟩] 23)) := (Below.refl _ (u63)).alloc (Nat.le_refl _) _
        have Bnew := VB.new (u63) (.int .i64 M0) (.int .i64 M1) (.string ⟨M2.toArray⟩)
        try simp only [World.size_alloc] at Bnew
        have Bx_23 := Lib.hid (Bx_22.out.below hb Bx_22.out.lt)
        have By_23 := Lib.hid (By_22.out.below hb By_22.out.lt)
        have Bz_23 := Lib.hid (Bz_22.out.below hb Bz_22.out.lt)
        have Bg_23 := Lib.hid (Bg_22.out.below hb Bg_22.out.lt)
        have Ba_23 := Lib.hid (Ba_22.out.below hb Ba_22.out.lt)
        have Bb_23 := Lib.hid (Bb_22.out.below hb Bb_22.out.lt)
        have Bc_23 := Lib.hid (Bc_22.out.below hb Bc_22.out.lt)
        have Bd_23 := Lib.hid (Bd_22.out.below hb Bd_22.out.lt)
        have H_23 := Lib.hid (H_22.out.trans (hb.mono H_22.out.size))
        clear hb H_22 Bx_22 By_22 Bz_22 Bg_22 Ba_22 Bb_22 Bc_22 Bd_22
        have Bm_23 := Lib.hid Bnew
        clear Bnew
        have qy0 := By_23.out.c0
        have qy1 := By_23.out.c1
        have qy2 := By_23.out.c2
        have qm0 := Bm_23.out.c0
        have qm1 := Bm_23.out.c1
        have qm2 := Bm_23.out.c2
        go_wp2_with fail
        clear qy0 qy1 qy2 qm0 qm1 qm2
        have hc := Gcd_num h' hm (by rw [← Bg.gcd_step]) hg ((u63).alloc (.cells #[.int .i64 M0, .int .i64 M1, .string ⟨M2.toArray⟩] 23)) (hw.below H_23.out)
        unfold valV at hc
        refine hc.mono ?_
        rintro e u64 ⟨rfl, hb⟩
        clear hc
        have Bx_24 := Lib.hid (Bx_23.out.below hb Bx_23.out.lt)
        have By_24 := Lib.hid (By_23.out.below hb By_23.out.lt)
        have Bz_24 := Lib.hid (Bz_23.out.below hb Bz_23.out.lt)
        have Bg_24 := Lib.hid (Bg_23.out.below hb Bg_23.out.lt)
        have Ba_24 := Lib.hid (Ba_23.out.below hb Ba_23.out.lt)
        have Bb_24 := Lib.hid (Bb_23.out.below hb Bb_23.out.lt)
        have Bc_24 := Lib.hid (Bc_23.out.below hb Bc_23.out.lt)
        have Bd_24 := Lib.hid (Bd_23.out.below hb Bd_23.out.lt)
        have Bm_24 := Lib.hid (Bm_23.out.below hb Bm_23.out.lt)
        have H_24 := Lib.hid (H_23.out.trans (hb.mono H_23.out.size))
        clear hb H_23 Bx_23 By_23 Bz_23 Bg_23 Ba_23 Bb_23 Bc_23 Bd_23 Bm_23
        have hb : Below (u64).heap.size (u64) ((u64).alloc (.cells #[.int .i64 G0, .int .i64 G1, .string ⟨G2.toArray⟩] 23)) := (Below.refl _ (u64)).alloc (Nat.le_refl _) _
        have Bnew := VB.new (u64) (.int .i64 G0) (.int .i64 G1) (.string ⟨G2.toArray⟩)
        try simp only [World.size_alloc] at Bnew
        have Bx_25 := Lib.hid (Bx_24.out.below hb Bx_24.out.lt)
        have By_25 := Lib.hid (By_24.out.below hb By_24.out.lt)
        have Bz_25 := Lib.hid (Bz_24.out.below hb Bz_24.out.lt)
        have Bg_25 := Lib.hid (Bg_24.out.below hb Bg_24.out.lt)
        have Ba_25 := Lib.hid (Ba_24.out.below hb Ba_24.out.lt)
        have Bb_25 := Lib.hid (Bb_24.out.below hb Bb_24.out.lt)
        have Bc_25 := Lib.hid (Bc_24.out.below hb Bc_24.out.lt)
        have Bd_25 := Lib.hid (Bd_24.out.below hb Bd_24.out.lt)
        have Bm_25 := Lib.hid (Bm_24.out.below hb Bm_24.out.lt)
        have H_25 := Lib.hid (H_24.out.trans (hb.mono H_24.out.size))
        clear hb H_24 Bx_24 By_24 Bz_24 Bg_24 Ba_24 Bb_24 Bc_24 Bd_24 Bm_24
        have Bk_25 := Lib.hid Bnew
        clear Bnew
        have qk0 := Bk_25.out.c0
        have qk1 := Bk_25.out.c1
        have qk2 := Bk_25.out.c2
        have qg0 := Bg_25.out.c0
        have qg1 := Bg_25.out.c1
        have qg2 := Bg_25.out.c2
        go_wp2_with fail
        go_ret
        exact ⟨rfl, H_25.out⟩

set_option maxHeartbeats 8000000 in
theorem div_num (K N K' N' K'' N'' : Int) (T T' T'' : List UInt8) (x y : Int) (h : IsNum K N T x) (h' : IsNum K' N' T' y) (hg0 : ((Int.gcd x y : Nat) : Int) ≠ 0) (z : Int) (h'' : IsNum K'' N'' T'' z) (hz0 : z ≠ 0) (w : World) (hw : Wd w) :
    Calls Tryz.prog 11 #[valV K N T, valV K' N' T', valV K'' N'' T''] w fun e w' => e = .returned (.bool true) ∧ Below w.heap.size w w' := by
  have hx : T.length ≤ 800 := by have := h.len; omega
  have hy : T'.length ≤ 800 := by have := h'.len; omega
  obtain ⟨G0, G1, G2, hg⟩ := isNum_few (few_gcd h.1 h'.1)
  have hne := hg.ne isNum_zero hg0
  obtain ⟨C0, C1, C2, hc⟩ := isNum_few (few_fmod (x := x) h''.1 hz0)
  obtain ⟨D0, D1, D2, hd⟩ := isNum_few (few_fmod (x := y) h''.1 hz0)
  have hz : T''.length ≤ 800 := by have := h''.len; omega
  have H_0 := Lib.hid (Below.refl w.heap.size w)
  unfold valV
  go_enter Tryz.func11, Tryz.ntmps11
  have hb : Below (w).heap.size (w) ((w).alloc (.cells #[.int .i64 K, .int .i64 N, .string ⟨T.toArray⟩] 23)) := (Below.refl _ (w)).alloc (Nat.le_refl _) _
  have Bnew := VB.new (w) (.int .i64 K) (.int .i64 N) (.string ⟨T.toArray⟩)
  try simp only [World.size_alloc] at Bnew
  have H_1 := Lib.hid (H_0.out.trans (hb.mono H_0.out.size))
  clear hb H_0
  have Bx_1 := Lib.hid Bnew
  clear Bnew
  have hb : Below ((w).alloc (.cells #[.int .i64 K, .int .i64 N, .string ⟨T.toArray⟩] 23)).heap.size ((w).alloc (.cells #[.int .i64 K, .int .i64 N, .string ⟨T.toArray⟩] 23)) (((w).alloc (.cells #[.int .i64 K, .int .i64 N, .string ⟨T.toArray⟩] 23)).alloc (.cells #[.int .i64 K', .int .i64 N', .string ⟨T'.toArray⟩] 23)) := (Below.refl _ ((w).alloc (.cells #[.int .i64 K, .int .i64 N, .string ⟨T.toArray⟩] 23))).alloc (Nat.le_refl _) _
  have Bnew := VB.new ((w).alloc (.cells #[.int .i64 K, .int .i64 N, .string ⟨T.toArray⟩] 23)) (.int .i64 K') (.int .i64 N') (.string ⟨T'.toArray⟩)
  try simp only [World.size_alloc] at Bnew
  have Bx_2 := Lib.hid (Bx_1.out.below hb Bx_1.out.lt)
  have H_2 := Lib.hid (H_1.out.trans (hb.mono H_1.out.size))
  clear hb H_1 Bx_1
  have By_2 := Lib.hid Bnew
  clear Bnew
  have hb : Below (((w).alloc (.cells #[.int .i64 K, .int .i64 N, .string ⟨T.toArray⟩] 23)).alloc (.cells #[.int .i64 K', .int .i64 N', .string ⟨T'.toArray⟩] 23)).heap.size (((w).alloc (.cells #[.int .i64 K, .int .i64 N, .string ⟨T.toArray⟩] 23)).alloc (.cells #[.int .i64 K', .int .i64 N', .string ⟨T'.toArray⟩] 23)) ((((w).alloc (.cells #[.int .i64 K, .int .i64 N, .string ⟨T.toArray⟩] 23)).alloc (.cells #[.int .i64 K', .int .i64 N', .string ⟨T'.toArray⟩] 23)).alloc (.cells #[.int .i64 K'', .int .i64 N'', .string ⟨T''.toArray⟩] 23)) := (Below.refl _ (((w).alloc (.cells #[.int .i64 K, .int .i64 N, .string ⟨T.toArray⟩] 23)).alloc (.cells #[.int .i64 K', .int .i64 N', .string ⟨T'.toArray⟩] 23))).alloc (Nat.le_refl _) _
  have Bnew := VB.new (((w).alloc (.cells #[.int .i64 K, .int .i64 N, .string ⟨T.toArray⟩] 23)).alloc (.cells #[.int .i64 K', .int .i64 N', .string ⟨T'.toArray⟩] 23)) (.int .i64 K'') (.int .i64 N'') (.string ⟨T''.toArray⟩)
  try simp only [World.size_alloc] at Bnew
  have Bx_3 := Lib.hid (Bx_2.out.below hb Bx_2.out.lt)
  have By_3 := Lib.hid (By_2.out.below hb By_2.out.lt)
  have H_3 := Lib.hid (H_2.out.trans (hb.mono H_2.out.size))
  clear hb H_2 Bx_2 By_2
  have Bz_3 := Lib.hid Bnew
  clear Bnew
  go_wp2_with fail
  have hc := awake_c ((((w).alloc (.cells #[.int .i64 K, .int .i64 N, .string ⟨T.toArray⟩] 23)).alloc (.cells #[.int .i64 K', .int .i64 N', .string ⟨T'.toArray⟩] 23)).alloc (.cells #[.int .i64 K'', .int .i64 N'', .string ⟨T''.toArray⟩] 23)) (hw.below H_3.out)
  unfold valV at hc
  refine hc.mono ?_
  rintro e u1 ⟨rfl, hb⟩
  clear hc
  have Bx_4 := Lib.hid (Bx_3.out.below hb Bx_3.out.lt)
  have By_4 := Lib.hid (By_3.out.below hb By_3.out.lt)
  have Bz_4 := Lib.hid (Bz_3.out.below hb Bz_3.out.lt)
  have H_4 := Lib.hid (H_3.out.trans (hb.mono H_3.out.size))
  clear hb H_3 Bx_3 By_3 Bz_3
  have qx0 := Bx_4.out.c0
  have qx1 := Bx_4.out.c1
  have qx2 := Bx_4.out.c2
  go_wp2_with fail
  clear qx0 qx1 qx2
  have hc := short_yes K N T hx (u1)
  unfold valV at hc
  refine hc.mono ?_
  rintro e u2 ⟨rfl, hb⟩
  clear hc
  have Bx_5 := Lib.hid (Bx_4.out.below hb Bx_4.out.lt)
  have By_5 := Lib.hid (By_4.out.below hb By_4.out.lt)
  have Bz_5 := Lib.hid (Bz_4.out.below hb Bz_4.out.lt)
  have H_5 := Lib.hid (H_4.out.trans (hb.mono H_4.out.size))
  clear hb H_4 Bx_4 By_4 Bz_4
  have qy0 := By_5.out.c0
  have qy1 := By_5.out.c1
  have qy2 := By_5.out.c2
  go_wp2_with fail
  clear qy0 qy1 qy2
  have hc := short_yes K' N' T' hy (u2)
  unfold valV at hc
  refine hc.mono ?_
  rintro e u3 ⟨rfl, hb⟩
  clear hc
  have Bx_6 := Lib.hid (Bx_5.out.below hb Bx_5.out.lt)
  have By_6 := Lib.hid (By_5.out.below hb By_5.out.lt)
  have Bz_6 := Lib.hid (Bz_5.out.below hb Bz_5.out.lt)
  have H_6 := Lib.hid (H_5.out.trans (hb.mono H_5.out.size))
  clear hb H_5 Bx_5 By_5 Bz_5
  have qz0 := Bz_6.out.c0
  have qz1 := Bz_6.out.c1
  have qz2 := Bz_6.out.c2
  go_wp2_with fail
  clear qz0 qz1 qz2
  have hc := short_yes K'' N'' T'' hz (u3)
  unfold valV at hc
  refine hc.mono ?_
  rintro e u4 ⟨rfl, hb⟩
  clear hc
  have Bx_7 := Lib.hid (Bx_6.out.below hb Bx_6.out.lt)
  have By_7 := Lib.hid (By_6.out.below hb By_6.out.lt)
  have Bz_7 := Lib.hid (Bz_6.out.below hb Bz_6.out.lt)
  have H_7 := Lib.hid (H_6.out.trans (hb.mono H_6.out.size))
  clear hb H_6 Bx_6 By_6 Bz_6
  have qx0 := Bx_7.out.c0
  have qx1 := Bx_7.out.c1
  have qx2 := Bx_7.out.c2
  have qy0 := By_7.out.c0
  have qy1 := By_7.out.c1
  have qy2 := By_7.out.c2
  go_wp2_with fail
  clear qx0 qx1 qx2 qy0 qy1 qy2
  have hc := Gcd_num h h' rfl hg (u4) (hw.below H_7.out)
  unfold valV at hc
  refine hc.mono ?_
  rintro e u5 ⟨rfl, hb⟩
  clear hc
  have Bx_8 := Lib.hid (Bx_7.out.below hb Bx_7.out.lt)
  have By_8 := Lib.hid (By_7.out.below hb By_7.out.lt)
  have Bz_8 := Lib.hid (Bz_7.out.below hb Bz_7.out.lt)
  have H_8 := Lib.hid (H_7.out.trans (hb.mono H_7.out.size))
  clear hb H_7 Bx_7 By_7 Bz_7
  have hb : Below (u5).heap.size (u5) ((u5).alloc (.cells #[.int .i64 G0, .int .i64 G1, .string ⟨G2.toArray⟩] 23)) := (Below.refl _ (u5)).alloc (Nat.le_refl _) _
  have Bnew := VB.new (u5) (.int .i64 G0) (.int .i64 G1) (.string ⟨G2.toArray⟩)
  try simp only [World.size_alloc] at Bnew
  have Bx_9 := Lib.hid (Bx_8.out.below hb Bx_8.out.lt)
  have By_9 := Lib.hid (By_8.out.below hb By_8.out.lt)
  have Bz_9 := Lib.hid (Bz_8.out.below hb Bz_8.out.lt)
  have H_9 := Lib.hid (H_8.out.trans (hb.mono H_8.out.size))
  clear hb H_8 Bx_8 By_8 Bz_8
  have Bg_9 := Lib.hid Bnew
  clear Bnew
  go_upto_region 7 with fail
  go_cut [71] from 56 to 72 (fun p71 wx => ∃ (U' : World), U' = wx ∧ p71 = .bool false ∧ Hid (Below ((u5).alloc (.cells #[.int .i64 G0, .int .i64 G1, .string ⟨G2.toArray⟩] 23)).heap.size ((u5).alloc (.cells #[.int .i64 G0, .int .i64 G1, .string ⟨G2.toArray⟩] 23)) wx))
  case first =>
    by_cases hx0 : x = 0
    · subst hx0
      have hy0 := gcd_nz' hg0
      have hney := h'.ne isNum_zero hy0
      obtain ⟨rfl, rfl, rfl⟩ : K = 1 ∧ N = 0 ∧ T = [] := (h.eq_iff isNum_zero).2 rfl
      refine region_grown (by kernel_rfl) ?_
      apply quiet_wanted
      · go_simp
      · intro W hW; have hV := Bg_9.out.below hW Bg_9.out.lt; have c0 := hV.c0; have c1 := hV.c1; have c2 := hV.c2; clear hV; unfold Oper.quietAt; go_simp; (try exact ⟨rfl, rfl⟩); (try rfl)
      (try simp only [Act.put, List.setIfInBounds_toArray, List.set_cons_zero, List.set_cons_succ])
      apply quiet_wanted
      · go_simp
      · intro W hW; unfold Oper.quietAt; go_simp; have hc := negative_num hg false (decide_eq_false (by omega)) W; unfold valV at hc; exact hc.mono fun e w' hr => ⟨hr.1, Grown.trans hW hr.2⟩
      (try simp only [Act.put, List.setIfInBounds_toArray, List.set_cons_zero, List.set_cons_succ])
      apply quiet_wanted
      · go_simp
      · intro W hW; unfold Oper.quietAt; go_simp; (try exact ⟨rfl, rfl⟩); (try rfl)
      (try simp only [Act.put, List.setIfInBounds_toArray, List.set_cons_zero, List.set_cons_succ])
      apply quiet_wanted
      · go_simp
      · intro W hW; have hV := Bg_9.out.below hW Bg_9.out.lt; have c0 := hV.c0; have c1 := hV.c1; have c2 := hV.c2; clear hV; unfold Oper.quietAt; go_simp; (try exact ⟨rfl, rfl⟩); (try rfl)
      (try simp only [Act.put, List.setIfInBounds_toArray, List.set_cons_zero, List.set_cons_succ])
      apply quiet_wanted
      · go_simp
      · intro W hW; unfold Oper.quietAt; go_simp; have hc := number_c 0 W; unfold valV at hc; exact hc.mono fun e w' hr => ⟨hr.1, Grown.trans hW hr.2⟩
      (try simp only [Act.put, List.setIfInBounds_toArray, List.set_cons_zero, List.set_cons_succ])
      refine quiet_wanted (v := .bool false) (by go_simp) (fun W hW => ?_) ?_
      · unfold Oper.quietAt; by_cases e1 : G0 = 1 <;> by_cases e2 : G1 = 0 <;> by_cases e3 : G2 = [] <;> first | (go_simp; done) | exact absurd ⟨e1, e2, e3⟩ (hne)
      (try simp only [Act.put, List.setIfInBounds_toArray, List.set_cons_zero, List.set_cons_succ])
      apply quiet_wanted
      · go_simp
      · intro W hW; have hV := Bx_9.out.below hW Bx_9.out.lt; have c0 := hV.c0; have c1 := hV.c1; have c2 := hV.c2; clear hV; unfold Oper.quietAt; go_simp; (try exact ⟨rfl, rfl⟩); (try rfl)
      (try simp only [Act.put, List.setIfInBounds_toArray, List.set_cons_zero, List.set_cons_succ])
      apply quiet_wanted
      · go_simp
      · intro W hW; unfold Oper.quietAt; go_simp; have hc := number_c 0 W; unfold valV at hc; exact hc.mono fun e w' hr => ⟨hr.1, Grown.trans hW hr.2⟩
      (try simp only [Act.put, List.setIfInBounds_toArray, List.set_cons_zero, List.set_cons_succ])
      apply quiet_wanted
      · go_simp
      · intro W hW; unfold Oper.quietAt; go_simp; (try exact ⟨rfl, rfl⟩); (try rfl)
      (try simp only [Act.put, List.setIfInBounds_toArray, List.set_cons_zero, List.set_cons_succ])
      apply quiet_wanted
      · go_simp
      · intro W hW; unfold Oper.quietAt; go_simp; (try exact ⟨rfl, rfl⟩); (try rfl)
      (try simp only [Act.put, List.setIfInBounds_toArray, List.set_cons_zero, List.set_cons_succ])
      apply quiet_wanted
      · go_simp
      · intro W hW; have hV := By_9.out.below hW By_9.out.lt; have c0 := hV.c0; have c1 := hV.c1; have c2 := hV.c2; clear hV; unfold Oper.quietAt; go_simp; (try exact ⟨rfl, rfl⟩); (try rfl)
      (try simp only [Act.put, List.setIfInBounds_toArray, List.set_cons_zero, List.set_cons_succ])
      apply quiet_wanted
      · go_simp
      · intro W hW; unfold Oper.quietAt; go_simp; have hc := number_c 0 W; unfold valV at hc; exact hc.mono fun e w' hr => ⟨hr.1, Grown.trans hW hr.2⟩
      (try simp only [Act.put, List.setIfInBounds_toArray, List.set_cons_zero, List.set_cons_succ])
      refine quiet_wanted (v := .bool false) (by go_simp) (fun W hW => ?_) ?_
      · unfold Oper.quietAt; by_cases e1 : K' = 1 <;> by_cases e2 : N' = 0 <;> by_cases e3 : T' = [] <;> first | (go_simp; done) | exact absurd ⟨e1, e2, e3⟩ (hney)
      (try simp only [Act.put, List.setIfInBounds_toArray, List.set_cons_zero, List.set_cons_succ])
      apply quiet_wanted
      · go_simp
      · intro W hW; unfold Oper.quietAt; go_simp; (try exact ⟨rfl, rfl⟩); (try rfl)
      (try simp only [Act.put, List.setIfInBounds_toArray, List.set_cons_zero, List.set_cons_succ])
      apply quiet_wanted
      · go_simp
      · intro W hW; unfold Oper.quietAt; go_simp; (try exact ⟨rfl, rfl⟩); (try rfl)
      (try simp only [Act.put, List.setIfInBounds_toArray, List.set_cons_zero, List.set_cons_succ])
      apply quiet_wanted
      · go_simp
      · intro W hW; unfold Oper.quietAt; go_simp; (try exact ⟨rfl, rfl⟩); (try rfl)
      (try simp only [Act.put, List.setIfInBounds_toArray, List.set_cons_zero, List.set_cons_succ])
      refine wpQuiet_nil ?_
      intro u6 hb
      unfold Grown at hb
      have HG := Lib.hid hb
      have Bx_10 := Lib.hid (Bx_9.out.below hb Bx_9.out.lt)
      have By_10 := Lib.hid (By_9.out.below hb By_9.out.lt)
      have Bz_10 := Lib.hid (Bz_9.out.below hb Bz_9.out.lt)
      have Bg_10 := Lib.hid (Bg_9.out.below hb Bg_9.out.lt)
      have H_10 := Lib.hid (H_9.out.trans (hb.mono H_9.out.size))
      clear hb H_9 Bx_9 By_9 Bz_9 Bg_9
      go_wp2_with fail
      go_meet
      exact ⟨_, rfl, rfl, HG⟩
    · have hnex := h.ne isNum_zero hx0
      refine region_grown (by kernel_rfl) ?_
      apply quiet_wanted
      · go_simp
      · intro W hW; have hV := Bg_9.out.below hW Bg_9.out.lt; have c0 := hV.c0; have c1 := hV.c1; have c2 := hV.c2; clear hV; unfold Oper.quietAt; go_simp; (try exact ⟨rfl, rfl⟩); (try rfl)
      (try simp only [Act.put, List.setIfInBounds_toArray, List.set_cons_zero, List.set_cons_succ])
      apply quiet_wanted
      · go_simp
      · intro W hW; unfold Oper.quietAt; go_simp; have hc := negative_num hg false (decide_eq_false (by omega)) W; unfold valV at hc; exact hc.mono fun e w' hr => ⟨hr.1, Grown.trans hW hr.2⟩
      (try simp only [Act.put, List.setIfInBounds_toArray, List.set_cons_zero, List.set_cons_succ])
      apply quiet_wanted
      · go_simp
      · intro W hW; unfold Oper.quietAt; go_simp; (try exact ⟨rfl, rfl⟩); (try rfl)
      (try simp only [Act.put, List.setIfInBounds_toArray, List.set_cons_zero, List.set_cons_succ])
      apply quiet_wanted
      · go_simp
      · intro W hW; have hV := Bg_9.out.below hW Bg_9.out.lt; have c0 := hV.c0; have c1 := hV.c1; have c2 := hV.c2; clear hV; unfold Oper.quietAt; go_simp; (try exact ⟨rfl, rfl⟩); (try rfl)
      (try simp only [Act.put, List.setIfInBounds_toArray, List.set_cons_zero, List.set_cons_succ])
      apply quiet_wanted
      · go_simp
      · intro W hW; unfold Oper.quietAt; go_simp; have hc := number_c 0 W; unfold valV at hc; exact hc.mono fun e w' hr => ⟨hr.1, Grown.trans hW hr.2⟩
      (try simp only [Act.put, List.setIfInBounds_toArray, List.set_cons_zero, List.set_cons_succ])
      refine quiet_wanted (v := .bool false) (by go_simp) (fun W hW => ?_) ?_
      · unfold Oper.quietAt; by_cases e1 : G0 = 1 <;> by_cases e2 : G1 = 0 <;> by_cases e3 : G2 = [] <;> first | (go_simp; done) | exact absurd ⟨e1, e2, e3⟩ (hne)
      (try simp only [Act.put, List.setIfInBounds_toArray, List.set_cons_zero, List.set_cons_succ])
      apply quiet_wanted
      · go_simp
      · intro W hW; have hV := Bx_9.out.below hW Bx_9.out.lt; have c0 := hV.c0; have c1 := hV.c1; have c2 := hV.c2; clear hV; unfold Oper.quietAt; go_simp; (try exact ⟨rfl, rfl⟩); (try rfl)
      (try simp only [Act.put, List.setIfInBounds_toArray, List.set_cons_zero, List.set_cons_succ])
      apply quiet_wanted
      · go_simp
      · intro W hW; unfold Oper.quietAt; go_simp; have hc := number_c 0 W; unfold valV at hc; exact hc.mono fun e w' hr => ⟨hr.1, Grown.trans hW hr.2⟩
      (try simp only [Act.put, List.setIfInBounds_toArray, List.set_cons_zero, List.set_cons_succ])
      refine quiet_wanted (v := .bool false) (by go_simp) (fun W hW => ?_) ?_
      · unfold Oper.quietAt; by_cases e1 : K = 1 <;> by_cases e2 : N = 0 <;> by_cases e3 : T = [] <;> first | (go_simp; done) | exact absurd ⟨e1, e2, e3⟩ (hnex)
      (try simp only [Act.put, List.setIfInBounds_toArray, List.set_cons_zero, List.set_cons_succ])
      apply quiet_wanted
      · go_simp
      · intro W hW; unfold Oper.quietAt; go_simp; (try exact ⟨rfl, rfl⟩); (try rfl)
      (try simp only [Act.put, List.setIfInBounds_toArray, List.set_cons_zero, List.set_cons_succ])
      refine quiet_unwanted (by first | (go_simp; done) | (go_simp; intro hh; cases hh)) ?_
      (try simp only [Act.put, List.setIfInBounds_toArray, List.set_cons_zero, List.set_cons_succ])
      refine quiet_unwanted (by first | (go_simp; done) | (go_simp; intro hh; cases hh)) ?_
      (try simp only [Act.put, List.setIfInBounds_toArray, List.set_cons_zero, List.set_cons_succ])
      refine quiet_unwanted (by first | (go_simp; done) | (go_simp; intro hh; cases hh)) ?_
      (try simp only [Act.put, List.setIfInBounds_toArray, List.set_cons_zero, List.set_cons_succ])
      apply quiet_wanted
      · go_simp
      · intro W hW; unfold Oper.quietAt; go_simp; (try exact ⟨rfl, rfl⟩); (try rfl)
      (try simp only [Act.put, List.setIfInBounds_toArray, List.set_cons_zero, List.set_cons_succ])
      apply quiet_wanted
      · go_simp
      · intro W hW; unfold Oper.quietAt; go_simp; (try exact ⟨rfl, rfl⟩); (try rfl)
      (try simp only [Act.put, List.setIfInBounds_toArray, List.set_cons_zero, List.set_cons_succ])
      apply quiet_wanted
      · go_simp
      · intro W hW; unfold Oper.quietAt; go_simp; (try exact ⟨rfl, rfl⟩); (try rfl)
      (try simp only [Act.put, List.setIfInBounds_toArray, List.set_cons_zero, List.set_cons_succ])
      refine wpQuiet_nil ?_
      intro u6 hb
      unfold Grown at hb
      have HG := Lib.hid hb
      have Bx_10 := Lib.hid (Bx_9.out.below hb Bx_9.out.lt)
      have By_10 := Lib.hid (By_9.out.below hb By_9.out.lt)
      have Bz_10 := Lib.hid (Bz_9.out.below hb Bz_9.out.lt)
      have Bg_10 := Lib.hid (Bg_9.out.below hb Bg_9.out.lt)
      have H_10 := Lib.hid (H_9.out.trans (hb.mono H_9.out.size))
      clear hb H_9 Bx_9 By_9 Bz_9 Bg_9
      go_wp2_with fail
      go_meet
      exact ⟨_, rfl, rfl, HG⟩
  case rest =>
    obtain ⟨u55, rfl, rfl, hbn⟩ := hcut
    have hb := hbn.out
    clear hbn
    have Bx_10 := Lib.hid (Bx_9.out.below hb Bx_9.out.lt)
    have By_10 := Lib.hid (By_9.out.below hb By_9.out.lt)
    have Bz_10 := Lib.hid (Bz_9.out.below hb Bz_9.out.lt)
    have Bg_10 := Lib.hid (Bg_9.out.below hb Bg_9.out.lt)
    have H_10 := Lib.hid (H_9.out.trans (hb.mono H_9.out.size))
    clear hb H_9 Bx_9 By_9 Bz_9 Bg_9
    go_upto_region 9 with fail
    refine region_grown (by kernel_rfl) ?_
    apply quiet_wanted
    · go_simp
    · intro W hW; have hV := Bg_10.out.below hW Bg_10.out.lt; have c0 := hV.c0; have c1 := hV.c1; have c2 := hV.c2; clear hV; unfold Oper.quietAt; go_simp; (try exact ⟨rfl, rfl⟩); (try rfl)
    (try simp only [Act.put, List.setIfInBounds_toArray, List.set_cons_zero, List.set_cons_succ])
    apply quiet_wanted
    · go_simp
    · intro W hW; unfold Oper.quietAt; go_simp; have hc := number_c 0 W; unfold valV at hc; exact hc.mono fun e w' hr => ⟨hr.1, Grown.trans hW hr.2⟩
    (try simp only [Act.put, List.setIfInBounds_toArray, List.set_cons_zero, List.set_cons_succ])
    refine quiet_wanted (v := .bool false) (by go_simp) (fun W hW => ?_) ?_
    · unfold Oper.quietAt; by_cases e1 : G0 = 1 <;> by_cases e2 : G1 = 0 <;> by_cases e3 : G2 = [] <;> first | (go_simp; done) | exact absurd ⟨e1, e2, e3⟩ (hne)
    (try simp only [Act.put, List.setIfInBounds_toArray, List.set_cons_zero, List.set_cons_succ])
    refine wpQuiet_nil ?_
    intro u56 hb
    unfold Grown at hb
    have Bx_11 := Lib.hid (Bx_10.out.below hb Bx_10.out.lt)
    have By_11 := Lib.hid (By_10.out.below hb By_10.out.lt)
    have Bz_11 := Lib.hid (Bz_10.out.below hb Bz_10.out.lt)
    have Bg_11 := Lib.hid (Bg_10.out.below hb Bg_10.out.lt)
    have H_11 := Lib.hid (H_10.out.trans (hb.mono H_10.out.size))
    clear hb H_10 Bx_10 By_10 Bz_10 Bg_10
    have qx0 := Bx_11.out.c0
    have qx1 := Bx_11.out.c1
    have qx2 := Bx_11.out.c2
    have qg0 := Bg_11.out.c0
    have qg1 := Bg_11.out.c1
    have qg2 := Bg_11.out.c2
    go_wp2_with fail
    clear qx0 qx1 qx2 qg0 qg1 qg2
    have hc := Mod_num h hg hg0 (gcd_rest_left x y) isNum_zero (u56) (hw.below H_11.out)
    unfold valV at hc
    refine hc.mono ?_
    rintro e u57 ⟨rfl, hb⟩
    clear hc
    have Bx_12 := Lib.hid (Bx_11.out.below hb Bx_11.out.lt)
    have By_12 := Lib.hid (By_11.out.below hb By_11.out.lt)
    have Bz_12 := Lib.hid (Bz_11.out.below hb Bz_11.out.lt)
    have Bg_12 := Lib.hid (Bg_11.out.below hb Bg_11.out.lt)
    have H_12 := Lib.hid (H_11.out.trans (hb.mono H_11.out.size))
    clear hb H_11 Bx_11 By_11 Bz_11 Bg_11
    have hb : Below (u57).heap.size (u57) ((u57).alloc (.cells #[.int .i64 1, .int .i64 0, .string ⟨#[]⟩] 23)) := (Below.refl _ (u57)).alloc (Nat.le_refl _) _
    have Bnew := VB.new (u57) (.int .i64 1) (.int .i64 0) (.string ⟨#[]⟩)
    try simp only [World.size_alloc] at Bnew
    have Bx_13 := Lib.hid (Bx_12.out.below hb Bx_12.out.lt)
    have By_13 := Lib.hid (By_12.out.below hb By_12.out.lt)
    have Bz_13 := Lib.hid (Bz_12.out.below hb Bz_12.out.lt)
    have Bg_13 := Lib.hid (Bg_12.out.below hb Bg_12.out.lt)
    have H_13 := Lib.hid (H_12.out.trans (hb.mono H_12.out.size))
    clear hb H_12 Bx_12 By_12 Bz_12 Bg_12
    have Ba_13 := Lib.hid Bnew
    clear Bnew
    have qy0 := By_13.out.c0
    have qy1 := By_13.out.c1
    have qy2 := By_13.out.c2
    have qg0 := Bg_13.out.c0
    have qg1 := Bg_13.out.c1
    have qg2 := Bg_13.out.c2
    go_wp2_with fail
    clear qy0 qy1 qy2 qg0 qg1 qg2
    have hc := Mod_num h' hg hg0 (gcd_rest_right x y) isNum_zero ((u57).alloc (.cells #[.int .i64 1, .int .i64 0, .string ⟨#[]⟩] 23)) (hw.below H_13.out)
    unfold valV at hc
    refine hc.mono ?_
    rintro e u58 ⟨rfl, hb⟩
    clear hc
    have Bx_14 := Lib.hid (Bx_13.out.below hb Bx_13.out.lt)
    have By_14 := Lib.hid (By_13.out.below hb By_13.out.lt)
    have Bz_14 := Lib.hid (Bz_13.out.below hb Bz_13.out.lt)
    have Bg_14 := Lib.hid (Bg_13.out.below hb Bg_13.out.lt)
    have Ba_14 := Lib.hid (Ba_13.out.below hb Ba_13.out.lt)
    have H_14 := Lib.hid (H_13.out.trans (hb.mono H_13.out.size))
    clear hb H_13 Bx_13 By_13 Bz_13 Bg_13 Ba_13
    have hb : Below (u58).heap.size (u58) ((u58).alloc (.cells #[.int .i64 1, .int .i64 0, .string ⟨#[]⟩] 23)) := (Below.refl _ (u58)).alloc (Nat.le_refl _) _
    have Bnew := VB.new (u58) (.int .i64 1) (.int .i64 0) (.string ⟨#[]⟩)
    try simp only [World.size_alloc] at Bnew
    have Bx_15 := Lib.hid (Bx_14.out.below hb Bx_14.out.lt)
    have By_15 := Lib.hid (By_14.out.below hb By_14.out.lt)
    have Bz_15 := Lib.hid (Bz_14.out.below hb Bz_14.out.lt)
    have Bg_15 := Lib.hid (Bg_14.out.below hb Bg_14.out.lt)
    have Ba_15 := Lib.hid (Ba_14.out.below hb Ba_14.out.lt)
    have H_15 := Lib.hid (H_14.out.trans (hb.mono H_14.out.size))
    clear hb H_14 Bx_14 By_14 Bz_14 Bg_14 Ba_14
    have Bb_15 := Lib.hid Bnew
    clear Bnew
    go_upto_region 13 with fail
    refine region_grown (by kernel_rfl) ?_
    apply quiet_wanted
    · go_simp
    · intro W hW; unfold Oper.quietAt; go_simp; (try exact ⟨rfl, rfl⟩); (try rfl)
    (try simp only [Act.put, List.setIfInBounds_toArray, List.set_cons_zero, List.set_cons_succ])
    apply quiet_wanted
    · go_simp
    · intro W hW; unfold Oper.quietAt; go_simp; (try exact ⟨rfl, rfl⟩); (try rfl)
    (try simp only [Act.put, List.setIfInBounds_toArray, List.set_cons_zero, List.set_cons_succ])
    apply quiet_wanted
    · go_simp
    · intro W hW; unfold Oper.quietAt; go_simp; (try exact ⟨rfl, rfl⟩); (try rfl)
    (try simp only [Act.put, List.setIfInBounds_toArray, List.set_cons_zero, List.set_cons_succ])
    apply quiet_wanted
    · go_simp
    · intro W hW; unfold Oper.quietAt; go_simp; (try exact ⟨rfl, rfl⟩); (try rfl)
    (try simp only [Act.put, List.setIfInBounds_toArray, List.set_cons_zero, List.set_cons_succ])
    apply quiet_wanted
    · go_simp
    · intro W hW; unfold Oper.quietAt; go_simp; (try exact ⟨rfl, rfl⟩); (try rfl)
    (try simp only [Act.put, List.setIfInBounds_toArray, List.set_cons_zero, List.set_cons_succ])
    apply quiet_wanted
    · go_simp
    · intro W hW; unfold Oper.quietAt; go_simp; (try exact ⟨rfl, rfl⟩); (try rfl)
    (try simp only [Act.put, List.setIfInBounds_toArray, List.set_cons_zero, List.set_cons_succ])
    apply quiet_wanted
    · go_simp
    · intro W hW; unfold Oper.quietAt; go_simp; (try exact ⟨rfl, rfl⟩); (try rfl)
    (try simp only [Act.put, List.setIfInBounds_toArray, List.set_cons_zero, List.set_cons_succ])
    apply quiet_wanted
    · go_simp
    · intro W hW; have hV := Ba_15.out.below hW Ba_15.out.lt; have c0 := hV.c0; have c1 := hV.c1; have c2 := hV.c2; clear hV; unfold Oper.quietAt; go_simp; (try exact ⟨rfl, rfl⟩); (try rfl)
    (try simp only [Act.put, List.setIfInBounds_toArray, List.set_cons_zero, List.set_cons_succ])
    apply quiet_wanted
    · go_simp
    · intro W hW; unfold Oper.quietAt; go_simp; have hc := number_c 0 W; unfold valV at hc; exact hc.mono fun e w' hr => ⟨hr.1, Grown.trans hW hr.2⟩
    (try simp only [Act.put, List.setIfInBounds_toArray, List.set_cons_zero, List.set_cons_succ])
    apply quiet_wanted
    · go_simp
    · intro W hW; unfold Oper.quietAt; go_simp; (try exact ⟨rfl, rfl⟩); (try rfl)
    (try simp only [Act.put, List.setIfInBounds_toArray, List.set_cons_zero, List.set_cons_succ])
    apply quiet_wanted
    · go_simp
    · intro W hW; unfold Oper.quietAt; go_simp; (try exact ⟨rfl, rfl⟩); (try rfl)
    (try simp only [Act.put, List.setIfInBounds_toArray, List.set_cons_zero, List.set_cons_succ])
    apply quiet_wanted
    · go_simp
    · intro W hW; unfold Oper.quietAt; go_simp; (try exact ⟨rfl, rfl⟩); (try rfl)
    (try simp only [Act.put, List.setIfInBounds_toArray, List.set_cons_zero, List.set_cons_succ])
    apply quiet_wanted
    · go_simp
    · intro W hW; have hV := Bb_15.out.below hW Bb_15.out.lt; have c0 := hV.c0; have c1 := hV.c1; have c2 := hV.c2; clear hV; unfold Oper.quietAt; go_simp; (try exact ⟨rfl, rfl⟩); (try rfl)
    (try simp only [Act.put, List.setIfInBounds_toArray, List.set_cons_zero, List.set_cons_succ])
    apply quiet_wanted
    · go_simp
    · intro W hW; unfold Oper.quietAt; go_simp; have hc := number_c 0 W; unfold valV at hc; exact hc.mono fun e w' hr => ⟨hr.1, Grown.trans hW hr.2⟩
    (try simp only [Act.put, List.setIfInBounds_toArray, List.set_cons_zero, List.set_cons_succ])
    apply quiet_wanted
    · go_simp
    · intro W hW; unfold Oper.quietAt; go_simp; (try exact ⟨rfl, rfl⟩); (try rfl)
    (try simp only [Act.put, List.setIfInBounds_toArray, List.set_cons_zero, List.set_cons_succ])
    apply quiet_wanted
    · go_simp
    · intro W hW; unfold Oper.quietAt; go_simp; (try exact ⟨rfl, rfl⟩); (try rfl)
    (try simp only [Act.put, List.setIfInBounds_toArray, List.set_cons_zero, List.set_cons_succ])
    refine wpQuiet_nil ?_
    intro u59 hb
    unfold Grown at hb
    have Bx_16 := Lib.hid (Bx_15.out.below hb Bx_15.out.lt)
    have By_16 := Lib.hid (By_15.out.below hb By_15.out.lt)
    have Bz_16 := Lib.hid (Bz_15.out.below hb Bz_15.out.lt)
    have Bg_16 := Lib.hid (Bg_15.out.below hb Bg_15.out.lt)
    have Ba_16 := Lib.hid (Ba_15.out.below hb Ba_15.out.lt)
    have Bb_16 := Lib.hid (Bb_15.out.below hb Bb_15.out.lt)
    have H_16 := Lib.hid (H_15.out.trans (hb.mono H_15.out.size))
    clear hb H_15 Bx_15 By_15 Bz_15 Bg_15 Ba_15 Bb_15
    have qx0 := Bx_16.out.c0
    have qx1 := Bx_16.out.c1
    have qx2 := Bx_16.out.c2
    have qz0 := Bz_16.out.c0
    have qz1 := Bz_16.out.c1
    have qz2 := Bz_16.out.c2
    go_wp2_with fail
    clear qx0 qx1 qx2 qz0 qz1 qz2
    have hc := Mod_num h h'' hz0 rfl hc (u59) (hw.below H_16.out)
    unfold valV at hc
    refine hc.mono ?_
    rintro e u60 ⟨rfl, hb⟩
    clear hc
    have Bx_17 := Lib.hid (Bx_16.out.below hb Bx_16.out.lt)
    have By_17 := Lib.hid (By_16.out.below hb By_16.out.lt)
    have Bz_17 := Lib.hid (Bz_16.out.below hb Bz_16.out.lt)
    have Bg_17 := Lib.hid (Bg_16.out.below hb Bg_16.out.lt)
    have Ba_17 := Lib.hid (Ba_16.out.below hb Ba_16.out.lt)
    have Bb_17 := Lib.hid (Bb_16.out.below hb Bb_16.out.lt)
    have H_17 := Lib.hid (H_16.out.trans (hb.mono H_16.out.size))
    clear hb H_16 Bx_16 By_16 Bz_16 Bg_16 Ba_16 Bb_16
    have hb : Below (u60).heap.size (u60) ((u60).alloc (.cells #[.int .i64 C0, .int .i64 C1, .string ⟨C2.toArray⟩] 23)) := (Below.refl _ (u60)).alloc (Nat.le_refl _) _
    have Bnew := VB.new (u60) (.int .i64 C0) (.int .i64 C1) (.string ⟨C2.toArray⟩)
    try simp only [World.size_alloc] at Bnew
    have Bx_18 := Lib.hid (Bx_17.out.below hb Bx_17.out.lt)
    have By_18 := Lib.hid (By_17.out.below hb By_17.out.lt)
    have Bz_18 := Lib.hid (Bz_17.out.below hb Bz_17.out.lt)
    have Bg_18 := Lib.hid (Bg_17.out.below hb Bg_17.out.lt)
    have Ba_18 := Lib.hid (Ba_17.out.below hb Ba_17.out.lt)
    have Bb_18 := Lib.hid (Bb_17.out.below hb Bb_17.out.lt)
    have H_18 := Lib.hid (H_17.out.trans (hb.mono H_17.out.size))
    clear hb H_17 Bx_17 By_17 Bz_17 Bg_17 Ba_17 Bb_17
    have Bc_18 := Lib.hid Bnew
    clear Bnew
    have qy0 := By_18.out.c0
    have qy1 := By_18.out.c1
    have qy2 := By_18.out.c2
    have qz0 := Bz_18.out.c0
    have qz1 := Bz_18.out.c1
    have qz2 := Bz_18.out.c2
    go_wp2_with fail
    clear qy0 qy1 qy2 qz0 qz1 qz2
    have hc := Mod_num h' h'' hz0 rfl hd ((u60).alloc (.cells #[.int .i64 C0, .int .i64 C1, .string ⟨C2.toArray⟩] 23)) (hw.below H_18.out)
    unfold valV at hc
    refine hc.mono ?_
    rintro e u61 ⟨rfl, hb⟩
    clear hc
    have Bx_19 := Lib.hid (Bx_18.out.below hb Bx_18.out.lt)
    have By_19 := Lib.hid (By_18.out.below hb By_18.out.lt)
    have Bz_19 := Lib.hid (Bz_18.out.below hb Bz_18.out.lt)
    have Bg_19 := Lib.hid (Bg_18.out.below hb Bg_18.out.lt)
    have Ba_19 := Lib.hid (Ba_18.out.below hb Ba_18.out.lt)
    have Bb_19 := Lib.hid (Bb_18.out.below hb Bb_18.out.lt)
    have Bc_19 := Lib.hid (Bc_18.out.below hb Bc_18.out.lt)
    have H_19 := Lib.hid (H_18.out.trans (hb.mono H_18.out.size))
    clear hb H_18 Bx_18 By_18 Bz_18 Bg_18 Ba_18 Bb_18 Bc_18
    have hb : Below (u61).heap.size (u61) ((u61).alloc (.cells #[.int .i64 D0, .int .i64 D1, .string ⟨D2.toArray⟩] 23)) := (Below.refl _ (u61)).alloc (Nat.le_refl _) _
    have Bnew := VB.new (u61) (.int .i64 D0) (.int .i64 D1) (.string ⟨D2.toArray⟩)
    try simp only [World.size_alloc] at Bnew
    have Bx_20 := Lib.hid (Bx_19.out.below hb Bx_19.out.lt)
    have By_20 := Lib.hid (By_19.out.below hb By_19.out.lt)
    have Bz_20 := Lib.hid (Bz_19.out.below hb Bz_19.out.lt)
    have Bg_20 := Lib.hid (Bg_19.out.below hb Bg_19.out.lt)
    have Ba_20 := Lib.hid (Ba_19.out.below hb Ba_19.out.lt)
    have Bb_20 := Lib.hid (Bb_19.out.below hb Bb_19.out.lt)
    have Bc_20 := Lib.hid (Bc_19.out.below hb Bc_19.out.lt)
    have H_20 := Lib.hid (H_19.out.trans (hb.mono H_19.out.size))
    clear hb H_19 Bx_19 By_19 Bz_19 Bg_19 Ba_19 Bb_19 Bc_19
    have Bd_20 := Lib.hid Bnew
    clear Bnew
    by_cases hc0 : x.fmod z = 0
    · obtain ⟨rfl, rfl, rfl⟩ : C0 = 1 ∧ C1 = 0 ∧ C2 = [] := (hc.eq_iff isNum_zero).2 hc0
      by_cases hd0 : y.fmod z = 0
      · obtain ⟨rfl, rfl, rfl⟩ : D0 = 1 ∧ D1 = 0 ∧ D2 = [] := (hd.eq_iff isNum_zero).2 hd0
        go_upto_region 17 with fail
        refine region_grown (by kernel_rfl) ?_
        apply quiet_wanted
        · go_simp
        · intro W hW; unfold Oper.quietAt; go_simp; (try exact ⟨rfl, rfl⟩); (try rfl)
        (try simp only [Act.put, List.setIfInBounds_toArray, List.set_cons_zero, List.set_cons_succ])
        apply quiet_wanted
        · go_simp
        · intro W hW; unfold Oper.quietAt; go_simp; (try exact ⟨rfl, rfl⟩); (try rfl)
        (try simp only [Act.put, List.setIfInBounds_toArray, List.set_cons_zero, List.set_cons_succ])
        apply quiet_wanted
        · go_simp
        · intro W hW; unfold Oper.quietAt; go_simp; (try exact ⟨rfl, rfl⟩); (try rfl)
        (try simp only [Act.put, List.setIfInBounds_toArray, List.set_cons_zero, List.set_cons_succ])
        apply quiet_wanted
        · go_simp
        · intro W hW; unfold Oper.quietAt; go_simp; (try exact ⟨rfl, rfl⟩); (try rfl)
        (try simp only [Act.put, List.setIfInBounds_toArray, List.set_cons_zero, List.set_cons_succ])
        apply quiet_wanted
        · go_simp
        · intro W hW; unfold Oper.quietAt; go_simp; (try exact ⟨rfl, rfl⟩); (try rfl)
        (try simp only [Act.put, List.setIfInBounds_toArray, List.set_cons_zero, List.set_cons_succ])
        apply quiet_wanted
        · go_simp
        · intro W hW; unfold Oper.quietAt; go_simp; (try exact ⟨rfl, rfl⟩); (try rfl)
        (try simp only [Act.put, List.setIfInBounds_toArray, List.set_cons_zero, List.set_cons_succ])
        apply quiet_wanted
        · go_simp
        · intro W hW; unfold Oper.quietAt; go_simp; (try exact ⟨rfl, rfl⟩); (try rfl)
        (try simp only [Act.put, List.setIfInBounds_toArray, List.set_cons_zero, List.set_cons_succ])
        apply quiet_wanted
        · go_simp
        · intro W hW; have hV := Bc_20.out.below hW Bc_20.out.lt; have c0 := hV.c0; have c1 := hV.c1; have c2 := hV.c2; clear hV; unfold Oper.quietAt; go_simp; (try exact ⟨rfl, rfl⟩); (try rfl)
        (try simp only [Act.put, List.setIfInBounds_toArray, List.set_cons_zero, List.set_cons_succ])
        apply quiet_wanted
        · go_simp
        · intro W hW; unfold Oper.quietAt; go_simp; have hc := number_c 0 W; unfold valV at hc; exact hc.mono fun e w' hr => ⟨hr.1, Grown.trans hW hr.2⟩
        (try simp only [Act.put, List.setIfInBounds_toArray, List.set_cons_zero, List.set_cons_succ])
        apply quiet_wanted
        · go_simp
        · intro W hW; unfold Oper.quietAt; go_simp; (try exact ⟨rfl, rfl⟩); (try rfl)
        (try simp only [Act.put, List.setIfInBounds_toArray, List.set_cons_zero, List.set_cons_succ])
        apply quiet_wanted
        · go_simp
        · intro W hW; unfold Oper.quietAt; go_simp; (try exact ⟨rfl, rfl⟩); (try rfl)
        (try simp only [Act.put, List.setIfInBounds_toArray, List.set_cons_zero, List.set_cons_succ])
        apply quiet_wanted
        · go_simp
        · intro W hW; unfold Oper.quietAt; go_simp; (try exact ⟨rfl, rfl⟩); (try rfl)
        (try simp only [Act.put, List.setIfInBounds_toArray, List.set_cons_zero, List.set_cons_succ])
        apply quiet_wanted
        · go_simp
        · intro W hW; have hV := Bd_20.out.below hW Bd_20.out.lt; have c0 := hV.c0; have c1 := hV.c1; have c2 := hV.c2; clear hV; unfold Oper.quietAt; go_simp; (try exact ⟨rfl, rfl⟩); (try rfl)
        (try simp only [Act.put, List.setIfInBounds_toArray, List.set_cons_zero, List.set_cons_succ])
        apply quiet_wanted
        · go_simp
        · intro W hW; unfold Oper.quietAt; go_simp; have hc := number_c 0 W; unfold valV at hc; exact hc.mono fun e w' hr => ⟨hr.1, Grown.trans hW hr.2⟩
        (try simp only [Act.put, List.setIfInBounds_toArray, List.set_cons_zero, List.set_cons_succ])
        apply quiet_wanted
        · go_simp
        · intro W hW; unfold Oper.quietAt; go_simp; (try exact ⟨rfl, rfl⟩); (try rfl)
        (try simp only [Act.put, List.setIfInBounds_toArray, List.set_cons_zero, List.set_cons_succ])
        apply quiet_wanted
        · go_simp
        · intro W hW; unfold Oper.quietAt; go_simp; (try exact ⟨rfl, rfl⟩); (try rfl)
        (try simp only [Act.put, List.setIfInBounds_toArray, List.set_cons_zero, List.set_cons_succ])
        refine wpQuiet_nil ?_
        intro u62 hb
        unfold Grown at hb
        have Bx_21 := Lib.hid (Bx_20.out.below hb Bx_20.out.lt)
        have By_21 := Lib.hid (By_20.out.below hb By_20.out.lt)
        have Bz_21 := Lib.hid (Bz_20.out.below hb Bz_20.out.lt)
        have Bg_21 := Lib.hid (Bg_20.out.below hb Bg_20.out.lt)
        have Ba_21 := Lib.hid (Ba_20.out.below hb Ba_20.out.lt)
        have Bb_21 := Lib.hid (Bb_20.out.below hb Bb_20.out.lt)
        have Bc_21 := Lib.hid (Bc_20.out.below hb Bc_20.out.lt)
        have Bd_21 := Lib.hid (Bd_20.out.below hb Bd_20.out.lt)
        have H_21 := Lib.hid (H_20.out.trans (hb.mono H_20.out.size))
        clear hb H_20 Bx_20 By_20 Bz_20 Bg_20 Ba_20 Bb_20 Bc_20 Bd_20
        have qg0 := Bg_21.out.c0
        have qg1 := Bg_21.out.c1
        have qg2 := Bg_21.out.c2
        have qz0 := Bz_21.out.c0
        have qz1 := Bz_21.out.c1
        have qz2 := Bz_21.out.c2
        go_wp2_with fail
        clear qg0 qg1 qg2 qz0 qz1 qz2
        have hc := Mod_num hg h'' hz0 (gcd_rest_of hc0 hd0) isNum_zero (u62) (hw.below H_21.out)
        unfold valV at hc
        refine hc.mono ?_
        rintro e u63 ⟨rfl, hb⟩
        clear hc
        have Bx_22 := Lib.hid (Bx_21.out.below hb Bx_21.out.lt)
        have By_22 := Lib.hid (By_21.out.below hb By_21.out.lt)
        have Bz_22 := Lib.hid (Bz_21.out.below hb Bz_21.out.lt)
        have Bg_22 := Lib.hid (Bg_21.out.below hb Bg_21.out.lt)
        have Ba_22 := Lib.hid (Ba_21.out.below hb Ba_21.out.lt)
        have Bb_22 := Lib.hid (Bb_21.out.below hb Bb_21.out.lt)
        have Bc_22 := Lib.hid (Bc_21.out.below hb Bc_21.out.lt)
        have Bd_22 := Lib.hid (Bd_21.out.below hb Bd_21.out.lt)
        have H_22 := Lib.hid (H_21.out.trans (hb.mono H_21.out.size))
        clear hb H_21 Bx_21 By_21 Bz_21 Bg_21 Ba_21 Bb_21 Bc_21 Bd_21
        have hb : Below (u63).heap.size (u63) ((u63).alloc (.cells #[.int .i64 1, .int .i64 0, .string ⟨#[]⟩] 23)) := (Below.refl _ (u63)).alloc (Nat.le_refl _) _
        have Bnew := VB.new (u63) (.int .i64 1) (.int .i64 0) (.string ⟨#[]⟩)
        try simp only [World.size_alloc] at Bnew
        have Bx_23 := Lib.hid (Bx_22.out.below hb Bx_22.out.lt)
        have By_23 := Lib.hid (By_22.out.below hb By_22.out.lt)
        have Bz_23 := Lib.hid (Bz_22.out.below hb Bz_22.out.lt)
        have Bg_23 := Lib.hid (Bg_22.out.below hb Bg_22.out.lt)
        have Ba_23 := Lib.hid (Ba_22.out.below hb Ba_22.out.lt)
        have Bb_23 := Lib.hid (Bb_22.out.below hb Bb_22.out.lt)
        have Bc_23 := Lib.hid (Bc_22.out.below hb Bc_22.out.lt)
        have Bd_23 := Lib.hid (Bd_22.out.below hb Bd_22.out.lt)
        have H_23 := Lib.hid (H_22.out.trans (hb.mono H_22.out.size))
        clear hb H_22 Bx_22 By_22 Bz_22 Bg_22 Ba_22 Bb_22 Bc_22 Bd_22
        have Br_23 := Lib.hid Bnew
        clear Bnew
        go_upto_region 19 with fail
        refine region_grown (by kernel_rfl) ?_
        apply quiet_wanted
        · go_simp
        · intro W hW; unfold Oper.quietAt; go_simp; (try exact ⟨rfl, rfl⟩); (try rfl)
        (try simp only [Act.put, List.setIfInBounds_toArray, List.set_cons_zero, List.set_cons_succ])
        apply quiet_wanted
        · go_simp
        · intro W hW; unfold Oper.quietAt; go_simp; (try exact ⟨rfl, rfl⟩); (try rfl)
        (try simp only [Act.put, List.setIfInBounds_toArray, List.set_cons_zero, List.set_cons_succ])
        apply quiet_wanted
        · go_simp
        · intro W hW; unfold Oper.quietAt; go_simp; (try exact ⟨rfl, rfl⟩); (try rfl)
        (try simp only [Act.put, List.setIfInBounds_toArray, List.set_cons_zero, List.set_cons_succ])
        apply quiet_wanted
        · go_simp
        · intro W hW; have hV := Br_23.out.below hW Br_23.out.lt; have c0 := hV.c0; have c1 := hV.c1; have c2 := hV.c2; clear hV; unfold Oper.quietAt; go_simp; (try exact ⟨rfl, rfl⟩); (try rfl)
        (try simp only [Act.put, List.setIfInBounds_toArray, List.set_cons_zero, List.set_cons_succ])
        apply quiet_wanted
        · go_simp
        · intro W hW; unfold Oper.quietAt; go_simp; have hc := number_c 0 W; unfold valV at hc; exact hc.mono fun e w' hr => ⟨hr.1, Grown.trans hW hr.2⟩
        (try simp only [Act.put, List.setIfInBounds_toArray, List.set_cons_zero, List.set_cons_succ])
        apply quiet_wanted
        · go_simp
        · intro W hW; unfold Oper.quietAt; go_simp; (try exact ⟨rfl, rfl⟩); (try rfl)
        (try simp only [Act.put, List.setIfInBounds_toArray, List.set_cons_zero, List.set_cons_succ])
        apply quiet_wanted
        · go_simp
        · intro W hW; unfold Oper.quietAt; go_simp; (try exact ⟨rfl, rfl⟩); (try rfl)
        (try simp only [Act.put, List.setIfInBounds_toArray, List.set_cons_zero, List.set_cons_succ])
        refine wpQuiet_nil ?_
        intro u64 hb
        unfold Grown at hb
        have Bx_24 := Lib.hid (Bx_23.out.below hb Bx_23.out.lt)
        have By_24 := Lib.hid (By_23.out.below hb By_23.out.lt)
        have Bz_24 := Lib.hid (Bz_23.out.below hb Bz_23.out.lt)
        have Bg_24 := Lib.hid (Bg_23.out.below hb Bg_23.out.lt)
        have Ba_24 := Lib.hid (Ba_23.out.below hb Ba_23.out.lt)
        have Bb_24 := Lib.hid (Bb_23.out.below hb Bb_23.out.lt)
        have Bc_24 := Lib.hid (Bc_23.out.below hb Bc_23.out.lt)
        have Bd_24 := Lib.hid (Bd_23.out.below hb Bd_23.out.lt)
        have Br_24 := Lib.hid (Br_23.out.below hb Br_23.out.lt)
        have H_24 := Lib.hid (H_23.out.trans (hb.mono H_23.out.size))
        clear hb H_23 Bx_23 By_23 Bz_23 Bg_23 Ba_23 Bb_23 Bc_23 Bd_23 Br_23
        by_cases hy0' : y = 0
        · have hy0 := hy0'
          subst hy0
          have qx0 := Bx_24.out.c0
          have qx1 := Bx_24.out.c1
          have qx2 := Bx_24.out.c2
          have qy0 := By_24.out.c0
          have qy1 := By_24.out.c1
          have qy2 := By_24.out.c2
          go_wp2_with fail
          clear qx0 qx1 qx2 qy0 qy1 qy2
          have hc := Mod_zero K N x K' N' 0 T T' h h' rfl (u64) (hw.below H_24.out)
          unfold valV at hc
          refine hc.mono ?_
          rintro e u65 ⟨rfl, hb⟩
          clear hc
          have Bx_25 := Lib.hid (Bx_24.out.below hb Bx_24.out.lt)
          have By_25 := Lib.hid (By_24.out.below hb By_24.out.lt)
          have Bz_25 := Lib.hid (Bz_24.out.below hb Bz_24.out.lt)
          have Bg_25 := Lib.hid (Bg_24.out.below hb Bg_24.out.lt)
          have Ba_25 := Lib.hid (Ba_24.out.below hb Ba_24.out.lt)
          have Bb_25 := Lib.hid (Bb_24.out.below hb Bb_24.out.lt)
          have Bc_25 := Lib.hid (Bc_24.out.below hb Bc_24.out.lt)
          have Bd_25 := Lib.hid (Bd_24.out.below hb Bd_24.out.lt)
          have Br_25 := Lib.hid (Br_24.out.below hb Br_24.out.lt)
          have H_25 := Lib.hid (H_24.out.trans (hb.mono H_24.out.size))
          clear hb H_24 Bx_24 By_24 Bz_24 Bg_24 Ba_24 Bb_24 Bc_24 Bd_24 Br_24
          have hb : Below (u65).heap.size (u65) ((u65).alloc (.cells #[.int .i64 0, .int .i64 0, .string ⟨#[]⟩] 23)) := (Below.refl _ (u65)).alloc (Nat.le_refl _) _
          have Bnew := VB.new (u65) (.int .i64 0) (.int .i64 0) (.string ⟨#[]⟩)
          try simp only [World.size_alloc] at Bnew
          have Bx_26 := Lib.hid (Bx_25.out.below hb Bx_25.out.lt)
          have By_26 := Lib.hid (By_25.out.below hb By_25.out.lt)
          have Bz_26 := Lib.hid (Bz_25.out.below hb Bz_25.out.lt)
          have Bg_26 := Lib.hid (Bg_25.out.below hb Bg_25.out.lt)
          have Ba_26 := Lib.hid (Ba_25.out.below hb Ba_25.out.lt)
          have Bb_26 := Lib.hid (Bb_25.out.below hb Bb_25.out.lt)
          have Bc_26 := Lib.hid (Bc_25.out.below hb Bc_25.out.lt)
          have Bd_26 := Lib.hid (Bd_25.out.below hb Bd_25.out.lt)
          have Br_26 := Lib.hid (Br_25.out.below hb Br_25.out.lt)
          have H_26 := Lib.hid (H_25.out.trans (hb.mono H_25.out.size))
          clear hb H_25 Bx_25 By_25 Bz_25 Bg_25 Ba_25 Bb_25 Bc_25 Bd_25 Br_25
          have Bm_26 := Lib.hid Bnew
          clear Bnew
          go_wp2_with fail
          go_ret
          exact ⟨rfl, H_26.out⟩
        · obtain ⟨M0, M1, M2, hm⟩ := isNum_few (few_fmod (x := x) h'.1 hy0')
          have qx0 := Bx_24.out.c0
          have qx1 := Bx_24.out.c1
          have qx2 := Bx_24.out.c2
          have qy0 := By_24.out.c0
          have qy1 := By_24.out.c1
          have qy2 := By_24.out.c2
          go_wp2_with fail
          clear qx0 qx1 qx2 qy0 qy1 qy2
          have hc := Mod_num h h' hy0' rfl hm (u64) (hw.below H_24.out)
          unfold valV at hc
          refine hc.mono ?_
          rintro e u65 ⟨rfl, hb⟩
          clear hc
          have Bx_25 := Lib.hid (Bx_24.out.below hb Bx_24.out.lt)
          have By_25 := Lib.hid (By_24.out.below hb By_24.out.lt)
          have Bz_25 := Lib.hid (Bz_24.out.below hb Bz_24.out.lt)
          have Bg_25 := Lib.hid (Bg_24.out.below hb Bg_24.out.lt)
          have Ba_25 := Lib.hid (Ba_24.out.below hb Ba_24.out.lt)
          have Bb_25 := Lib.hid (Bb_24.out.below hb Bb_24.out.lt)
          have Bc_25 := Lib.hid (Bc_24.out.below hb Bc_24.out.lt)
          have Bd_25 := Lib.hid (Bd_24.out.below hb Bd_24.out.lt)
          have Br_25 := Lib.hid (Br_24.out.below hb Br_24.out.lt)
          have H_25 := Lib.hid (H_24.out.trans (hb.mono H_24.out.size))
          clear hb H_24 Bx_24 By_24 Bz_24 Bg_24 Ba_24 Bb_24 Bc_24 Bd_24 Br_24
          have hb : Below (u65).heap.size (u65) ((u65).alloc (.cells #[.int .i64 M0, .int .i64 M1, .string ⟨M2.toArray⟩] 23)) := (Below.refl _ (u65)).alloc (Nat.le_refl _) _
          have Bnew := VB.new (u65) (.int .i64 M0) (.int .i64 M1) (.string ⟨M2.toArray⟩)
          try simp only [World.size_alloc] at Bnew
          have Bx_26 := Lib.hid (Bx_25.out.below hb Bx_25.out.lt)
          have By_26 := Lib.hid (By_25.out.below hb By_25.out.lt)
          have Bz_26 := Lib.hid (Bz_25.out.below hb Bz_25.out.lt)
          have Bg_26 := Lib.hid (Bg_25.out.below hb Bg_25.out.lt)
          have Ba_26 := Lib.hid (Ba_25.out.below hb Ba_25.out.lt)
          have Bb_26 := Lib.hid (Bb_25.out.below hb Bb_25.out.lt)
          have Bc_26 := Lib.hid (Bc_25.out.below hb Bc_25.out.lt)
          have Bd_26 := Lib.hid (Bd_25.out.below hb Bd_25.out.lt)
          have Br_26 := Lib.hid (Br_25.out.below hb Br_25.out.lt)
          have H_26 := Lib.hid (H_25.out.trans (hb.mono H_25.out.size))
          clear hb H_25 Bx_25 By_25 Bz_25 Bg_25 Ba_25 Bb_25 Bc_25 Bd_25 Br_25
          have Bm_26 := Lib.hid Bnew
          clear Bnew
          have qy0 := By_26.out.c0
          have qy1 := By_26.out.c1
          have qy2 := By_26.out.c2
          have qm0 := Bm_26.out.c0
          have qm1 := Bm_26.out.c1
          have qm2 := Bm_26.out.c2
          go_wp2_with fail
          clear qy0 qy1 qy2 qm0 qm1 qm2
          have hc := Gcd_num h' hm (by rw [← Bg.gcd_step]) hg ((u65).alloc (.cells #[.int .i64 M0, .int .i64 M1, .string ⟨M2.toArray⟩] 23)) (hw.below H_26.out)
          unfold valV at hc
          refine hc.mono ?_
          rintro e u66 ⟨rfl, hb⟩
          clear hc
          have Bx_27 := Lib.hid (Bx_26.out.below hb Bx_26.out.lt)
          have By_27 := Lib.hid (By_26.out.below hb By_26.out.lt)
          have Bz_27 := Lib.hid (Bz_26.out.below hb Bz_26.out.lt)
          have Bg_27 := Lib.hid (Bg_26.out.below hb Bg_26.out.lt)
          have Ba_27 := Lib.hid (Ba_26.out.below hb Ba_26.out.lt)
          have Bb_27 := Lib.hid (Bb_26.out.below hb Bb_26.out.lt)
          have Bc_27 := Lib.hid (Bc_26.out.below hb Bc_26.out.lt)
          have Bd_27 := Lib.hid (Bd_26.out.below hb Bd_26.out.lt)
          have Br_27 := Lib.hid (Br_26.out.below hb Br_26.out.lt)
          have Bm_27 := Lib.hid (Bm_26.out.below hb Bm_26.out.lt)
          have H_27 := Lib.hid (H_26.out.trans (hb.mono H_26.out.size))
          clear hb H_26 Bx_26 By_26 Bz_26 Bg_26 Ba_26 Bb_26 Bc_26 Bd_26 Br_26 Bm_26
          have hb : Below (u66).heap.size (u66) ((u66).alloc (.cells #[.int .i64 G0, .int .i64 G1, .string ⟨G2.toArray⟩] 23)) := (Below.refl _ (u66)).alloc (Nat.le_refl _) _
          have Bnew := VB.new (u66) (.int .i64 G0) (.int .i64 G1) (.string ⟨G2.toArray⟩)
          try simp only [World.size_alloc] at Bnew
          have Bx_28 := Lib.hid (Bx_27.out.below hb Bx_27.out.lt)
          have By_28 := Lib.hid (By_27.out.below hb By_27.out.lt)
          have Bz_28 := Lib.hid (Bz_27.out.below hb Bz_27.out.lt)
          have Bg_28 := Lib.hid (Bg_27.out.below hb Bg_27.out.lt)
          have Ba_28 := Lib.hid (Ba_27.out.below hb Ba_27.out.lt)
          have Bb_28 := Lib.hid (Bb_27.out.below hb Bb_27.out.lt)
          have Bc_28 := Lib.hid (Bc_27.out.below hb Bc_27.out.lt)
          have Bd_28 := Lib.hid (Bd_27.out.below hb Bd_27.out.lt)
          have Br_28 := Lib.hid (Br_27.out.below hb Br_27.out.lt)
          have Bm_28 := Lib.hid (Bm_27.out.below hb Bm_27.out.lt)
          have H_28 := Lib.hid (H_27.out.trans (hb.mono H_27.out.size))
          clear hb H_27 Bx_27 By_27 Bz_27 Bg_27 Ba_27 Bb_27 Bc_27 Bd_27 Br_27 Bm_27
          have Bk_28 := Lib.hid Bnew
          clear Bnew
          have qk0 := Bk_28.out.c0
          have qk1 := Bk_28.out.c1
          have qk2 := Bk_28.out.c2
          have qg0 := Bg_28.out.c0
          have qg1 := Bg_28.out.c1
          have qg2 := Bg_28.out.c2
          go_wp2_with fail
          go_ret
          exact ⟨rfl, H_28.out⟩
      · have hned := hd.ne isNum_zero hd0
        go_upto_region 17 with fail
        refine region_grown (by kernel_rfl) ?_
        apply quiet_wanted
        · go_simp
        · intro W hW; unfold Oper.quietAt; go_simp; (try exact ⟨rfl, rfl⟩); (try rfl)
        (try simp only [Act.put, List.setIfInBounds_toArray, List.set_cons_zero, List.set_cons_succ])
        apply quiet_wanted
        · go_simp
        · intro W hW; unfold Oper.quietAt; go_simp; (try exact ⟨rfl, rfl⟩); (try rfl)
        (try simp only [Act.put, List.setIfInBounds_toArray, List.set_cons_zero, List.set_cons_succ])
        apply quiet_wanted
        · go_simp
        · intro W hW; unfold Oper.quietAt; go_simp; (try exact ⟨rfl, rfl⟩); (try rfl)
        (try simp only [Act.put, List.setIfInBounds_toArray, List.set_cons_zero, List.set_cons_succ])
        apply quiet_wanted
        · go_simp
        · intro W hW; unfold Oper.quietAt; go_simp; (try exact ⟨rfl, rfl⟩); (try rfl)
        (try simp only [Act.put, List.setIfInBounds_toArray, List.set_cons_zero, List.set_cons_succ])
        apply quiet_wanted
        · go_simp
        · intro W hW; unfold Oper.quietAt; go_simp; (try exact ⟨rfl, rfl⟩); (try rfl)
        (try simp only [Act.put, List.setIfInBounds_toArray, List.set_cons_zero, List.set_cons_succ])
        apply quiet_wanted
        · go_simp
        · intro W hW; unfold Oper.quietAt; go_simp; (try exact ⟨rfl, rfl⟩); (try rfl)
        (try simp only [Act.put, List.setIfInBounds_toArray, List.set_cons_zero, List.set_cons_succ])
        apply quiet_wanted
        · go_simp
        · intro W hW; unfold Oper.quietAt; go_simp; (try exact ⟨rfl, rfl⟩); (try rfl)
        (try simp only [Act.put, List.setIfInBounds_toArray, List.set_cons_zero, List.set_cons_succ])
        apply quiet_wanted
        · go_simp
        · intro W hW; have hV := Bc_20.out.below hW Bc_20.out.lt; have c0 := hV.c0; have c1 := hV.c1; have c2 := hV.c2; clear hV; unfold Oper.quietAt; go_simp; (try exact ⟨rfl, rfl⟩); (try rfl)
        (try simp only [Act.put, List.setIfInBounds_toArray, List.set_cons_zero, List.set_cons_succ])
        apply quiet_wanted
        · go_simp
        · intro W hW; unfold Oper.quietAt; go_simp; have hc := number_c 0 W; unfold valV at hc; exact hc.mono fun e w' hr => ⟨hr.1, Grown.trans hW hr.2⟩
        (try simp only [Act.put, List.setIfInBounds_toArray, List.set_cons_zero, List.set_cons_succ])
        apply quiet_wanted
        · go_simp
        · intro W hW; unfold Oper.quietAt; go_simp; (try exact ⟨rfl, rfl⟩); (try rfl)
        (try simp only [Act.put, List.setIfInBounds_toArray, List.set_cons_zero, List.set_cons_succ])
        apply quiet_wanted
        · go_simp
        · intro W hW; unfold Oper.quietAt; go_simp; (try exact ⟨rfl, rfl⟩); (try rfl)
        (try simp only [Act.put, List.setIfInBounds_toArray, List.set_cons_zero, List.set_cons_succ])
        apply quiet_wanted
        · go_simp
        · intro W hW; unfold Oper.quietAt; go_simp; (try exact ⟨rfl, rfl⟩); (try rfl)
        (try simp only [Act.put, List.setIfInBounds_toArray, List.set_cons_zero, List.set_cons_succ])
        apply quiet_wanted
        · go_simp
        · intro W hW; have hV := Bd_20.out.below hW Bd_20.out.lt; have c0 := hV.c0; have c1 := hV.c1; have c2 := hV.c2; clear hV; unfold Oper.quietAt; go_simp; (try exact ⟨rfl, rfl⟩); (try rfl)
        (try simp only [Act.put, List.setIfInBounds_toArray, List.set_cons_zero, List.set_cons_succ])
        apply quiet_wanted
        · go_simp
        · intro W hW; unfold Oper.quietAt; go_simp; have hc := number_c 0 W; unfold valV at hc; exact hc.mono fun e w' hr => ⟨hr.1, Grown.trans hW hr.2⟩
        (try simp only [Act.put, List.setIfInBounds_toArray, List.set_cons_zero, List.set_cons_succ])
        refine quiet_wanted (v := .bool false) (by go_simp) (fun W hW => ?_) ?_
        · unfold Oper.quietAt; by_cases e1 : D0 = 1 <;> by_cases e2 : D1 = 0 <;> by_cases e3 : D2 = [] <;> first | (go_simp; done) | exact absurd ⟨e1, e2, e3⟩ (hned)
        (try simp only [Act.put, List.setIfInBounds_toArray, List.set_cons_zero, List.set_cons_succ])
        apply quiet_wanted
        · go_simp
        · intro W hW; unfold Oper.quietAt; go_simp; (try exact ⟨rfl, rfl⟩); (try rfl)
        (try simp only [Act.put, List.setIfInBounds_toArray, List.set_cons_zero, List.set_cons_succ])
        refine wpQuiet_nil ?_
        intro u62 hb
        unfold Grown at hb
        have Bx_21 := Lib.hid (Bx_20.out.below hb Bx_20.out.lt)
        have By_21 := Lib.hid (By_20.out.below hb By_20.out.lt)
        have Bz_21 := Lib.hid (Bz_20.out.below hb Bz_20.out.lt)
        have Bg_21 := Lib.hid (Bg_20.out.below hb Bg_20.out.lt)
        have Ba_21 := Lib.hid (Ba_20.out.below hb Ba_20.out.lt)
        have Bb_21 := Lib.hid (Bb_20.out.below hb Bb_20.out.lt)
        have Bc_21 := Lib.hid (Bc_20.out.below hb Bc_20.out.lt)
        have Bd_21 := Lib.hid (Bd_20.out.below hb Bd_20.out.lt)
        have H_21 := Lib.hid (H_20.out.trans (hb.mono H_20.out.size))
        clear hb H_20 Bx_20 By_20 Bz_20 Bg_20 Ba_20 Bb_20 Bc_20 Bd_20
        by_cases hy0' : y = 0
        · have hy0 := hy0'
          subst hy0
          have qx0 := Bx_21.out.c0
          have qx1 := Bx_21.out.c1
          have qx2 := Bx_21.out.c2
          have qy0 := By_21.out.c0
          have qy1 := By_21.out.c1
          have qy2 := By_21.out.c2
          go_wp2_with fail
          clear qx0 qx1 qx2 qy0 qy1 qy2
          have hc := Mod_zero K N x K' N' 0 T T' h h' rfl (u62) (hw.below H_21.out)
          unfold valV at hc
          refine hc.mono ?_
          rintro e u63 ⟨rfl, hb⟩
          clear hc
          have Bx_22 := Lib.hid (Bx_21.out.below hb Bx_21.out.lt)
          have By_22 := Lib.hid (By_21.out.below hb By_21.out.lt)
          have Bz_22 := Lib.hid (Bz_21.out.below hb Bz_21.out.lt)
          have Bg_22 := Lib.hid (Bg_21.out.below hb Bg_21.out.lt)
          have Ba_22 := Lib.hid (Ba_21.out.below hb Ba_21.out.lt)
          have Bb_22 := Lib.hid (Bb_21.out.below hb Bb_21.out.lt)
          have Bc_22 := Lib.hid (Bc_21.out.below hb Bc_21.out.lt)
          have Bd_22 := Lib.hid (Bd_21.out.below hb Bd_21.out.lt)
          have H_22 := Lib.hid (H_21.out.trans (hb.mono H_21.out.size))
          clear hb H_21 Bx_21 By_21 Bz_21 Bg_21 Ba_21 Bb_21 Bc_21 Bd_21
          have hb : Below (u63).heap.size (u63) ((u63).alloc (.cells #[.int .i64 0, .int .i64 0, .string ⟨#[]⟩] 23)) := (Below.refl _ (u63)).alloc (Nat.le_refl _) _
          have Bnew := VB.new (u63) (.int .i64 0) (.int .i64 0) (.string ⟨#[]⟩)
          try simp only [World.size_alloc] at Bnew
          have Bx_23 := Lib.hid (Bx_22.out.below hb Bx_22.out.lt)
          have By_23 := Lib.hid (By_22.out.below hb By_22.out.lt)
          have Bz_23 := Lib.hid (Bz_22.out.below hb Bz_22.out.lt)
          have Bg_23 := Lib.hid (Bg_22.out.below hb Bg_22.out.lt)
          have Ba_23 := Lib.hid (Ba_22.out.below hb Ba_22.out.lt)
          have Bb_23 := Lib.hid (Bb_22.out.below hb Bb_22.out.lt)
          have Bc_23 := Lib.hid (Bc_22.out.below hb Bc_22.out.lt)
          have Bd_23 := Lib.hid (Bd_22.out.below hb Bd_22.out.lt)
          have H_23 := Lib.hid (H_22.out.trans (hb.mono H_22.out.size))
          clear hb H_22 Bx_22 By_22 Bz_22 Bg_22 Ba_22 Bb_22 Bc_22 Bd_22
          have Bm_23 := Lib.hid Bnew
          clear Bnew
          go_wp2_with fail
          go_ret
          exact ⟨rfl, H_23.out⟩
        · obtain ⟨M0, M1, M2, hm⟩ := isNum_few (few_fmod (x := x) h'.1 hy0')
          have qx0 := Bx_21.out.c0
          have qx1 := Bx_21.out.c1
          have qx2 := Bx_21.out.c2
          have qy0 := By_21.out.c0
          have qy1 := By_21.out.c1
          have qy2 := By_21.out.c2
          go_wp2_with fail
          clear qx0 qx1 qx2 qy0 qy1 qy2
          have hc := Mod_num h h' hy0' rfl hm (u62) (hw.below H_21.out)
          unfold valV at hc
          refine hc.mono ?_
          rintro e u63 ⟨rfl, hb⟩
          clear hc
          have Bx_22 := Lib.hid (Bx_21.out.below hb Bx_21.out.lt)
          have By_22 := Lib.hid (By_21.out.below hb By_21.out.lt)
          have Bz_22 := Lib.hid (Bz_21.out.below hb Bz_21.out.lt)
          have Bg_22 := Lib.hid (Bg_21.out.below hb Bg_21.out.lt)
          have Ba_22 := Lib.hid (Ba_21.out.below hb Ba_21.out.lt)
          have Bb_22 := Lib.hid (Bb_21.out.below hb Bb_21.out.lt)
          have Bc_22 := Lib.hid (Bc_21.out.below hb Bc_21.out.lt)
          have Bd_22 := Lib.hid (Bd_21.out.below hb Bd_21.out.lt)
          have H_22 := Lib.hid (H_21.out.trans (hb.mono H_21.out.size))
          clear hb H_21 Bx_21 By_21 Bz_21 Bg_21 Ba_21 Bb_21 Bc_21 Bd_21
          have hb : Below (u63).heap.size (u63) ((u63).alloc (.cells #[.int .i64 M0, .int .i64 M1, .string ⟨M2.toArray⟩] 23)) := (Below.refl _ (u63)).alloc (Nat.le_refl _) _
          have Bnew := VB.new (u63) (.int .i64 M0) (.int .i64 M1) (.string ⟨M2.toArray⟩)
          try simp only [World.size_alloc] at Bnew
          have Bx_23 := Lib.hid (Bx_22.out.below hb Bx_22.out.lt)
          have By_23 := Lib.hid (By_22.out.below hb By_22.out.lt)
          have Bz_23 := Lib.hid (Bz_22.out.below hb Bz_22.out.lt)
          have Bg_23 := Lib.hid (Bg_22.out.below hb Bg_22.out.lt)
          have Ba_23 := Lib.hid (Ba_22.out.below hb Ba_22.out.lt)
          have Bb_23 := Lib.hid (Bb_22.out.below hb Bb_22.out.lt)
          have Bc_23 := Lib.hid (Bc_22.out.below hb Bc_22.out.lt)
          have Bd_23 := Lib.hid (Bd_22.out.below hb Bd_22.out.lt)
          have H_23 := Lib.hid (H_22.out.trans (hb.mono H_22.out.size))
          clear hb H_22 Bx_22 By_22 Bz_22 Bg_22 Ba_22 Bb_22 Bc_22 Bd_22
          have Bm_23 := Lib.hid Bnew
          clear Bnew
          have qy0 := By_23.out.c0
          have qy1 := By_23.out.c1
          have qy2 := By_23.out.c2
          have qm0 := Bm_23.out.c0
          have qm1 := Bm_23.out.c1
          have qm2 := Bm_23.out.c2
          go_wp2_with fail
          clear qy0 qy1 qy2 qm0 qm1 qm2
          have hc := Gcd_num h' hm (by rw [← Bg.gcd_step]) hg ((u63).alloc (.cells #[.int .i64 M0, .int .i64 M1, .string ⟨M2.toArray⟩] 23)) (hw.below H_23.out)
          unfold valV at hc
          refine hc.mono ?_
          rintro e u64 ⟨rfl, hb⟩
          clear hc
          have Bx_24 := Lib.hid (Bx_23.out.below hb Bx_23.out.lt)
          have By_24 := Lib.hid (By_23.out.below hb By_23.out.lt)
          have Bz_24 := Lib.hid (Bz_23.out.below hb Bz_23.out.lt)
          have Bg_24 := Lib.hid (Bg_23.out.below hb Bg_23.out.lt)
          have Ba_24 := Lib.hid (Ba_23.out.below hb Ba_23.out.lt)
          have Bb_24 := Lib.hid (Bb_23.out.below hb Bb_23.out.lt)
          have Bc_24 := Lib.hid (Bc_23.out.below hb Bc_23.out.lt)
          have Bd_24 := Lib.hid (Bd_23.out.below hb Bd_23.out.lt)
          have Bm_24 := Lib.hid (Bm_23.out.below hb Bm_23.out.lt)
          have H_24 := Lib.hid (H_23.out.trans (hb.mono H_23.out.size))
          clear hb H_23 Bx_23 By_23 Bz_23 Bg_23 Ba_23 Bb_23 Bc_23 Bd_23 Bm_23
          have hb : Below (u64).heap.size (u64) ((u64).alloc (.cells #[.int .i64 G0, .int .i64 G1, .string ⟨G2.toArray⟩] 23)) := (Below.refl _ (u64)).alloc (Nat.le_refl _) _
          have Bnew := VB.new (u64) (.int .i64 G0) (.int .i64 G1) (.string ⟨G2.toArray⟩)
          try simp only [World.size_alloc] at Bnew
          have Bx_25 := Lib.hid (Bx_24.out.below hb Bx_24.out.lt)
          have By_25 := Lib.hid (By_24.out.below hb By_24.out.lt)
          have Bz_25 := Lib.hid (Bz_24.out.below hb Bz_24.out.lt)
          have Bg_25 := Lib.hid (Bg_24.out.below hb Bg_24.out.lt)
          have Ba_25 := Lib.hid (Ba_24.out.below hb Ba_24.out.lt)
          have Bb_25 := Lib.hid (Bb_24.out.below hb Bb_24.out.lt)
          have Bc_25 := Lib.hid (Bc_24.out.below hb Bc_24.out.lt)
          have Bd_25 := Lib.hid (Bd_24.out.below hb Bd_24.out.lt)
          have Bm_25 := Lib.hid (Bm_24.out.below hb Bm_24.out.lt)
          have H_25 := Lib.hid (H_24.out.trans (hb.mono H_24.out.size))
          clear hb H_24 Bx_24 By_24 Bz_24 Bg_24 Ba_24 Bb_24 Bc_24 Bd_24 Bm_24
          have Bk_25 := Lib.hid Bnew
          clear Bnew
          have qk0 := Bk_25.out.c0
          have qk1 := Bk_25.out.c1
          have qk2 := Bk_25.out.c2
          have qg0 := Bg_25.out.c0
          have qg1 := Bg_25.out.c1
          have qg2 := Bg_25.out.c2
          go_wp2_with fail
          go_ret
          exact ⟨rfl, H_25.out⟩
    · have hnec := hc.ne isNum_zero hc0
      go_upto_region 17 with fail
      refine region_grown (by kernel_rfl) ?_
      apply quiet_wanted
      · go_simp
      · intro W hW; unfold Oper.quietAt; go_simp; (try exact ⟨rfl, rfl⟩); (try rfl)
      (try simp only [Act.put, List.setIfInBounds_toArray, List.set_cons_zero, List.set_cons_succ])
      apply quiet_wanted
      · go_simp
      · intro W hW; unfold Oper.quietAt; go_simp; (try exact ⟨rfl, rfl⟩); (try rfl)
      (try simp only [Act.put, List.setIfInBounds_toArray, List.set_cons_zero, List.set_cons_succ])
      apply quiet_wanted
      · go_simp
      · intro W hW; unfold Oper.quietAt; go_simp; (try exact ⟨rfl, rfl⟩); (try rfl)
      (try simp only [Act.put, List.setIfInBounds_toArray, List.set_cons_zero, List.set_cons_succ])
      apply quiet_wanted
      · go_simp
      · intro W hW; unfold Oper.quietAt; go_simp; (try exact ⟨rfl, rfl⟩); (try rfl)
      (try simp only [Act.put, List.setIfInBounds_toArray, List.set_cons_zero, List.set_cons_succ])
      apply quiet_wanted
      · go_simp
      · intro W hW; unfold Oper.quietAt; go_simp; (try exact ⟨rfl, rfl⟩); (try rfl)
      (try simp only [Act.put, List.setIfInBounds_toArray, List.set_cons_zero, List.set_cons_succ])
      apply quiet_wanted
      · go_simp
      · intro W hW; unfold Oper.quietAt; go_simp; (try exact ⟨rfl, rfl⟩); (try rfl)
      (try simp only [Act.put, List.setIfInBounds_toArray, List.set_cons_zero, List.set_cons_succ])
      apply quiet_wanted
      · go_simp
      · intro W hW; unfold Oper.quietAt; go_simp; (try exact ⟨rfl, rfl⟩); (try rfl)
      (try simp only [Act.put, List.setIfInBounds_toArray, List.set_cons_zero, List.set_cons_succ])
      apply quiet_wanted
      · go_simp
      · intro W hW; have hV := Bc_20.out.below hW Bc_20.out.lt; have c0 := hV.c0; have c1 := hV.c1; have c2 := hV.c2; clear hV; unfold Oper.quietAt; go_simp; (try exact ⟨rfl, rfl⟩); (try rfl)
      (try simp only [Act.put, List.setIfInBounds_toArray, List.set_cons_zero, List.set_cons_succ])
      apply quiet_wanted
      · go_simp
      · intro W hW; unfold Oper.quietAt; go_simp; have hc := number_c 0 W; unfold valV at hc; exact hc.mono fun e w' hr => ⟨hr.1, Grown.trans hW hr.2⟩
      (try simp only [Act.put, List.setIfInBounds_toArray, List.set_cons_zero, List.set_cons_succ])
      refine quiet_wanted (v := .bool false) (by go_simp) (fun W hW => ?_) ?_
      · unfold Oper.quietAt; by_cases e1 : C0 = 1 <;> by_cases e2 : C1 = 0 <;> by_cases e3 : C2 = [] <;> first | (go_simp; done) | exact absurd ⟨e1, e2, e3⟩ (hnec)
      (try simp only [Act.put, List.setIfInBounds_toArray, List.set_cons_zero, List.set_cons_succ])
      apply quiet_wanted
      · go_simp
      · intro W hW; unfold Oper.quietAt; go_simp; (try exact ⟨rfl, rfl⟩); (try rfl)
      (try simp only [Act.put, List.setIfInBounds_toArray, List.set_cons_zero, List.set_cons_succ])
      apply quiet_wanted
      · go_simp
      · intro W hW; unfold Oper.quietAt; go_simp; (try exact ⟨rfl, rfl⟩); (try rfl)
      (try simp only [Act.put, List.setIfInBounds_toArray, List.set_cons_zero, List.set_cons_succ])
      refine quiet_unwanted (by first | (go_simp; done) | (go_simp; intro hh; cases hh)) ?_
      (try simp only [Act.put, List.setIfInBounds_toArray, List.set_cons_zero, List.set_cons_succ])
      refine quiet_unwanted (by first | (go_simp; done) | (go_simp; intro hh; cases hh)) ?_
      (try simp only [Act.put, List.setIfInBounds_toArray, List.set_cons_zero, List.set_cons_succ])
      refine quiet_unwanted (by first | (go_simp; done) | (go_simp; intro hh; cases hh)) ?_
      (try simp only [Act.put, List.setIfInBounds_toArray, List.set_cons_zero, List.set_cons_succ])
      apply quiet_wanted
      · go_simp
      · intro W hW; unfold Oper.quietAt; go_simp; (try exact ⟨rfl, rfl⟩); (try rfl)
      (try simp only [Act.put, List.setIfInBounds_toArray, List.set_cons_zero, List.set_cons_succ])
      refine wpQuiet_nil ?_
      intro u62 hb
      unfold Grown at hb
      have Bx_21 := Lib.hid (Bx_20.out.below hb Bx_20.out.lt)
      have By_21 := Lib.hid (By_20.out.below hb By_20.out.lt)
      have Bz_21 := Lib.hid (Bz_20.out.below hb Bz_20.out.lt)
      have Bg_21 := Lib.hid (Bg_20.out.below hb Bg_20.out.lt)
      have Ba_21 := Lib.hid (Ba_20.out.below hb Ba_20.out.lt)
      have Bb_21 := Lib.hid (Bb_20.out.below hb Bb_20.out.lt)
      have Bc_21 := Lib.hid (Bc_20.out.below hb Bc_20.out.lt)
      have Bd_21 := Lib.hid (Bd_20.out.below hb Bd_20.out.lt)
      have H_21 := Lib.hid (H_20.out.trans (hb.mono H_20.out.size))
      clear hb H_20 Bx_20 By_20 Bz_20 Bg_20 Ba_20 Bb_20 Bc_20 Bd_20
      by_cases hy0' : y = 0
      · have hy0 := hy0'
        subst hy0
        have qx0 := Bx_21.out.c0
        have qx1 := Bx_21.out.c1
        have qx2 := Bx_21.out.c2
        have qy0 := By_21.out.c0
        have qy1 := By_21.out.c1
        have qy2 := By_21.out.c2
        go_wp2_with fail
        clear qx0 qx1 qx2 qy0 qy1 qy2
        have hc := Mod_zero K N x K' N' 0 T T' h h' rfl (u62) (hw.below H_21.out)
        unfold valV at hc
        refine hc.mono ?_
        rintro e u63 ⟨rfl, hb⟩
        clear hc
        have Bx_22 := Lib.hid (Bx_21.out.below hb Bx_21.out.lt)
        have By_22 := Lib.hid (By_21.out.below hb By_21.out.lt)
        have Bz_22 := Lib.hid (Bz_21.out.below hb Bz_21.out.lt)
        have Bg_22 := Lib.hid (Bg_21.out.below hb Bg_21.out.lt)
        have Ba_22 := Lib.hid (Ba_21.out.below hb Ba_21.out.lt)
        have Bb_22 := Lib.hid (Bb_21.out.below hb Bb_21.out.lt)
        have Bc_22 := Lib.hid (Bc_21.out.below hb Bc_21.out.lt)
        have Bd_22 := Lib.hid (Bd_21.out.below hb Bd_21.out.lt)
        have H_22 := Lib.hid (H_21.out.trans (hb.mono H_21.out.size))
        clear hb H_21 Bx_21 By_21 Bz_21 Bg_21 Ba_21 Bb_21 Bc_21 Bd_21
        have hb : Below (u63).heap.size (u63) ((u63).alloc (.cells #[.int .i64 0, .int .i64 0, .string ⟨#[]⟩] 23)) := (Below.refl _ (u63)).alloc (Nat.le_refl _) _
        have Bnew := VB.new (u63) (.int .i64 0) (.int .i64 0) (.string ⟨#[]⟩)
        try simp only [World.size_alloc] at Bnew
        have Bx_23 := Lib.hid (Bx_22.out.below hb Bx_22.out.lt)
        have By_23 := Lib.hid (By_22.out.below hb By_22.out.lt)
        have Bz_23 := Lib.hid (Bz_22.out.below hb Bz_22.out.lt)
        have Bg_23 := Lib.hid (Bg_22.out.below hb Bg_22.out.lt)
        have Ba_23 := Lib.hid (Ba_22.out.below hb Ba_22.out.lt)
        have Bb_23 := Lib.hid (Bb_22.out.below hb Bb_22.out.lt)
        have Bc_23 := Lib.hid (Bc_22.out.below hb Bc_22.out.lt)
        have Bd_23 := Lib.hid (Bd_22.out.below hb Bd_22.out.lt)
        have H_23 := Lib.hid (H_22.out.trans (hb.mono H_22.out.size))
        clear hb H_22 Bx_22 By_22 Bz_22 Bg_22 Ba_22 Bb_22 Bc_22 Bd_22
        have Bm_23 := Lib.hid Bnew
        clear Bnew
        go_wp2_with fail
        go_ret
        exact ⟨rfl, H_23.out⟩
      · obtain ⟨M0, M1, M2, hm⟩ := isNum_few (few_fmod (x := x) h'.1 hy0')
        have qx0 := Bx_21.out.c0
        have qx1 := Bx_21.out.c1
        have qx2 := Bx_21.out.c2
        have qy0 := By_21.out.c0
        have qy1 := By_21.out.c1
        have qy2 := By_21.out.c2
        go_wp2_with fail
        clear qx0 qx1 qx2 qy0 qy1 qy2
        have hc := Mod_num h h' hy0' rfl hm (u62) (hw.below H_21.out)
        unfold valV at hc
        refine hc.mono ?_
        rintro e u63 ⟨rfl, hb⟩
        clear hc
        have Bx_22 := Lib.hid (Bx_21.out.below hb Bx_21.out.lt)
        have By_22 := Lib.hid (By_21.out.below hb By_21.out.lt)
        have Bz_22 := Lib.hid (Bz_21.out.below hb Bz_21.out.lt)
        have Bg_22 := Lib.hid (Bg_21.out.below hb Bg_21.out.lt)
        have Ba_22 := Lib.hid (Ba_21.out.below hb Ba_21.out.lt)
        have Bb_22 := Lib.hid (Bb_21.out.below hb Bb_21.out.lt)
        have Bc_22 := Lib.hid (Bc_21.out.below hb Bc_21.out.lt)
        have Bd_22 := Lib.hid (Bd_21.out.below hb Bd_21.out.lt)
        have H_22 := Lib.hid (H_21.out.trans (hb.mono H_21.out.size))
        clear hb H_21 Bx_21 By_21 Bz_21 Bg_21 Ba_21 Bb_21 Bc_21 Bd_21
        have hb : Below (u63).heap.size (u63) ((u63).alloc (.cells #[.int .i64 M0, .int .i64 M1, .string ⟨M2.toArray⟩] 23)) := (Below.refl _ (u63)).alloc (Nat.le_refl _) _
        have Bnew := VB.new (u63) (.int .i64 M0) (.int .i64 M1) (.string ⟨M2.toArray⟩)
        try simp only [World.size_alloc] at Bnew
        have Bx_23 := Lib.hid (Bx_22.out.below hb Bx_22.out.lt)
        have By_23 := Lib.hid (By_22.out.below hb By_22.out.lt)
        have Bz_23 := Lib.hid (Bz_22.out.below hb Bz_22.out.lt)
        have Bg_23 := Lib.hid (Bg_22.out.below hb Bg_22.out.lt)
        have Ba_23 := Lib.hid (Ba_22.out.below hb Ba_22.out.lt)
        have Bb_23 := Lib.hid (Bb_22.out.below hb Bb_22.out.lt)
        have Bc_23 := Lib.hid (Bc_22.out.below hb Bc_22.out.lt)
        have Bd_23 := Lib.hid (Bd_22.out.below hb Bd_22.out.lt)
        have H_23 := Lib.hid (H_22.out.trans (hb.mono H_22.out.size))
        clear hb H_22 Bx_22 By_22 Bz_22 Bg_22 Ba_22 Bb_22 Bc_22 Bd_22
        have Bm_23 := Lib.hid Bnew
        clear Bnew
        have qy0 := By_23.out.c0
        have qy1 := By_23.out.c1
        have qy2 := By_23.out.c2
        have qm0 := Bm_23.out.c0
        have qm1 := Bm_23.out.c1
        have qm2 := Bm_23.out.c2
        go_wp2_with fail
        clear qy0 qy1 qy2 qm0 qm1 qm2
        have hc := Gcd_num h' hm (by rw [← Bg.gcd_step]) hg ((u63).alloc (.cells #[.int .i64 M0, .int .i64 M1, .string ⟨M2.toArray⟩] 23)) (hw.below H_23.out)
        unfold valV at hc
        refine hc.mono ?_
        rintro e u64 ⟨rfl, hb⟩
        clear hc
        have Bx_24 := Lib.hid (Bx_23.out.below hb Bx_23.out.lt)
        have By_24 := Lib.hid (By_23.out.below hb By_23.out.lt)
        have Bz_24 := Lib.hid (Bz_23.out.below hb Bz_23.out.lt)
        have Bg_24 := Lib.hid (Bg_23.out.below hb Bg_23.out.lt)
        have Ba_24 := Lib.hid (Ba_23.out.below hb Ba_23.out.lt)
        have Bb_24 := Lib.hid (Bb_23.out.below hb Bb_23.out.lt)
        have Bc_24 := Lib.hid (Bc_23.out.below hb Bc_23.out.lt)
        have Bd_24 := Lib.hid (Bd_23.out.below hb Bd_23.out.lt)
        have Bm_24 := Lib.hid (Bm_23.out.below hb Bm_23.out.lt)
        have H_24 := Lib.hid (H_23.out.trans (hb.mono H_23.out.size))
        clear hb H_23 Bx_23 By_23 Bz_23 Bg_23 Ba_23 Bb_23 Bc_23 Bd_23 Bm_23
        have hb : Below (u64).heap.size (u64) ((u64).alloc (.cells #[.int .i64 G0, .int .i64 G1, .string ⟨G2.toArray⟩] 23)) := (Below.refl _ (u64)).alloc (Nat.le_refl _) _
        have Bnew := VB.new (u64) (.int .i64 G0) (.int .i64 G1) (.string ⟨G2.toArray⟩)
        try simp only [World.size_alloc] at Bnew
        have Bx_25 := Lib.hid (Bx_24.out.below hb Bx_24.out.lt)
        have By_25 := Lib.hid (By_24.out.below hb By_24.out.lt)
        have Bz_25 := Lib.hid (Bz_24.out.below hb Bz_24.out.lt)
        have Bg_25 := Lib.hid (Bg_24.out.below hb Bg_24.out.lt)
        have Ba_25 := Lib.hid (Ba_24.out.below hb Ba_24.out.lt)
        have Bb_25 := Lib.hid (Bb_24.out.below hb Bb_24.out.lt)
        have Bc_25 := Lib.hid (Bc_24.out.below hb Bc_24.out.lt)
        have Bd_25 := Lib.hid (Bd_24.out.below hb Bd_24.out.lt)
        have Bm_25 := Lib.hid (Bm_24.out.below hb Bm_24.out.lt)
        have H_25 := Lib.hid (H_24.out.trans (hb.mono H_24.out.size))
        clear hb H_24 Bx_24 By_24 Bz_24 Bg_24 Ba_24 Bb_24 Bc_24 Bd_24 Bm_24
        have Bk_25 := Lib.hid Bnew
        clear Bnew
        have qk0 := Bk_25.out.c0
        have qk1 := Bk_25.out.c1
        have qk2 := Bk_25.out.c2
        have qg0 := Bg_25.out.c0
        have qg1 := Bg_25.out.c1
        have qg2 := Bg_25.out.c2
        go_wp2_with fail
        go_ret
        exact ⟨rfl, H_25.out⟩

theorem div_c (K N : Int) (T : List UInt8) (K' N' : Int) (T' : List UInt8) (K'' N'' : Int) (T'' : List UInt8) (hN : In64Z N) (hN' : In64Z N') (hN'' : In64Z N'') (w : World) (hw : Wd w) :
    Calls Tryz.prog 11 #[valV K N T, valV K' N' T', valV K'' N'' T''] w fun e w' => e = .returned (.bool true) ∧ Below w.heap.size w w' := by
  by_cases hx : T.length ≤ 800
  · by_cases hy : T'.length ≤ 800
    · by_cases hz : T''.length ≤ 800
      · by_cases h1 : ∃ z, IsNum K N T z
        · by_cases h2 : ∃ z, IsNum K' N' T' z
          · obtain ⟨x, h1⟩ := h1
            obtain ⟨y, h2⟩ := h2
            by_cases hg : ((Int.gcd x y : Nat) : Int) = 0
            · have hg' : Int.gcd x y = 0 := by omega
              obtain ⟨rfl, rfl⟩ := Int.gcd_eq_zero_iff.1 hg'
              exact div_zero K N K' N' K'' N'' T T' T'' hz h1 h2 w hw
            · by_cases h3 : ∃ z, IsNum K'' N'' T'' z
              · obtain ⟨z, h3⟩ := h3
                by_cases hz0 : z = 0
                · exact div_noz K N K' N' K'' N'' T T' T'' hz x y h1 h2 hg 30 (.inl rfl) (fun w hw => Mod_zero K N x K'' N'' z T T'' h1 h3 hz0 w hw) (fun w hw => Mod_zero K' N' y K'' N'' z T' T'' h2 h3 hz0 w hw) w hw
                · exact div_num K N K' N' K'' N'' T T' T'' x y h1 h2 hg z h3 hz0 w hw
              · exact div_noz K N K' N' K'' N'' T T' T'' hz x y h1 h2 hg 31 (.inr rfl) (fun w hw => Mod_no K N K'' N'' T T'' (.inr fun z hz => h3 ⟨z, hz⟩) hN hN'' w hw) (fun w hw => Mod_no K' N' K'' N'' T' T'' (.inr fun z hz => h3 ⟨z, hz⟩) hN' hN'' w hw) w hw
          · exact div_no K N K' N' K'' N'' T T' T'' hx hy hz (.inr fun z hz => h2 ⟨z, hz⟩) hN hN' w hw
        · exact div_no K N K' N' K'' N'' T T' T'' hx hy hz (.inl fun z hz => h1 ⟨z, hz⟩) hN hN' w hw
      · exact div_long3 K N K' N' K'' N'' T T' T'' hx hy hz w hw
    · exact div_long2 K N K' N' K'' N'' T T' T'' hx hy w hw
  · exact div_long1 K N K' N' K'' N'' T T' T'' hx w hw
end Go.Proofs.YthbfbpbppjkoeaaGreatDoor
