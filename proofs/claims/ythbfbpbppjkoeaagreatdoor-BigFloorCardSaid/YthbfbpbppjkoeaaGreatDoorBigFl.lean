/- The walk of BigFloor of package proteuslaw03, case by case. Conditions: those in the statements. -/
import Derived.Test.YthbfbpbppjkoeaaGreatDoorBigLb
namespace Go.Proofs.YthbfbpbppjkoeaaGreatDoor
open Go.RowKit Go.Shelf
set_option exponentiation.threshold 500
set_option maxRecDepth 100000
set_option linter.unusedSimpArgs false
set_option linter.unusedVariables false
attribute [local irreducible] wpQuiet

set_option maxHeartbeats 4000000 in
theorem floor_long1 (K N K' N' : Int) (T T' : List UInt8) (hx : ¬ T.length ≤ 800) (w : World) (hw : Wd w) :
    Calls Tryz.prog 8 #[valV K N T, valV K' N' T'] w fun e w' => e = .returned (.bool true) ∧ Below w.heap.size w w' := by
  have H_0 := Lib.hid (Below.refl w.heap.size w)
  unfold valV
  go_enter Tryz.func8, Tryz.ntmps8
  have hb : Below (w).heap.size (w) ((w).alloc (.cells #[.int .i64 K, .int .i64 N, .string ⟨T.toArray⟩] 23)) := (Below.refl _ (w)).alloc (Nat.le_refl _) _
  have Bnew := VB.new (w) (.int .i64 K) (.int .i64 N) (.string ⟨T.toArray⟩)
  try simp only [World.size_alloc] at Bnew
  have H_1 := Lib.hid (H_0.out.trans (hb.mono H_0.out.size))
  clear hb H_0
  have Bx_1 := Lib.hid Bnew
  clear Bnew
  have hb : Below ((w).alloc (.cells #[.int .i64 K, .int .i64 N, .string ⟨T.toArray⟩] 23)).heap.size ((w).alloc (.cells #[.int .i64 K, .int .i64 N, .string ⟨T.toArray⟩] 23)) (((w).alloc (.cells #[.int .i64 K, .int .i64 N, .string ⟨T.toArray⟩] 23)).alloc (.cells #[.int .i64 K', .int .i64 N', .string ⟨T'.toArray⟩] 23)) := (Below.refl _ ((w).alloc (.cells #[.int .i64 K, .int .i64 N, .string ⟨T.toArray⟩] 23))).alloc (Nat.le_refl _) _
  have Bnew := VB.new ((w).alloc (.cells #[.int .i64 K, .int .i64 N, .string ⟨T.toArray⟩] 23)) (.int .i64 K') (.int .i64 N') (.string ⟨T'.toArray⟩)
  try simp only [World.size_alloc] at Bnew
  have Bx_2 := Lib.hid (Bx_1.out.below hb Bx_1.out.lt)
  have H_2 := Lib.hid (H_1.out.trans (hb.mono H_1.out.size))
  clear hb H_1 Bx_1
  have By_2 := Lib.hid Bnew
  clear Bnew
  go_wp2_with fail
  have hc := awake_c (((w).alloc (.cells #[.int .i64 K, .int .i64 N, .string ⟨T.toArray⟩] 23)).alloc (.cells #[.int .i64 K', .int .i64 N', .string ⟨T'.toArray⟩] 23)) (hw.below H_2.out)
  unfold valV at hc
  refine hc.mono ?_
  rintro e u1 ⟨rfl, hb⟩
  clear hc
  have Bx_3 := Lib.hid (Bx_2.out.below hb Bx_2.out.lt)
  have By_3 := Lib.hid (By_2.out.below hb By_2.out.lt)
  have H_3 := Lib.hid (H_2.out.trans (hb.mono H_2.out.size))
  clear hb H_2 Bx_2 By_2
  have qx0 := Bx_3.out.c0
  have qx1 := Bx_3.out.c1
  have qx2 := Bx_3.out.c2
  go_wp2_with fail
  clear qx0 qx1 qx2
  have hc := short_not K N T hx (u1)
  unfold valV at hc
  refine hc.mono ?_
  rintro e u2 ⟨rfl, hb⟩
  clear hc
  have Bx_4 := Lib.hid (Bx_3.out.below hb Bx_3.out.lt)
  have By_4 := Lib.hid (By_3.out.below hb By_3.out.lt)
  have H_4 := Lib.hid (H_3.out.trans (hb.mono H_3.out.size))
  clear hb H_3 Bx_3 By_3
  go_wp2_with fail
  go_ret
  exact ⟨rfl, H_4.out⟩

set_option maxHeartbeats 4000000 in
theorem floor_long2 (K N K' N' : Int) (T T' : List UInt8) (hx : T.length ≤ 800) (hy : ¬ T'.length ≤ 800) (w : World) (hw : Wd w) :
    Calls Tryz.prog 8 #[valV K N T, valV K' N' T'] w fun e w' => e = .returned (.bool true) ∧ Below w.heap.size w w' := by
  have H_0 := Lib.hid (Below.refl w.heap.size w)
  unfold valV
  go_enter Tryz.func8, Tryz.ntmps8
  have hb : Below (w).heap.size (w) ((w).alloc (.cells #[.int .i64 K, .int .i64 N, .string ⟨T.toArray⟩] 23)) := (Below.refl _ (w)).alloc (Nat.le_refl _) _
  have Bnew := VB.new (w) (.int .i64 K) (.int .i64 N) (.string ⟨T.toArray⟩)
  try simp only [World.size_alloc] at Bnew
  have H_1 := Lib.hid (H_0.out.trans (hb.mono H_0.out.size))
  clear hb H_0
  have Bx_1 := Lib.hid Bnew
  clear Bnew
  have hb : Below ((w).alloc (.cells #[.int .i64 K, .int .i64 N, .string ⟨T.toArray⟩] 23)).heap.size ((w).alloc (.cells #[.int .i64 K, .int .i64 N, .string ⟨T.toArray⟩] 23)) (((w).alloc (.cells #[.int .i64 K, .int .i64 N, .string ⟨T.toArray⟩] 23)).alloc (.cells #[.int .i64 K', .int .i64 N', .string ⟨T'.toArray⟩] 23)) := (Below.refl _ ((w).alloc (.cells #[.int .i64 K, .int .i64 N, .string ⟨T.toArray⟩] 23))).alloc (Nat.le_refl _) _
  have Bnew := VB.new ((w).alloc (.cells #[.int .i64 K, .int .i64 N, .string ⟨T.toArray⟩] 23)) (.int .i64 K') (.int .i64 N') (.string ⟨T'.toArray⟩)
  try simp only [World.size_alloc] at Bnew
  have Bx_2 := Lib.hid (Bx_1.out.below hb Bx_1.out.lt)
  have H_2 := Lib.hid (H_1.out.trans (hb.mono H_1.out.size))
  clear hb H_1 Bx_1
  have By_2 := Lib.hid Bnew
  clear Bnew
  go_wp2_with fail
  have hc := awake_c (((w).alloc (.cells #[.int .i64 K, .int .i64 N, .string ⟨T.toArray⟩] 23)).alloc (.cells #[.int .i64 K', .int .i64 N', .string ⟨T'.toArray⟩] 23)) (hw.below H_2.out)
  unfold valV at hc
  refine hc.mono ?_
  rintro e u1 ⟨rfl, hb⟩
  clear hc
  have Bx_3 := Lib.hid (Bx_2.out.below hb Bx_2.out.lt)
  have By_3 := Lib.hid (By_2.out.below hb By_2.out.lt)
  have H_3 := Lib.hid (H_2.out.trans (hb.mono H_2.out.size))
  clear hb H_2 Bx_2 By_2
  have qx0 := Bx_3.out.c0
  have qx1 := Bx_3.out.c1
  have qx2 := Bx_3.out.c2
  go_wp2_with fail
  clear qx0 qx1 qx2
  have hc := short_yes K N T hx (u1)
  unfold valV at hc
  refine hc.mono ?_
  rintro e u2 ⟨rfl, hb⟩
  clear hc
  have Bx_4 := Lib.hid (Bx_3.out.below hb Bx_3.out.lt)
  have By_4 := Lib.hid (By_3.out.below hb By_3.out.lt)
  have H_4 := Lib.hid (H_3.out.trans (hb.mono H_3.out.size))
  clear hb H_3 Bx_3 By_3
  have qy0 := By_4.out.c0
  have qy1 := By_4.out.c1
  have qy2 := By_4.out.c2
  go_wp2_with fail
  clear qy0 qy1 qy2
  have hc := short_not K' N' T' hy (u2)
  unfold valV at hc
  refine hc.mono ?_
  rintro e u3 ⟨rfl, hb⟩
  clear hc
  have Bx_5 := Lib.hid (Bx_4.out.below hb Bx_4.out.lt)
  have By_5 := Lib.hid (By_4.out.below hb By_4.out.lt)
  have H_5 := Lib.hid (H_4.out.trans (hb.mono H_4.out.size))
  clear hb H_4 Bx_4 By_4
  go_wp2_with fail
  go_ret
  exact ⟨rfl, H_5.out⟩

set_option maxHeartbeats 4000000 in
theorem floor_no (K N K' N' : Int) (T T' : List UInt8) (hx : T.length ≤ 800) (hy : T'.length ≤ 800) (h : (∀ z, ¬ IsNum K N T z) ∨ ∀ z, ¬ IsNum K' N' T' z) (hN : In64Z N) (hN' : In64Z N') (w : World) (hw : Wd w) :
    Calls Tryz.prog 8 #[valV K N T, valV K' N' T'] w fun e w' => e = .returned (.bool true) ∧ Below w.heap.size w w' := by
  have H_0 := Lib.hid (Below.refl w.heap.size w)
  unfold valV
  go_enter Tryz.func8, Tryz.ntmps8
  have hb : Below (w).heap.size (w) ((w).alloc (.cells #[.int .i64 K, .int .i64 N, .string ⟨T.toArray⟩] 23)) := (Below.refl _ (w)).alloc (Nat.le_refl _) _
  have Bnew := VB.new (w) (.int .i64 K) (.int .i64 N) (.string ⟨T.toArray⟩)
  try simp only [World.size_alloc] at Bnew
  have H_1 := Lib.hid (H_0.out.trans (hb.mono H_0.out.size))
  clear hb H_0
  have Bx_1 := Lib.hid Bnew
  clear Bnew
  have hb : Below ((w).alloc (.cells #[.int .i64 K, .int .i64 N, .string ⟨T.toArray⟩] 23)).heap.size ((w).alloc (.cells #[.int .i64 K, .int .i64 N, .string ⟨T.toArray⟩] 23)) (((w).alloc (.cells #[.int .i64 K, .int .i64 N, .string ⟨T.toArray⟩] 23)).alloc (.cells #[.int .i64 K', .int .i64 N', .string ⟨T'.toArray⟩] 23)) := (Below.refl _ ((w).alloc (.cells #[.int .i64 K, .int .i64 N, .string ⟨T.toArray⟩] 23))).alloc (Nat.le_refl _) _
  have Bnew := VB.new ((w).alloc (.cells #[.int .i64 K, .int .i64 N, .string ⟨T.toArray⟩] 23)) (.int .i64 K') (.int .i64 N') (.string ⟨T'.toArray⟩)
  try simp only [World.size_alloc] at Bnew
  have Bx_2 := Lib.hid (Bx_1.out.below hb Bx_1.out.lt)
  have H_2 := Lib.hid (H_1.out.trans (hb.mono H_1.out.size))
  clear hb H_1 Bx_1
  have By_2 := Lib.hid Bnew
  clear Bnew
  go_wp2_with fail
  have hc := awake_c (((w).alloc (.cells #[.int .i64 K, .int .i64 N, .string ⟨T.toArray⟩] 23)).alloc (.cells #[.int .i64 K', .int .i64 N', .string ⟨T'.toArray⟩] 23)) (hw.below H_2.out)
  unfold valV at hc
  refine hc.mono ?_
  rintro e u1 ⟨rfl, hb⟩
  clear hc
  have Bx_3 := Lib.hid (Bx_2.out.below hb Bx_2.out.lt)
  have By_3 := Lib.hid (By_2.out.below hb By_2.out.lt)
  have H_3 := Lib.hid (H_2.out.trans (hb.mono H_2.out.size))
  clear hb H_2 Bx_2 By_2
  have qx0 := Bx_3.out.c0
  have qx1 := Bx_3.out.c1
  have qx2 := Bx_3.out.c2
  go_wp2_with fail
  clear qx0 qx1 qx2
  have hc := short_yes K N T hx (u1)
  unfold valV at hc
  refine hc.mono ?_
  rintro e u2 ⟨rfl, hb⟩
  clear hc
  have Bx_4 := Lib.hid (Bx_3.out.below hb Bx_3.out.lt)
  have By_4 := Lib.hid (By_3.out.below hb By_3.out.lt)
  have H_4 := Lib.hid (H_3.out.trans (hb.mono H_3.out.size))
  clear hb H_3 Bx_3 By_3
  have qy0 := By_4.out.c0
  have qy1 := By_4.out.c1
  have qy2 := By_4.out.c2
  go_wp2_with fail
  clear qy0 qy1 qy2
  have hc := short_yes K' N' T' hy (u2)
  unfold valV at hc
  refine hc.mono ?_
  rintro e u3 ⟨rfl, hb⟩
  clear hc
  have Bx_5 := Lib.hid (Bx_4.out.below hb Bx_4.out.lt)
  have By_5 := Lib.hid (By_4.out.below hb By_4.out.lt)
  have H_5 := Lib.hid (H_4.out.trans (hb.mono H_4.out.size))
  clear hb H_4 Bx_4 By_4
  have qx0 := Bx_5.out.c0
  have qx1 := Bx_5.out.c1
  have qx2 := Bx_5.out.c2
  have qy0 := By_5.out.c0
  have qy1 := By_5.out.c1
  have qy2 := By_5.out.c2
  go_wp2_with fail
  clear qx0 qx1 qx2 qy0 qy1 qy2
  have hc := Mul_no K N K' N' T T' h hN hN' (u3) (hw.below H_5.out)
  unfold valV at hc
  refine hc.mono ?_
  rintro e u4 ⟨rfl, hb⟩
  clear hc
  have Bx_6 := Lib.hid (Bx_5.out.below hb Bx_5.out.lt)
  have By_6 := Lib.hid (By_5.out.below hb By_5.out.lt)
  have H_6 := Lib.hid (H_5.out.trans (hb.mono H_5.out.size))
  clear hb H_5 Bx_5 By_5
  have hb : Below (u4).heap.size (u4) ((u4).alloc (.cells #[.int .i64 0, .int .i64 0, .string ⟨#[]⟩] 23)) := (Below.refl _ (u4)).alloc (Nat.le_refl _) _
  have Bnew := VB.new (u4) (.int .i64 0) (.int .i64 0) (.string ⟨#[]⟩)
  try simp only [World.size_alloc] at Bnew
  have Bx_7 := Lib.hid (Bx_6.out.below hb Bx_6.out.lt)
  have By_7 := Lib.hid (By_6.out.below hb By_6.out.lt)
  have H_7 := Lib.hid (H_6.out.trans (hb.mono H_6.out.size))
  clear hb H_6 Bx_6 By_6
  have Bp_7 := Lib.hid Bnew
  clear Bnew
  have qx0 := Bx_7.out.c0
  have qx1 := Bx_7.out.c1
  have qx2 := Bx_7.out.c2
  have qy0 := By_7.out.c0
  have qy1 := By_7.out.c1
  have qy2 := By_7.out.c2
  go_wp2_with fail
  clear qx0 qx1 qx2 qy0 qy1 qy2
  have hc := Div_no K N K' N' T T' h hN hN' ((u4).alloc (.cells #[.int .i64 0, .int .i64 0, .string ⟨#[]⟩] 23)) (hw.below H_7.out)
  unfold valV at hc
  refine hc.mono ?_
  rintro e u5 ⟨rfl, hb⟩
  clear hc
  have Bx_8 := Lib.hid (Bx_7.out.below hb Bx_7.out.lt)
  have By_8 := Lib.hid (By_7.out.below hb By_7.out.lt)
  have Bp_8 := Lib.hid (Bp_7.out.below hb Bp_7.out.lt)
  have H_8 := Lib.hid (H_7.out.trans (hb.mono H_7.out.size))
  clear hb H_7 Bx_7 By_7 Bp_7
  have hb : Below (u5).heap.size (u5) ((u5).alloc (.cells #[.int .i64 0, .int .i64 0, .string ⟨#[]⟩] 23)) := (Below.refl _ (u5)).alloc (Nat.le_refl _) _
  have Bnew := VB.new (u5) (.int .i64 0) (.int .i64 0) (.string ⟨#[]⟩)
  try simp only [World.size_alloc] at Bnew
  have Bx_9 := Lib.hid (Bx_8.out.below hb Bx_8.out.lt)
  have By_9 := Lib.hid (By_8.out.below hb By_8.out.lt)
  have Bp_9 := Lib.hid (Bp_8.out.below hb Bp_8.out.lt)
  have H_9 := Lib.hid (H_8.out.trans (hb.mono H_8.out.size))
  clear hb H_8 Bx_8 By_8 Bp_8
  have Bq_9 := Lib.hid Bnew
  clear Bnew
  have qx0 := Bx_9.out.c0
  have qx1 := Bx_9.out.c1
  have qx2 := Bx_9.out.c2
  have qy0 := By_9.out.c0
  have qy1 := By_9.out.c1
  have qy2 := By_9.out.c2
  go_wp2_with fail
  clear qx0 qx1 qx2 qy0 qy1 qy2
  have hc := Mod_no K N K' N' T T' h hN hN' ((u5).alloc (.cells #[.int .i64 0, .int .i64 0, .string ⟨#[]⟩] 23)) (hw.below H_9.out)
  unfold valV at hc
  refine hc.mono ?_
  rintro e u6 ⟨rfl, hb⟩
  clear hc
  have Bx_10 := Lib.hid (Bx_9.out.below hb Bx_9.out.lt)
  have By_10 := Lib.hid (By_9.out.below hb By_9.out.lt)
  have Bp_10 := Lib.hid (Bp_9.out.below hb Bp_9.out.lt)
  have Bq_10 := Lib.hid (Bq_9.out.below hb Bq_9.out.lt)
  have H_10 := Lib.hid (H_9.out.trans (hb.mono H_9.out.size))
  clear hb H_9 Bx_9 By_9 Bp_9 Bq_9
  have hb : Below (u6).heap.size (u6) ((u6).alloc (.cells #[.int .i64 0, .int .i64 0, .string ⟨#[]⟩] 23)) := (Below.refl _ (u6)).alloc (Nat.le_refl _) _
  have Bnew := VB.new (u6) (.int .i64 0) (.int .i64 0) (.string ⟨#[]⟩)
  try simp only [World.size_alloc] at Bnew
  have Bx_11 := Lib.hid (Bx_10.out.below hb Bx_10.out.lt)
  have By_11 := Lib.hid (By_10.out.below hb By_10.out.lt)
  have Bp_11 := Lib.hid (Bp_10.out.below hb Bp_10.out.lt)
  have Bq_11 := Lib.hid (Bq_10.out.below hb Bq_10.out.lt)
  have H_11 := Lib.hid (H_10.out.trans (hb.mono H_10.out.size))
  clear hb H_10 Bx_10 By_10 Bp_10 Bq_10
  have Br_11 := Lib.hid Bnew
  clear Bnew
  go_upto_region 10 with fail
  refine region_grown (by kernel_rfl) ?_
  apply quiet_wanted
  · go_simp
  · intro W hW; unfold Oper.quietAt; go_simp; (try exact ⟨rfl, rfl⟩); (try rfl)
  (try simp only [Act.put, List.setIfInBounds_toArray, List.set_cons_zero, List.set_cons_succ])
  apply quiet_wanted
  · go_simp
  · intro W hW; unfold Oper.quietAt; go_simp; (try exact ⟨rfl, rfl⟩); (try rfl)
  (try simp only [Act.put, List.setIfInBounds_toArray, List.set_cons_zero, List.set_cons_succ])
  apply quiet_wanted
  · go_simp
  · intro W hW; unfold Oper.quietAt; go_simp; (try exact ⟨rfl, rfl⟩); (try rfl)
  (try simp only [Act.put, List.setIfInBounds_toArray, List.set_cons_zero, List.set_cons_succ])
  apply quiet_wanted
  · go_simp
  · intro W hW; unfold Oper.quietAt; go_simp; (try exact ⟨rfl, rfl⟩); (try rfl)
  (try simp only [Act.put, List.setIfInBounds_toArray, List.set_cons_zero, List.set_cons_succ])
  apply quiet_wanted
  · go_simp
  · intro W hW; unfold Oper.quietAt; go_simp; (try exact ⟨rfl, rfl⟩); (try rfl)
  (try simp only [Act.put, List.setIfInBounds_toArray, List.set_cons_zero, List.set_cons_succ])
  refine quiet_unwanted (by first | (go_simp; done) | (go_simp; intro hh; cases hh)) ?_
  (try simp only [Act.put, List.setIfInBounds_toArray, List.set_cons_zero, List.set_cons_succ])
  refine quiet_unwanted (by first | (go_simp; done) | (go_simp; intro hh; cases hh)) ?_
  (try simp only [Act.put, List.setIfInBounds_toArray, List.set_cons_zero, List.set_cons_succ])
  refine quiet_unwanted (by first | (go_simp; done) | (go_simp; intro hh; cases hh)) ?_
  (try simp only [Act.put, List.setIfInBounds_toArray, List.set_cons_zero, List.set_cons_succ])
  refine quiet_unwanted (by first | (go_simp; done) | (go_simp; intro hh; cases hh)) ?_
  (try simp only [Act.put, List.setIfInBounds_toArray, List.set_cons_zero, List.set_cons_succ])
  refine quiet_unwanted (by first | (go_simp; done) | (go_simp; intro hh; cases hh)) ?_
  (try simp only [Act.put, List.setIfInBounds_toArray, List.set_cons_zero, List.set_cons_succ])
  refine quiet_unwanted (by first | (go_simp; done) | (go_simp; intro hh; cases hh)) ?_
  (try simp only [Act.put, List.setIfInBounds_toArray, List.set_cons_zero, List.set_cons_succ])
  refine quiet_unwanted (by first | (go_simp; done) | (go_simp; intro hh; cases hh)) ?_
  (try simp only [Act.put, List.setIfInBounds_toArray, List.set_cons_zero, List.set_cons_succ])
  apply quiet_wanted
  · go_simp
  · intro W hW; unfold Oper.quietAt; go_simp; (try exact ⟨rfl, rfl⟩); (try rfl)
  (try simp only [Act.put, List.setIfInBounds_toArray, List.set_cons_zero, List.set_cons_succ])
  apply quiet_wanted
  · go_simp
  · intro W hW; unfold Oper.quietAt; go_simp; (try exact ⟨rfl, rfl⟩); (try rfl)
  (try simp only [Act.put, List.setIfInBounds_toArray, List.set_cons_zero, List.set_cons_succ])
  apply quiet_wanted
  · go_simp
  · intro W hW; unfold Oper.quietAt; go_simp; (try exact ⟨rfl, rfl⟩); (try rfl)
  (try simp only [Act.put, List.setIfInBounds_toArray, List.set_cons_zero, List.set_cons_succ])
  refine wpQuiet_nil ?_
  intro u7 hb
  unfold Grown at hb
  have Bx_12 := Lib.hid (Bx_11.out.below hb Bx_11.out.lt)
  have By_12 := Lib.hid (By_11.out.below hb By_11.out.lt)
  have Bp_12 := Lib.hid (Bp_11.out.below hb Bp_11.out.lt)
  have Bq_12 := Lib.hid (Bq_11.out.below hb Bq_11.out.lt)
  have Br_12 := Lib.hid (Br_11.out.below hb Br_11.out.lt)
  have H_12 := Lib.hid (H_11.out.trans (hb.mono H_11.out.size))
  clear hb H_11 Bx_11 By_11 Bp_11 Bq_11 Br_11
  go_wp2_with fail
  go_ret
  exact ⟨rfl, H_12.out⟩

set_option maxHeartbeats 4000000 in
theorem floor_zero (K N K' N' : Int) (T T' : List UInt8) (x y : Int) (h : IsNum K N T x) (h' : IsNum K' N' T' y) (hy0 : y = 0) (w : World) (hw : Wd w) :
    Calls Tryz.prog 8 #[valV K N T, valV K' N' T'] w fun e w' => e = .returned (.bool true) ∧ Below w.heap.size w w' := by
  obtain ⟨rfl, rfl, rfl⟩ : K' = 1 ∧ N' = 0 ∧ T' = [] := (h'.eq_iff isNum_zero).2 hy0
  subst hy0
  have H_0 := Lib.hid (Below.refl w.heap.size w)
  unfold valV
  go_enter Tryz.func8, Tryz.ntmps8
  have hb : Below (w).heap.size (w) ((w).alloc (.cells #[.int .i64 K, .int .i64 N, .string ⟨T.toArray⟩] 23)) := (Below.refl _ (w)).alloc (Nat.le_refl _) _
  have Bnew := VB.new (w) (.int .i64 K) (.int .i64 N) (.string ⟨T.toArray⟩)
  try simp only [World.size_alloc] at Bnew
  have H_1 := Lib.hid (H_0.out.trans (hb.mono H_0.out.size))
  clear hb H_0
  have Bx_1 := Lib.hid Bnew
  clear Bnew
  have hb : Below ((w).alloc (.cells #[.int .i64 K, .int .i64 N, .string ⟨T.toArray⟩] 23)).heap.size ((w).alloc (.cells #[.int .i64 K, .int .i64 N, .string ⟨T.toArray⟩] 23)) (((w).alloc (.cells #[.int .i64 K, .int .i64 N, .string ⟨T.toArray⟩] 23)).alloc (.cells #[.int .i64 1, .int .i64 0, .string ⟨[].toArray⟩] 23)) := (Below.refl _ ((w).alloc (.cells #[.int .i64 K, .int .i64 N, .string ⟨T.toArray⟩] 23))).alloc (Nat.le_refl _) _
  have Bnew := VB.new ((w).alloc (.cells #[.int .i64 K, .int .i64 N, .string ⟨T.toArray⟩] 23)) (.int .i64 1) (.int .i64 0) (.string ⟨[].toArray⟩)
  try simp only [World.size_alloc] at Bnew
  have Bx_2 := Lib.hid (Bx_1.out.below hb Bx_1.out.lt)
  have H_2 := Lib.hid (H_1.out.trans (hb.mono H_1.out.size))
  clear hb H_1 Bx_1
  have By_2 := Lib.hid Bnew
  clear Bnew
  go_wp2_with fail
  have hc := awake_c (((w).alloc (.cells #[.int .i64 K, .int .i64 N, .string ⟨T.toArray⟩] 23)).alloc (.cells #[.int .i64 1, .int .i64 0, .string ⟨[].toArray⟩] 23)) (hw.below H_2.out)
  unfold valV at hc
  refine hc.mono ?_
  rintro e u1 ⟨rfl, hb⟩
  clear hc
  have Bx_3 := Lib.hid (Bx_2.out.below hb Bx_2.out.lt)
  have By_3 := Lib.hid (By_2.out.below hb By_2.out.lt)
  have H_3 := Lib.hid (H_2.out.trans (hb.mono H_2.out.size))
  clear hb H_2 Bx_2 By_2
  have qx0 := Bx_3.out.c0
  have qx1 := Bx_3.out.c1
  have qx2 := Bx_3.out.c2
  go_wp2_with fail
  clear qx0 qx1 qx2
  have hc := short_yes K N T (by have := h.len; omega) (u1)
  unfold valV at hc
  refine hc.mono ?_
  rintro e u2 ⟨rfl, hb⟩
  clear hc
  have Bx_4 := Lib.hid (Bx_3.out.below hb Bx_3.out.lt)
  have By_4 := Lib.hid (By_3.out.below hb By_3.out.lt)
  have H_4 := Lib.hid (H_3.out.trans (hb.mono H_3.out.size))
  clear hb H_3 Bx_3 By_3
  have qy0 := By_4.out.c0
  have qy1 := By_4.out.c1
  have qy2 := By_4.out.c2
  go_wp2_with fail
  clear qy0 qy1 qy2
  have hc := short_yes 1 0 [] (by have := h'.len; omega) (u2)
  unfold valV at hc
  refine hc.mono ?_
  rintro e u3 ⟨rfl, hb⟩
  clear hc
  have Bx_5 := Lib.hid (Bx_4.out.below hb Bx_4.out.lt)
  have By_5 := Lib.hid (By_4.out.below hb By_4.out.lt)
  have H_5 := Lib.hid (H_4.out.trans (hb.mono H_4.out.size))
  clear hb H_4 Bx_4 By_4
  have qx0 := Bx_5.out.c0
  have qx1 := Bx_5.out.c1
  have qx2 := Bx_5.out.c2
  have qy0 := By_5.out.c0
  have qy1 := By_5.out.c1
  have qy2 := By_5.out.c2
  go_wp2_with fail
  clear qx0 qx1 qx2 qy0 qy1 qy2
  have hc := Mul_num h h' (Int.mul_zero x) isNum_zero (u3) (hw.below H_5.out)
  unfold valV at hc
  refine hc.mono ?_
  rintro e u4 ⟨rfl, hb⟩
  clear hc
  have Bx_6 := Lib.hid (Bx_5.out.below hb Bx_5.out.lt)
  have By_6 := Lib.hid (By_5.out.below hb By_5.out.lt)
  have H_6 := Lib.hid (H_5.out.trans (hb.mono H_5.out.size))
  clear hb H_5 Bx_5 By_5
  have hb : Below (u4).heap.size (u4) ((u4).alloc (.cells #[.int .i64 1, .int .i64 0, .string ⟨#[]⟩] 23)) := (Below.refl _ (u4)).alloc (Nat.le_refl _) _
  have Bnew := VB.new (u4) (.int .i64 1) (.int .i64 0) (.string ⟨#[]⟩)
  try simp only [World.size_alloc] at Bnew
  have Bx_7 := Lib.hid (Bx_6.out.below hb Bx_6.out.lt)
  have By_7 := Lib.hid (By_6.out.below hb By_6.out.lt)
  have H_7 := Lib.hid (H_6.out.trans (hb.mono H_6.out.size))
  clear hb H_6 Bx_6 By_6
  have Bp_7 := Lib.hid Bnew
  clear Bnew
  have qx0 := Bx_7.out.c0
  have qx1 := Bx_7.out.c1
  have qx2 := Bx_7.out.c2
  have qy0 := By_7.out.c0
  have qy1 := By_7.out.c1
  have qy2 := By_7.out.c2
  go_wp2_with fail
  clear qx0 qx1 qx2 qy0 qy1 qy2
  have hc := Div_zero K N x 1 0 0 T [] h h' rfl ((u4).alloc (.cells #[.int .i64 1, .int .i64 0, .string ⟨#[]⟩] 23)) (hw.below H_7.out)
  unfold valV at hc
  refine hc.mono ?_
  rintro e u5 ⟨rfl, hb⟩
  clear hc
  have Bx_8 := Lib.hid (Bx_7.out.below hb Bx_7.out.lt)
  have By_8 := Lib.hid (By_7.out.below hb By_7.out.lt)
  have Bp_8 := Lib.hid (Bp_7.out.below hb Bp_7.out.lt)
  have H_8 := Lib.hid (H_7.out.trans (hb.mono H_7.out.size))
  clear hb H_7 Bx_7 By_7 Bp_7
  have hb : Below (u5).heap.size (u5) ((u5).alloc (.cells #[.int .i64 0, .int .i64 0, .string ⟨#[]⟩] 23)) := (Below.refl _ (u5)).alloc (Nat.le_refl _) _
  have Bnew := VB.new (u5) (.int .i64 0) (.int .i64 0) (.string ⟨#[]⟩)
  try simp only [World.size_alloc] at Bnew
  have Bx_9 := Lib.hid (Bx_8.out.below hb Bx_8.out.lt)
  have By_9 := Lib.hid (By_8.out.below hb By_8.out.lt)
  have Bp_9 := Lib.hid (Bp_8.out.below hb Bp_8.out.lt)
  have H_9 := Lib.hid (H_8.out.trans (hb.mono H_8.out.size))
  clear hb H_8 Bx_8 By_8 Bp_8
  have Bq_9 := Lib.hid Bnew
  clear Bnew
  have qx0 := Bx_9.out.c0
  have qx1 := Bx_9.out.c1
  have qx2 := Bx_9.out.c2
  have qy0 := By_9.out.c0
  have qy1 := By_9.out.c1
  have qy2 := By_9.out.c2
  go_wp2_with fail
  clear qx0 qx1 qx2 qy0 qy1 qy2
  have hc := Mod_zero K N x 1 0 0 T [] h h' rfl ((u5).alloc (.cells #[.int .i64 0, .int .i64 0, .string ⟨#[]⟩] 23)) (hw.below H_9.out)
  unfold valV at hc
  refine hc.mono ?_
  rintro e u6 ⟨rfl, hb⟩
  clear hc
  have Bx_10 := Lib.hid (Bx_9.out.below hb Bx_9.out.lt)
  have By_10 := Lib.hid (By_9.out.below hb By_9.out.lt)
  have Bp_10 := Lib.hid (Bp_9.out.below hb Bp_9.out.lt)
  have Bq_10 := Lib.hid (Bq_9.out.below hb Bq_9.out.lt)
  have H_10 := Lib.hid (H_9.out.trans (hb.mono H_9.out.size))
  clear hb H_9 Bx_9 By_9 Bp_9 Bq_9
  have hb : Below (u6).heap.size (u6) ((u6).alloc (.cells #[.int .i64 0, .int .i64 0, .string ⟨#[]⟩] 23)) := (Below.refl _ (u6)).alloc (Nat.le_refl _) _
  have Bnew := VB.new (u6) (.int .i64 0) (.int .i64 0) (.string ⟨#[]⟩)
  try simp only [World.size_alloc] at Bnew
  have Bx_11 := Lib.hid (Bx_10.out.below hb Bx_10.out.lt)
  have By_11 := Lib.hid (By_10.out.below hb By_10.out.lt)
  have Bp_11 := Lib.hid (Bp_10.out.below hb Bp_10.out.lt)
  have Bq_11 := Lib.hid (Bq_10.out.below hb Bq_10.out.lt)
  have H_11 := Lib.hid (H_10.out.trans (hb.mono H_10.out.size))
  clear hb H_10 Bx_10 By_10 Bp_10 Bq_10
  have Br_11 := Lib.hid Bnew
  clear Bnew
  go_upto_region 10 with fail
  refine region_grown (by kernel_rfl) ?_
  apply quiet_wanted
  · go_simp
  · intro W hW; unfold Oper.quietAt; go_simp; (try exact ⟨rfl, rfl⟩); (try rfl)
  (try simp only [Act.put, List.setIfInBounds_toArray, List.set_cons_zero, List.set_cons_succ])
  apply quiet_wanted
  · go_simp
  · intro W hW; unfold Oper.quietAt; go_simp; (try exact ⟨rfl, rfl⟩); (try rfl)
  (try simp only [Act.put, List.setIfInBounds_toArray, List.set_cons_zero, List.set_cons_succ])
  apply quiet_wanted
  · go_simp
  · intro W hW; unfold Oper.quietAt; go_simp; (try exact ⟨rfl, rfl⟩); (try rfl)
  (try simp only [Act.put, List.setIfInBounds_toArray, List.set_cons_zero, List.set_cons_succ])
  apply quiet_wanted
  · go_simp
  · intro W hW; unfold Oper.quietAt; go_simp; (try exact ⟨rfl, rfl⟩); (try rfl)
  (try simp only [Act.put, List.setIfInBounds_toArray, List.set_cons_zero, List.set_cons_succ])
  apply quiet_wanted
  · go_simp
  · intro W hW; unfold Oper.quietAt; go_simp; (try exact ⟨rfl, rfl⟩); (try rfl)
  (try simp only [Act.put, List.setIfInBounds_toArray, List.set_cons_zero, List.set_cons_succ])
  apply quiet_wanted
  · go_simp
  · intro W hW; unfold Oper.quietAt; go_simp; (try exact ⟨rfl, rfl⟩); (try rfl)
  (try simp only [Act.put, List.setIfInBounds_toArray, List.set_cons_zero, List.set_cons_succ])
  apply quiet_wanted
  · go_simp
  · intro W hW; unfold Oper.quietAt; go_simp; (try exact ⟨rfl, rfl⟩); (try rfl)
  (try simp only [Act.put, List.setIfInBounds_toArray, List.set_cons_zero, List.set_cons_succ])
  apply quiet_wanted
  · go_simp
  · intro W hW; unfold Oper.quietAt; go_simp; (try exact ⟨rfl, rfl⟩); (try rfl)
  (try simp only [Act.put, List.setIfInBounds_toArray, List.set_cons_zero, List.set_cons_succ])
  apply quiet_wanted
  · go_simp
  · intro W hW; have hV := By_11.out.below hW By_11.out.lt; have c0 := hV.c0; have c1 := hV.c1; have c2 := hV.c2; clear hV; unfold Oper.quietAt; go_simp; (try exact ⟨rfl, rfl⟩); (try rfl)
  (try simp only [Act.put, List.setIfInBounds_toArray, List.set_cons_zero, List.set_cons_succ])
  apply quiet_wanted
  · go_simp
  · intro W hW; unfold Oper.quietAt; go_simp; have hc := number_c 0 W; unfold valV at hc; exact hc.mono fun e w' hr => ⟨hr.1, Grown.trans hW hr.2⟩
  (try simp only [Act.put, List.setIfInBounds_toArray, List.set_cons_zero, List.set_cons_succ])
  apply quiet_wanted
  · go_simp
  · intro W hW; unfold Oper.quietAt; go_simp; (try exact ⟨rfl, rfl⟩); (try rfl)
  (try simp only [Act.put, List.setIfInBounds_toArray, List.set_cons_zero, List.set_cons_succ])
  apply quiet_wanted
  · go_simp
  · intro W hW; unfold Oper.quietAt; go_simp; (try exact ⟨rfl, rfl⟩); (try rfl)
  (try simp only [Act.put, List.setIfInBounds_toArray, List.set_cons_zero, List.set_cons_succ])
  apply quiet_wanted
  · go_simp
  · intro W hW; unfold Oper.quietAt; go_simp; (try exact ⟨rfl, rfl⟩); (try rfl)
  (try simp only [Act.put, List.setIfInBounds_toArray, List.set_cons_zero, List.set_cons_succ])
  apply quiet_wanted
  · go_simp
  · intro W hW; unfold Oper.quietAt; go_simp; (try exact ⟨rfl, rfl⟩); (try rfl)
  (try simp only [Act.put, List.setIfInBounds_toArray, List.set_cons_zero, List.set_cons_succ])
  apply quiet_wanted
  · go_simp
  · intro W hW; unfold Oper.quietAt; go_simp; (try exact ⟨rfl, rfl⟩); (try rfl)
  (try simp only [Act.put, List.setIfInBounds_toArray, List.set_cons_zero, List.set_cons_succ])
  refine wpQuiet_nil ?_
  intro u7 hb
  unfold Grown at hb
  have Bx_12 := Lib.hid (Bx_11.out.below hb Bx_11.out.lt)
  have By_12 := Lib.hid (By_11.out.below hb By_11.out.lt)
  have Bp_12 := Lib.hid (Bp_11.out.below hb Bp_11.out.lt)
  have Bq_12 := Lib.hid (Bq_11.out.below hb Bq_11.out.lt)
  have Br_12 := Lib.hid (Br_11.out.below hb Br_11.out.lt)
  have H_12 := Lib.hid (H_11.out.trans (hb.mono H_11.out.size))
  clear hb H_11 Bx_11 By_11 Bp_11 Bq_11 Br_11
  go_wp2_with fail
  go_ret
  exact ⟨rfl, H_12.out⟩

set_option maxHeartbeats 4000000 in
theorem floor_ok0 (K N K' N' : Int) (T T' : List UInt8) (x y : Int) (h : IsNum K N T x) (h' : IsNum K' N' T' y) (hy0 : y ≠ 0) (hr0 : x.fmod y = 0) (w : World) (hw : Wd w) :
    Calls Tryz.prog 8 #[valV K N T, valV K' N' T'] w fun e w' => e = .returned (.bool true) ∧ Below w.heap.size w w' := by
  obtain ⟨Q0, Q1, Q2, hq⟩ := isNum_few (few_fdiv h.1 hy0)
  have hr := isNum_zero
  obtain ⟨P0, P1, P2, G, hp⟩ := ans_ex (x * y)
  obtain ⟨B0, B1, B2, E, hb2⟩ := ans_ex (x - x.fmod y)
  have hfp := fl_parts x y
  have HNear := Lib.hid (fun hy : 0 < y => fl_near (x := x) hy)
  have HNearN := Lib.hid (fun hy : y < 0 => fl_near_neg (x := x) hy)
  have hm0 : x.fmod y = 0 := hr0
  obtain ⟨b, hb⟩ : ∃ b, decide (y < 0) = b := ⟨_, rfl⟩
  have H_0 := Lib.hid (Below.refl w.heap.size w)
  unfold valV
  go_enter Tryz.func8, Tryz.ntmps8
  have hb : Below (w).heap.size (w) ((w).alloc (.cells #[.int .i64 K, .int .i64 N, .string ⟨T.toArray⟩] 23)) := (Below.refl _ (w)).alloc (Nat.le_refl _) _
  have Bnew := VB.new (w) (.int .i64 K) (.int .i64 N) (.string ⟨T.toArray⟩)
  try simp only [World.size_alloc] at Bnew
  have H_1 := Lib.hid (H_0.out.trans (hb.mono H_0.out.size))
  clear hb H_0
  have Bx_1 := Lib.hid Bnew
  clear Bnew
  have hb : Below ((w).alloc (.cells #[.int .i64 K, .int .i64 N, .string ⟨T.toArray⟩] 23)).heap.size ((w).alloc (.cells #[.int .i64 K, .int .i64 N, .string ⟨T.toArray⟩] 23)) (((w).alloc (.cells #[.int .i64 K, .int .i64 N, .string ⟨T.toArray⟩] 23)).alloc (.cells #[.int .i64 K', .int .i64 N', .string ⟨T'.toArray⟩] 23)) := (Below.refl _ ((w).alloc (.cells #[.int .i64 K, .int .i64 N, .string ⟨T.toArray⟩] 23))).alloc (Nat.le_refl _) _
  have Bnew := VB.new ((w).alloc (.cells #[.int .i64 K, .int .i64 N, .string ⟨T.toArray⟩] 23)) (.int .i64 K') (.int .i64 N') (.string ⟨T'.toArray⟩)
  try simp only [World.size_alloc] at Bnew
  have Bx_2 := Lib.hid (Bx_1.out.below hb Bx_1.out.lt)
  have H_2 := Lib.hid (H_1.out.trans (hb.mono H_1.out.size))
  clear hb H_1 Bx_1
  have By_2 := Lib.hid Bnew
  clear Bnew
  go_wp2_with fail
  have hc := awake_c (((w).alloc (.cells #[.int .i64 K, .int .i64 N, .string ⟨T.toArray⟩] 23)).alloc (.cells #[.int .i64 K', .int .i64 N', .string ⟨T'.toArray⟩] 23)) (hw.below H_2.out)
  unfold valV at hc
  refine hc.mono ?_
  rintro e u1 ⟨rfl, hb⟩
  clear hc
  have Bx_3 := Lib.hid (Bx_2.out.below hb Bx_2.out.lt)
  have By_3 := Lib.hid (By_2.out.below hb By_2.out.lt)
  have H_3 := Lib.hid (H_2.out.trans (hb.mono H_2.out.size))
  clear hb H_2 Bx_2 By_2
  have qx0 := Bx_3.out.c0
  have qx1 := Bx_3.out.c1
  have qx2 := Bx_3.out.c2
  go_wp2_with fail
  clear qx0 qx1 qx2
  have hc := short_yes K N T (by have := h.len; omega) (u1)
  unfold valV at hc
  refine hc.mono ?_
  rintro e u2 ⟨rfl, hb⟩
  clear hc
  have Bx_4 := Lib.hid (Bx_3.out.below hb Bx_3.out.lt)
  have By_4 := Lib.hid (By_3.out.below hb By_3.out.lt)
  have H_4 := Lib.hid (H_3.out.trans (hb.mono H_3.out.size))
  clear hb H_3 Bx_3 By_3
  have qy0 := By_4.out.c0
  have qy1 := By_4.out.c1
  have qy2 := By_4.out.c2
  go_wp2_with fail
  clear qy0 qy1 qy2
  have hc := short_yes K' N' T' (by have := h'.len; omega) (u2)
  unfold valV at hc
  refine hc.mono ?_
  rintro e u3 ⟨rfl, hb⟩
  clear hc
  have Bx_5 := Lib.hid (Bx_4.out.below hb Bx_4.out.lt)
  have By_5 := Lib.hid (By_4.out.below hb By_4.out.lt)
  have H_5 := Lib.hid (H_4.out.trans (hb.mono H_4.out.size))
  clear hb H_4 Bx_4 By_4
  have qx0 := Bx_5.out.c0
  have qx1 := Bx_5.out.c1
  have qx2 := Bx_5.out.c2
  have qy0 := By_5.out.c0
  have qy1 := By_5.out.c1
  have qy2 := By_5.out.c2
  go_wp2_with fail
  clear qx0 qx1 qx2 qy0 qy1 qy2
  have hc := Mul_any h h' hp rfl (u3) (hw.below H_5.out)
  unfold valV at hc
  refine hc.mono ?_
  rintro e u4 ⟨rfl, hb⟩
  clear hc
  have Bx_6 := Lib.hid (Bx_5.out.below hb Bx_5.out.lt)
  have By_6 := Lib.hid (By_5.out.below hb By_5.out.lt)
  have H_6 := Lib.hid (H_5.out.trans (hb.mono H_5.out.size))
  clear hb H_5 Bx_5 By_5
  have hb : Below (u4).heap.size (u4) ((u4).alloc (.cells #[.int .i64 P0, .int .i64 P1, .string ⟨P2.toArray⟩] 23)) := (Below.refl _ (u4)).alloc (Nat.le_refl _) _
  have Bnew := VB.new (u4) (.int .i64 P0) (.int .i64 P1) (.string ⟨P2.toArray⟩)
  try simp only [World.size_alloc] at Bnew
  have Bx_7 := Lib.hid (Bx_6.out.below hb Bx_6.out.lt)
  have By_7 := Lib.hid (By_6.out.below hb By_6.out.lt)
  have H_7 := Lib.hid (H_6.out.trans (hb.mono H_6.out.size))
  clear hb H_6 Bx_6 By_6
  have Bp_7 := Lib.hid Bnew
  clear Bnew
  have qx0 := Bx_7.out.c0
  have qx1 := Bx_7.out.c1
  have qx2 := Bx_7.out.c2
  have qy0 := By_7.out.c0
  have qy1 := By_7.out.c1
  have qy2 := By_7.out.c2
  go_wp2_with fail
  clear qx0 qx1 qx2 qy0 qy1 qy2
  have hc := Div_num h h' hy0 rfl hq ((u4).alloc (.cells #[.int .i64 P0, .int .i64 P1, .string ⟨P2.toArray⟩] 23)) (hw.below H_7.out)
  unfold valV at hc
  refine hc.mono ?_
  rintro e u5 ⟨rfl, hb⟩
  clear hc
  have Bx_8 := Lib.hid (Bx_7.out.below hb Bx_7.out.lt)
  have By_8 := Lib.hid (By_7.out.below hb By_7.out.lt)
  have Bp_8 := Lib.hid (Bp_7.out.below hb Bp_7.out.lt)
  have H_8 := Lib.hid (H_7.out.trans (hb.mono H_7.out.size))
  clear hb H_7 Bx_7 By_7 Bp_7
  have hb : Below (u5).heap.size (u5) ((u5).alloc (.cells #[.int .i64 Q0, .int .i64 Q1, .string ⟨Q2.toArray⟩] 23)) := (Below.refl _ (u5)).alloc (Nat.le_refl _) _
  have Bnew := VB.new (u5) (.int .i64 Q0) (.int .i64 Q1) (.string ⟨Q2.toArray⟩)
  try simp only [World.size_alloc] at Bnew
  have Bx_9 := Lib.hid (Bx_8.out.below hb Bx_8.out.lt)
  have By_9 := Lib.hid (By_8.out.below hb By_8.out.lt)
  have Bp_9 := Lib.hid (Bp_8.out.below hb Bp_8.out.lt)
  have H_9 := Lib.hid (H_8.out.trans (hb.mono H_8.out.size))
  clear hb H_8 Bx_8 By_8 Bp_8
  have Bq_9 := Lib.hid Bnew
  clear Bnew
  have qx0 := Bx_9.out.c0
  have qx1 := Bx_9.out.c1
  have qx2 := Bx_9.out.c2
  have qy0 := By_9.out.c0
  have qy1 := By_9.out.c1
  have qy2 := By_9.out.c2
  go_wp2_with fail
  clear qx0 qx1 qx2 qy0 qy1 qy2
  have hc := Mod_num h h' hy0 hr0 hr ((u5).alloc (.cells #[.int .i64 Q0, .int .i64 Q1, .string ⟨Q2.toArray⟩] 23)) (hw.below H_9.out)
  unfold valV at hc
  refine hc.mono ?_
  rintro e u6 ⟨rfl, hb⟩
  clear hc
  have Bx_10 := Lib.hid (Bx_9.out.below hb Bx_9.out.lt)
  have By_10 := Lib.hid (By_9.out.below hb By_9.out.lt)
  have Bp_10 := Lib.hid (Bp_9.out.below hb Bp_9.out.lt)
  have Bq_10 := Lib.hid (Bq_9.out.below hb Bq_9.out.lt)
  have H_10 := Lib.hid (H_9.out.trans (hb.mono H_9.out.size))
  clear hb H_9 Bx_9 By_9 Bp_9 Bq_9
  have hb : Below (u6).heap.size (u6) ((u6).alloc (.cells #[.int .i64 1, .int .i64 0, .string ⟨#[]⟩] 23)) := (Below.refl _ (u6)).alloc (Nat.le_refl _) _
  have Bnew := VB.new (u6) (.int .i64 1) (.int .i64 0) (.string ⟨#[]⟩)
  try simp only [World.size_alloc] at Bnew
  have Bx_11 := Lib.hid (Bx_10.out.below hb Bx_10.out.lt)
  have By_11 := Lib.hid (By_10.out.below hb By_10.out.lt)
  have Bp_11 := Lib.hid (Bp_10.out.below hb Bp_10.out.lt)
  have Bq_11 := Lib.hid (Bq_10.out.below hb Bq_10.out.lt)
  have H_11 := Lib.hid (H_10.out.trans (hb.mono H_10.out.size))
  clear hb H_10 Bx_10 By_10 Bp_10 Bq_10
  have Br_11 := Lib.hid Bnew
  clear Bnew
  go_upto_region 11 with fail
  refine region_grown (by kernel_rfl) ?_
  apply quiet_wanted
  · go_simp
  · intro W hW; have hV := Br_11.out.below hW Br_11.out.lt; have c0 := hV.c0; have c1 := hV.c1; have c2 := hV.c2; clear hV; unfold Oper.quietAt; go_simp; (try exact ⟨rfl, rfl⟩); (try rfl)
  (try simp only [Act.put, List.setIfInBounds_toArray, List.set_cons_zero, List.set_cons_succ])
  apply quiet_wanted
  · go_simp
  · intro W hW; unfold Oper.quietAt; go_simp; have hc := number_c 0 W; unfold valV at hc; exact hc.mono fun e w' hr => ⟨hr.1, Grown.trans hW hr.2⟩
  (try simp only [Act.put, List.setIfInBounds_toArray, List.set_cons_zero, List.set_cons_succ])
  apply quiet_wanted
  · go_simp
  · intro W hW; unfold Oper.quietAt; go_simp; (try exact ⟨rfl, rfl⟩); (try rfl)
  (try simp only [Act.put, List.setIfInBounds_toArray, List.set_cons_zero, List.set_cons_succ])
  apply quiet_wanted
  · go_simp
  · intro W hW; unfold Oper.quietAt; go_simp; (try exact ⟨rfl, rfl⟩); (try rfl)
  (try simp only [Act.put, List.setIfInBounds_toArray, List.set_cons_zero, List.set_cons_succ])
  refine quiet_unwanted (by first | (go_simp; done) | (go_simp; intro hh; cases hh)) ?_
  (try simp only [Act.put, List.setIfInBounds_toArray, List.set_cons_zero, List.set_cons_succ])
  refine quiet_unwanted (by first | (go_simp; done) | (go_simp; intro hh; cases hh)) ?_
  (try simp only [Act.put, List.setIfInBounds_toArray, List.set_cons_zero, List.set_cons_succ])
  refine quiet_unwanted (by first | (go_simp; done) | (go_simp; intro hh; cases hh)) ?_
  (try simp only [Act.put, List.setIfInBounds_toArray, List.set_cons_zero, List.set_cons_succ])
  refine quiet_unwanted (by first | (go_simp; done) | (go_simp; intro hh; cases hh)) ?_
  (try simp only [Act.put, List.setIfInBounds_toArray, List.set_cons_zero, List.set_cons_succ])
  refine quiet_unwanted (by first | (go_simp; done) | (go_simp; intro hh; cases hh)) ?_
  (try simp only [Act.put, List.setIfInBounds_toArray, List.set_cons_zero, List.set_cons_succ])
  apply quiet_wanted
  · go_simp
  · intro W hW; unfold Oper.quietAt; go_simp; (try exact ⟨rfl, rfl⟩); (try rfl)
  (try simp only [Act.put, List.setIfInBounds_toArray, List.set_cons_zero, List.set_cons_succ])
  refine wpQuiet_nil ?_
  intro u7 hb
  unfold Grown at hb
  have Bx_12 := Lib.hid (Bx_11.out.below hb Bx_11.out.lt)
  have By_12 := Lib.hid (By_11.out.below hb By_11.out.lt)
  have Bp_12 := Lib.hid (Bp_11.out.below hb Bp_11.out.lt)
  have Bq_12 := Lib.hid (Bq_11.out.below hb Bq_11.out.lt)
  have Br_12 := Lib.hid (Br_11.out.below hb Br_11.out.lt)
  have H_12 := Lib.hid (H_11.out.trans (hb.mono H_11.out.size))
  clear hb H_11 Bx_11 By_11 Bp_11 Bq_11 Br_11
  rcases b with _ | _
  · have hyp : 0 < y := by have := of_decide_eq_false hb; omega
    have qr0 := Br_12.out.c0
    have qr1 := Br_12.out.c1
    have qr2 := Br_12.out.c2
    have qy0 := By_12.out.c0
    have qy1 := By_12.out.c1
    have qy2 := By_12.out.c2
    go_wp2_with fail
    clear qr0 qr1 qr2 qy0 qy1 qy2
    have hc := Less_num hr h' true (decide_eq_true (by have := HNear.out hyp; rw [hm0] at this; exact this)) (u7) (hw.below H_12.out)
    unfold valV at hc
    refine hc.mono ?_
    rintro e u8 ⟨rfl, hb⟩
    clear hc
    have Bx_13 := Lib.hid (Bx_12.out.below hb Bx_12.out.lt)
    have By_13 := Lib.hid (By_12.out.below hb By_12.out.lt)
    have Bp_13 := Lib.hid (Bp_12.out.below hb Bp_12.out.lt)
    have Bq_13 := Lib.hid (Bq_12.out.below hb Bq_12.out.lt)
    have Br_13 := Lib.hid (Br_12.out.below hb Br_12.out.lt)
    have H_13 := Lib.hid (H_12.out.trans (hb.mono H_12.out.size))
    clear hb H_12 Bx_12 By_12 Bp_12 Bq_12 Br_12
    have qy0 := By_13.out.c0
    have qy1 := By_13.out.c1
    have qy2 := By_13.out.c2
    go_wp2_with fail
    clear qy0 qy1 qy2
    have hc := negative_num h' false hb (u8)
    unfold valV at hc
    refine hc.mono ?_
    rintro e u9 ⟨rfl, hb⟩
    clear hc
    have Bx_14 := Lib.hid (Bx_13.out.below hb Bx_13.out.lt)
    have By_14 := Lib.hid (By_13.out.below hb By_13.out.lt)
    have Bp_14 := Lib.hid (Bp_13.out.below hb Bp_13.out.lt)
    have Bq_14 := Lib.hid (Bq_13.out.below hb Bq_13.out.lt)
    have Br_14 := Lib.hid (Br_13.out.below hb Br_13.out.lt)
    have H_14 := Lib.hid (H_13.out.trans (hb.mono H_13.out.size))
    clear hb H_13 Bx_13 By_13 Bp_13 Bq_13 Br_13
    have qx0 := Bx_14.out.c0
    have qx1 := Bx_14.out.c1
    have qx2 := Bx_14.out.c2
    have qr0 := Br_14.out.c0
    have qr1 := Br_14.out.c1
    have qr2 := Br_14.out.c2
    go_wp2_with fail
    clear qx0 qx1 qx2 qr0 qr1 qr2
    have hc := Sub_any h hr hb2 (by rw [hm0]) (u9) (hw.below H_14.out)
    unfold valV at hc
    refine hc.mono ?_
    rintro e u10 ⟨rfl, hb⟩
    clear hc
    have Bx_15 := Lib.hid (Bx_14.out.below hb Bx_14.out.lt)
    have By_15 := Lib.hid (By_14.out.below hb By_14.out.lt)
    have Bp_15 := Lib.hid (Bp_14.out.below hb Bp_14.out.lt)
    have Bq_15 := Lib.hid (Bq_14.out.below hb Bq_14.out.lt)
    have Br_15 := Lib.hid (Br_14.out.below hb Br_14.out.lt)
    have H_15 := Lib.hid (H_14.out.trans (hb.mono H_14.out.size))
    clear hb H_14 Bx_14 By_14 Bp_14 Bq_14 Br_14
    have hb : Below (u10).heap.size (u10) ((u10).alloc (.cells #[.int .i64 B0, .int .i64 B1, .string ⟨B2.toArray⟩] 23)) := (Below.refl _ (u10)).alloc (Nat.le_refl _) _
    have Bnew := VB.new (u10) (.int .i64 B0) (.int .i64 B1) (.string ⟨B2.toArray⟩)
    try simp only [World.size_alloc] at Bnew
    have Bx_16 := Lib.hid (Bx_15.out.below hb Bx_15.out.lt)
    have By_16 := Lib.hid (By_15.out.below hb By_15.out.lt)
    have Bp_16 := Lib.hid (Bp_15.out.below hb Bp_15.out.lt)
    have Bq_16 := Lib.hid (Bq_15.out.below hb Bq_15.out.lt)
    have Br_16 := Lib.hid (Br_15.out.below hb Br_15.out.lt)
    have H_16 := Lib.hid (H_15.out.trans (hb.mono H_15.out.size))
    clear hb H_15 Bx_15 By_15 Bp_15 Bq_15 Br_15
    have Bb_16 := Lib.hid Bnew
    clear Bnew
    have qy0 := By_16.out.c0
    have qy1 := By_16.out.c1
    have qy2 := By_16.out.c2
    have qq0 := Bq_16.out.c0
    have qq1 := Bq_16.out.c1
    have qq2 := Bq_16.out.c2
    go_wp2_with fail
    clear qy0 qy1 qy2 qq0 qq1 qq2
    have hc := Mul_any h' hq hb2 hfp.symm ((u10).alloc (.cells #[.int .i64 B0, .int .i64 B1, .string ⟨B2.toArray⟩] 23)) (hw.below H_16.out)
    unfold valV at hc
    refine hc.mono ?_
    rintro e u11 ⟨rfl, hb⟩
    clear hc
    have Bx_17 := Lib.hid (Bx_16.out.below hb Bx_16.out.lt)
    have By_17 := Lib.hid (By_16.out.below hb By_16.out.lt)
    have Bp_17 := Lib.hid (Bp_16.out.below hb Bp_16.out.lt)
    have Bq_17 := Lib.hid (Bq_16.out.below hb Bq_16.out.lt)
    have Br_17 := Lib.hid (Br_16.out.below hb Br_16.out.lt)
    have Bb_17 := Lib.hid (Bb_16.out.below hb Bb_16.out.lt)
    have H_17 := Lib.hid (H_16.out.trans (hb.mono H_16.out.size))
    clear hb H_16 Bx_16 By_16 Bp_16 Bq_16 Br_16 Bb_16
    have hb : Below (u11).heap.size (u11) ((u11).alloc (.cells #[.int .i64 B0, .int .i64 B1, .string ⟨B2.toArray⟩] 23)) := (Below.refl _ (u11)).alloc (Nat.le_refl _) _
    have Bnew := VB.new (u11) (.int .i64 B0) (.int .i64 B1) (.string ⟨B2.toArray⟩)
    try simp only [World.size_alloc] at Bnew
    have Bx_18 := Lib.hid (Bx_17.out.below hb Bx_17.out.lt)
    have By_18 := Lib.hid (By_17.out.below hb By_17.out.lt)
    have Bp_18 := Lib.hid (Bp_17.out.below hb Bp_17.out.lt)
    have Bq_18 := Lib.hid (Bq_17.out.below hb Bq_17.out.lt)
    have Br_18 := Lib.hid (Br_17.out.below hb Br_17.out.lt)
    have Bb_18 := Lib.hid (Bb_17.out.below hb Bb_17.out.lt)
    have H_18 := Lib.hid (H_17.out.trans (hb.mono H_17.out.size))
    clear hb H_17 Bx_17 By_17 Bp_17 Bq_17 Br_17 Bb_17
    have Bc_18 := Lib.hid Bnew
    clear Bnew
    rcases hb2.two with rfl | rfl
    · have HP := Lib.hid hp
      clear hp
      rcases HP.out.two with rfl | rfl
      · have hpn := HP.out.ok
        have qb0 := Bb_18.out.c0
        have qb1 := Bb_18.out.c1
        have qb2 := Bb_18.out.c2
        have qc0 := Bc_18.out.c0
        have qc1 := Bc_18.out.c1
        have qc2 := Bc_18.out.c2
        have qp0 := Bp_18.out.c0
        have qp1 := Bp_18.out.c1
        have qp2 := Bp_18.out.c2
        have qy0 := By_18.out.c0
        have qy1 := By_18.out.c1
        have qy2 := By_18.out.c2
        go_wp2_with fail
        clear qp0 qp1 qp2 qy0 qy1 qy2
        have hc := Div_num hpn h' hy0 (fl_back x hy0) h ((u11).alloc (.cells #[.int .i64 B0, .int .i64 B1, .string ⟨B2.toArray⟩] 23)) (hw.below H_18.out)
        unfold valV at hc
        refine hc.mono ?_
        rintro e u12 ⟨rfl, hb⟩
        clear hc
        have Bx_19 := Lib.hid (Bx_18.out.below hb Bx_18.out.lt)
        have By_19 := Lib.hid (By_18.out.below hb By_18.out.lt)
        have Bp_19 := Lib.hid (Bp_18.out.below hb Bp_18.out.lt)
        have Bq_19 := Lib.hid (Bq_18.out.below hb Bq_18.out.lt)
        have Br_19 := Lib.hid (Br_18.out.below hb Br_18.out.lt)
        have Bb_19 := Lib.hid (Bb_18.out.below hb Bb_18.out.lt)
        have Bc_19 := Lib.hid (Bc_18.out.below hb Bc_18.out.lt)
        have H_19 := Lib.hid (H_18.out.trans (hb.mono H_18.out.size))
        clear hb H_18 Bx_18 By_18 Bp_18 Bq_18 Br_18 Bb_18 Bc_18
        have hb : Below (u12).heap.size (u12) ((u12).alloc (.cells #[.int .i64 K, .int .i64 N, .string ⟨T.toArray⟩] 23)) := (Below.refl _ (u12)).alloc (Nat.le_refl _) _
        have Bnew := VB.new (u12) (.int .i64 K) (.int .i64 N) (.string ⟨T.toArray⟩)
        try simp only [World.size_alloc] at Bnew
        have Bx_20 := Lib.hid (Bx_19.out.below hb Bx_19.out.lt)
        have By_20 := Lib.hid (By_19.out.below hb By_19.out.lt)
        have Bp_20 := Lib.hid (Bp_19.out.below hb Bp_19.out.lt)
        have Bq_20 := Lib.hid (Bq_19.out.below hb Bq_19.out.lt)
        have Br_20 := Lib.hid (Br_19.out.below hb Br_19.out.lt)
        have Bb_20 := Lib.hid (Bb_19.out.below hb Bb_19.out.lt)
        have Bc_20 := Lib.hid (Bc_19.out.below hb Bc_19.out.lt)
        have H_20 := Lib.hid (H_19.out.trans (hb.mono H_19.out.size))
        clear hb H_19 Bx_19 By_19 Bp_19 Bq_19 Br_19 Bb_19 Bc_19
        have Bk_20 := Lib.hid Bnew
        clear Bnew
        have qp0 := Bp_20.out.c0
        have qp1 := Bp_20.out.c1
        have qp2 := Bp_20.out.c2
        have qy0 := By_20.out.c0
        have qy1 := By_20.out.c1
        have qy2 := By_20.out.c2
        go_wp2_with fail
        clear qp0 qp1 qp2 qy0 qy1 qy2
        have hc := Mod_num hpn h' hy0 (fl_none x y) isNum_zero ((u12).alloc (.cells #[.int .i64 K, .int .i64 N, .string ⟨T.toArray⟩] 23)) (hw.below H_20.out)
        unfold valV at hc
        refine hc.mono ?_
        rintro e u13 ⟨rfl, hb⟩
        clear hc
        have Bx_21 := Lib.hid (Bx_20.out.below hb Bx_20.out.lt)
        have By_21 := Lib.hid (By_20.out.below hb By_20.out.lt)
        have Bp_21 := Lib.hid (Bp_20.out.below hb Bp_20.out.lt)
        have Bq_21 := Lib.hid (Bq_20.out.below hb Bq_20.out.lt)
        have Br_21 := Lib.hid (Br_20.out.below hb Br_20.out.lt)
        have Bb_21 := Lib.hid (Bb_20.out.below hb Bb_20.out.lt)
        have Bc_21 := Lib.hid (Bc_20.out.below hb Bc_20.out.lt)
        have Bk_21 := Lib.hid (Bk_20.out.below hb Bk_20.out.lt)
        have H_21 := Lib.hid (H_20.out.trans (hb.mono H_20.out.size))
        clear hb H_20 Bx_20 By_20 Bp_20 Bq_20 Br_20 Bb_20 Bc_20 Bk_20
        have hb : Below (u13).heap.size (u13) ((u13).alloc (.cells #[.int .i64 1, .int .i64 0, .string ⟨#[]⟩] 23)) := (Below.refl _ (u13)).alloc (Nat.le_refl _) _
        have Bnew := VB.new (u13) (.int .i64 1) (.int .i64 0) (.string ⟨#[]⟩)
        try simp only [World.size_alloc] at Bnew
        have Bx_22 := Lib.hid (Bx_21.out.below hb Bx_21.out.lt)
        have By_22 := Lib.hid (By_21.out.below hb By_21.out.lt)
        have Bp_22 := Lib.hid (Bp_21.out.below hb Bp_21.out.lt)
        have Bq_22 := Lib.hid (Bq_21.out.below hb Bq_21.out.lt)
        have Br_22 := Lib.hid (Br_21.out.below hb Br_21.out.lt)
        have Bb_22 := Lib.hid (Bb_21.out.below hb Bb_21.out.lt)
        have Bc_22 := Lib.hid (Bc_21.out.below hb Bc_21.out.lt)
        have Bk_22 := Lib.hid (Bk_21.out.below hb Bk_21.out.lt)
        have H_22 := Lib.hid (H_21.out.trans (hb.mono H_21.out.size))
        clear hb H_21 Bx_21 By_21 Bp_21 Bq_21 Br_21 Bb_21 Bc_21 Bk_21
        have Bn_22 := Lib.hid Bnew
        clear Bnew
        go_upto_region 27 with fail
        refine region_grown (by kernel_rfl) ?_
        apply quiet_wanted
        · go_simp
        · intro W hW; unfold Oper.quietAt; go_simp; (try exact ⟨rfl, rfl⟩); (try rfl)
        (try simp only [Act.put, List.setIfInBounds_toArray, List.set_cons_zero, List.set_cons_succ])
        apply quiet_wanted
        · go_simp
        · intro W hW; unfold Oper.quietAt; go_simp; (try exact ⟨rfl, rfl⟩); (try rfl)
        (try simp only [Act.put, List.setIfInBounds_toArray, List.set_cons_zero, List.set_cons_succ])
        apply quiet_wanted
        · go_simp
        · intro W hW; unfold Oper.quietAt; go_simp; (try exact ⟨rfl, rfl⟩); (try rfl)
        (try simp only [Act.put, List.setIfInBounds_toArray, List.set_cons_zero, List.set_cons_succ])
        apply quiet_wanted
        · go_simp
        · intro W hW; unfold Oper.quietAt; go_simp; (try exact ⟨rfl, rfl⟩); (try rfl)
        (try simp only [Act.put, List.setIfInBounds_toArray, List.set_cons_zero, List.set_cons_succ])
        apply quiet_wanted
        · go_simp
        · intro W hW; unfold Oper.quietAt; go_simp; (try exact ⟨rfl, rfl⟩); (try rfl)
        (try simp only [Act.put, List.setIfInBounds_toArray, List.set_cons_zero, List.set_cons_succ])
        apply quiet_wanted
        · go_simp
        · intro W hW; unfold Oper.quietAt; go_simp; (try exact ⟨rfl, rfl⟩); (try rfl)
        (try simp only [Act.put, List.setIfInBounds_toArray, List.set_cons_zero, List.set_cons_succ])
        apply quiet_wanted
        · go_simp
        · intro W hW; unfold Oper.quietAt; go_simp; (try exact ⟨rfl, rfl⟩); (try rfl)
        (try simp only [Act.put, List.setIfInBounds_toArray, List.set_cons_zero, List.set_cons_succ])
        apply quiet_wanted
        · go_simp
        · intro W hW; unfold Oper.quietAt; go_simp; (try exact ⟨rfl, rfl⟩); (try rfl)
        (try simp only [Act.put, List.setIfInBounds_toArray, List.set_cons_zero, List.set_cons_succ])
        apply quiet_wanted
        · go_simp
        · intro W hW; unfold Oper.quietAt; go_simp; (try exact ⟨rfl, rfl⟩); (try rfl)
        (try simp only [Act.put, List.setIfInBounds_toArray, List.set_cons_zero, List.set_cons_succ])
        apply quiet_wanted
        · go_simp
        · intro W hW; unfold Oper.quietAt; go_simp; (try exact ⟨rfl, rfl⟩); (try rfl)
        (try simp only [Act.put, List.setIfInBounds_toArray, List.set_cons_zero, List.set_cons_succ])
        apply quiet_wanted
        · go_simp
        · intro W hW; have hV := Bk_22.out.below hW Bk_22.out.lt; have c0 := hV.c0; have c1 := hV.c1; have c2 := hV.c2; clear hV; unfold Oper.quietAt; go_simp; (try exact ⟨rfl, rfl⟩); (try rfl)
        (try simp only [Act.put, List.setIfInBounds_toArray, List.set_cons_zero, List.set_cons_succ])
        apply quiet_wanted
        · go_simp
        · intro W hW; have hV := Bx_22.out.below hW Bx_22.out.lt; have c0 := hV.c0; have c1 := hV.c1; have c2 := hV.c2; clear hV; unfold Oper.quietAt; go_simp; (try exact ⟨rfl, rfl⟩); (try rfl)
        (try simp only [Act.put, List.setIfInBounds_toArray, List.set_cons_zero, List.set_cons_succ])
        apply quiet_wanted
        · go_simp
        · intro W hW; unfold Oper.quietAt; go_simp; (try exact ⟨rfl, rfl⟩); (try rfl)
        (try simp only [Act.put, List.setIfInBounds_toArray, List.set_cons_zero, List.set_cons_succ])
        apply quiet_wanted
        · go_simp
        · intro W hW; unfold Oper.quietAt; go_simp; (try exact ⟨rfl, rfl⟩); (try rfl)
        (try simp only [Act.put, List.setIfInBounds_toArray, List.set_cons_zero, List.set_cons_succ])
        apply quiet_wanted
        · go_simp
        · intro W hW; unfold Oper.quietAt; go_simp; (try exact ⟨rfl, rfl⟩); (try rfl)
        (try simp only [Act.put, List.setIfInBounds_toArray, List.set_cons_zero, List.set_cons_succ])
        apply quiet_wanted
        · go_simp
        · intro W hW; have hV := Bn_22.out.below hW Bn_22.out.lt; have c0 := hV.c0; have c1 := hV.c1; have c2 := hV.c2; clear hV; unfold Oper.quietAt; go_simp; (try exact ⟨rfl, rfl⟩); (try rfl)
        (try simp only [Act.put, List.setIfInBounds_toArray, List.set_cons_zero, List.set_cons_succ])
        apply quiet_wanted
        · go_simp
        · intro W hW; unfold Oper.quietAt; go_simp; have hc := number_c 0 W; unfold valV at hc; exact hc.mono fun e w' hr => ⟨hr.1, Grown.trans hW hr.2⟩
        (try simp only [Act.put, List.setIfInBounds_toArray, List.set_cons_zero, List.set_cons_succ])
        apply quiet_wanted
        · go_simp
        · intro W hW; unfold Oper.quietAt; go_simp; (try exact ⟨rfl, rfl⟩); (try rfl)
        (try simp only [Act.put, List.setIfInBounds_toArray, List.set_cons_zero, List.set_cons_succ])
        apply quiet_wanted
        · go_simp
        · intro W hW; unfold Oper.quietAt; go_simp; (try exact ⟨rfl, rfl⟩); (try rfl)
        (try simp only [Act.put, List.setIfInBounds_toArray, List.set_cons_zero, List.set_cons_succ])
        apply quiet_wanted
        · go_simp
        · intro W hW; unfold Oper.quietAt; go_simp; (try exact ⟨rfl, rfl⟩); (try rfl)
        (try simp only [Act.put, List.setIfInBounds_toArray, List.set_cons_zero, List.set_cons_succ])
        refine wpQuiet_nil ?_
        intro u14 hb
        unfold Grown at hb
        have Bx_23 := Lib.hid (Bx_22.out.below hb Bx_22.out.lt)
        have By_23 := Lib.hid (By_22.out.below hb By_22.out.lt)
        have Bp_23 := Lib.hid (Bp_22.out.below hb Bp_22.out.lt)
        have Bq_23 := Lib.hid (Bq_22.out.below hb Bq_22.out.lt)
        have Br_23 := Lib.hid (Br_22.out.below hb Br_22.out.lt)
        have Bb_23 := Lib.hid (Bb_22.out.below hb Bb_22.out.lt)
        have Bc_23 := Lib.hid (Bc_22.out.below hb Bc_22.out.lt)
        have Bk_23 := Lib.hid (Bk_22.out.below hb Bk_22.out.lt)
        have Bn_23 := Lib.hid (Bn_22.out.below hb Bn_22.out.lt)
        have H_23 := Lib.hid (H_22.out.trans (hb.mono H_22.out.size))
        clear hb H_22 Bx_22 By_22 Bp_22 Bq_22 Br_22 Bb_22 Bc_22 Bk_22 Bn_22
        go_wp2_with fail
        go_ret
        exact ⟨rfl, H_23.out⟩
      · have qb0 := Bb_18.out.c0
        have qb1 := Bb_18.out.c1
        have qb2 := Bb_18.out.c2
        have qc0 := Bc_18.out.c0
        have qc1 := Bc_18.out.c1
        have qc2 := Bc_18.out.c2
        go_wp2_with fail
        go_ret
        exact ⟨rfl, H_18.out⟩
    · have HP := Lib.hid hp
      clear hp
      rcases HP.out.two with rfl | rfl
      · have hpn := HP.out.ok
        have qb0 := Bb_18.out.c0
        have qb1 := Bb_18.out.c1
        have qb2 := Bb_18.out.c2
        have qc0 := Bc_18.out.c0
        have qc1 := Bc_18.out.c1
        have qc2 := Bc_18.out.c2
        have qp0 := Bp_18.out.c0
        have qp1 := Bp_18.out.c1
        have qp2 := Bp_18.out.c2
        have qy0 := By_18.out.c0
        have qy1 := By_18.out.c1
        have qy2 := By_18.out.c2
        go_wp2_with fail
        clear qp0 qp1 qp2 qy0 qy1 qy2
        have hc := Div_num hpn h' hy0 (fl_back x hy0) h ((u11).alloc (.cells #[.int .i64 B0, .int .i64 B1, .string ⟨B2.toArray⟩] 23)) (hw.below H_18.out)
        unfold valV at hc
        refine hc.mono ?_
        rintro e u12 ⟨rfl, hb⟩
        clear hc
        have Bx_19 := Lib.hid (Bx_18.out.below hb Bx_18.out.lt)
        have By_19 := Lib.hid (By_18.out.below hb By_18.out.lt)
        have Bp_19 := Lib.hid (Bp_18.out.below hb Bp_18.out.lt)
        have Bq_19 := Lib.hid (Bq_18.out.below hb Bq_18.out.lt)
        have Br_19 := Lib.hid (Br_18.out.below hb Br_18.out.lt)
        have Bb_19 := Lib.hid (Bb_18.out.below hb Bb_18.out.lt)
        have Bc_19 := Lib.hid (Bc_18.out.below hb Bc_18.out.lt)
        have H_19 := Lib.hid (H_18.out.trans (hb.mono H_18.out.size))
        clear hb H_18 Bx_18 By_18 Bp_18 Bq_18 Br_18 Bb_18 Bc_18
        have hb : Below (u12).heap.size (u12) ((u12).alloc (.cells #[.int .i64 K, .int .i64 N, .string ⟨T.toArray⟩] 23)) := (Below.refl _ (u12)).alloc (Nat.le_refl _) _
        have Bnew := VB.new (u12) (.int .i64 K) (.int .i64 N) (.string ⟨T.toArray⟩)
        try simp only [World.size_alloc] at Bnew
        have Bx_20 := Lib.hid (Bx_19.out.below hb Bx_19.out.lt)
        have By_20 := Lib.hid (By_19.out.below hb By_19.out.lt)
        have Bp_20 := Lib.hid (Bp_19.out.below hb Bp_19.out.lt)
        have Bq_20 := Lib.hid (Bq_19.out.below hb Bq_19.out.lt)
        have Br_20 := Lib.hid (Br_19.out.below hb Br_19.out.lt)
        have Bb_20 := Lib.hid (Bb_19.out.below hb Bb_19.out.lt)
        have Bc_20 := Lib.hid (Bc_19.out.below hb Bc_19.out.lt)
        have H_20 := Lib.hid (H_19.out.trans (hb.mono H_19.out.size))
        clear hb H_19 Bx_19 By_19 Bp_19 Bq_19 Br_19 Bb_19 Bc_19
        have Bk_20 := Lib.hid Bnew
        clear Bnew
        have qp0 := Bp_20.out.c0
        have qp1 := Bp_20.out.c1
        have qp2 := Bp_20.out.c2
        have qy0 := By_20.out.c0
        have qy1 := By_20.out.c1
        have qy2 := By_20.out.c2
        go_wp2_with fail
        clear qp0 qp1 qp2 qy0 qy1 qy2
        have hc := Mod_num hpn h' hy0 (fl_none x y) isNum_zero ((u12).alloc (.cells #[.int .i64 K, .int .i64 N, .string ⟨T.toArray⟩] 23)) (hw.below H_20.out)
        unfold valV at hc
        refine hc.mono ?_
        rintro e u13 ⟨rfl, hb⟩
        clear hc
        have Bx_21 := Lib.hid (Bx_20.out.below hb Bx_20.out.lt)
        have By_21 := Lib.hid (By_20.out.below hb By_20.out.lt)
        have Bp_21 := Lib.hid (Bp_20.out.below hb Bp_20.out.lt)
        have Bq_21 := Lib.hid (Bq_20.out.below hb Bq_20.out.lt)
        have Br_21 := Lib.hid (Br_20.out.below hb Br_20.out.lt)
        have Bb_21 := Lib.hid (Bb_20.out.below hb Bb_20.out.lt)
        have Bc_21 := Lib.hid (Bc_20.out.below hb Bc_20.out.lt)
        have Bk_21 := Lib.hid (Bk_20.out.below hb Bk_20.out.lt)
        have H_21 := Lib.hid (H_20.out.trans (hb.mono H_20.out.size))
        clear hb H_20 Bx_20 By_20 Bp_20 Bq_20 Br_20 Bb_20 Bc_20 Bk_20
        have hb : Below (u13).heap.size (u13) ((u13).alloc (.cells #[.int .i64 1, .int .i64 0, .string ⟨#[]⟩] 23)) := (Below.refl _ (u13)).alloc (Nat.le_refl _) _
        have Bnew := VB.new (u13) (.int .i64 1) (.int .i64 0) (.string ⟨#[]⟩)
        try simp only [World.size_alloc] at Bnew
        have Bx_22 := Lib.hid (Bx_21.out.below hb Bx_21.out.lt)
        have By_22 := Lib.hid (By_21.out.below hb By_21.out.lt)
        have Bp_22 := Lib.hid (Bp_21.out.below hb Bp_21.out.lt)
        have Bq_22 := Lib.hid (Bq_21.out.below hb Bq_21.out.lt)
        have Br_22 := Lib.hid (Br_21.out.below hb Br_21.out.lt)
        have Bb_22 := Lib.hid (Bb_21.out.below hb Bb_21.out.lt)
        have Bc_22 := Lib.hid (Bc_21.out.below hb Bc_21.out.lt)
        have Bk_22 := Lib.hid (Bk_21.out.below hb Bk_21.out.lt)
        have H_22 := Lib.hid (H_21.out.trans (hb.mono H_21.out.size))
        clear hb H_21 Bx_21 By_21 Bp_21 Bq_21 Br_21 Bb_21 Bc_21 Bk_21
        have Bn_22 := Lib.hid Bnew
        clear Bnew
        go_upto_region 27 with fail
        refine region_grown (by kernel_rfl) ?_
        apply quiet_wanted
        · go_simp
        · intro W hW; unfold Oper.quietAt; go_simp; (try exact ⟨rfl, rfl⟩); (try rfl)
        (try simp only [Act.put, List.setIfInBounds_toArray, List.set_cons_zero, List.set_cons_succ])
        apply quiet_wanted
        · go_simp
        · intro W hW; unfold Oper.quietAt; go_simp; (try exact ⟨rfl, rfl⟩); (try rfl)
        (try simp only [Act.put, List.setIfInBounds_toArray, List.set_cons_zero, List.set_cons_succ])
        apply quiet_wanted
        · go_simp
        · intro W hW; unfold Oper.quietAt; go_simp; (try exact ⟨rfl, rfl⟩); (try rfl)
        (try simp only [Act.put, List.setIfInBounds_toArray, List.set_cons_zero, List.set_cons_succ])
        apply quiet_wanted
        · go_simp
        · intro W hW; unfold Oper.quietAt; go_simp; (try exact ⟨rfl, rfl⟩); (try rfl)
        (try simp only [Act.put, List.setIfInBounds_toArray, List.set_cons_zero, List.set_cons_succ])
        apply quiet_wanted
        · go_simp
        · intro W hW; unfold Oper.quietAt; go_simp; (try exact ⟨rfl, rfl⟩); (try rfl)
        (try simp only [Act.put, List.setIfInBounds_toArray, List.set_cons_zero, List.set_cons_succ])
        apply quiet_wanted
        · go_simp
        · intro W hW; unfold Oper.quietAt; go_simp; (try exact ⟨rfl, rfl⟩); (try rfl)
        (try simp only [Act.put, List.setIfInBounds_toArray, List.set_cons_zero, List.set_cons_succ])
        apply quiet_wanted
        · go_simp
        · intro W hW; unfold Oper.quietAt; go_simp; (try exact ⟨rfl, rfl⟩); (try rfl)
        (try simp only [Act.put, List.setIfInBounds_toArray, List.set_cons_zero, List.set_cons_succ])
        apply quiet_wanted
        · go_simp
        · intro W hW; unfold Oper.quietAt; go_simp; (try exact ⟨rfl, rfl⟩); (try rfl)
        (try simp only [Act.put, List.setIfInBounds_toArray, List.set_cons_zero, List.set_cons_succ])
        apply quiet_wanted
        · go_simp
        · intro W hW; unfold Oper.quietAt; go_simp; (try exact ⟨rfl, rfl⟩); (try rfl)
        (try simp only [Act.put, List.setIfInBounds_toArray, List.set_cons_zero, List.set_cons_succ])
        apply quiet_wanted
        · go_simp
        · intro W hW; unfold Oper.quietAt; go_simp; (try exact ⟨rfl, rfl⟩); (try rfl)
        (try simp only [Act.put, List.setIfInBounds_toArray, List.set_cons_zero, List.set_cons_succ])
        apply quiet_wanted
        · go_simp
        · intro W hW; have hV := Bk_22.out.below hW Bk_22.out.lt; have c0 := hV.c0; have c1 := hV.c1; have c2 := hV.c2; clear hV; unfold Oper.quietAt; go_simp; (try exact ⟨rfl, rfl⟩); (try rfl)
        (try simp only [Act.put, List.setIfInBounds_toArray, List.set_cons_zero, List.set_cons_succ])
        apply quiet_wanted
        · go_simp
        · intro W hW; have hV := Bx_22.out.below hW Bx_22.out.lt; have c0 := hV.c0; have c1 := hV.c1; have c2 := hV.c2; clear hV; unfold Oper.quietAt; go_simp; (try exact ⟨rfl, rfl⟩); (try rfl)
        (try simp only [Act.put, List.setIfInBounds_toArray, List.set_cons_zero, List.set_cons_succ])
        apply quiet_wanted
        · go_simp
        · intro W hW; unfold Oper.quietAt; go_simp; (try exact ⟨rfl, rfl⟩); (try rfl)
        (try simp only [Act.put, List.setIfInBounds_toArray, List.set_cons_zero, List.set_cons_succ])
        apply quiet_wanted
        · go_simp
        · intro W hW; unfold Oper.quietAt; go_simp; (try exact ⟨rfl, rfl⟩); (try rfl)
        (try simp only [Act.put, List.setIfInBounds_toArray, List.set_cons_zero, List.set_cons_succ])
        apply quiet_wanted
        · go_simp
        · intro W hW; unfold Oper.quietAt; go_simp; (try exact ⟨rfl, rfl⟩); (try rfl)
        (try simp only [Act.put, List.setIfInBounds_toArray, List.set_cons_zero, List.set_cons_succ])
        apply quiet_wanted
        · go_simp
        · intro W hW; have hV := Bn_22.out.below hW Bn_22.out.lt; have c0 := hV.c0; have c1 := hV.c1; have c2 := hV.c2; clear hV; unfold Oper.quietAt; go_simp; (try exact ⟨rfl, rfl⟩); (try rfl)
        (try simp only [Act.put, List.setIfInBounds_toArray, List.set_cons_zero, List.set_cons_succ])
        apply quiet_wanted
        · go_simp
        · intro W hW; unfold Oper.quietAt; go_simp; have hc := number_c 0 W; unfold valV at hc; exact hc.mono fun e w' hr => ⟨hr.1, Grown.trans hW hr.2⟩
        (try simp only [Act.put, List.setIfInBounds_toArray, List.set_cons_zero, List.set_cons_succ])
        apply quiet_wanted
        · go_simp
        · intro W hW; unfold Oper.quietAt; go_simp; (try exact ⟨rfl, rfl⟩); (try rfl)
        (try simp only [Act.put, List.setIfInBounds_toArray, List.set_cons_zero, List.set_cons_succ])
        apply quiet_wanted
        · go_simp
        · intro W hW; unfold Oper.quietAt; go_simp; (try exact ⟨rfl, rfl⟩); (try rfl)
        (try simp only [Act.put, List.setIfInBounds_toArray, List.set_cons_zero, List.set_cons_succ])
        apply quiet_wanted
        · go_simp
        · intro W hW; unfold Oper.quietAt; go_simp; (try exact ⟨rfl, rfl⟩); (try rfl)
        (try simp only [Act.put, List.setIfInBounds_toArray, List.set_cons_zero, List.set_cons_succ])
        refine wpQuiet_nil ?_
        intro u14 hb
        unfold Grown at hb
        have Bx_23 := Lib.hid (Bx_22.out.below hb Bx_22.out.lt)
        have By_23 := Lib.hid (By_22.out.below hb By_22.out.lt)
        have Bp_23 := Lib.hid (Bp_22.out.below hb Bp_22.out.lt)
        have Bq_23 := Lib.hid (Bq_22.out.below hb Bq_22.out.lt)
        have Br_23 := Lib.hid (Br_22.out.below hb Br_22.out.lt)
        have Bb_23 := Lib.hid (Bb_22.out.below hb Bb_22.out.lt)
        have Bc_23 := Lib.hid (Bc_22.out.below hb Bc_22.out.lt)
        have Bk_23 := Lib.hid (Bk_22.out.below hb Bk_22.out.lt)
        have Bn_23 := Lib.hid (Bn_22.out.below hb Bn_22.out.lt)
        have H_23 := Lib.hid (H_22.out.trans (hb.mono H_22.out.size))
        clear hb H_22 Bx_22 By_22 Bp_22 Bq_22 Br_22 Bb_22 Bc_22 Bk_22 Bn_22
        go_wp2_with fail
        go_ret
        exact ⟨rfl, H_23.out⟩
      · have qb0 := Bb_18.out.c0
        have qb1 := Bb_18.out.c1
        have qb2 := Bb_18.out.c2
        have qc0 := Bc_18.out.c0
        have qc1 := Bc_18.out.c1
        have qc2 := Bc_18.out.c2
        go_wp2_with fail
        go_ret
        exact ⟨rfl, H_18.out⟩
  · have hyn : y < 0 := of_decide_eq_true hb
    have qr0 := Br_12.out.c0
    have qr1 := Br_12.out.c1
    have qr2 := Br_12.out.c2
    have qy0 := By_12.out.c0
    have qy1 := By_12.out.c1
    have qy2 := By_12.out.c2
    go_wp2_with fail
    clear qr0 qr1 qr2 qy0 qy1 qy2
    have hc := Less_num hr h' false (decide_eq_false (by omega)) (u7) (hw.below H_12.out)
    unfold valV at hc
    refine hc.mono ?_
    rintro e u8 ⟨rfl, hb⟩
    clear hc
    have Bx_13 := Lib.hid (Bx_12.out.below hb Bx_12.out.lt)
    have By_13 := Lib.hid (By_12.out.below hb By_12.out.lt)
    have Bp_13 := Lib.hid (Bp_12.out.below hb Bp_12.out.lt)
    have Bq_13 := Lib.hid (Bq_12.out.below hb Bq_12.out.lt)
    have Br_13 := Lib.hid (Br_12.out.below hb Br_12.out.lt)
    have H_13 := Lib.hid (H_12.out.trans (hb.mono H_12.out.size))
    clear hb H_12 Bx_12 By_12 Bp_12 Bq_12 Br_12
    have qy0 := By_13.out.c0
    have qy1 := By_13.out.c1
    have qy2 := By_13.out.c2
    go_wp2_with fail
    clear qy0 qy1 qy2
    have hc := negative_num h' true hb (u8)
    unfold valV at hc
    refine hc.mono ?_
    rintro e u9 ⟨rfl, hb⟩
    clear hc
    have Bx_14 := Lib.hid (Bx_13.out.below hb Bx_13.out.lt)
    have By_14 := Lib.hid (By_13.out.below hb By_13.out.lt)
    have Bp_14 := Lib.hid (Bp_13.out.below hb Bp_13.out.lt)
    have Bq_14 := Lib.hid (Bq_13.out.below hb Bq_13.out.lt)
    have Br_14 := Lib.hid (Br_13.out.below hb Br_13.out.lt)
    have H_14 := Lib.hid (H_13.out.trans (hb.mono H_13.out.size))
    clear hb H_13 Bx_13 By_13 Bp_13 Bq_13 Br_13
    have qy0 := By_14.out.c0
    have qy1 := By_14.out.c1
    have qy2 := By_14.out.c2
    have qr0 := Br_14.out.c0
    have qr1 := Br_14.out.c1
    have qr2 := Br_14.out.c2
    go_wp2_with fail
    clear qy0 qy1 qy2 qr0 qr1 qr2
    have hc := Less_num h' hr true (decide_eq_true (hyn)) (u9) (hw.below H_14.out)
    unfold valV at hc
    refine hc.mono ?_
    rintro e u10 ⟨rfl, hb⟩
    clear hc
    have Bx_15 := Lib.hid (Bx_14.out.below hb Bx_14.out.lt)
    have By_15 := Lib.hid (By_14.out.below hb By_14.out.lt)
    have Bp_15 := Lib.hid (Bp_14.out.below hb Bp_14.out.lt)
    have Bq_15 := Lib.hid (Bq_14.out.below hb Bq_14.out.lt)
    have Br_15 := Lib.hid (Br_14.out.below hb Br_14.out.lt)
    have H_15 := Lib.hid (H_14.out.trans (hb.mono H_14.out.size))
    clear hb H_14 Bx_14 By_14 Bp_14 Bq_14 Br_14
    have qx0 := Bx_15.out.c0
    have qx1 := Bx_15.out.c1
    have qx2 := Bx_15.out.c2
    have qr0 := Br_15.out.c0
    have qr1 := Br_15.out.c1
    have qr2 := Br_15.out.c2
    go_wp2_with fail
    clear qx0 qx1 qx2 qr0 qr1 qr2
    have hc := Sub_any h hr hb2 (by rw [hm0]) (u10) (hw.below H_15.out)
    unfold valV at hc
    refine hc.mono ?_
    rintro e u11 ⟨rfl, hb⟩
    clear hc
    have Bx_16 := Lib.hid (Bx_15.out.below hb Bx_15.out.lt)
    have By_16 := Lib.hid (By_15.out.below hb By_15.out.lt)
    have Bp_16 := Lib.hid (Bp_15.out.below hb Bp_15.out.lt)
    have Bq_16 := Lib.hid (Bq_15.out.below hb Bq_15.out.lt)
    have Br_16 := Lib.hid (Br_15.out.below hb Br_15.out.lt)
    have H_16 := Lib.hid (H_15.out.trans (hb.mono H_15.out.size))
    clear hb H_15 Bx_15 By_15 Bp_15 Bq_15 Br_15
    have hb : Below (u11).heap.size (u11) ((u11).alloc (.cells #[.int .i64 B0, .int .i64 B1, .string ⟨B2.toArray⟩] 23)) := (Below.refl _ (u11)).alloc (Nat.le_refl _) _
    have Bnew := VB.new (u11) (.int .i64 B0) (.int .i64 B1) (.string ⟨B2.toArray⟩)
    try simp only [World.size_alloc] at Bnew
    have Bx_17 := Lib.hid (Bx_16.out.below hb Bx_16.out.lt)
    have By_17 := Lib.hid (By_16.out.below hb By_16.out.lt)
    have Bp_17 := Lib.hid (Bp_16.out.below hb Bp_16.out.lt)
    have Bq_17 := Lib.hid (Bq_16.out.below hb Bq_16.out.lt)
    have Br_17 := Lib.hid (Br_16.out.below hb Br_16.out.lt)
    have H_17 := Lib.hid (H_16.out.trans (hb.mono H_16.out.size))
    clear hb H_16 Bx_16 By_16 Bp_16 Bq_16 Br_16
    have Bb_17 := Lib.hid Bnew
    clear Bnew
    have qy0 := By_17.out.c0
    have qy1 := By_17.out.c1
    have qy2 := By_17.out.c2
    have qq0 := Bq_17.out.c0
    have qq1 := Bq_17.out.c1
    have qq2 := Bq_17.out.c2
    go_wp2_with fail
    clear qy0 qy1 qy2 qq0 qq1 qq2
    have hc := Mul_any h' hq hb2 hfp.symm ((u11).alloc (.cells #[.int .i64 B0, .int .i64 B1, .string ⟨B2.toArray⟩] 23)) (hw.below H_17.out)
    unfold valV at hc
    refine hc.mono ?_
    rintro e u12 ⟨rfl, hb⟩
    clear hc
    have Bx_18 := Lib.hid (Bx_17.out.below hb Bx_17.out.lt)
    have By_18 := Lib.hid (By_17.out.below hb By_17.out.lt)
    have Bp_18 := Lib.hid (Bp_17.out.below hb Bp_17.out.lt)
    have Bq_18 := Lib.hid (Bq_17.out.below hb Bq_17.out.lt)
    have Br_18 := Lib.hid (Br_17.out.below hb Br_17.out.lt)
    have Bb_18 := Lib.hid (Bb_17.out.below hb Bb_17.out.lt)
    have H_18 := Lib.hid (H_17.out.trans (hb.mono H_17.out.size))
    clear hb H_17 Bx_17 By_17 Bp_17 Bq_17 Br_17 Bb_17
    have hb : Below (u12).heap.size (u12) ((u12).alloc (.cells #[.int .i64 B0, .int .i64 B1, .string ⟨B2.toArray⟩] 23)) := (Below.refl _ (u12)).alloc (Nat.le_refl _) _
    have Bnew := VB.new (u12) (.int .i64 B0) (.int .i64 B1) (.string ⟨B2.toArray⟩)
    try simp only [World.size_alloc] at Bnew
    have Bx_19 := Lib.hid (Bx_18.out.below hb Bx_18.out.lt)
    have By_19 := Lib.hid (By_18.out.below hb By_18.out.lt)
    have Bp_19 := Lib.hid (Bp_18.out.below hb Bp_18.out.lt)
    have Bq_19 := Lib.hid (Bq_18.out.below hb Bq_18.out.lt)
    have Br_19 := Lib.hid (Br_18.out.below hb Br_18.out.lt)
    have Bb_19 := Lib.hid (Bb_18.out.below hb Bb_18.out.lt)
    have H_19 := Lib.hid (H_18.out.trans (hb.mono H_18.out.size))
    clear hb H_18 Bx_18 By_18 Bp_18 Bq_18 Br_18 Bb_18
    have Bc_19 := Lib.hid Bnew
    clear Bnew
    rcases hb2.two with rfl | rfl
    · have HP := Lib.hid hp
      clear hp
      rcases HP.out.two with rfl | rfl
      · have hpn := HP.out.ok
        have qb0 := Bb_19.out.c0
        have qb1 := Bb_19.out.c1
        have qb2 := Bb_19.out.c2
        have qc0 := Bc_19.out.c0
        have qc1 := Bc_19.out.c1
        have qc2 := Bc_19.out.c2
        have qp0 := Bp_19.out.c0
        have qp1 := Bp_19.out.c1
        have qp2 := Bp_19.out.c2
        have qy0 := By_19.out.c0
        have qy1 := By_19.out.c1
        have qy2 := By_19.out.c2
        go_wp2_with fail
        clear qp0 qp1 qp2 qy0 qy1 qy2
        have hc := Div_num hpn h' hy0 (fl_back x hy0) h ((u12).alloc (.cells #[.int .i64 B0, .int .i64 B1, .string ⟨B2.toArray⟩] 23)) (hw.below H_19.out)
        unfold valV at hc
        refine hc.mono ?_
        rintro e u13 ⟨rfl, hb⟩
        clear hc
        have Bx_20 := Lib.hid (Bx_19.out.below hb Bx_19.out.lt)
        have By_20 := Lib.hid (By_19.out.below hb By_19.out.lt)
        have Bp_20 := Lib.hid (Bp_19.out.below hb Bp_19.out.lt)
        have Bq_20 := Lib.hid (Bq_19.out.below hb Bq_19.out.lt)
        have Br_20 := Lib.hid (Br_19.out.below hb Br_19.out.lt)
        have Bb_20 := Lib.hid (Bb_19.out.below hb Bb_19.out.lt)
        have Bc_20 := Lib.hid (Bc_19.out.below hb Bc_19.out.lt)
        have H_20 := Lib.hid (H_19.out.trans (hb.mono H_19.out.size))
        clear hb H_19 Bx_19 By_19 Bp_19 Bq_19 Br_19 Bb_19 Bc_19
        have hb : Below (u13).heap.size (u13) ((u13).alloc (.cells #[.int .i64 K, .int .i64 N, .string ⟨T.toArray⟩] 23)) := (Below.refl _ (u13)).alloc (Nat.le_refl _) _
        have Bnew := VB.new (u13) (.int .i64 K) (.int .i64 N) (.string ⟨T.toArray⟩)
        try simp only [World.size_alloc] at Bnew
        have Bx_21 := Lib.hid (Bx_20.out.below hb Bx_20.out.lt)
        have By_21 := Lib.hid (By_20.out.below hb By_20.out.lt)
        have Bp_21 := Lib.hid (Bp_20.out.below hb Bp_20.out.lt)
        have Bq_21 := Lib.hid (Bq_20.out.below hb Bq_20.out.lt)
        have Br_21 := Lib.hid (Br_20.out.below hb Br_20.out.lt)
        have Bb_21 := Lib.hid (Bb_20.out.below hb Bb_20.out.lt)
        have Bc_21 := Lib.hid (Bc_20.out.below hb Bc_20.out.lt)
        have H_21 := Lib.hid (H_20.out.trans (hb.mono H_20.out.size))
        clear hb H_20 Bx_20 By_20 Bp_20 Bq_20 Br_20 Bb_20 Bc_20
        have Bk_21 := Lib.hid Bnew
        clear Bnew
        have qp0 := Bp_21.out.c0
        have qp1 := Bp_21.out.c1
        have qp2 := Bp_21.out.c2
        have qy0 := By_21.out.c0
        have qy1 := By_21.out.c1
        have qy2 := By_21.out.c2
        go_wp2_with fail
        clear qp0 qp1 qp2 qy0 qy1 qy2
        have hc := Mod_num hpn h' hy0 (fl_none x y) isNum_zero ((u13).alloc (.cells #[.int .i64 K, .int .i64 N, .string ⟨T.toArray⟩] 23)) (hw.below H_21.out)
        unfold valV at hc
        refine hc.mono ?_
        rintro e u14 ⟨rfl, hb⟩
        clear hc
        have Bx_22 := Lib.hid (Bx_21.out.below hb Bx_21.out.lt)
        have By_22 := Lib.hid (By_21.out.below hb By_21.out.lt)
        have Bp_22 := Lib.hid (Bp_21.out.below hb Bp_21.out.lt)
        have Bq_22 := Lib.hid (Bq_21.out.below hb Bq_21.out.lt)
        have Br_22 := Lib.hid (Br_21.out.below hb Br_21.out.lt)
        have Bb_22 := Lib.hid (Bb_21.out.below hb Bb_21.out.lt)
        have Bc_22 := Lib.hid (Bc_21.out.below hb Bc_21.out.lt)
        have Bk_22 := Lib.hid (Bk_21.out.below hb Bk_21.out.lt)
        have H_22 := Lib.hid (H_21.out.trans (hb.mono H_21.out.size))
        clear hb H_21 Bx_21 By_21 Bp_21 Bq_21 Br_21 Bb_21 Bc_21 Bk_21
        have hb : Below (u14).heap.size (u14) ((u14).alloc (.cells #[.int .i64 1, .int .i64 0, .string ⟨#[]⟩] 23)) := (Below.refl _ (u14)).alloc (Nat.le_refl _) _
        have Bnew := VB.new (u14) (.int .i64 1) (.int .i64 0) (.string ⟨#[]⟩)
        try simp only [World.size_alloc] at Bnew
        have Bx_23 := Lib.hid (Bx_22.out.below hb Bx_22.out.lt)
        have By_23 := Lib.hid (By_22.out.below hb By_22.out.lt)
        have Bp_23 := Lib.hid (Bp_22.out.below hb Bp_22.out.lt)
        have Bq_23 := Lib.hid (Bq_22.out.below hb Bq_22.out.lt)
        have Br_23 := Lib.hid (Br_22.out.below hb Br_22.out.lt)
        have Bb_23 := Lib.hid (Bb_22.out.below hb Bb_22.out.lt)
        have Bc_23 := Lib.hid (Bc_22.out.below hb Bc_22.out.lt)
        have Bk_23 := Lib.hid (Bk_22.out.below hb Bk_22.out.lt)
        have H_23 := Lib.hid (H_22.out.trans (hb.mono H_22.out.size))
        clear hb H_22 Bx_22 By_22 Bp_22 Bq_22 Br_22 Bb_22 Bc_22 Bk_22
        have Bn_23 := Lib.hid Bnew
        clear Bnew
        go_upto_region 27 with fail
        refine region_grown (by kernel_rfl) ?_
        apply quiet_wanted
        · go_simp
        · intro W hW; unfold Oper.quietAt; go_simp; (try exact ⟨rfl, rfl⟩); (try rfl)
        (try simp only [Act.put, List.setIfInBounds_toArray, List.set_cons_zero, List.set_cons_succ])
        apply quiet_wanted
        · go_simp
        · intro W hW; unfold Oper.quietAt; go_simp; (try exact ⟨rfl, rfl⟩); (try rfl)
        (try simp only [Act.put, List.setIfInBounds_toArray, List.set_cons_zero, List.set_cons_succ])
        apply quiet_wanted
        · go_simp
        · intro W hW; unfold Oper.quietAt; go_simp; (try exact ⟨rfl, rfl⟩); (try rfl)
        (try simp only [Act.put, List.setIfInBounds_toArray, List.set_cons_zero, List.set_cons_succ])
        apply quiet_wanted
        · go_simp
        · intro W hW; unfold Oper.quietAt; go_simp; (try exact ⟨rfl, rfl⟩); (try rfl)
        (try simp only [Act.put, List.setIfInBounds_toArray, List.set_cons_zero, List.set_cons_succ])
        apply quiet_wanted
        · go_simp
        · intro W hW; unfold Oper.quietAt; go_simp; (try exact ⟨rfl, rfl⟩); (try rfl)
        (try simp only [Act.put, List.setIfInBounds_toArray, List.set_cons_zero, List.set_cons_succ])
        apply quiet_wanted
        · go_simp
        · intro W hW; unfold Oper.quietAt; go_simp; (try exact ⟨rfl, rfl⟩); (try rfl)
        (try simp only [Act.put, List.setIfInBounds_toArray, List.set_cons_zero, List.set_cons_succ])
        apply quiet_wanted
        · go_simp
        · intro W hW; unfold Oper.quietAt; go_simp; (try exact ⟨rfl, rfl⟩); (try rfl)
        (try simp only [Act.put, List.setIfInBounds_toArray, List.set_cons_zero, List.set_cons_succ])
        apply quiet_wanted
        · go_simp
        · intro W hW; unfold Oper.quietAt; go_simp; (try exact ⟨rfl, rfl⟩); (try rfl)
        (try simp only [Act.put, List.setIfInBounds_toArray, List.set_cons_zero, List.set_cons_succ])
        apply quiet_wanted
        · go_simp
        · intro W hW; unfold Oper.quietAt; go_simp; (try exact ⟨rfl, rfl⟩); (try rfl)
        (try simp only [Act.put, List.setIfInBounds_toArray, List.set_cons_zero, List.set_cons_succ])
        apply quiet_wanted
        · go_simp
        · intro W hW; unfold Oper.quietAt; go_simp; (try exact ⟨rfl, rfl⟩); (try rfl)
        (try simp only [Act.put, List.setIfInBounds_toArray, List.set_cons_zero, List.set_cons_succ])
        apply quiet_wanted
        · go_simp
        · intro W hW; have hV := Bk_23.out.below hW Bk_23.out.lt; have c0 := hV.c0; have c1 := hV.c1; have c2 := hV.c2; clear hV; unfold Oper.quietAt; go_simp; (try exact ⟨rfl, rfl⟩); (try rfl)
        (try simp only [Act.put, List.setIfInBounds_toArray, List.set_cons_zero, List.set_cons_succ])
        apply quiet_wanted
        · go_simp
        · intro W hW; have hV := Bx_23.out.below hW Bx_23.out.lt; have c0 := hV.c0; have c1 := hV.c1; have c2 := hV.c2; clear hV; unfold Oper.quietAt; go_simp; (try exact ⟨rfl, rfl⟩); (try rfl)
        (try simp only [Act.put, List.setIfInBounds_toArray, List.set_cons_zero, List.set_cons_succ])
        apply quiet_wanted
        · go_simp
        · intro W hW; unfold Oper.quietAt; go_simp; (try exact ⟨rfl, rfl⟩); (try rfl)
        (try simp only [Act.put, List.setIfInBounds_toArray, List.set_cons_zero, List.set_cons_succ])
        apply quiet_wanted
        · go_simp
        · intro W hW; unfold Oper.quietAt; go_simp; (try exact ⟨rfl, rfl⟩); (try rfl)
        (try simp only [Act.put, List.setIfInBounds_toArray, List.set_cons_zero, List.set_cons_succ])
        apply quiet_wanted
        · go_simp
        · intro W hW; unfold Oper.quietAt; go_simp; (try exact ⟨rfl, rfl⟩); (try rfl)
        (try simp only [Act.put, List.setIfInBounds_toArray, List.set_cons_zero, List.set_cons_succ])
        apply quiet_wanted
        · go_simp
        · intro W hW; have hV := Bn_23.out.below hW Bn_23.out.lt; have c0 := hV.c0; have c1 := hV.c1; have c2 := hV.c2; clear hV; unfold Oper.quietAt; go_simp; (try exact ⟨rfl, rfl⟩); (try rfl)
        (try simp only [Act.put, List.setIfInBounds_toArray, List.set_cons_zero, List.set_cons_succ])
        apply quiet_wanted
        · go_simp
        · intro W hW; unfold Oper.quietAt; go_simp; have hc := number_c 0 W; unfold valV at hc; exact hc.mono fun e w' hr => ⟨hr.1, Grown.trans hW hr.2⟩
        (try simp only [Act.put, List.setIfInBounds_toArray, List.set_cons_zero, List.set_cons_succ])
        apply quiet_wanted
        · go_simp
        · intro W hW; unfold Oper.quietAt; go_simp; (try exact ⟨rfl, rfl⟩); (try rfl)
        (try simp only [Act.put, List.setIfInBounds_toArray, List.set_cons_zero, List.set_cons_succ])
        apply quiet_wanted
        · go_simp
        · intro W hW; unfold Oper.quietAt; go_simp; (try exact ⟨rfl, rfl⟩); (try rfl)
        (try simp only [Act.put, List.setIfInBounds_toArray, List.set_cons_zero, List.set_cons_succ])
        apply quiet_wanted
        · go_simp
        · intro W hW; unfold Oper.quietAt; go_simp; (try exact ⟨rfl, rfl⟩); (try rfl)
        (try simp only [Act.put, List.setIfInBounds_toArray, List.set_cons_zero, List.set_cons_succ])
        refine wpQuiet_nil ?_
        intro u15 hb
        unfold Grown at hb
        have Bx_24 := Lib.hid (Bx_23.out.below hb Bx_23.out.lt)
        have By_24 := Lib.hid (By_23.out.below hb By_23.out.lt)
        have Bp_24 := Lib.hid (Bp_23.out.below hb Bp_23.out.lt)
        have Bq_24 := Lib.hid (Bq_23.out.below hb Bq_23.out.lt)
        have Br_24 := Lib.hid (Br_23.out.below hb Br_23.out.lt)
        have Bb_24 := Lib.hid (Bb_23.out.below hb Bb_23.out.lt)
        have Bc_24 := Lib.hid (Bc_23.out.below hb Bc_23.out.lt)
        have Bk_24 := Lib.hid (Bk_23.out.below hb Bk_23.out.lt)
        have Bn_24 := Lib.hid (Bn_23.out.below hb Bn_23.out.lt)
        have H_24 := Lib.hid (H_23.out.trans (hb.mono H_23.out.size))
        clear hb H_23 Bx_23 By_23 Bp_23 Bq_23 Br_23 Bb_23 Bc_23 Bk_23 Bn_23
        go_wp2_with fail
        go_ret
        exact ⟨rfl, H_24.out⟩
      · have qb0 := Bb_19.out.c0
        have qb1 := Bb_19.out.c1
        have qb2 := Bb_19.out.c2
        have qc0 := Bc_19.out.c0
        have qc1 := Bc_19.out.c1
        have qc2 := Bc_19.out.c2
        go_wp2_with fail
        go_ret
        exact ⟨rfl, H_19.out⟩
    · have HP := Lib.hid hp
      clear hp
      rcases HP.out.two with rfl | rfl
      · have hpn := HP.out.ok
        have qb0 := Bb_19.out.c0
        have qb1 := Bb_19.out.c1
        have qb2 := Bb_19.out.c2
        have qc0 := Bc_19.out.c0
        have qc1 := Bc_19.out.c1
        have qc2 := Bc_19.out.c2
        have qp0 := Bp_19.out.c0
        have qp1 := Bp_19.out.c1
        have qp2 := Bp_19.out.c2
        have qy0 := By_19.out.c0
        have qy1 := By_19.out.c1
        have qy2 := By_19.out.c2
        go_wp2_with fail
        clear qp0 qp1 qp2 qy0 qy1 qy2
        have hc := Div_num hpn h' hy0 (fl_back x hy0) h ((u12).alloc (.cells #[.int .i64 B0, .int .i64 B1, .string ⟨B2.toArray⟩] 23)) (hw.below H_19.out)
        unfold valV at hc
        refine hc.mono ?_
        rintro e u13 ⟨rfl, hb⟩
        clear hc
        have Bx_20 := Lib.hid (Bx_19.out.below hb Bx_19.out.lt)
        have By_20 := Lib.hid (By_19.out.below hb By_19.out.lt)
        have Bp_20 := Lib.hid (Bp_19.out.below hb Bp_19.out.lt)
        have Bq_20 := Lib.hid (Bq_19.out.below hb Bq_19.out.lt)
        have Br_20 := Lib.hid (Br_19.out.below hb Br_19.out.lt)
        have Bb_20 := Lib.hid (Bb_19.out.below hb Bb_19.out.lt)
        have Bc_20 := Lib.hid (Bc_19.out.below hb Bc_19.out.lt)
        have H_20 := Lib.hid (H_19.out.trans (hb.mono H_19.out.size))
        clear hb H_19 Bx_19 By_19 Bp_19 Bq_19 Br_19 Bb_19 Bc_19
        have hb : Below (u13).heap.size (u13) ((u13).alloc (.cells #[.int .i64 K, .int .i64 N, .string ⟨T.toArray⟩] 23)) := (Below.refl _ (u13)).alloc (Nat.le_refl _) _
        have Bnew := VB.new (u13) (.int .i64 K) (.int .i64 N) (.string ⟨T.toArray⟩)
        try simp only [World.size_alloc] at Bnew
        have Bx_21 := Lib.hid (Bx_20.out.below hb Bx_20.out.lt)
        have By_21 := Lib.hid (By_20.out.below hb By_20.out.lt)
        have Bp_21 := Lib.hid (Bp_20.out.below hb Bp_20.out.lt)
        have Bq_21 := Lib.hid (Bq_20.out.below hb Bq_20.out.lt)
        have Br_21 := Lib.hid (Br_20.out.below hb Br_20.out.lt)
        have Bb_21 := Lib.hid (Bb_20.out.below hb Bb_20.out.lt)
        have Bc_21 := Lib.hid (Bc_20.out.below hb Bc_20.out.lt)
        have H_21 := Lib.hid (H_20.out.trans (hb.mono H_20.out.size))
        clear hb H_20 Bx_20 By_20 Bp_20 Bq_20 Br_20 Bb_20 Bc_20
        have Bk_21 := Lib.hid Bnew
        clear Bnew
        have qp0 := Bp_21.out.c0
        have qp1 := Bp_21.out.c1
        have qp2 := Bp_21.out.c2
        have qy0 := By_21.out.c0
        have qy1 := By_21.out.c1
        have qy2 := By_21.out.c2
        go_wp2_with fail
        clear qp0 qp1 qp2 qy0 qy1 qy2
        have hc := Mod_num hpn h' hy0 (fl_none x y) isNum_zero ((u13).alloc (.cells #[.int .i64 K, .int .i64 N, .string ⟨T.toArray⟩] 23)) (hw.below H_21.out)
        unfold valV at hc
        refine hc.mono ?_
        rintro e u14 ⟨rfl, hb⟩
        clear hc
        have Bx_22 := Lib.hid (Bx_21.out.below hb Bx_21.out.lt)
        have By_22 := Lib.hid (By_21.out.below hb By_21.out.lt)
        have Bp_22 := Lib.hid (Bp_21.out.below hb Bp_21.out.lt)
        have Bq_22 := Lib.hid (Bq_21.out.below hb Bq_21.out.lt)
        have Br_22 := Lib.hid (Br_21.out.below hb Br_21.out.lt)
        have Bb_22 := Lib.hid (Bb_21.out.below hb Bb_21.out.lt)
        have Bc_22 := Lib.hid (Bc_21.out.below hb Bc_21.out.lt)
        have Bk_22 := Lib.hid (Bk_21.out.below hb Bk_21.out.lt)
        have H_22 := Lib.hid (H_21.out.trans (hb.mono H_21.out.size))
        clear hb H_21 Bx_21 By_21 Bp_21 Bq_21 Br_21 Bb_21 Bc_21 Bk_21
        have hb : Below (u14).heap.size (u14) ((u14).alloc (.cells #[.int .i64 1, .int .i64 0, .string ⟨#[]⟩] 23)) := (Below.refl _ (u14)).alloc (Nat.le_refl _) _
        have Bnew := VB.new (u14) (.int .i64 1) (.int .i64 0) (.string ⟨#[]⟩)
        try simp only [World.size_alloc] at Bnew
        have Bx_23 := Lib.hid (Bx_22.out.below hb Bx_22.out.lt)
        have By_23 := Lib.hid (By_22.out.below hb By_22.out.lt)
        have Bp_23 := Lib.hid (Bp_22.out.below hb Bp_22.out.lt)
        have Bq_23 := Lib.hid (Bq_22.out.below hb Bq_22.out.lt)
        have Br_23 := Lib.hid (Br_22.out.below hb Br_22.out.lt)
        have Bb_23 := Lib.hid (Bb_22.out.below hb Bb_22.out.lt)
        have Bc_23 := Lib.hid (Bc_22.out.below hb Bc_22.out.lt)
        have Bk_23 := Lib.hid (Bk_22.out.below hb Bk_22.out.lt)
        have H_23 := Lib.hid (H_22.out.trans (hb.mono H_22.out.size))
        clear hb H_22 Bx_22 By_22 Bp_22 Bq_22 Br_22 Bb_22 Bc_22 Bk_22
        have Bn_23 := Lib.hid Bnew
        clear Bnew
        go_upto_region 27 with fail
        refine region_grown (by kernel_rfl) ?_
        apply quiet_wanted
        · go_simp
        · intro W hW; unfold Oper.quietAt; go_simp; (try exact ⟨rfl, rfl⟩); (try rfl)
        (try simp only [Act.put, List.setIfInBounds_toArray, List.set_cons_zero, List.set_cons_succ])
        apply quiet_wanted
        · go_simp
        · intro W hW; unfold Oper.quietAt; go_simp; (try exact ⟨rfl, rfl⟩); (try rfl)
        (try simp only [Act.put, List.setIfInBounds_toArray, List.set_cons_zero, List.set_cons_succ])
        apply quiet_wanted
        · go_simp
        · intro W hW; unfold Oper.quietAt; go_simp; (try exact ⟨rfl, rfl⟩); (try rfl)
        (try simp only [Act.put, List.setIfInBounds_toArray, List.set_cons_zero, List.set_cons_succ])
        apply quiet_wanted
        · go_simp
        · intro W hW; unfold Oper.quietAt; go_simp; (try exact ⟨rfl, rfl⟩); (try rfl)
        (try simp only [Act.put, List.setIfInBounds_toArray, List.set_cons_zero, List.set_cons_succ])
        apply quiet_wanted
        · go_simp
        · intro W hW; unfold Oper.quietAt; go_simp; (try exact ⟨rfl, rfl⟩); (try rfl)
        (try simp only [Act.put, List.setIfInBounds_toArray, List.set_cons_zero, List.set_cons_succ])
        apply quiet_wanted
        · go_simp
        · intro W hW; unfold Oper.quietAt; go_simp; (try exact ⟨rfl, rfl⟩); (try rfl)
        (try simp only [Act.put, List.setIfInBounds_toArray, List.set_cons_zero, List.set_cons_succ])
        apply quiet_wanted
        · go_simp
        · intro W hW; unfold Oper.quietAt; go_simp; (try exact ⟨rfl, rfl⟩); (try rfl)
        (try simp only [Act.put, List.setIfInBounds_toArray, List.set_cons_zero, List.set_cons_succ])
        apply quiet_wanted
        · go_simp
        · intro W hW; unfold Oper.quietAt; go_simp; (try exact ⟨rfl, rfl⟩); (try rfl)
        (try simp only [Act.put, List.setIfInBounds_toArray, List.set_cons_zero, List.set_cons_succ])
        apply quiet_wanted
        · go_simp
        · intro W hW; unfold Oper.quietAt; go_simp; (try exact ⟨rfl, rfl⟩); (try rfl)
        (try simp only [Act.put, List.setIfInBounds_toArray, List.set_cons_zero, List.set_cons_succ])
        apply quiet_wanted
        · go_simp
        · intro W hW; unfold Oper.quietAt; go_simp; (try exact ⟨rfl, rfl⟩); (try rfl)
        (try simp only [Act.put, List.setIfInBounds_toArray, List.set_cons_zero, List.set_cons_succ])
        apply quiet_wanted
        · go_simp
        · intro W hW; have hV := Bk_23.out.below hW Bk_23.out.lt; have c0 := hV.c0; have c1 := hV.c1; have c2 := hV.c2; clear hV; unfold Oper.quietAt; go_simp; (try exact ⟨rfl, rfl⟩); (try rfl)
        (try simp only [Act.put, List.setIfInBounds_toArray, List.set_cons_zero, List.set_cons_succ])
        apply quiet_wanted
        · go_simp
        · intro W hW; have hV := Bx_23.out.below hW Bx_23.out.lt; have c0 := hV.c0; have c1 := hV.c1; have c2 := hV.c2; clear hV; unfold Oper.quietAt; go_simp; (try exact ⟨rfl, rfl⟩); (try rfl)
        (try simp only [Act.put, List.setIfInBounds_toArray, List.set_cons_zero, List.set_cons_succ])
        apply quiet_wanted
        · go_simp
        · intro W hW; unfold Oper.quietAt; go_simp; (try exact ⟨rfl, rfl⟩); (try rfl)
        (try simp only [Act.put, List.setIfInBounds_toArray, List.set_cons_zero, List.set_cons_succ])
        apply quiet_wanted
        · go_simp
        · intro W hW; unfold Oper.quietAt; go_simp; (try exact ⟨rfl, rfl⟩); (try rfl)
        (try simp only [Act.put, List.setIfInBounds_toArray, List.set_cons_zero, List.set_cons_succ])
        apply quiet_wanted
        · go_simp
        · intro W hW; unfold Oper.quietAt; go_simp; (try exact ⟨rfl, rfl⟩); (try rfl)
        (try simp only [Act.put, List.setIfInBounds_toArray, List.set_cons_zero, List.set_cons_succ])
        apply quiet_wanted
        · go_simp
        · intro W hW; have hV := Bn_23.out.below hW Bn_23.out.lt; have c0 := hV.c0; have c1 := hV.c1; have c2 := hV.c2; clear hV; unfold Oper.quietAt; go_simp; (try exact ⟨rfl, rfl⟩); (try rfl)
        (try simp only [Act.put, List.setIfInBounds_toArray, List.set_cons_zero, List.set_cons_succ])
        apply quiet_wanted
        · go_simp
        · intro W hW; unfold Oper.quietAt; go_simp; have hc := number_c 0 W; unfold valV at hc; exact hc.mono fun e w' hr => ⟨hr.1, Grown.trans hW hr.2⟩
        (try simp only [Act.put, List.setIfInBounds_toArray, List.set_cons_zero, List.set_cons_succ])
        apply quiet_wanted
        · go_simp
        · intro W hW; unfold Oper.quietAt; go_simp; (try exact ⟨rfl, rfl⟩); (try rfl)
        (try simp only [Act.put, List.setIfInBounds_toArray, List.set_cons_zero, List.set_cons_succ])
        apply quiet_wanted
        · go_simp
        · intro W hW; unfold Oper.quietAt; go_simp; (try exact ⟨rfl, rfl⟩); (try rfl)
        (try simp only [Act.put, List.setIfInBounds_toArray, List.set_cons_zero, List.set_cons_succ])
        apply quiet_wanted
        · go_simp
        · intro W hW; unfold Oper.quietAt; go_simp; (try exact ⟨rfl, rfl⟩); (try rfl)
        (try simp only [Act.put, List.setIfInBounds_toArray, List.set_cons_zero, List.set_cons_succ])
        refine wpQuiet_nil ?_
        intro u15 hb
        unfold Grown at hb
        have Bx_24 := Lib.hid (Bx_23.out.below hb Bx_23.out.lt)
        have By_24 := Lib.hid (By_23.out.below hb By_23.out.lt)
        have Bp_24 := Lib.hid (Bp_23.out.below hb Bp_23.out.lt)
        have Bq_24 := Lib.hid (Bq_23.out.below hb Bq_23.out.lt)
        have Br_24 := Lib.hid (Br_23.out.below hb Br_23.out.lt)
        have Bb_24 := Lib.hid (Bb_23.out.below hb Bb_23.out.lt)
        have Bc_24 := Lib.hid (Bc_23.out.below hb Bc_23.out.lt)
        have Bk_24 := Lib.hid (Bk_23.out.below hb Bk_23.out.lt)
        have Bn_24 := Lib.hid (Bn_23.out.below hb Bn_23.out.lt)
        have H_24 := Lib.hid (H_23.out.trans (hb.mono H_23.out.size))
        clear hb H_23 Bx_23 By_23 Bp_23 Bq_23 Br_23 Bb_23 Bc_23 Bk_23 Bn_23
        go_wp2_with fail
        go_ret
        exact ⟨rfl, H_24.out⟩
      · have qb0 := Bb_19.out.c0
        have qb1 := Bb_19.out.c1
        have qb2 := Bb_19.out.c2
        have qc0 := Bc_19.out.c0
        have qc1 := Bc_19.out.c1
        have qc2 := Bc_19.out.c2
        go_wp2_with fail
        go_ret
        exact ⟨rfl, H_19.out⟩

set_option maxHeartbeats 4000000 in
theorem floor_ok1 (K N K' N' : Int) (T T' : List UInt8) (x y : Int) (h : IsNum K N T x) (h' : IsNum K' N' T' y) (hy0 : y ≠ 0) (hr0 : x.fmod y ≠ 0) (w : World) (hw : Wd w) :
    Calls Tryz.prog 8 #[valV K N T, valV K' N' T'] w fun e w' => e = .returned (.bool true) ∧ Below w.heap.size w w' := by
  obtain ⟨Q0, Q1, Q2, hq⟩ := isNum_few (few_fdiv h.1 hy0)
  obtain ⟨R0, R1, R2, hr⟩ := isNum_few (few_fmod (x := x) h'.1 hy0)
  have hne := hr.ne isNum_zero hr0
  obtain ⟨P0, P1, P2, G, hp⟩ := ans_ex (x * y)
  obtain ⟨B0, B1, B2, E, hb2⟩ := ans_ex (x - x.fmod y)
  have hfp := fl_parts x y
  have HNear := Lib.hid (fun hy : 0 < y => fl_near (x := x) hy)
  have HNearN := Lib.hid (fun hy : y < 0 => fl_near_neg (x := x) hy)
  obtain ⟨b, hb⟩ : ∃ b, decide (y < 0) = b := ⟨_, rfl⟩
  have hsg := (fl_rest_sign hr0 hy0).trans hb
  have H_0 := Lib.hid (Below.refl w.heap.size w)
  unfold valV
  go_enter Tryz.func8, Tryz.ntmps8
  have hb : Below (w).heap.size (w) ((w).alloc (.cells #[.int .i64 K, .int .i64 N, .string ⟨T.toArray⟩] 23)) := (Below.refl _ (w)).alloc (Nat.le_refl _) _
  have Bnew := VB.new (w) (.int .i64 K) (.int .i64 N) (.string ⟨T.toArray⟩)
  try simp only [World.size_alloc] at Bnew
  have H_1 := Lib.hid (H_0.out.trans (hb.mono H_0.out.size))
  clear hb H_0
  have Bx_1 := Lib.hid Bnew
  clear Bnew
  have hb : Below ((w).alloc (.cells #[.int .i64 K, .int .i64 N, .string ⟨T.toArray⟩] 23)).heap.size ((w).alloc (.cells #[.int .i64 K, .int .i64 N, .string ⟨T.toArray⟩] 23)) (((w).alloc (.cells #[.int .i64 K, .int .i64 N, .string ⟨T.toArray⟩] 23)).alloc (.cells #[.int .i64 K', .int .i64 N', .string ⟨T'.toArray⟩] 23)) := (Below.refl _ ((w).alloc (.cells #[.int .i64 K, .int .i64 N, .string ⟨T.toArray⟩] 23))).alloc (Nat.le_refl _) _
  have Bnew := VB.new ((w).alloc (.cells #[.int .i64 K, .int .i64 N, .string ⟨T.toArray⟩] 23)) (.int .i64 K') (.int .i64 N') (.string ⟨T'.toArray⟩)
  try simp only [World.size_alloc] at Bnew
  have Bx_2 := Lib.hid (Bx_1.out.below hb Bx_1.out.lt)
  have H_2 := Lib.hid (H_1.out.trans (hb.mono H_1.out.size))
  clear hb H_1 Bx_1
  have By_2 := Lib.hid Bnew
  clear Bnew
  go_wp2_with fail
  have hc := awake_c (((w).alloc (.cells #[.int .i64 K, .int .i64 N, .string ⟨T.toArray⟩] 23)).alloc (.cells #[.int .i64 K', .int .i64 N', .string ⟨T'.toArray⟩] 23)) (hw.below H_2.out)
  unfold valV at hc
  refine hc.mono ?_
  rintro e u1 ⟨rfl, hb⟩
  clear hc
  have Bx_3 := Lib.hid (Bx_2.out.below hb Bx_2.out.lt)
  have By_3 := Lib.hid (By_2.out.below hb By_2.out.lt)
  have H_3 := Lib.hid (H_2.out.trans (hb.mono H_2.out.size))
  clear hb H_2 Bx_2 By_2
  have qx0 := Bx_3.out.c0
  have qx1 := Bx_3.out.c1
  have qx2 := Bx_3.out.c2
  go_wp2_with fail
  clear qx0 qx1 qx2
  have hc := short_yes K N T (by have := h.len; omega) (u1)
  unfold valV at hc
  refine hc.mono ?_
  rintro e u2 ⟨rfl, hb⟩
  clear hc
  have Bx_4 := Lib.hid (Bx_3.out.below hb Bx_3.out.lt)
  have By_4 := Lib.hid (By_3.out.below hb By_3.out.lt)
  have H_4 := Lib.hid (H_3.out.trans (hb.mono H_3.out.size))
  clear hb H_3 Bx_3 By_3
  have qy0 := By_4.out.c0
  have qy1 := By_4.out.c1
  have qy2 := By_4.out.c2
  go_wp2_with fail
  clear qy0 qy1 qy2
  have hc := short_yes K' N' T' (by have := h'.len; omega) (u2)
  unfold valV at hc
  refine hc.mono ?_
  rintro e u3 ⟨rfl, hb⟩
  clear hc
  have Bx_5 := Lib.hid (Bx_4.out.below hb Bx_4.out.lt)
  have By_5 := Lib.hid (By_4.out.below hb By_4.out.lt)
  have H_5 := Lib.hid (H_4.out.trans (hb.mono H_4.out.size))
  clear hb H_4 Bx_4 By_4
  have qx0 := Bx_5.out.c0
  have qx1 := Bx_5.out.c1
  have qx2 := Bx_5.out.c2
  have qy0 := By_5.out.c0
  have qy1 := By_5.out.c1
  have qy2 := By_5.out.c2
  go_wp2_with fail
  clear qx0 qx1 qx2 qy0 qy1 qy2
  have hc := Mul_any h h' hp rfl (u3) (hw.below H_5.out)
  unfold valV at hc
  refine hc.mono ?_
  rintro e u4 ⟨rfl, hb⟩
  clear hc
  have Bx_6 := Lib.hid (Bx_5.out.below hb Bx_5.out.lt)
  have By_6 := Lib.hid (By_5.out.below hb By_5.out.lt)
  have H_6 := Lib.hid (H_5.out.trans (hb.mono H_5.out.size))
  clear hb H_5 Bx_5 By_5
  have hb : Below (u4).heap.size (u4) ((u4).alloc (.cells #[.int .i64 P0, .int .i64 P1, .string ⟨P2.toArray⟩] 23)) := (Below.refl _ (u4)).alloc (Nat.le_refl _) _
  have Bnew := VB.new (u4) (.int .i64 P0) (.int .i64 P1) (.string ⟨P2.toArray⟩)
  try simp only [World.size_alloc] at Bnew
  have Bx_7 := Lib.hid (Bx_6.out.below hb Bx_6.out.lt)
  have By_7 := Lib.hid (By_6.out.below hb By_6.out.lt)
  have H_7 := Lib.hid (H_6.out.trans (hb.mono H_6.out.size))
  clear hb H_6 Bx_6 By_6
  have Bp_7 := Lib.hid Bnew
  clear Bnew
  have qx0 := Bx_7.out.c0
  have qx1 := Bx_7.out.c1
  have qx2 := Bx_7.out.c2
  have qy0 := By_7.out.c0
  have qy1 := By_7.out.c1
  have qy2 := By_7.out.c2
  go_wp2_with fail
  clear qx0 qx1 qx2 qy0 qy1 qy2
  have hc := Div_num h h' hy0 rfl hq ((u4).alloc (.cells #[.int .i64 P0, .int .i64 P1, .string ⟨P2.toArray⟩] 23)) (hw.below H_7.out)
  unfold valV at hc
  refine hc.mono ?_
  rintro e u5 ⟨rfl, hb⟩
  clear hc
  have Bx_8 := Lib.hid (Bx_7.out.below hb Bx_7.out.lt)
  have By_8 := Lib.hid (By_7.out.below hb By_7.out.lt)
  have Bp_8 := Lib.hid (Bp_7.out.below hb Bp_7.out.lt)
  have H_8 := Lib.hid (H_7.out.trans (hb.mono H_7.out.size))
  clear hb H_7 Bx_7 By_7 Bp_7
  have hb : Below (u5).heap.size (u5) ((u5).alloc (.cells #[.int .i64 Q0, .int .i64 Q1, .string ⟨Q2.toArray⟩] 23)) := (Below.refl _ (u5)).alloc (Nat.le_refl _) _
  have Bnew := VB.new (u5) (.int .i64 Q0) (.int .i64 Q1) (.string ⟨Q2.toArray⟩)
  try simp only [World.size_alloc] at Bnew
  have Bx_9 := Lib.hid (Bx_8.out.below hb Bx_8.out.lt)
  have By_9 := Lib.hid (By_8.out.below hb By_8.out.lt)
  have Bp_9 := Lib.hid (Bp_8.out.below hb Bp_8.out.lt)
  have H_9 := Lib.hid (H_8.out.trans (hb.mono H_8.out.size))
  clear hb H_8 Bx_8 By_8 Bp_8
  have Bq_9 := Lib.hid Bnew
  clear Bnew
  have qx0 := Bx_9.out.c0
  have qx1 := Bx_9.out.c1
  have qx2 := Bx_9.out.c2
  have qy0 := By_9.out.c0
  have qy1 := By_9.out.c1
  have qy2 := By_9.out.c2
  go_wp2_with fail
  clear qx0 qx1 qx2 qy0 qy1 qy2
  have hc := Mod_num h h' hy0 rfl hr ((u5).alloc (.cells #[.int .i64 Q0, .int .i64 Q1, .string ⟨Q2.toArray⟩] 23)) (hw.below H_9.out)
  unfold valV at hc
  refine hc.mono ?_
  rintro e u6 ⟨rfl, hb⟩
  clear hc
  have Bx_10 := Lib.hid (Bx_9.out.below hb Bx_9.out.lt)
  have By_10 := Lib.hid (By_9.out.below hb By_9.out.lt)
  have Bp_10 := Lib.hid (Bp_9.out.below hb Bp_9.out.lt)
  have Bq_10 := Lib.hid (Bq_9.out.below hb Bq_9.out.lt)
  have H_10 := Lib.hid (H_9.out.trans (hb.mono H_9.out.size))
  clear hb H_9 Bx_9 By_9 Bp_9 Bq_9
  have hb : Below (u6).heap.size (u6) ((u6).alloc (.cells #[.int .i64 R0, .int .i64 R1, .string ⟨R2.toArray⟩] 23)) := (Below.refl _ (u6)).alloc (Nat.le_refl _) _
  have Bnew := VB.new (u6) (.int .i64 R0) (.int .i64 R1) (.string ⟨R2.toArray⟩)
  try simp only [World.size_alloc] at Bnew
  have Bx_11 := Lib.hid (Bx_10.out.below hb Bx_10.out.lt)
  have By_11 := Lib.hid (By_10.out.below hb By_10.out.lt)
  have Bp_11 := Lib.hid (Bp_10.out.below hb Bp_10.out.lt)
  have Bq_11 := Lib.hid (Bq_10.out.below hb Bq_10.out.lt)
  have H_11 := Lib.hid (H_10.out.trans (hb.mono H_10.out.size))
  clear hb H_10 Bx_10 By_10 Bp_10 Bq_10
  have Br_11 := Lib.hid Bnew
  clear Bnew
  go_upto_region 11 with fail
  refine region_grown (by kernel_rfl) ?_
  apply quiet_wanted
  · go_simp
  · intro W hW; have hV := Br_11.out.below hW Br_11.out.lt; have c0 := hV.c0; have c1 := hV.c1; have c2 := hV.c2; clear hV; unfold Oper.quietAt; go_simp; (try exact ⟨rfl, rfl⟩); (try rfl)
  (try simp only [Act.put, List.setIfInBounds_toArray, List.set_cons_zero, List.set_cons_succ])
  apply quiet_wanted
  · go_simp
  · intro W hW; unfold Oper.quietAt; go_simp; have hc := number_c 0 W; unfold valV at hc; exact hc.mono fun e w' hr => ⟨hr.1, Grown.trans hW hr.2⟩
  (try simp only [Act.put, List.setIfInBounds_toArray, List.set_cons_zero, List.set_cons_succ])
  refine quiet_wanted (v := .bool true) (by go_simp) (fun W hW => ?_) ?_
  · unfold Oper.quietAt; by_cases e1 : R0 = 1 <;> by_cases e2 : R1 = 0 <;> by_cases e3 : R2 = [] <;> first | (go_simp; done) | exact absurd ⟨e1, e2, e3⟩ (hne)
  (try simp only [Act.put, List.setIfInBounds_toArray, List.set_cons_zero, List.set_cons_succ])
  apply quiet_wanted
  · go_simp
  · intro W hW; unfold Oper.quietAt; go_simp; (try exact ⟨rfl, rfl⟩); (try rfl)
  (try simp only [Act.put, List.setIfInBounds_toArray, List.set_cons_zero, List.set_cons_succ])
  apply quiet_wanted
  · go_simp
  · intro W hW; have hV := Br_11.out.below hW Br_11.out.lt; have c0 := hV.c0; have c1 := hV.c1; have c2 := hV.c2; clear hV; unfold Oper.quietAt; go_simp; (try exact ⟨rfl, rfl⟩); (try rfl)
  (try simp only [Act.put, List.setIfInBounds_toArray, List.set_cons_zero, List.set_cons_succ])
  apply quiet_wanted
  · go_simp
  · intro W hW; unfold Oper.quietAt; go_simp; have hc := negative_num hr b hsg W; unfold valV at hc; exact hc.mono fun e w' hr => ⟨hr.1, Grown.trans hW hr.2⟩
  (try simp only [Act.put, List.setIfInBounds_toArray, List.set_cons_zero, List.set_cons_succ])
  apply quiet_wanted
  · go_simp
  · intro W hW; have hV := By_11.out.below hW By_11.out.lt; have c0 := hV.c0; have c1 := hV.c1; have c2 := hV.c2; clear hV; unfold Oper.quietAt; go_simp; (try exact ⟨rfl, rfl⟩); (try rfl)
  (try simp only [Act.put, List.setIfInBounds_toArray, List.set_cons_zero, List.set_cons_succ])
  apply quiet_wanted
  · go_simp
  · intro W hW; unfold Oper.quietAt; go_simp; have hc := negative_num h' b hb W; unfold valV at hc; exact hc.mono fun e w' hr => ⟨hr.1, Grown.trans hW hr.2⟩
  (try simp only [Act.put, List.setIfInBounds_toArray, List.set_cons_zero, List.set_cons_succ])
  apply quiet_wanted
  · go_simp
  · intro W hW; unfold Oper.quietAt; go_simp; (try exact ⟨rfl, rfl⟩); (try rfl)
  (try simp only [Act.put, List.setIfInBounds_toArray, List.set_cons_zero, List.set_cons_succ])
  apply quiet_wanted
  · go_simp
  · intro W hW; unfold Oper.quietAt; go_simp; (try exact ⟨rfl, rfl⟩); (try rfl)
  (try simp only [Act.put, List.setIfInBounds_toArray, List.set_cons_zero, List.set_cons_succ])
  refine wpQuiet_nil ?_
  intro u7 hb
  unfold Grown at hb
  have Bx_12 := Lib.hid (Bx_11.out.below hb Bx_11.out.lt)
  have By_12 := Lib.hid (By_11.out.below hb By_11.out.lt)
  have Bp_12 := Lib.hid (Bp_11.out.below hb Bp_11.out.lt)
  have Bq_12 := Lib.hid (Bq_11.out.below hb Bq_11.out.lt)
  have Br_12 := Lib.hid (Br_11.out.below hb Br_11.out.lt)
  have H_12 := Lib.hid (H_11.out.trans (hb.mono H_11.out.size))
  clear hb H_11 Bx_11 By_11 Bp_11 Bq_11 Br_11
  rcases b with _ | _
  · have hyp : 0 < y := by have := of_decide_eq_false hb; omega
    have qr0 := Br_12.out.c0
    have qr1 := Br_12.out.c1
    have qr2 := Br_12.out.c2
    have qy0 := By_12.out.c0
    have qy1 := By_12.out.c1
    have qy2 := By_12.out.c2
    go_wp2_with fail
    clear qr0 qr1 qr2 qy0 qy1 qy2
    have hc := Less_num hr h' true (decide_eq_true (HNear.out hyp)) (u7) (hw.below H_12.out)
    unfold valV at hc
    refine hc.mono ?_
    rintro e u8 ⟨rfl, hb⟩
    clear hc
    have Bx_13 := Lib.hid (Bx_12.out.below hb Bx_12.out.lt)
    have By_13 := Lib.hid (By_12.out.below hb By_12.out.lt)
    have Bp_13 := Lib.hid (Bp_12.out.below hb Bp_12.out.lt)
    have Bq_13 := Lib.hid (Bq_12.out.below hb Bq_12.out.lt)
    have Br_13 := Lib.hid (Br_12.out.below hb Br_12.out.lt)
    have H_13 := Lib.hid (H_12.out.trans (hb.mono H_12.out.size))
    clear hb H_12 Bx_12 By_12 Bp_12 Bq_12 Br_12
    have qy0 := By_13.out.c0
    have qy1 := By_13.out.c1
    have qy2 := By_13.out.c2
    go_wp2_with fail
    clear qy0 qy1 qy2
    have hc := negative_num h' false hb (u8)
    unfold valV at hc
    refine hc.mono ?_
    rintro e u9 ⟨rfl, hb⟩
    clear hc
    have Bx_14 := Lib.hid (Bx_13.out.below hb Bx_13.out.lt)
    have By_14 := Lib.hid (By_13.out.below hb By_13.out.lt)
    have Bp_14 := Lib.hid (Bp_13.out.below hb Bp_13.out.lt)
    have Bq_14 := Lib.hid (Bq_13.out.below hb Bq_13.out.lt)
    have Br_14 := Lib.hid (Br_13.out.below hb Br_13.out.lt)
    have H_14 := Lib.hid (H_13.out.trans (hb.mono H_13.out.size))
    clear hb H_13 Bx_13 By_13 Bp_13 Bq_13 Br_13
    have qx0 := Bx_14.out.c0
    have qx1 := Bx_14.out.c1
    have qx2 := Bx_14.out.c2
    have qr0 := Br_14.out.c0
    have qr1 := Br_14.out.c1
    have qr2 := Br_14.out.c2
    go_wp2_with fail
    clear qx0 qx1 qx2 qr0 qr1 qr2
    have hc := Sub_any h hr hb2 rfl (u9) (hw.below H_14.out)
    unfold valV at hc
    refine hc.mono ?_
    rintro e u10 ⟨rfl, hb⟩
    clear hc
    have Bx_15 := Lib.hid (Bx_14.out.below hb Bx_14.out.lt)
    have By_15 := Lib.hid (By_14.out.below hb By_14.out.lt)
    have Bp_15 := Lib.hid (Bp_14.out.below hb Bp_14.out.lt)
    have Bq_15 := Lib.hid (Bq_14.out.below hb Bq_14.out.lt)
    have Br_15 := Lib.hid (Br_14.out.below hb Br_14.out.lt)
    have H_15 := Lib.hid (H_14.out.trans (hb.mono H_14.out.size))
    clear hb H_14 Bx_14 By_14 Bp_14 Bq_14 Br_14
    have hb : Below (u10).heap.size (u10) ((u10).alloc (.cells #[.int .i64 B0, .int .i64 B1, .string ⟨B2.toArray⟩] 23)) := (Below.refl _ (u10)).alloc (Nat.le_refl _) _
    have Bnew := VB.new (u10) (.int .i64 B0) (.int .i64 B1) (.string ⟨B2.toArray⟩)
    try simp only [World.size_alloc] at Bnew
    have Bx_16 := Lib.hid (Bx_15.out.below hb Bx_15.out.lt)
    have By_16 := Lib.hid (By_15.out.below hb By_15.out.lt)
    have Bp_16 := Lib.hid (Bp_15.out.below hb Bp_15.out.lt)
    have Bq_16 := Lib.hid (Bq_15.out.below hb Bq_15.out.lt)
    have Br_16 := Lib.hid (Br_15.out.below hb Br_15.out.lt)
    have H_16 := Lib.hid (H_15.out.trans (hb.mono H_15.out.size))
    clear hb H_15 Bx_15 By_15 Bp_15 Bq_15 Br_15
    have Bb_16 := Lib.hid Bnew
    clear Bnew
    have qy0 := By_16.out.c0
    have qy1 := By_16.out.c1
    have qy2 := By_16.out.c2
    have qq0 := Bq_16.out.c0
    have qq1 := Bq_16.out.c1
    have qq2 := Bq_16.out.c2
    go_wp2_with fail
    clear qy0 qy1 qy2 qq0 qq1 qq2
    have hc := Mul_any h' hq hb2 hfp.symm ((u10).alloc (.cells #[.int .i64 B0, .int .i64 B1, .string ⟨B2.toArray⟩] 23)) (hw.below H_16.out)
    unfold valV at hc
    refine hc.mono ?_
    rintro e u11 ⟨rfl, hb⟩
    clear hc
    have Bx_17 := Lib.hid (Bx_16.out.below hb Bx_16.out.lt)
    have By_17 := Lib.hid (By_16.out.below hb By_16.out.lt)
    have Bp_17 := Lib.hid (Bp_16.out.below hb Bp_16.out.lt)
    have Bq_17 := Lib.hid (Bq_16.out.below hb Bq_16.out.lt)
    have Br_17 := Lib.hid (Br_16.out.below hb Br_16.out.lt)
    have Bb_17 := Lib.hid (Bb_16.out.below hb Bb_16.out.lt)
    have H_17 := Lib.hid (H_16.out.trans (hb.mono H_16.out.size))
    clear hb H_16 Bx_16 By_16 Bp_16 Bq_16 Br_16 Bb_16
    have hb : Below (u11).heap.size (u11) ((u11).alloc (.cells #[.int .i64 B0, .int .i64 B1, .string ⟨B2.toArray⟩] 23)) := (Below.refl _ (u11)).alloc (Nat.le_refl _) _
    have Bnew := VB.new (u11) (.int .i64 B0) (.int .i64 B1) (.string ⟨B2.toArray⟩)
    try simp only [World.size_alloc] at Bnew
    have Bx_18 := Lib.hid (Bx_17.out.below hb Bx_17.out.lt)
    have By_18 := Lib.hid (By_17.out.below hb By_17.out.lt)
    have Bp_18 := Lib.hid (Bp_17.out.below hb Bp_17.out.lt)
    have Bq_18 := Lib.hid (Bq_17.out.below hb Bq_17.out.lt)
    have Br_18 := Lib.hid (Br_17.out.below hb Br_17.out.lt)
    have Bb_18 := Lib.hid (Bb_17.out.below hb Bb_17.out.lt)
    have H_18 := Lib.hid (H_17.out.trans (hb.mono H_17.out.size))
    clear hb H_17 Bx_17 By_17 Bp_17 Bq_17 Br_17 Bb_17
    have Bc_18 := Lib.hid Bnew
    clear Bnew
    rcases hb2.two with rfl | rfl
    · have HP := Lib.hid hp
      clear hp
      rcases HP.out.two with rfl | rfl
      · have hpn := HP.out.ok
        have qb0 := Bb_18.out.c0
        have qb1 := Bb_18.out.c1
        have qb2 := Bb_18.out.c2
        have qc0 := Bc_18.out.c0
        have qc1 := Bc_18.out.c1
        have qc2 := Bc_18.out.c2
        have qp0 := Bp_18.out.c0
        have qp1 := Bp_18.out.c1
        have qp2 := Bp_18.out.c2
        have qy0 := By_18.out.c0
        have qy1 := By_18.out.c1
        have qy2 := By_18.out.c2
        go_wp2_with fail
        clear qp0 qp1 qp2 qy0 qy1 qy2
        have hc := Div_num hpn h' hy0 (fl_back x hy0) h ((u11).alloc (.cells #[.int .i64 B0, .int .i64 B1, .string ⟨B2.toArray⟩] 23)) (hw.below H_18.out)
        unfold valV at hc
        refine hc.mono ?_
        rintro e u12 ⟨rfl, hb⟩
        clear hc
        have Bx_19 := Lib.hid (Bx_18.out.below hb Bx_18.out.lt)
        have By_19 := Lib.hid (By_18.out.below hb By_18.out.lt)
        have Bp_19 := Lib.hid (Bp_18.out.below hb Bp_18.out.lt)
        have Bq_19 := Lib.hid (Bq_18.out.below hb Bq_18.out.lt)
        have Br_19 := Lib.hid (Br_18.out.below hb Br_18.out.lt)
        have Bb_19 := Lib.hid (Bb_18.out.below hb Bb_18.out.lt)
        have Bc_19 := Lib.hid (Bc_18.out.below hb Bc_18.out.lt)
        have H_19 := Lib.hid (H_18.out.trans (hb.mono H_18.out.size))
        clear hb H_18 Bx_18 By_18 Bp_18 Bq_18 Br_18 Bb_18 Bc_18
        have hb : Below (u12).heap.size (u12) ((u12).alloc (.cells #[.int .i64 K, .int .i64 N, .string ⟨T.toArray⟩] 23)) := (Below.refl _ (u12)).alloc (Nat.le_refl _) _
        have Bnew := VB.new (u12) (.int .i64 K) (.int .i64 N) (.string ⟨T.toArray⟩)
        try simp only [World.size_alloc] at Bnew
        have Bx_20 := Lib.hid (Bx_19.out.below hb Bx_19.out.lt)
        have By_20 := Lib.hid (By_19.out.below hb By_19.out.lt)
        have Bp_20 := Lib.hid (Bp_19.out.below hb Bp_19.out.lt)
        have Bq_20 := Lib.hid (Bq_19.out.below hb Bq_19.out.lt)
        have Br_20 := Lib.hid (Br_19.out.below hb Br_19.out.lt)
        have Bb_20 := Lib.hid (Bb_19.out.below hb Bb_19.out.lt)
        have Bc_20 := Lib.hid (Bc_19.out.below hb Bc_19.out.lt)
        have H_20 := Lib.hid (H_19.out.trans (hb.mono H_19.out.size))
        clear hb H_19 Bx_19 By_19 Bp_19 Bq_19 Br_19 Bb_19 Bc_19
        have Bk_20 := Lib.hid Bnew
        clear Bnew
        have qp0 := Bp_20.out.c0
        have qp1 := Bp_20.out.c1
        have qp2 := Bp_20.out.c2
        have qy0 := By_20.out.c0
        have qy1 := By_20.out.c1
        have qy2 := By_20.out.c2
        go_wp2_with fail
        clear qp0 qp1 qp2 qy0 qy1 qy2
        have hc := Mod_num hpn h' hy0 (fl_none x y) isNum_zero ((u12).alloc (.cells #[.int .i64 K, .int .i64 N, .string ⟨T.toArray⟩] 23)) (hw.below H_20.out)
        unfold valV at hc
        refine hc.mono ?_
        rintro e u13 ⟨rfl, hb⟩
        clear hc
        have Bx_21 := Lib.hid (Bx_20.out.below hb Bx_20.out.lt)
        have By_21 := Lib.hid (By_20.out.below hb By_20.out.lt)
        have Bp_21 := Lib.hid (Bp_20.out.below hb Bp_20.out.lt)
        have Bq_21 := Lib.hid (Bq_20.out.below hb Bq_20.out.lt)
        have Br_21 := Lib.hid (Br_20.out.below hb Br_20.out.lt)
        have Bb_21 := Lib.hid (Bb_20.out.below hb Bb_20.out.lt)
        have Bc_21 := Lib.hid (Bc_20.out.below hb Bc_20.out.lt)
        have Bk_21 := Lib.hid (Bk_20.out.below hb Bk_20.out.lt)
        have H_21 := Lib.hid (H_20.out.trans (hb.mono H_20.out.size))
        clear hb H_20 Bx_20 By_20 Bp_20 Bq_20 Br_20 Bb_20 Bc_20 Bk_20
        have hb : Below (u13).heap.size (u13) ((u13).alloc (.cells #[.int .i64 1, .int .i64 0, .string ⟨#[]⟩] 23)) := (Below.refl _ (u13)).alloc (Nat.le_refl _) _
        have Bnew := VB.new (u13) (.int .i64 1) (.int .i64 0) (.string ⟨#[]⟩)
        try simp only [World.size_alloc] at Bnew
        have Bx_22 := Lib.hid (Bx_21.out.below hb Bx_21.out.lt)
        have By_22 := Lib.hid (By_21.out.below hb By_21.out.lt)
        have Bp_22 := Lib.hid (Bp_21.out.below hb Bp_21.out.lt)
        have Bq_22 := Lib.hid (Bq_21.out.below hb Bq_21.out.lt)
        have Br_22 := Lib.hid (Br_21.out.below hb Br_21.out.lt)
        have Bb_22 := Lib.hid (Bb_21.out.below hb Bb_21.out.lt)
        have Bc_22 := Lib.hid (Bc_21.out.below hb Bc_21.out.lt)
        have Bk_22 := Lib.hid (Bk_21.out.below hb Bk_21.out.lt)
        have H_22 := Lib.hid (H_21.out.trans (hb.mono H_21.out.size))
        clear hb H_21 Bx_21 By_21 Bp_21 Bq_21 Br_21 Bb_21 Bc_21 Bk_21
        have Bn_22 := Lib.hid Bnew
        clear Bnew
        go_upto_region 27 with fail
        refine region_grown (by kernel_rfl) ?_
        apply quiet_wanted
        · go_simp
        · intro W hW; unfold Oper.quietAt; go_simp; (try exact ⟨rfl, rfl⟩); (try rfl)
        (try simp only [Act.put, List.setIfInBounds_toArray, List.set_cons_zero, List.set_cons_succ])
        apply quiet_wanted
        · go_simp
        · intro W hW; unfold Oper.quietAt; go_simp; (try exact ⟨rfl, rfl⟩); (try rfl)
        (try simp only [Act.put, List.setIfInBounds_toArray, List.set_cons_zero, List.set_cons_succ])
        apply quiet_wanted
        · go_simp
        · intro W hW; unfold Oper.quietAt; go_simp; (try exact ⟨rfl, rfl⟩); (try rfl)
        (try simp only [Act.put, List.setIfInBounds_toArray, List.set_cons_zero, List.set_cons_succ])
        apply quiet_wanted
        · go_simp
        · intro W hW; unfold Oper.quietAt; go_simp; (try exact ⟨rfl, rfl⟩); (try rfl)
        (try simp only [Act.put, List.setIfInBounds_toArray, List.set_cons_zero, List.set_cons_succ])
        apply quiet_wanted
        · go_simp
        · intro W hW; unfold Oper.quietAt; go_simp; (try exact ⟨rfl, rfl⟩); (try rfl)
        (try simp only [Act.put, List.setIfInBounds_toArray, List.set_cons_zero, List.set_cons_succ])
        apply quiet_wanted
        · go_simp
        · intro W hW; unfold Oper.quietAt; go_simp; (try exact ⟨rfl, rfl⟩); (try rfl)
        (try simp only [Act.put, List.setIfInBounds_toArray, List.set_cons_zero, List.set_cons_succ])
        apply quiet_wanted
        · go_simp
        · intro W hW; unfold Oper.quietAt; go_simp; (try exact ⟨rfl, rfl⟩); (try rfl)
        (try simp only [Act.put, List.setIfInBounds_toArray, List.set_cons_zero, List.set_cons_succ])
        apply quiet_wanted
        · go_simp
        · intro W hW; unfold Oper.quietAt; go_simp; (try exact ⟨rfl, rfl⟩); (try rfl)
        (try simp only [Act.put, List.setIfInBounds_toArray, List.set_cons_zero, List.set_cons_succ])
        apply quiet_wanted
        · go_simp
        · intro W hW; unfold Oper.quietAt; go_simp; (try exact ⟨rfl, rfl⟩); (try rfl)
        (try simp only [Act.put, List.setIfInBounds_toArray, List.set_cons_zero, List.set_cons_succ])
        apply quiet_wanted
        · go_simp
        · intro W hW; unfold Oper.quietAt; go_simp; (try exact ⟨rfl, rfl⟩); (try rfl)
        (try simp only [Act.put, List.setIfInBounds_toArray, List.set_cons_zero, List.set_cons_succ])
        apply quiet_wanted
        · go_simp
        · intro W hW; have hV := Bk_22.out.below hW Bk_22.out.lt; have c0 := hV.c0; have c1 := hV.c1; have c2 := hV.c2; clear hV; unfold Oper.quietAt; go_simp; (try exact ⟨rfl, rfl⟩); (try rfl)
        (try simp only [Act.put, List.setIfInBounds_toArray, List.set_cons_zero, List.set_cons_succ])
        apply quiet_wanted
        · go_simp
        · intro W hW; have hV := Bx_22.out.below hW Bx_22.out.lt; have c0 := hV.c0; have c1 := hV.c1; have c2 := hV.c2; clear hV; unfold Oper.quietAt; go_simp; (try exact ⟨rfl, rfl⟩); (try rfl)
        (try simp only [Act.put, List.setIfInBounds_toArray, List.set_cons_zero, List.set_cons_succ])
        apply quiet_wanted
        · go_simp
        · intro W hW; unfold Oper.quietAt; go_simp; (try exact ⟨rfl, rfl⟩); (try rfl)
        (try simp only [Act.put, List.setIfInBounds_toArray, List.set_cons_zero, List.set_cons_succ])
        apply quiet_wanted
        · go_simp
        · intro W hW; unfold Oper.quietAt; go_simp; (try exact ⟨rfl, rfl⟩); (try rfl)
        (try simp only [Act.put, List.setIfInBounds_toArray, List.set_cons_zero, List.set_cons_succ])
        apply quiet_wanted
        · go_simp
        · intro W hW; unfold Oper.quietAt; go_simp; (try exact ⟨rfl, rfl⟩); (try rfl)
        (try simp only [Act.put, List.setIfInBounds_toArray, List.set_cons_zero, List.set_cons_succ])
        apply quiet_wanted
        · go_simp
        · intro W hW; have hV := Bn_22.out.below hW Bn_22.out.lt; have c0 := hV.c0; have c1 := hV.c1; have c2 := hV.c2; clear hV; unfold Oper.quietAt; go_simp; (try exact ⟨rfl, rfl⟩); (try rfl)
        (try simp only [Act.put, List.setIfInBounds_toArray, List.set_cons_zero, List.set_cons_succ])
        apply quiet_wanted
        · go_simp
        · intro W hW; unfold Oper.quietAt; go_simp; have hc := number_c 0 W; unfold valV at hc; exact hc.mono fun e w' hr => ⟨hr.1, Grown.trans hW hr.2⟩
        (try simp only [Act.put, List.setIfInBounds_toArray, List.set_cons_zero, List.set_cons_succ])
        apply quiet_wanted
        · go_simp
        · intro W hW; unfold Oper.quietAt; go_simp; (try exact ⟨rfl, rfl⟩); (try rfl)
        (try simp only [Act.put, List.setIfInBounds_toArray, List.set_cons_zero, List.set_cons_succ])
        apply quiet_wanted
        · go_simp
        · intro W hW; unfold Oper.quietAt; go_simp; (try exact ⟨rfl, rfl⟩); (try rfl)
        (try simp only [Act.put, List.setIfInBounds_toArray, List.set_cons_zero, List.set_cons_succ])
        apply quiet_wanted
        · go_simp
        · intro W hW; unfold Oper.quietAt; go_simp; (try exact ⟨rfl, rfl⟩); (try rfl)
        (try simp only [Act.put, List.setIfInBounds_toArray, List.set_cons_zero, List.set_cons_succ])
        refine wpQuiet_nil ?_
        intro u14 hb
        unfold Grown at hb
        have Bx_23 := Lib.hid (Bx_22.out.below hb Bx_22.out.lt)
        have By_23 := Lib.hid (By_22.out.below hb By_22.out.lt)
        have Bp_23 := Lib.hid (Bp_22.out.below hb Bp_22.out.lt)
        have Bq_23 := Lib.hid (Bq_22.out.below hb Bq_22.out.lt)
        have Br_23 := Lib.hid (Br_22.out.below hb Br_22.out.lt)
        have Bb_23 := Lib.hid (Bb_22.out.below hb Bb_22.out.lt)
        have Bc_23 := Lib.hid (Bc_22.out.below hb Bc_22.out.lt)
        have Bk_23 := Lib.hid (Bk_22.out.below hb Bk_22.out.lt)
        have Bn_23 := Lib.hid (Bn_22.out.below hb Bn_22.out.lt)
        have H_23 := Lib.hid (H_22.out.trans (hb.mono H_22.out.size))
        clear hb H_22 Bx_22 By_22 Bp_22 Bq_22 Br_22 Bb_22 Bc_22 Bk_22 Bn_22
        go_wp2_with fail
        go_ret
        exact ⟨rfl, H_23.out⟩
      · have qb0 := Bb_18.out.c0
        have qb1 := Bb_18.out.c1
        have qb2 := Bb_18.out.c2
        have qc0 := Bc_18.out.c0
        have qc1 := Bc_18.out.c1
        have qc2 := Bc_18.out.c2
        go_wp2_with fail
        go_ret
        exact ⟨rfl, H_18.out⟩
    · have HP := Lib.hid hp
      clear hp
      rcases HP.out.two with rfl | rfl
      · have hpn := HP.out.ok
        have qb0 := Bb_18.out.c0
        have qb1 := Bb_18.out.c1
        have qb2 := Bb_18.out.c2
        have qc0 := Bc_18.out.c0
        have qc1 := Bc_18.out.c1
        have qc2 := Bc_18.out.c2
        have qp0 := Bp_18.out.c0
        have qp1 := Bp_18.out.c1
        have qp2 := Bp_18.out.c2
        have qy0 := By_18.out.c0
        have qy1 := By_18.out.c1
        have qy2 := By_18.out.c2
        go_wp2_with fail
        clear qp0 qp1 qp2 qy0 qy1 qy2
        have hc := Div_num hpn h' hy0 (fl_back x hy0) h ((u11).alloc (.cells #[.int .i64 B0, .int .i64 B1, .string ⟨B2.toArray⟩] 23)) (hw.below H_18.out)
        unfold valV at hc
        refine hc.mono ?_
        rintro e u12 ⟨rfl, hb⟩
        clear hc
        have Bx_19 := Lib.hid (Bx_18.out.below hb Bx_18.out.lt)
        have By_19 := Lib.hid (By_18.out.below hb By_18.out.lt)
        have Bp_19 := Lib.hid (Bp_18.out.below hb Bp_18.out.lt)
        have Bq_19 := Lib.hid (Bq_18.out.below hb Bq_18.out.lt)
        have Br_19 := Lib.hid (Br_18.out.below hb Br_18.out.lt)
        have Bb_19 := Lib.hid (Bb_18.out.below hb Bb_18.out.lt)
        have Bc_19 := Lib.hid (Bc_18.out.below hb Bc_18.out.lt)
        have H_19 := Lib.hid (H_18.out.trans (hb.mono H_18.out.size))
        clear hb H_18 Bx_18 By_18 Bp_18 Bq_18 Br_18 Bb_18 Bc_18
        have hb : Below (u12).heap.size (u12) ((u12).alloc (.cells #[.int .i64 K, .int .i64 N, .string ⟨T.toArray⟩] 23)) := (Below.refl _ (u12)).alloc (Nat.le_refl _) _
        have Bnew := VB.new (u12) (.int .i64 K) (.int .i64 N) (.string ⟨T.toArray⟩)
        try simp only [World.size_alloc] at Bnew
        have Bx_20 := Lib.hid (Bx_19.out.below hb Bx_19.out.lt)
        have By_20 := Lib.hid (By_19.out.below hb By_19.out.lt)
        have Bp_20 := Lib.hid (Bp_19.out.below hb Bp_19.out.lt)
        have Bq_20 := Lib.hid (Bq_19.out.below hb Bq_19.out.lt)
        have Br_20 := Lib.hid (Br_19.out.below hb Br_19.out.lt)
        have Bb_20 := Lib.hid (Bb_19.out.below hb Bb_19.out.lt)
        have Bc_20 := Lib.hid (Bc_19.out.below hb Bc_19.out.lt)
        have H_20 := Lib.hid (H_19.out.trans (hb.mono H_19.out.size))
        clear hb H_19 Bx_19 By_19 Bp_19 Bq_19 Br_19 Bb_19 Bc_19
        have Bk_20 := Lib.hid Bnew
        clear Bnew
        have qp0 := Bp_20.out.c0
        have qp1 := Bp_20.out.c1
        have qp2 := Bp_20.out.c2
        have qy0 := By_20.out.c0
        have qy1 := By_20.out.c1
        have qy2 := By_20.out.c2
        go_wp2_with fail
        clear qp0 qp1 qp2 qy0 qy1 qy2
        have hc := Mod_num hpn h' hy0 (fl_none x y) isNum_zero ((u12).alloc (.cells #[.int .i64 K, .int .i64 N, .string ⟨T.toArray⟩] 23)) (hw.below H_20.out)
        unfold valV at hc
        refine hc.mono ?_
        rintro e u13 ⟨rfl, hb⟩
        clear hc
        have Bx_21 := Lib.hid (Bx_20.out.below hb Bx_20.out.lt)
        have By_21 := Lib.hid (By_20.out.below hb By_20.out.lt)
        have Bp_21 := Lib.hid (Bp_20.out.below hb Bp_20.out.lt)
        have Bq_21 := Lib.hid (Bq_20.out.below hb Bq_20.out.lt)
        have Br_21 := Lib.hid (Br_20.out.below hb Br_20.out.lt)
        have Bb_21 := Lib.hid (Bb_20.out.below hb Bb_20.out.lt)
        have Bc_21 := Lib.hid (Bc_20.out.below hb Bc_20.out.lt)
        have Bk_21 := Lib.hid (Bk_20.out.below hb Bk_20.out.lt)
        have H_21 := Lib.hid (H_20.out.trans (hb.mono H_20.out.size))
        clear hb H_20 Bx_20 By_20 Bp_20 Bq_20 Br_20 Bb_20 Bc_20 Bk_20
        have hb : Below (u13).heap.size (u13) ((u13).alloc (.cells #[.int .i64 1, .int .i64 0, .string ⟨#[]⟩] 23)) := (Below.refl _ (u13)).alloc (Nat.le_refl _) _
        have Bnew := VB.new (u13) (.int .i64 1) (.int .i64 0) (.string ⟨#[]⟩)
        try simp only [World.size_alloc] at Bnew
        have Bx_22 := Lib.hid (Bx_21.out.below hb Bx_21.out.lt)
        have By_22 := Lib.hid (By_21.out.below hb By_21.out.lt)
        have Bp_22 := Lib.hid (Bp_21.out.below hb Bp_21.out.lt)
        have Bq_22 := Lib.hid (Bq_21.out.below hb Bq_21.out.lt)
        have Br_22 := Lib.hid (Br_21.out.below hb Br_21.out.lt)
        have Bb_22 := Lib.hid (Bb_21.out.below hb Bb_21.out.lt)
        have Bc_22 := Lib.hid (Bc_21.out.below hb Bc_21.out.lt)
        have Bk_22 := Lib.hid (Bk_21.out.below hb Bk_21.out.lt)
        have H_22 := Lib.hid (H_21.out.trans (hb.mono H_21.out.size))
        clear hb H_21 Bx_21 By_21 Bp_21 Bq_21 Br_21 Bb_21 Bc_21 Bk_21
        have Bn_22 := Lib.hid Bnew
        clear Bnew
        go_upto_region 27 with fail
        refine region_grown (by kernel_rfl) ?_
        apply quiet_wanted
        · go_simp
        · intro W hW; unfold Oper.quietAt; go_simp; (try exact ⟨rfl, rfl⟩); (try rfl)
        (try simp only [Act.put, List.setIfInBounds_toArray, List.set_cons_zero, List.set_cons_succ])
        apply quiet_wanted
        · go_simp
        · intro W hW; unfold Oper.quietAt; go_simp; (try exact ⟨rfl, rfl⟩); (try rfl)
        (try simp only [Act.put, List.setIfInBounds_toArray, List.set_cons_zero, List.set_cons_succ])
        apply quiet_wanted
        · go_simp
        · intro W hW; unfold Oper.quietAt; go_simp; (try exact ⟨rfl, rfl⟩); (try rfl)
        (try simp only [Act.put, List.setIfInBounds_toArray, List.set_cons_zero, List.set_cons_succ])
        apply quiet_wanted
        · go_simp
        · intro W hW; unfold Oper.quietAt; go_simp; (try exact ⟨rfl, rfl⟩); (try rfl)
        (try simp only [Act.put, List.setIfInBounds_toArray, List.set_cons_zero, List.set_cons_succ])
        apply quiet_wanted
        · go_simp
        · intro W hW; unfold Oper.quietAt; go_simp; (try exact ⟨rfl, rfl⟩); (try rfl)
        (try simp only [Act.put, List.setIfInBounds_toArray, List.set_cons_zero, List.set_cons_succ])
        apply quiet_wanted
        · go_simp
        · intro W hW; unfold Oper.quietAt; go_simp; (try exact ⟨rfl, rfl⟩); (try rfl)
        (try simp only [Act.put, List.setIfInBounds_toArray, List.set_cons_zero, List.set_cons_succ])
        apply quiet_wanted
        · go_simp
        · intro W hW; unfold Oper.quietAt; go_simp; (try exact ⟨rfl, rfl⟩); (try rfl)
        (try simp only [Act.put, List.setIfInBounds_toArray, List.set_cons_zero, List.set_cons_succ])
        apply quiet_wanted
        · go_simp
        · intro W hW; unfold Oper.quietAt; go_simp; (try exact ⟨rfl, rfl⟩); (try rfl)
        (try simp only [Act.put, List.setIfInBounds_toArray, List.set_cons_zero, List.set_cons_succ])
        apply quiet_wanted
        · go_simp
        · intro W hW; unfold Oper.quietAt; go_simp; (try exact ⟨rfl, rfl⟩); (try rfl)
        (try simp only [Act.put, List.setIfInBounds_toArray, List.set_cons_zero, List.set_cons_succ])
        apply quiet_wanted
        · go_simp
        · intro W hW; unfold Oper.quietAt; go_simp; (try exact ⟨rfl, rfl⟩); (try rfl)
        (try simp only [Act.put, List.setIfInBounds_toArray, List.set_cons_zero, List.set_cons_succ])
        apply quiet_wanted
        · go_simp
        · intro W hW; have hV := Bk_22.out.below hW Bk_22.out.lt; have c0 := hV.c0; have c1 := hV.c1; have c2 := hV.c2; clear hV; unfold Oper.quietAt; go_simp; (try exact ⟨rfl, rfl⟩); (try rfl)
        (try simp only [Act.put, List.setIfInBounds_toArray, List.set_cons_zero, List.set_cons_succ])
        apply quiet_wanted
        · go_simp
        · intro W hW; have hV := Bx_22.out.below hW Bx_22.out.lt; have c0 := hV.c0; have c1 := hV.c1; have c2 := hV.c2; clear hV; unfold Oper.quietAt; go_simp; (try exact ⟨rfl, rfl⟩); (try rfl)
        (try simp only [Act.put, List.setIfInBounds_toArray, List.set_cons_zero, List.set_cons_succ])
        apply quiet_wanted
        · go_simp
        · intro W hW; unfold Oper.quietAt; go_simp; (try exact ⟨rfl, rfl⟩); (try rfl)
        (try simp only [Act.put, List.setIfInBounds_toArray, List.set_cons_zero, List.set_cons_succ])
        apply quiet_wanted
        · go_simp
        · intro W hW; unfold Oper.quietAt; go_simp; (try exact ⟨rfl, rfl⟩); (try rfl)
        (try simp only [Act.put, List.setIfInBounds_toArray, List.set_cons_zero, List.set_cons_succ])
        apply quiet_wanted
        · go_simp
        · intro W hW; unfold Oper.quietAt; go_simp; (try exact ⟨rfl, rfl⟩); (try rfl)
        (try simp only [Act.put, List.setIfInBounds_toArray, List.set_cons_zero, List.set_cons_succ])
        apply quiet_wanted
        · go_simp
        · intro W hW; have hV := Bn_22.out.below hW Bn_22.out.lt; have c0 := hV.c0; have c1 := hV.c1; have c2 := hV.c2; clear hV; unfold Oper.quietAt; go_simp; (try exact ⟨rfl, rfl⟩); (try rfl)
        (try simp only [Act.put, List.setIfInBounds_toArray, List.set_cons_zero, List.set_cons_succ])
        apply quiet_wanted
        · go_simp
        · intro W hW; unfold Oper.quietAt; go_simp; have hc := number_c 0 W; unfold valV at hc; exact hc.mono fun e w' hr => ⟨hr.1, Grown.trans hW hr.2⟩
        (try simp only [Act.put, List.setIfInBounds_toArray, List.set_cons_zero, List.set_cons_succ])
        apply quiet_wanted
        · go_simp
        · intro W hW; unfold Oper.quietAt; go_simp; (try exact ⟨rfl, rfl⟩); (try rfl)
        (try simp only [Act.put, List.setIfInBounds_toArray, List.set_cons_zero, List.set_cons_succ])
        apply quiet_wanted
        · go_simp
        · intro W hW; unfold Oper.quietAt; go_simp; (try exact ⟨rfl, rfl⟩); (try rfl)
        (try simp only [Act.put, List.setIfInBounds_toArray, List.set_cons_zero, List.set_cons_succ])
        apply quiet_wanted
        · go_simp
        · intro W hW; unfold Oper.quietAt; go_simp; (try exact ⟨rfl, rfl⟩); (try rfl)
        (try simp only [Act.put, List.setIfInBounds_toArray, List.set_cons_zero, List.set_cons_succ])
        refine wpQuiet_nil ?_
        intro u14 hb
        unfold Grown at hb
        have Bx_23 := Lib.hid (Bx_22.out.below hb Bx_22.out.lt)
        have By_23 := Lib.hid (By_22.out.below hb By_22.out.lt)
        have Bp_23 := Lib.hid (Bp_22.out.below hb Bp_22.out.lt)
        have Bq_23 := Lib.hid (Bq_22.out.below hb Bq_22.out.lt)
        have Br_23 := Lib.hid (Br_22.out.below hb Br_22.out.lt)
        have Bb_23 := Lib.hid (Bb_22.out.below hb Bb_22.out.lt)
        have Bc_23 := Lib.hid (Bc_22.out.below hb Bc_22.out.lt)
        have Bk_23 := Lib.hid (Bk_22.out.below hb Bk_22.out.lt)
        have Bn_23 := Lib.hid (Bn_22.out.below hb Bn_22.out.lt)
        have H_23 := Lib.hid (H_22.out.trans (hb.mono H_22.out.size))
        clear hb H_22 Bx_22 By_22 Bp_22 Bq_22 Br_22 Bb_22 Bc_22 Bk_22 Bn_22
        go_wp2_with fail
        go_ret
        exact ⟨rfl, H_23.out⟩
      · have qb0 := Bb_18.out.c0
        have qb1 := Bb_18.out.c1
        have qb2 := Bb_18.out.c2
        have qc0 := Bc_18.out.c0
        have qc1 := Bc_18.out.c1
        have qc2 := Bc_18.out.c2
        go_wp2_with fail
        go_ret
        exact ⟨rfl, H_18.out⟩
  · have hyn : y < 0 := of_decide_eq_true hb
    have qr0 := Br_12.out.c0
    have qr1 := Br_12.out.c1
    have qr2 := Br_12.out.c2
    have qy0 := By_12.out.c0
    have qy1 := By_12.out.c1
    have qy2 := By_12.out.c2
    go_wp2_with fail
    clear qr0 qr1 qr2 qy0 qy1 qy2
    have hc := Less_num hr h' false (decide_eq_false (by have := HNearN.out hyn; omega)) (u7) (hw.below H_12.out)
    unfold valV at hc
    refine hc.mono ?_
    rintro e u8 ⟨rfl, hb⟩
    clear hc
    have Bx_13 := Lib.hid (Bx_12.out.below hb Bx_12.out.lt)
    have By_13 := Lib.hid (By_12.out.below hb By_12.out.lt)
    have Bp_13 := Lib.hid (Bp_12.out.below hb Bp_12.out.lt)
    have Bq_13 := Lib.hid (Bq_12.out.below hb Bq_12.out.lt)
    have Br_13 := Lib.hid (Br_12.out.below hb Br_12.out.lt)
    have H_13 := Lib.hid (H_12.out.trans (hb.mono H_12.out.size))
    clear hb H_12 Bx_12 By_12 Bp_12 Bq_12 Br_12
    have qy0 := By_13.out.c0
    have qy1 := By_13.out.c1
    have qy2 := By_13.out.c2
    go_wp2_with fail
    clear qy0 qy1 qy2
    have hc := negative_num h' true hb (u8)
    unfold valV at hc
    refine hc.mono ?_
    rintro e u9 ⟨rfl, hb⟩
    clear hc
    have Bx_14 := Lib.hid (Bx_13.out.below hb Bx_13.out.lt)
    have By_14 := Lib.hid (By_13.out.below hb By_13.out.lt)
    have Bp_14 := Lib.hid (Bp_13.out.below hb Bp_13.out.lt)
    have Bq_14 := Lib.hid (Bq_13.out.below hb Bq_13.out.lt)
    have Br_14 := Lib.hid (Br_13.out.below hb Br_13.out.lt)
    have H_14 := Lib.hid (H_13.out.trans (hb.mono H_13.out.size))
    clear hb H_13 Bx_13 By_13 Bp_13 Bq_13 Br_13
    have qy0 := By_14.out.c0
    have qy1 := By_14.out.c1
    have qy2 := By_14.out.c2
    have qr0 := Br_14.out.c0
    have qr1 := Br_14.out.c1
    have qr2 := Br_14.out.c2
    go_wp2_with fail
    clear qy0 qy1 qy2 qr0 qr1 qr2
    have hc := Less_num h' hr true (decide_eq_true (HNearN.out hyn)) (u9) (hw.below H_14.out)
    unfold valV at hc
    refine hc.mono ?_
    rintro e u10 ⟨rfl, hb⟩
    clear hc
    have Bx_15 := Lib.hid (Bx_14.out.below hb Bx_14.out.lt)
    have By_15 := Lib.hid (By_14.out.below hb By_14.out.lt)
    have Bp_15 := Lib.hid (Bp_14.out.below hb Bp_14.out.lt)
    have Bq_15 := Lib.hid (Bq_14.out.below hb Bq_14.out.lt)
    have Br_15 := Lib.hid (Br_14.out.below hb Br_14.out.lt)
    have H_15 := Lib.hid (H_14.out.trans (hb.mono H_14.out.size))
    clear hb H_14 Bx_14 By_14 Bp_14 Bq_14 Br_14
    have qx0 := Bx_15.out.c0
    have qx1 := Bx_15.out.c1
    have qx2 := Bx_15.out.c2
    have qr0 := Br_15.out.c0
    have qr1 := Br_15.out.c1
    have qr2 := Br_15.out.c2
    go_wp2_with fail
    clear qx0 qx1 qx2 qr0 qr1 qr2
    have hc := Sub_any h hr hb2 rfl (u10) (hw.below H_15.out)
    unfold valV at hc
    refine hc.mono ?_
    rintro e u11 ⟨rfl, hb⟩
    clear hc
    have Bx_16 := Lib.hid (Bx_15.out.below hb Bx_15.out.lt)
    have By_16 := Lib.hid (By_15.out.below hb By_15.out.lt)
    have Bp_16 := Lib.hid (Bp_15.out.below hb Bp_15.out.lt)
    have Bq_16 := Lib.hid (Bq_15.out.below hb Bq_15.out.lt)
    have Br_16 := Lib.hid (Br_15.out.below hb Br_15.out.lt)
    have H_16 := Lib.hid (H_15.out.trans (hb.mono H_15.out.size))
    clear hb H_15 Bx_15 By_15 Bp_15 Bq_15 Br_15
    have hb : Below (u11).heap.size (u11) ((u11).alloc (.cells #[.int .i64 B0, .int .i64 B1, .string ⟨B2.toArray⟩] 23)) := (Below.refl _ (u11)).alloc (Nat.le_refl _) _
    have Bnew := VB.new (u11) (.int .i64 B0) (.int .i64 B1) (.string ⟨B2.toArray⟩)
    try simp only [World.size_alloc] at Bnew
    have Bx_17 := Lib.hid (Bx_16.out.below hb Bx_16.out.lt)
    have By_17 := Lib.hid (By_16.out.below hb By_16.out.lt)
    have Bp_17 := Lib.hid (Bp_16.out.below hb Bp_16.out.lt)
    have Bq_17 := Lib.hid (Bq_16.out.below hb Bq_16.out.lt)
    have Br_17 := Lib.hid (Br_16.out.below hb Br_16.out.lt)
    have H_17 := Lib.hid (H_16.out.trans (hb.mono H_16.out.size))
    clear hb H_16 Bx_16 By_16 Bp_16 Bq_16 Br_16
    have Bb_17 := Lib.hid Bnew
    clear Bnew
    have qy0 := By_17.out.c0
    have qy1 := By_17.out.c1
    have qy2 := By_17.out.c2
    have qq0 := Bq_17.out.c0
    have qq1 := Bq_17.out.c1
    have qq2 := Bq_17.out.c2
    go_wp2_with fail
    clear qy0 qy1 qy2 qq0 qq1 qq2
    have hc := Mul_any h' hq hb2 hfp.symm ((u11).alloc (.cells #[.int .i64 B0, .int .i64 B1, .string ⟨B2.toArray⟩] 23)) (hw.below H_17.out)
    unfold valV at hc
    refine hc.mono ?_
    rintro e u12 ⟨rfl, hb⟩
    clear hc
    have Bx_18 := Lib.hid (Bx_17.out.below hb Bx_17.out.lt)
    have By_18 := Lib.hid (By_17.out.below hb By_17.out.lt)
    have Bp_18 := Lib.hid (Bp_17.out.below hb Bp_17.out.lt)
    have Bq_18 := Lib.hid (Bq_17.out.below hb Bq_17.out.lt)
    have Br_18 := Lib.hid (Br_17.out.below hb Br_17.out.lt)
    have Bb_18 := Lib.hid (Bb_17.out.below hb Bb_17.out.lt)
    have H_18 := Lib.hid (H_17.out.trans (hb.mono H_17.out.size))
    clear hb H_17 Bx_17 By_17 Bp_17 Bq_17 Br_17 Bb_17
    have hb : Below (u12).heap.size (u12) ((u12).alloc (.cells #[.int .i64 B0, .int .i64 B1, .string ⟨B2.toArray⟩] 23)) := (Below.refl _ (u12)).alloc (Nat.le_refl _) _
    have Bnew := VB.new (u12) (.int .i64 B0) (.int .i64 B1) (.string ⟨B2.toArray⟩)
    try simp only [World.size_alloc] at Bnew
    have Bx_19 := Lib.hid (Bx_18.out.below hb Bx_18.out.lt)
    have By_19 := Lib.hid (By_18.out.below hb By_18.out.lt)
    have Bp_19 := Lib.hid (Bp_18.out.below hb Bp_18.out.lt)
    have Bq_19 := Lib.hid (Bq_18.out.below hb Bq_18.out.lt)
    have Br_19 := Lib.hid (Br_18.out.below hb Br_18.out.lt)
    have Bb_19 := Lib.hid (Bb_18.out.below hb Bb_18.out.lt)
    have H_19 := Lib.hid (H_18.out.trans (hb.mono H_18.out.size))
    clear hb H_18 Bx_18 By_18 Bp_18 Bq_18 Br_18 Bb_18
    have Bc_19 := Lib.hid Bnew
    clear Bnew
    rcases hb2.two with rfl | rfl
    · have HP := Lib.hid hp
      clear hp
      rcases HP.out.two with rfl | rfl
      · have hpn := HP.out.ok
        have qb0 := Bb_19.out.c0
        have qb1 := Bb_19.out.c1
        have qb2 := Bb_19.out.c2
        have qc0 := Bc_19.out.c0
        have qc1 := Bc_19.out.c1
        have qc2 := Bc_19.out.c2
        have qp0 := Bp_19.out.c0
        have qp1 := Bp_19.out.c1
        have qp2 := Bp_19.out.c2
        have qy0 := By_19.out.c0
        have qy1 := By_19.out.c1
        have qy2 := By_19.out.c2
        go_wp2_with fail
        clear qp0 qp1 qp2 qy0 qy1 qy2
        have hc := Div_num hpn h' hy0 (fl_back x hy0) h ((u12).alloc (.cells #[.int .i64 B0, .int .i64 B1, .string ⟨B2.toArray⟩] 23)) (hw.below H_19.out)
        unfold valV at hc
        refine hc.mono ?_
        rintro e u13 ⟨rfl, hb⟩
        clear hc
        have Bx_20 := Lib.hid (Bx_19.out.below hb Bx_19.out.lt)
        have By_20 := Lib.hid (By_19.out.below hb By_19.out.lt)
        have Bp_20 := Lib.hid (Bp_19.out.below hb Bp_19.out.lt)
        have Bq_20 := Lib.hid (Bq_19.out.below hb Bq_19.out.lt)
        have Br_20 := Lib.hid (Br_19.out.below hb Br_19.out.lt)
        have Bb_20 := Lib.hid (Bb_19.out.below hb Bb_19.out.lt)
        have Bc_20 := Lib.hid (Bc_19.out.below hb Bc_19.out.lt)
        have H_20 := Lib.hid (H_19.out.trans (hb.mono H_19.out.size))
        clear hb H_19 Bx_19 By_19 Bp_19 Bq_19 Br_19 Bb_19 Bc_19
        have hb : Below (u13).heap.size (u13) ((u13).alloc (.cells #[.int .i64 K, .int .i64 N, .string ⟨T.toArray⟩] 23)) := (Below.refl _ (u13)).alloc (Nat.le_refl _) _
        have Bnew := VB.new (u13) (.int .i64 K) (.int .i64 N) (.string ⟨T.toArray⟩)
        try simp only [World.size_alloc] at Bnew
        have Bx_21 := Lib.hid (Bx_20.out.below hb Bx_20.out.lt)
        have By_21 := Lib.hid (By_20.out.below hb By_20.out.lt)
        have Bp_21 := Lib.hid (Bp_20.out.below hb Bp_20.out.lt)
        have Bq_21 := Lib.hid (Bq_20.out.below hb Bq_20.out.lt)
        have Br_21 := Lib.hid (Br_20.out.below hb Br_20.out.lt)
        have Bb_21 := Lib.hid (Bb_20.out.below hb Bb_20.out.lt)
        have Bc_21 := Lib.hid (Bc_20.out.below hb Bc_20.out.lt)
        have H_21 := Lib.hid (H_20.out.trans (hb.mono H_20.out.size))
        clear hb H_20 Bx_20 By_20 Bp_20 Bq_20 Br_20 Bb_20 Bc_20
        have Bk_21 := Lib.hid Bnew
        clear Bnew
        have qp0 := Bp_21.out.c0
        have qp1 := Bp_21.out.c1
        have qp2 := Bp_21.out.c2
        have qy0 := By_21.out.c0
        have qy1 := By_21.out.c1
        have qy2 := By_21.out.c2
        go_wp2_with fail
        clear qp0 qp1 qp2 qy0 qy1 qy2
        have hc := Mod_num hpn h' hy0 (fl_none x y) isNum_zero ((u13).alloc (.cells #[.int .i64 K, .int .i64 N, .string ⟨T.toArray⟩] 23)) (hw.below H_21.out)
        unfold valV at hc
        refine hc.mono ?_
        rintro e u14 ⟨rfl, hb⟩
        clear hc
        have Bx_22 := Lib.hid (Bx_21.out.below hb Bx_21.out.lt)
        have By_22 := Lib.hid (By_21.out.below hb By_21.out.lt)
        have Bp_22 := Lib.hid (Bp_21.out.below hb Bp_21.out.lt)
        have Bq_22 := Lib.hid (Bq_21.out.below hb Bq_21.out.lt)
        have Br_22 := Lib.hid (Br_21.out.below hb Br_21.out.lt)
        have Bb_22 := Lib.hid (Bb_21.out.below hb Bb_21.out.lt)
        have Bc_22 := Lib.hid (Bc_21.out.below hb Bc_21.out.lt)
        have Bk_22 := Lib.hid (Bk_21.out.below hb Bk_21.out.lt)
        have H_22 := Lib.hid (H_21.out.trans (hb.mono H_21.out.size))
        clear hb H_21 Bx_21 By_21 Bp_21 Bq_21 Br_21 Bb_21 Bc_21 Bk_21
        have hb : Below (u14).heap.size (u14) ((u14).alloc (.cells #[.int .i64 1, .int .i64 0, .string ⟨#[]⟩] 23)) := (Below.refl _ (u14)).alloc (Nat.le_refl _) _
        have Bnew := VB.new (u14) (.int .i64 1) (.int .i64 0) (.string ⟨#[]⟩)
        try simp only [World.size_alloc] at Bnew
        have Bx_23 := Lib.hid (Bx_22.out.below hb Bx_22.out.lt)
        have By_23 := Lib.hid (By_22.out.below hb By_22.out.lt)
        have Bp_23 := Lib.hid (Bp_22.out.below hb Bp_22.out.lt)
        have Bq_23 := Lib.hid (Bq_22.out.below hb Bq_22.out.lt)
        have Br_23 := Lib.hid (Br_22.out.below hb Br_22.out.lt)
        have Bb_23 := Lib.hid (Bb_22.out.below hb Bb_22.out.lt)
        have Bc_23 := Lib.hid (Bc_22.out.below hb Bc_22.out.lt)
        have Bk_23 := Lib.hid (Bk_22.out.below hb Bk_22.out.lt)
        have H_23 := Lib.hid (H_22.out.trans (hb.mono H_22.out.size))
        clear hb H_22 Bx_22 By_22 Bp_22 Bq_22 Br_22 Bb_22 Bc_22 Bk_22
        have Bn_23 := Lib.hid Bnew
        clear Bnew
        go_upto_region 27 with fail
        refine region_grown (by kernel_rfl) ?_
        apply quiet_wanted
        · go_simp
        · intro W hW; unfold Oper.quietAt; go_simp; (try exact ⟨rfl, rfl⟩); (try rfl)
        (try simp only [Act.put, List.setIfInBounds_toArray, List.set_cons_zero, List.set_cons_succ])
        apply quiet_wanted
        · go_simp
        · intro W hW; unfold Oper.quietAt; go_simp; (try exact ⟨rfl, rfl⟩); (try rfl)
        (try simp only [Act.put, List.setIfInBounds_toArray, List.set_cons_zero, List.set_cons_succ])
        apply quiet_wanted
        · go_simp
        · intro W hW; unfold Oper.quietAt; go_simp; (try exact ⟨rfl, rfl⟩); (try rfl)
        (try simp only [Act.put, List.setIfInBounds_toArray, List.set_cons_zero, List.set_cons_succ])
        apply quiet_wanted
        · go_simp
        · intro W hW; unfold Oper.quietAt; go_simp; (try exact ⟨rfl, rfl⟩); (try rfl)
        (try simp only [Act.put, List.setIfInBounds_toArray, List.set_cons_zero, List.set_cons_succ])
        apply quiet_wanted
        · go_simp
        · intro W hW; unfold Oper.quietAt; go_simp; (try exact ⟨rfl, rfl⟩); (try rfl)
        (try simp only [Act.put, List.setIfInBounds_toArray, List.set_cons_zero, List.set_cons_succ])
        apply quiet_wanted
        · go_simp
        · intro W hW; unfold Oper.quietAt; go_simp; (try exact ⟨rfl, rfl⟩); (try rfl)
        (try simp only [Act.put, List.setIfInBounds_toArray, List.set_cons_zero, List.set_cons_succ])
        apply quiet_wanted
        · go_simp
        · intro W hW; unfold Oper.quietAt; go_simp; (try exact ⟨rfl, rfl⟩); (try rfl)
        (try simp only [Act.put, List.setIfInBounds_toArray, List.set_cons_zero, List.set_cons_succ])
        apply quiet_wanted
        · go_simp
        · intro W hW; unfold Oper.quietAt; go_simp; (try exact ⟨rfl, rfl⟩); (try rfl)
        (try simp only [Act.put, List.setIfInBounds_toArray, List.set_cons_zero, List.set_cons_succ])
        apply quiet_wanted
        · go_simp
        · intro W hW; unfold Oper.quietAt; go_simp; (try exact ⟨rfl, rfl⟩); (try rfl)
        (try simp only [Act.put, List.setIfInBounds_toArray, List.set_cons_zero, List.set_cons_succ])
        apply quiet_wanted
        · go_simp
        · intro W hW; unfold Oper.quietAt; go_simp; (try exact ⟨rfl, rfl⟩); (try rfl)
        (try simp only [Act.put, List.setIfInBounds_toArray, List.set_cons_zero, List.set_cons_succ])
        apply quiet_wanted
        · go_simp
        · intro W hW; have hV := Bk_23.out.below hW Bk_23.out.lt; have c0 := hV.c0; have c1 := hV.c1; have c2 := hV.c2; clear hV; unfold Oper.quietAt; go_simp; (try exact ⟨rfl, rfl⟩); (try rfl)
        (try simp only [Act.put, List.setIfInBounds_toArray, List.set_cons_zero, List.set_cons_succ])
        apply quiet_wanted
        · go_simp
        · intro W hW; have hV := Bx_23.out.below hW Bx_23.out.lt; have c0 := hV.c0; have c1 := hV.c1; have c2 := hV.c2; clear hV; unfold Oper.quietAt; go_simp; (try exact ⟨rfl, rfl⟩); (try rfl)
        (try simp only [Act.put, List.setIfInBounds_toArray, List.set_cons_zero, List.set_cons_succ])
        apply quiet_wanted
        · go_simp
        · intro W hW; unfold Oper.quietAt; go_simp; (try exact ⟨rfl, rfl⟩); (try rfl)
        (try simp only [Act.put, List.setIfInBounds_toArray, List.set_cons_zero, List.set_cons_succ])
        apply quiet_wanted
        · go_simp
        · intro W hW; unfold Oper.quietAt; go_simp; (try exact ⟨rfl, rfl⟩); (try rfl)
        (try simp only [Act.put, List.setIfInBounds_toArray, List.set_cons_zero, List.set_cons_succ])
        apply quiet_wanted
        · go_simp
        · intro W hW; unfold Oper.quietAt; go_simp; (try exact ⟨rfl, rfl⟩); (try rfl)
        (try simp only [Act.put, List.setIfInBounds_toArray, List.set_cons_zero, List.set_cons_succ])
        apply quiet_wanted
        · go_simp
        · intro W hW; have hV := Bn_23.out.below hW Bn_23.out.lt; have c0 := hV.c0; have c1 := hV.c1; have c2 := hV.c2; clear hV; unfold Oper.quietAt; go_simp; (try exact ⟨rfl, rfl⟩); (try rfl)
        (try simp only [Act.put, List.setIfInBounds_toArray, List.set_cons_zero, List.set_cons_succ])
        apply quiet_wanted
        · go_simp
        · intro W hW; unfold Oper.quietAt; go_simp; have hc := number_c 0 W; unfold valV at hc; exact hc.mono fun e w' hr => ⟨hr.1, Grown.trans hW hr.2⟩
        (try simp only [Act.put, List.setIfInBounds_toArray, List.set_cons_zero, List.set_cons_succ])
        apply quiet_wanted
        · go_simp
        · intro W hW; unfold Oper.quietAt; go_simp; (try exact ⟨rfl, rfl⟩); (try rfl)
        (try simp only [Act.put, List.setIfInBounds_toArray, List.set_cons_zero, List.set_cons_succ])
        apply quiet_wanted
        · go_simp
        · intro W hW; unfold Oper.quietAt; go_simp; (try exact ⟨rfl, rfl⟩); (try rfl)
        (try simp only [Act.put, List.setIfInBounds_toArray, List.set_cons_zero, List.set_cons_succ])
        apply quiet_wanted
        · go_simp
        · intro W hW; unfold Oper.quietAt; go_simp; (try exact ⟨rfl, rfl⟩); (try rfl)
        (try simp only [Act.put, List.setIfInBounds_toArray, List.set_cons_zero, List.set_cons_succ])
        refine wpQuiet_nil ?_
        intro u15 hb
        unfold Grown at hb
        have Bx_24 := Lib.hid (Bx_23.out.below hb Bx_23.out.lt)
        have By_24 := Lib.hid (By_23.out.below hb By_23.out.lt)
        have Bp_24 := Lib.hid (Bp_23.out.below hb Bp_23.out.lt)
        have Bq_24 := Lib.hid (Bq_23.out.below hb Bq_23.out.lt)
        have Br_24 := Lib.hid (Br_23.out.below hb Br_23.out.lt)
        have Bb_24 := Lib.hid (Bb_23.out.below hb Bb_23.out.lt)
        have Bc_24 := Lib.hid (Bc_23.out.below hb Bc_23.out.lt)
        have Bk_24 := Lib.hid (Bk_23.out.below hb Bk_23.out.lt)
        have Bn_24 := Lib.hid (Bn_23.out.below hb Bn_23.out.lt)
        have H_24 := Lib.hid (H_23.out.trans (hb.mono H_23.out.size))
        clear hb H_23 Bx_23 By_23 Bp_23 Bq_23 Br_23 Bb_23 Bc_23 Bk_23 Bn_23
        go_wp2_with fail
        go_ret
        exact ⟨rfl, H_24.out⟩
      · have qb0 := Bb_19.out.c0
        have qb1 := Bb_19.out.c1
        have qb2 := Bb_19.out.c2
        have qc0 := Bc_19.out.c0
        have qc1 := Bc_19.out.c1
        have qc2 := Bc_19.out.c2
        go_wp2_with fail
        go_ret
        exact ⟨rfl, H_19.out⟩
    · have HP := Lib.hid hp
      clear hp
      rcases HP.out.two with rfl | rfl
      · have hpn := HP.out.ok
        have qb0 := Bb_19.out.c0
        have qb1 := Bb_19.out.c1
        have qb2 := Bb_19.out.c2
        have qc0 := Bc_19.out.c0
        have qc1 := Bc_19.out.c1
        have qc2 := Bc_19.out.c2
        have qp0 := Bp_19.out.c0
        have qp1 := Bp_19.out.c1
        have qp2 := Bp_19.out.c2
        have qy0 := By_19.out.c0
        have qy1 := By_19.out.c1
        have qy2 := By_19.out.c2
        go_wp2_with fail
        clear qp0 qp1 qp2 qy0 qy1 qy2
        have hc := Div_num hpn h' hy0 (fl_back x hy0) h ((u12).alloc (.cells #[.int .i64 B0, .int .i64 B1, .string ⟨B2.toArray⟩] 23)) (hw.below H_19.out)
        unfold valV at hc
        refine hc.mono ?_
        rintro e u13 ⟨rfl, hb⟩
        clear hc
        have Bx_20 := Lib.hid (Bx_19.out.below hb Bx_19.out.lt)
        have By_20 := Lib.hid (By_19.out.below hb By_19.out.lt)
        have Bp_20 := Lib.hid (Bp_19.out.below hb Bp_19.out.lt)
        have Bq_20 := Lib.hid (Bq_19.out.below hb Bq_19.out.lt)
        have Br_20 := Lib.hid (Br_19.out.below hb Br_19.out.lt)
        have Bb_20 := Lib.hid (Bb_19.out.below hb Bb_19.out.lt)
        have Bc_20 := Lib.hid (Bc_19.out.below hb Bc_19.out.lt)
        have H_20 := Lib.hid (H_19.out.trans (hb.mono H_19.out.size))
        clear hb H_19 Bx_19 By_19 Bp_19 Bq_19 Br_19 Bb_19 Bc_19
        have hb : Below (u13).heap.size (u13) ((u13).alloc (.cells #[.int .i64 K, .int .i64 N, .string ⟨T.toArray⟩] 23)) := (Below.refl _ (u13)).alloc (Nat.le_refl _) _
        have Bnew := VB.new (u13) (.int .i64 K) (.int .i64 N) (.string ⟨T.toArray⟩)
        try simp only [World.size_alloc] at Bnew
        have Bx_21 := Lib.hid (Bx_20.out.below hb Bx_20.out.lt)
        have By_21 := Lib.hid (By_20.out.below hb By_20.out.lt)
        have Bp_21 := Lib.hid (Bp_20.out.below hb Bp_20.out.lt)
        have Bq_21 := Lib.hid (Bq_20.out.below hb Bq_20.out.lt)
        have Br_21 := Lib.hid (Br_20.out.below hb Br_20.out.lt)
        have Bb_21 := Lib.hid (Bb_20.out.below hb Bb_20.out.lt)
        have Bc_21 := Lib.hid (Bc_20.out.below hb Bc_20.out.lt)
        have H_21 := Lib.hid (H_20.out.trans (hb.mono H_20.out.size))
        clear hb H_20 Bx_20 By_20 Bp_20 Bq_20 Br_20 Bb_20 Bc_20
        have Bk_21 := Lib.hid Bnew
        clear Bnew
        have qp0 := Bp_21.out.c0
        have qp1 := Bp_21.out.c1
        have qp2 := Bp_21.out.c2
        have qy0 := By_21.out.c0
        have qy1 := By_21.out.c1
        have qy2 := By_21.out.c2
        go_wp2_with fail
        clear qp0 qp1 qp2 qy0 qy1 qy2
        have hc := Mod_num hpn h' hy0 (fl_none x y) isNum_zero ((u13).alloc (.cells #[.int .i64 K, .int .i64 N, .string ⟨T.toArray⟩] 23)) (hw.below H_21.out)
        unfold valV at hc
        refine hc.mono ?_
        rintro e u14 ⟨rfl, hb⟩
        clear hc
        have Bx_22 := Lib.hid (Bx_21.out.below hb Bx_21.out.lt)
        have By_22 := Lib.hid (By_21.out.below hb By_21.out.lt)
        have Bp_22 := Lib.hid (Bp_21.out.below hb Bp_21.out.lt)
        have Bq_22 := Lib.hid (Bq_21.out.below hb Bq_21.out.lt)
        have Br_22 := Lib.hid (Br_21.out.below hb Br_21.out.lt)
        have Bb_22 := Lib.hid (Bb_21.out.below hb Bb_21.out.lt)
        have Bc_22 := Lib.hid (Bc_21.out.below hb Bc_21.out.lt)
        have Bk_22 := Lib.hid (Bk_21.out.below hb Bk_21.out.lt)
        have H_22 := Lib.hid (H_21.out.trans (hb.mono H_21.out.size))
        clear hb H_21 Bx_21 By_21 Bp_21 Bq_21 Br_21 Bb_21 Bc_21 Bk_21
        have hb : Below (u14).heap.size (u14) ((u14).alloc (.cells #[.int .i64 1, .int .i64 0, .string ⟨#[]⟩] 23)) := (Below.refl _ (u14)).alloc (Nat.le_refl _) _
        have Bnew := VB.new (u14) (.int .i64 1) (.int .i64 0) (.string ⟨#[]⟩)
        try simp only [World.size_alloc] at Bnew
        have Bx_23 := Lib.hid (Bx_22.out.below hb Bx_22.out.lt)
        have By_23 := Lib.hid (By_22.out.below hb By_22.out.lt)
        have Bp_23 := Lib.hid (Bp_22.out.below hb Bp_22.out.lt)
        have Bq_23 := Lib.hid (Bq_22.out.below hb Bq_22.out.lt)
        have Br_23 := Lib.hid (Br_22.out.below hb Br_22.out.lt)
        have Bb_23 := Lib.hid (Bb_22.out.below hb Bb_22.out.lt)
        have Bc_23 := Lib.hid (Bc_22.out.below hb Bc_22.out.lt)
        have Bk_23 := Lib.hid (Bk_22.out.below hb Bk_22.out.lt)
        have H_23 := Lib.hid (H_22.out.trans (hb.mono H_22.out.size))
        clear hb H_22 Bx_22 By_22 Bp_22 Bq_22 Br_22 Bb_22 Bc_22 Bk_22
        have Bn_23 := Lib.hid Bnew
        clear Bnew
        go_upto_region 27 with fail
        refine region_grown (by kernel_rfl) ?_
        apply quiet_wanted
        · go_simp
        · intro W hW; unfold Oper.quietAt; go_simp; (try exact ⟨rfl, rfl⟩); (try rfl)
        (try simp only [Act.put, List.setIfInBounds_toArray, List.set_cons_zero, List.set_cons_succ])
        apply quiet_wanted
        · go_simp
        · intro W hW; unfold Oper.quietAt; go_simp; (try exact ⟨rfl, rfl⟩); (try rfl)
        (try simp only [Act.put, List.setIfInBounds_toArray, List.set_cons_zero, List.set_cons_succ])
        apply quiet_wanted
        · go_simp
        · intro W hW; unfold Oper.quietAt; go_simp; (try exact ⟨rfl, rfl⟩); (try rfl)
        (try simp only [Act.put, List.setIfInBounds_toArray, List.set_cons_zero, List.set_cons_succ])
        apply quiet_wanted
        · go_simp
        · intro W hW; unfold Oper.quietAt; go_simp; (try exact ⟨rfl, rfl⟩); (try rfl)
        (try simp only [Act.put, List.setIfInBounds_toArray, List.set_cons_zero, List.set_cons_succ])
        apply quiet_wanted
        · go_simp
        · intro W hW; unfold Oper.quietAt; go_simp; (try exact ⟨rfl, rfl⟩); (try rfl)
        (try simp only [Act.put, List.setIfInBounds_toArray, List.set_cons_zero, List.set_cons_succ])
        apply quiet_wanted
        · go_simp
        · intro W hW; unfold Oper.quietAt; go_simp; (try exact ⟨rfl, rfl⟩); (try rfl)
        (try simp only [Act.put, List.setIfInBounds_toArray, List.set_cons_zero, List.set_cons_succ])
        apply quiet_wanted
        · go_simp
        · intro W hW; unfold Oper.quietAt; go_simp; (try exact ⟨rfl, rfl⟩); (try rfl)
        (try simp only [Act.put, List.setIfInBounds_toArray, List.set_cons_zero, List.set_cons_succ])
        apply quiet_wanted
        · go_simp
        · intro W hW; unfold Oper.quietAt; go_simp; (try exact ⟨rfl, rfl⟩); (try rfl)
        (try simp only [Act.put, List.setIfInBounds_toArray, List.set_cons_zero, List.set_cons_succ])
        apply quiet_wanted
        · go_simp
        · intro W hW; unfold Oper.quietAt; go_simp; (try exact ⟨rfl, rfl⟩); (try rfl)
        (try simp only [Act.put, List.setIfInBounds_toArray, List.set_cons_zero, List.set_cons_succ])
        apply quiet_wanted
        · go_simp
        · intro W hW; unfold Oper.quietAt; go_simp; (try exact ⟨rfl, rfl⟩); (try rfl)
        (try simp only [Act.put, List.setIfInBounds_toArray, List.set_cons_zero, List.set_cons_succ])
        apply quiet_wanted
        · go_simp
        · intro W hW; have hV := Bk_23.out.below hW Bk_23.out.lt; have c0 := hV.c0; have c1 := hV.c1; have c2 := hV.c2; clear hV; unfold Oper.quietAt; go_simp; (try exact ⟨rfl, rfl⟩); (try rfl)
        (try simp only [Act.put, List.setIfInBounds_toArray, List.set_cons_zero, List.set_cons_succ])
        apply quiet_wanted
        · go_simp
        · intro W hW; have hV := Bx_23.out.below hW Bx_23.out.lt; have c0 := hV.c0; have c1 := hV.c1; have c2 := hV.c2; clear hV; unfold Oper.quietAt; go_simp; (try exact ⟨rfl, rfl⟩); (try rfl)
        (try simp only [Act.put, List.setIfInBounds_toArray, List.set_cons_zero, List.set_cons_succ])
        apply quiet_wanted
        · go_simp
        · intro W hW; unfold Oper.quietAt; go_simp; (try exact ⟨rfl, rfl⟩); (try rfl)
        (try simp only [Act.put, List.setIfInBounds_toArray, List.set_cons_zero, List.set_cons_succ])
        apply quiet_wanted
        · go_simp
        · intro W hW; unfold Oper.quietAt; go_simp; (try exact ⟨rfl, rfl⟩); (try rfl)
        (try simp only [Act.put, List.setIfInBounds_toArray, List.set_cons_zero, List.set_cons_succ])
        apply quiet_wanted
        · go_simp
        · intro W hW; unfold Oper.quietAt; go_simp; (try exact ⟨rfl, rfl⟩); (try rfl)
        (try simp only [Act.put, List.setIfInBounds_toArray, List.set_cons_zero, List.set_cons_succ])
        apply quiet_wanted
        · go_simp
        · intro W hW; have hV := Bn_23.out.below hW Bn_23.out.lt; have c0 := hV.c0; have c1 := hV.c1; have c2 := hV.c2; clear hV; unfold Oper.quietAt; go_simp; (try exact ⟨rfl, rfl⟩); (try rfl)
        (try simp only [Act.put, List.setIfInBounds_toArray, List.set_cons_zero, List.set_cons_succ])
        apply quiet_wanted
        · go_simp
        · intro W hW; unfold Oper.quietAt; go_simp; have hc := number_c 0 W; unfold valV at hc; exact hc.mono fun e w' hr => ⟨hr.1, Grown.trans hW hr.2⟩
        (try simp only [Act.put, List.setIfInBounds_toArray, List.set_cons_zero, List.set_cons_succ])
        apply quiet_wanted
        · go_simp
        · intro W hW; unfold Oper.quietAt; go_simp; (try exact ⟨rfl, rfl⟩); (try rfl)
        (try simp only [Act.put, List.setIfInBounds_toArray, List.set_cons_zero, List.set_cons_succ])
        apply quiet_wanted
        · go_simp
        · intro W hW; unfold Oper.quietAt; go_simp; (try exact ⟨rfl, rfl⟩); (try rfl)
        (try simp only [Act.put, List.setIfInBounds_toArray, List.set_cons_zero, List.set_cons_succ])
        apply quiet_wanted
        · go_simp
        · intro W hW; unfold Oper.quietAt; go_simp; (try exact ⟨rfl, rfl⟩); (try rfl)
        (try simp only [Act.put, List.setIfInBounds_toArray, List.set_cons_zero, List.set_cons_succ])
        refine wpQuiet_nil ?_
        intro u15 hb
        unfold Grown at hb
        have Bx_24 := Lib.hid (Bx_23.out.below hb Bx_23.out.lt)
        have By_24 := Lib.hid (By_23.out.below hb By_23.out.lt)
        have Bp_24 := Lib.hid (Bp_23.out.below hb Bp_23.out.lt)
        have Bq_24 := Lib.hid (Bq_23.out.below hb Bq_23.out.lt)
        have Br_24 := Lib.hid (Br_23.out.below hb Br_23.out.lt)
        have Bb_24 := Lib.hid (Bb_23.out.below hb Bb_23.out.lt)
        have Bc_24 := Lib.hid (Bc_23.out.below hb Bc_23.out.lt)
        have Bk_24 := Lib.hid (Bk_23.out.below hb Bk_23.out.lt)
        have Bn_24 := Lib.hid (Bn_23.out.below hb Bn_23.out.lt)
        have H_24 := Lib.hid (H_23.out.trans (hb.mono H_23.out.size))
        clear hb H_23 Bx_23 By_23 Bp_23 Bq_23 Br_23 Bb_23 Bc_23 Bk_23 Bn_23
        go_wp2_with fail
        go_ret
        exact ⟨rfl, H_24.out⟩
      · have qb0 := Bb_19.out.c0
        have qb1 := Bb_19.out.c1
        have qb2 := Bb_19.out.c2
        have qc0 := Bc_19.out.c0
        have qc1 := Bc_19.out.c1
        have qc2 := Bc_19.out.c2
        go_wp2_with fail
        go_ret
        exact ⟨rfl, H_19.out⟩
theorem floor_c (K N : Int) (T : List UInt8) (K' N' : Int) (T' : List UInt8) (hN : In64Z N) (hN' : In64Z N') (w : World) (hw : Wd w) :
    Calls Tryz.prog 8 #[valV K N T, valV K' N' T'] w fun e w' => e = .returned (.bool true) ∧ Below w.heap.size w w' := by
  by_cases hx : T.length ≤ 800
  · by_cases hy : T'.length ≤ 800
    · by_cases h1 : ∃ z, IsNum K N T z
      · by_cases h2 : ∃ z, IsNum K' N' T' z
        · obtain ⟨x, h1⟩ := h1
          obtain ⟨y, h2⟩ := h2
          by_cases hy0 : y = 0
          · exact floor_zero K N K' N' T T' x y h1 h2 hy0 w hw
          · by_cases hr0 : x.fmod y = 0
            · exact floor_ok0 K N K' N' T T' x y h1 h2 hy0 hr0 w hw
            · exact floor_ok1 K N K' N' T T' x y h1 h2 hy0 hr0 w hw
        · exact floor_no K N K' N' T T' hx hy (.inr fun z hz => h2 ⟨z, hz⟩) hN hN' w hw
      · exact floor_no K N K' N' T T' hx hy (.inl fun z hz => h1 ⟨z, hz⟩) hN hN' w hw
    · exact floor_long2 K N K' N' T T' hx hy w hw
  · exact floor_long1 K N K' N' T T' hx w hw
end Go.Proofs.YthbfbpbppjkoeaaGreatDoor
