/- The walk of BigTexts of package proteuslaw03, case by case. Conditions: those in the statements. -/
import Derived.Test.YthbfbpbppjkoeaaGreatDoorBigSz
import Derived.Test.YthbfbpbppjkoeaaGreatDoorBigQu
namespace Go.Proofs.YthbfbpbppjkoeaaGreatDoor
open Go.RowKit Go.Shelf
set_option exponentiation.threshold 500
set_option maxRecDepth 100000
set_option linter.unusedSimpArgs false
set_option linter.unusedVariables false
attribute [local irreducible] wpQuiet

theorem texts_of (s : List UInt8) (hs : s.length ≤ 1000) : ∃ (A B : Int) (S : List UInt8) (E : Int), (∀ (w : World), Wd w → Calls Tryz.prog 17 #[.string ⟨s.toArray⟩] w fun e w' => e = .returned (.tuple #[valV A B S, .int .i64 E]) ∧ Below w.heap.size w w') ∧ (∀ (w : World), Calls Tryz.prog 18 #[.string ⟨s.toArray⟩] w fun e w' => e = .returned (.tuple #[valV A B S, .int .i64 E]) ∧ Below w.heap.size w w') := by
  by_cases hk : Bg.okT s = true
  · obtain ⟨z, hz, hf⟩ := Bg.itoa_okT s hk
    obtain ⟨A, B, S, hn⟩ := isNum_few hf
    refine ⟨A, B, S, 0, fun w hw => ?_, fun w => OfRef_ok s hs A B z S hz hn w⟩
    have := of_ok z hn.1 w hw
    rw [← hn.2, ← hz] at this
    exact this
  · exact ⟨0, 0, [], 31, fun w _ => of_no s (Bool.eq_false_iff.2 hk) w, fun w => OfRef_no s hs (Bool.eq_false_iff.2 hk) w⟩
theorem texts_text (K N : Int) (T : List UInt8) (hN : In64Z N) (hT : T.length ≤ 1000) : ∃ (t : ByteArray) (F : Int), (∀ (w : World), Wd w → Calls Tryz.prog 19 #[valV K N T] w fun e w' => e = .returned (.tuple #[.string t, .int .i64 F]) ∧ Below w.heap.size w w') ∧ (∀ (w : World), Calls Tryz.prog 20 #[valV K N T] w fun e w' => e = .returned (.tuple #[.string t, .int .i64 F]) ∧ Below w.heap.size w w') := by
  by_cases h : ∃ z, IsNum K N T z
  · obtain ⟨z, h⟩ := h
    exact ⟨_, _, fun w hw => text_ok K N z T h w hw, fun w => TextRef_ok K N z T h _ rfl w⟩
  · exact ⟨_, _, fun w hw => text_no K N T (fun z hz => h ⟨z, hz⟩) hN w hw, fun w => TextRef_no K N T (fun z hz => h ⟨z, hz⟩) hN hT w⟩
theorem texts_digits (K N : Int) (T : List UInt8) (hN : In64Z N) (hT : T.length ≤ 1000) : ∃ (d : Int) (F : Int), (∀ (w : World), Wd w → Calls Tryz.prog 21 #[valV K N T] w fun e w' => e = .returned (.tuple #[.int .i64 d, .int .i64 F]) ∧ Below w.heap.size w w') ∧ (∀ (w : World), Calls Tryz.prog 22 #[valV K N T] w fun e w' => e = .returned (.tuple #[.int .i64 d, .int .i64 F]) ∧ Below w.heap.size w w') := by
  by_cases h : ∃ z, IsNum K N T z
  · obtain ⟨z, h⟩ := h
    exact ⟨_, _, fun w hw => Digits_ok K N z T h w hw, fun w => DigitsRef_ok K N z T h _ rfl w⟩
  · exact ⟨_, _, fun w hw => Digits_no K N T (fun z hz => h ⟨z, hz⟩) hN w hw, fun w => DigitsRef_no K N T (fun z hz => h ⟨z, hz⟩) hN hT w⟩
theorem texts_check (K N : Int) (T : List UInt8) (hN : In64Z N) (hT : T.length ≤ 1000) : ∃ C : Int, (∀ (w : World), Wd w → Calls Tryz.prog 23 #[valV K N T] w fun e w' => e = .returned (.int .i64 C) ∧ Below w.heap.size w w') ∧ (∀ (w : World), Calls Tryz.prog 24 #[valV K N T] w fun e w' => e = .returned (.int .i64 C) ∧ Below w.heap.size w w') := by
  by_cases h : ∃ z, IsNum K N T z
  · obtain ⟨z, h⟩ := h
    exact ⟨_, fun w hw => check_ok K N z T h w hw, fun w => CheckRef_ok K N z T h w⟩
  · exact ⟨_, fun w hw => check_no K N T (fun z hz => h ⟨z, hz⟩) hN w hw, fun w => CheckRef_no K N T (fun z hz => h ⟨z, hz⟩) hN hT w⟩
set_option maxHeartbeats 4000000 in
theorem texts_long1 (K N : Int) (T s : List UInt8) (hx : ¬ T.length ≤ 800) (w : World) (hw : Wd w) :
    Calls Tryz.prog 3 #[valV K N T, .string ⟨s.toArray⟩] w fun e w' => e = .returned (.bool true) ∧ Below w.heap.size w w' := by
  have hsz : (⟨s.toArray⟩ : ByteArray).size = s.length := by simp [ByteArray.size]
  have H_0 := Lib.hid (Below.refl w.heap.size w)
  try unfold valV
  go_enter Tryz.func3, Tryz.ntmps3
  have hb : Below (w).heap.size (w) ((w).alloc (.cells #[.int .i64 K, .int .i64 N, .string ⟨T.toArray⟩] 23)) := (Below.refl _ (w)).alloc (Nat.le_refl _) _
  have Bnew := VB.new (w) (.int .i64 K) (.int .i64 N) (.string ⟨T.toArray⟩)
  try simp only [World.size_alloc] at Bnew
  have H_1 := Lib.hid (H_0.out.trans (hb.mono H_0.out.size))
  clear hb H_0
  have Bv_1 := Lib.hid Bnew
  clear Bnew
  go_wp2_with fail
  have hc := awake_c ((w).alloc (.cells #[.int .i64 K, .int .i64 N, .string ⟨T.toArray⟩] 23)) (hw.below H_1.out)
  unfold valV at hc
  refine hc.mono ?_
  rintro e u1 ⟨rfl, hb⟩
  clear hc
  have Bv_2 := Lib.hid (Bv_1.out.below hb Bv_1.out.lt)
  have H_2 := Lib.hid (H_1.out.trans (hb.mono H_1.out.size))
  clear hb H_1 Bv_1
  have qv0 := Bv_2.out.c0
  have qv1 := Bv_2.out.c1
  have qv2 := Bv_2.out.c2
  go_wp2_with fail
  clear qv0 qv1 qv2
  have hc := short_not K N T hx (u1)
  unfold valV at hc
  refine hc.mono ?_
  rintro e u2 ⟨rfl, hb⟩
  clear hc
  have Bv_3 := Lib.hid (Bv_2.out.below hb Bv_2.out.lt)
  have H_3 := Lib.hid (H_2.out.trans (hb.mono H_2.out.size))
  clear hb H_2 Bv_2
  go_wp2_with fail
  go_ret
  exact ⟨rfl, H_3.out⟩

set_option maxHeartbeats 4000000 in
theorem texts_long2 (K N : Int) (T s : List UInt8) (hx : T.length ≤ 800) (hs : ¬ s.length ≤ 800) (w : World) (hw : Wd w) :
    Calls Tryz.prog 3 #[valV K N T, .string ⟨s.toArray⟩] w fun e w' => e = .returned (.bool true) ∧ Below w.heap.size w w' := by
  have hsz : (⟨s.toArray⟩ : ByteArray).size = s.length := by simp [ByteArray.size]
  have dl : decide ((800 : Int) < ((s.length : Nat) : Int)) = true := decide_eq_true (by omega)
  clear hs
  have H_0 := Lib.hid (Below.refl w.heap.size w)
  try unfold valV
  go_enter Tryz.func3, Tryz.ntmps3
  have hb : Below (w).heap.size (w) ((w).alloc (.cells #[.int .i64 K, .int .i64 N, .string ⟨T.toArray⟩] 23)) := (Below.refl _ (w)).alloc (Nat.le_refl _) _
  have Bnew := VB.new (w) (.int .i64 K) (.int .i64 N) (.string ⟨T.toArray⟩)
  try simp only [World.size_alloc] at Bnew
  have H_1 := Lib.hid (H_0.out.trans (hb.mono H_0.out.size))
  clear hb H_0
  have Bv_1 := Lib.hid Bnew
  clear Bnew
  go_wp2_with fail
  have hc := awake_c ((w).alloc (.cells #[.int .i64 K, .int .i64 N, .string ⟨T.toArray⟩] 23)) (hw.below H_1.out)
  unfold valV at hc
  refine hc.mono ?_
  rintro e u1 ⟨rfl, hb⟩
  clear hc
  have Bv_2 := Lib.hid (Bv_1.out.below hb Bv_1.out.lt)
  have H_2 := Lib.hid (H_1.out.trans (hb.mono H_1.out.size))
  clear hb H_1 Bv_1
  have qv0 := Bv_2.out.c0
  have qv1 := Bv_2.out.c1
  have qv2 := Bv_2.out.c2
  go_wp2_with fail
  clear qv0 qv1 qv2
  have hc := short_yes K N T hx (u1)
  unfold valV at hc
  refine hc.mono ?_
  rintro e u2 ⟨rfl, hb⟩
  clear hc
  have Bv_3 := Lib.hid (Bv_2.out.below hb Bv_2.out.lt)
  have H_3 := Lib.hid (H_2.out.trans (hb.mono H_2.out.size))
  clear hb H_2 Bv_2
  go_wp2_with fail
  go_ret
  exact ⟨rfl, H_3.out⟩

set_option maxHeartbeats 8000000 in
theorem texts_all (K N : Int) (T s : List UInt8) (hx : T.length ≤ 800) (hs : s.length ≤ 800) (hN : In64Z N) (w : World) (hw : Wd w) :
    Calls Tryz.prog 3 #[valV K N T, .string ⟨s.toArray⟩] w fun e w' => e = .returned (.bool true) ∧ Below w.heap.size w w' := by
  have hsz : (⟨s.toArray⟩ : ByteArray).size = s.length := by simp [ByteArray.size]
  obtain ⟨A0, A1, A2, E, hof, hofr⟩ := texts_of s (by omega)
  obtain ⟨t, F, ht, htr⟩ := texts_text K N T hN (by omega)
  obtain ⟨d, G, hd, hdr⟩ := texts_digits K N T hN (by omega)
  obtain ⟨C, hc0, hcr⟩ := texts_check K N T hN (by omega)
  have dl : decide ((800 : Int) < ((s.length : Nat) : Int)) = false := decide_eq_false (by omega)
  have Hhof := Lib.hid hof
  have Hhofr := Lib.hid hofr
  have Hht := Lib.hid ht
  have Hhtr := Lib.hid htr
  have Hhd := Lib.hid hd
  have Hhdr := Lib.hid hdr
  have Hhc0 := Lib.hid hc0
  have Hhcr := Lib.hid hcr
  clear hs hof hofr ht htr hd hdr hc0 hcr
  have H_0 := Lib.hid (Below.refl w.heap.size w)
  try unfold valV
  go_enter Tryz.func3, Tryz.ntmps3
  have hb : Below (w).heap.size (w) ((w).alloc (.cells #[.int .i64 K, .int .i64 N, .string ⟨T.toArray⟩] 23)) := (Below.refl _ (w)).alloc (Nat.le_refl _) _
  have Bnew := VB.new (w) (.int .i64 K) (.int .i64 N) (.string ⟨T.toArray⟩)
  try simp only [World.size_alloc] at Bnew
  have H_1 := Lib.hid (H_0.out.trans (hb.mono H_0.out.size))
  clear hb H_0
  have Bv_1 := Lib.hid Bnew
  clear Bnew
  go_wp2_with fail
  have hc := awake_c ((w).alloc (.cells #[.int .i64 K, .int .i64 N, .string ⟨T.toArray⟩] 23)) (hw.below H_1.out)
  unfold valV at hc
  refine hc.mono ?_
  rintro e u1 ⟨rfl, hb⟩
  clear hc
  have Bv_2 := Lib.hid (Bv_1.out.below hb Bv_1.out.lt)
  have H_2 := Lib.hid (H_1.out.trans (hb.mono H_1.out.size))
  clear hb H_1 Bv_1
  have qv0 := Bv_2.out.c0
  have qv1 := Bv_2.out.c1
  have qv2 := Bv_2.out.c2
  go_wp2_with fail
  clear qv0 qv1 qv2
  have hc := short_yes K N T hx (u1)
  unfold valV at hc
  refine hc.mono ?_
  rintro e u2 ⟨rfl, hb⟩
  clear hc
  have Bv_3 := Lib.hid (Bv_2.out.below hb Bv_2.out.lt)
  have H_3 := Lib.hid (H_2.out.trans (hb.mono H_2.out.size))
  clear hb H_2 Bv_2
  go_wp2_with fail
  have hc := Hhof.out (u2) (hw.below H_3.out)
  unfold valV at hc
  refine hc.mono ?_
  rintro e u3 ⟨rfl, hb⟩
  clear hc
  have Bv_4 := Lib.hid (Bv_3.out.below hb Bv_3.out.lt)
  have H_4 := Lib.hid (H_3.out.trans (hb.mono H_3.out.size))
  clear hb H_3 Bv_3
  have hb : Below (u3).heap.size (u3) ((u3).alloc (.cells #[.int .i64 A0, .int .i64 A1, .string ⟨A2.toArray⟩] 23)) := (Below.refl _ (u3)).alloc (Nat.le_refl _) _
  have Bnew := VB.new (u3) (.int .i64 A0) (.int .i64 A1) (.string ⟨A2.toArray⟩)
  try simp only [World.size_alloc] at Bnew
  have Bv_5 := Lib.hid (Bv_4.out.below hb Bv_4.out.lt)
  have H_5 := Lib.hid (H_4.out.trans (hb.mono H_4.out.size))
  clear hb H_4 Bv_4
  have Ba_5 := Lib.hid Bnew
  clear Bnew
  go_wp2_with fail
  have hc := Hhofr.out ((u3).alloc (.cells #[.int .i64 A0, .int .i64 A1, .string ⟨A2.toArray⟩] 23))
  unfold valV at hc
  refine hc.mono ?_
  rintro e u4 ⟨rfl, hb⟩
  clear hc
  have Bv_6 := Lib.hid (Bv_5.out.below hb Bv_5.out.lt)
  have Ba_6 := Lib.hid (Ba_5.out.below hb Ba_5.out.lt)
  have H_6 := Lib.hid (H_5.out.trans (hb.mono H_5.out.size))
  clear hb H_5 Bv_5 Ba_5
  have hb : Below (u4).heap.size (u4) ((u4).alloc (.cells #[.int .i64 A0, .int .i64 A1, .string ⟨A2.toArray⟩] 23)) := (Below.refl _ (u4)).alloc (Nat.le_refl _) _
  have Bnew := VB.new (u4) (.int .i64 A0) (.int .i64 A1) (.string ⟨A2.toArray⟩)
  try simp only [World.size_alloc] at Bnew
  have Bv_7 := Lib.hid (Bv_6.out.below hb Bv_6.out.lt)
  have Ba_7 := Lib.hid (Ba_6.out.below hb Ba_6.out.lt)
  have H_7 := Lib.hid (H_6.out.trans (hb.mono H_6.out.size))
  clear hb H_6 Bv_6 Ba_6
  have Bb_7 := Lib.hid Bnew
  clear Bnew
  have qv0 := Bv_7.out.c0
  have qv1 := Bv_7.out.c1
  have qv2 := Bv_7.out.c2
  go_wp2_with fail
  clear qv0 qv1 qv2
  have hc := Hht.out ((u4).alloc (.cells #[.int .i64 A0, .int .i64 A1, .string ⟨A2.toArray⟩] 23)) (hw.below H_7.out)
  unfold valV at hc
  refine hc.mono ?_
  rintro e u5 ⟨rfl, hb⟩
  clear hc
  have Bv_8 := Lib.hid (Bv_7.out.below hb Bv_7.out.lt)
  have Ba_8 := Lib.hid (Ba_7.out.below hb Ba_7.out.lt)
  have Bb_8 := Lib.hid (Bb_7.out.below hb Bb_7.out.lt)
  have H_8 := Lib.hid (H_7.out.trans (hb.mono H_7.out.size))
  clear hb H_7 Bv_7 Ba_7 Bb_7
  have qv0 := Bv_8.out.c0
  have qv1 := Bv_8.out.c1
  have qv2 := Bv_8.out.c2
  go_wp2_with fail
  clear qv0 qv1 qv2
  have hc := Hhtr.out (u5)
  unfold valV at hc
  refine hc.mono ?_
  rintro e u6 ⟨rfl, hb⟩
  clear hc
  have Bv_9 := Lib.hid (Bv_8.out.below hb Bv_8.out.lt)
  have Ba_9 := Lib.hid (Ba_8.out.below hb Ba_8.out.lt)
  have Bb_9 := Lib.hid (Bb_8.out.below hb Bb_8.out.lt)
  have H_9 := Lib.hid (H_8.out.trans (hb.mono H_8.out.size))
  clear hb H_8 Bv_8 Ba_8 Bb_8
  have qv0 := Bv_9.out.c0
  have qv1 := Bv_9.out.c1
  have qv2 := Bv_9.out.c2
  go_wp2_with fail
  clear qv0 qv1 qv2
  have hc := Hhd.out (u6) (hw.below H_9.out)
  unfold valV at hc
  refine hc.mono ?_
  rintro e u7 ⟨rfl, hb⟩
  clear hc
  have Bv_10 := Lib.hid (Bv_9.out.below hb Bv_9.out.lt)
  have Ba_10 := Lib.hid (Ba_9.out.below hb Ba_9.out.lt)
  have Bb_10 := Lib.hid (Bb_9.out.below hb Bb_9.out.lt)
  have H_10 := Lib.hid (H_9.out.trans (hb.mono H_9.out.size))
  clear hb H_9 Bv_9 Ba_9 Bb_9
  have qv0 := Bv_10.out.c0
  have qv1 := Bv_10.out.c1
  have qv2 := Bv_10.out.c2
  go_wp2_with fail
  clear qv0 qv1 qv2
  have hc := Hhdr.out (u7)
  unfold valV at hc
  refine hc.mono ?_
  rintro e u8 ⟨rfl, hb⟩
  clear hc
  have Bv_11 := Lib.hid (Bv_10.out.below hb Bv_10.out.lt)
  have Ba_11 := Lib.hid (Ba_10.out.below hb Ba_10.out.lt)
  have Bb_11 := Lib.hid (Bb_10.out.below hb Bb_10.out.lt)
  have H_11 := Lib.hid (H_10.out.trans (hb.mono H_10.out.size))
  clear hb H_10 Bv_10 Ba_10 Bb_10
  go_upto_region 10 with fail
  have HU := Lib.hid (hw.below H_11.out)
  refine region_grown (by kernel_rfl) ?_
  apply quiet_wanted
  · go_simp
  · intro W hW; unfold Oper.quietAt; go_simp; (try exact ⟨rfl, rfl⟩); (try rfl)
  (try simp only [Act.put, List.setIfInBounds_toArray, List.set_cons_zero, List.set_cons_succ])
  apply quiet_wanted
  · go_simp
  · intro W hW; unfold Oper.quietAt; go_simp; (try exact ⟨rfl, rfl⟩); (try rfl)
  (try simp only [Act.put, List.setIfInBounds_toArray, List.set_cons_zero, List.set_cons_succ])
  apply quiet_wanted
  · go_simp
  · intro W hW; have hV := Bv_11.out.below hW Bv_11.out.lt; have c0 := hV.c0; have c1 := hV.c1; have c2 := hV.c2; clear hV; unfold Oper.quietAt; go_simp; (try exact ⟨rfl, rfl⟩); (try rfl)
  (try simp only [Act.put, List.setIfInBounds_toArray, List.set_cons_zero, List.set_cons_succ])
  apply quiet_wanted
  · go_simp
  · intro W hW; unfold Oper.quietAt; go_simp; have hc := Hhc0.out W (HU.out.below hW); unfold valV at hc; exact hc.mono fun e w' hr => ⟨hr.1, Grown.trans hW hr.2⟩
  (try simp only [Act.put, List.setIfInBounds_toArray, List.set_cons_zero, List.set_cons_succ])
  apply quiet_wanted
  · go_simp
  · intro W hW; have hV := Bv_11.out.below hW Bv_11.out.lt; have c0 := hV.c0; have c1 := hV.c1; have c2 := hV.c2; clear hV; unfold Oper.quietAt; go_simp; (try exact ⟨rfl, rfl⟩); (try rfl)
  (try simp only [Act.put, List.setIfInBounds_toArray, List.set_cons_zero, List.set_cons_succ])
  apply quiet_wanted
  · go_simp
  · intro W hW; unfold Oper.quietAt; go_simp; have hc := Hhcr.out W; unfold valV at hc; exact hc.mono fun e w' hr => ⟨hr.1, Grown.trans hW hr.2⟩
  (try simp only [Act.put, List.setIfInBounds_toArray, List.set_cons_zero, List.set_cons_succ])
  apply quiet_wanted
  · go_simp
  · intro W hW; unfold Oper.quietAt; go_simp; (try exact ⟨rfl, rfl⟩); (try rfl)
  (try simp only [Act.put, List.setIfInBounds_toArray, List.set_cons_zero, List.set_cons_succ])
  apply quiet_wanted
  · go_simp
  · intro W hW; unfold Oper.quietAt; go_simp; (try exact ⟨rfl, rfl⟩); (try rfl)
  (try simp only [Act.put, List.setIfInBounds_toArray, List.set_cons_zero, List.set_cons_succ])
  apply quiet_wanted
  · go_simp
  · intro W hW; unfold Oper.quietAt; go_simp; (try exact ⟨rfl, rfl⟩); (try rfl)
  (try simp only [Act.put, List.setIfInBounds_toArray, List.set_cons_zero, List.set_cons_succ])
  apply quiet_wanted
  · go_simp
  · intro W hW; have hV := Ba_11.out.below hW Ba_11.out.lt; have c0 := hV.c0; have c1 := hV.c1; have c2 := hV.c2; clear hV; unfold Oper.quietAt; go_simp; (try exact ⟨rfl, rfl⟩); (try rfl)
  (try simp only [Act.put, List.setIfInBounds_toArray, List.set_cons_zero, List.set_cons_succ])
  apply quiet_wanted
  · go_simp
  · intro W hW; have hV := Bb_11.out.below hW Bb_11.out.lt; have c0 := hV.c0; have c1 := hV.c1; have c2 := hV.c2; clear hV; unfold Oper.quietAt; go_simp; (try exact ⟨rfl, rfl⟩); (try rfl)
  (try simp only [Act.put, List.setIfInBounds_toArray, List.set_cons_zero, List.set_cons_succ])
  apply quiet_wanted
  · go_simp
  · intro W hW; unfold Oper.quietAt; go_simp; (try exact ⟨rfl, rfl⟩); (try rfl)
  (try simp only [Act.put, List.setIfInBounds_toArray, List.set_cons_zero, List.set_cons_succ])
  apply quiet_wanted
  · go_simp
  · intro W hW; unfold Oper.quietAt; go_simp; (try exact ⟨rfl, rfl⟩); (try rfl)
  (try simp only [Act.put, List.setIfInBounds_toArray, List.set_cons_zero, List.set_cons_succ])
  apply quiet_wanted
  · go_simp
  · intro W hW; unfold Oper.quietAt; go_simp; (try exact ⟨rfl, rfl⟩); (try rfl)
  (try simp only [Act.put, List.setIfInBounds_toArray, List.set_cons_zero, List.set_cons_succ])
  apply quiet_wanted
  · go_simp
  · intro W hW; unfold Oper.quietAt; go_simp; (try exact ⟨rfl, rfl⟩); (try rfl)
  (try simp only [Act.put, List.setIfInBounds_toArray, List.set_cons_zero, List.set_cons_succ])
  apply quiet_wanted
  · go_simp
  · intro W hW; unfold Oper.quietAt; go_simp; (try exact ⟨rfl, rfl⟩); (try rfl)
  (try simp only [Act.put, List.setIfInBounds_toArray, List.set_cons_zero, List.set_cons_succ])
  apply quiet_wanted
  · go_simp
  · intro W hW; unfold Oper.quietAt; go_simp; (try exact ⟨rfl, rfl⟩); (try rfl)
  (try simp only [Act.put, List.setIfInBounds_toArray, List.set_cons_zero, List.set_cons_succ])
  apply quiet_wanted
  · go_simp
  · intro W hW; unfold Oper.quietAt; go_simp; (try exact ⟨rfl, rfl⟩); (try rfl)
  (try simp only [Act.put, List.setIfInBounds_toArray, List.set_cons_zero, List.set_cons_succ])
  apply quiet_wanted
  · go_simp
  · intro W hW; unfold Oper.quietAt; go_simp; (try exact ⟨rfl, rfl⟩); (try rfl)
  (try simp only [Act.put, List.setIfInBounds_toArray, List.set_cons_zero, List.set_cons_succ])
  apply quiet_wanted
  · go_simp
  · intro W hW; unfold Oper.quietAt; go_simp; (try exact ⟨rfl, rfl⟩); (try rfl)
  (try simp only [Act.put, List.setIfInBounds_toArray, List.set_cons_zero, List.set_cons_succ])
  apply quiet_wanted
  · go_simp
  · intro W hW; unfold Oper.quietAt; go_simp; (try exact ⟨rfl, rfl⟩); (try rfl)
  (try simp only [Act.put, List.setIfInBounds_toArray, List.set_cons_zero, List.set_cons_succ])
  apply quiet_wanted
  · go_simp
  · intro W hW; unfold Oper.quietAt; go_simp; (try exact ⟨rfl, rfl⟩); (try rfl)
  (try simp only [Act.put, List.setIfInBounds_toArray, List.set_cons_zero, List.set_cons_succ])
  apply quiet_wanted
  · go_simp
  · intro W hW; unfold Oper.quietAt; go_simp; (try exact ⟨rfl, rfl⟩); (try rfl)
  (try simp only [Act.put, List.setIfInBounds_toArray, List.set_cons_zero, List.set_cons_succ])
  apply quiet_wanted
  · go_simp
  · intro W hW; unfold Oper.quietAt; go_simp; (try exact ⟨rfl, rfl⟩); (try rfl)
  (try simp only [Act.put, List.setIfInBounds_toArray, List.set_cons_zero, List.set_cons_succ])
  apply quiet_wanted
  · go_simp
  · intro W hW; unfold Oper.quietAt; go_simp; (try exact ⟨rfl, rfl⟩); (try rfl)
  (try simp only [Act.put, List.setIfInBounds_toArray, List.set_cons_zero, List.set_cons_succ])
  apply quiet_wanted
  · go_simp
  · intro W hW; unfold Oper.quietAt; go_simp; (try exact ⟨rfl, rfl⟩); (try rfl)
  (try simp only [Act.put, List.setIfInBounds_toArray, List.set_cons_zero, List.set_cons_succ])
  apply quiet_wanted
  · go_simp
  · intro W hW; unfold Oper.quietAt; go_simp; (try exact ⟨rfl, rfl⟩); (try rfl)
  (try simp only [Act.put, List.setIfInBounds_toArray, List.set_cons_zero, List.set_cons_succ])
  apply quiet_wanted
  · go_simp
  · intro W hW; unfold Oper.quietAt; go_simp; (try exact ⟨rfl, rfl⟩); (try rfl)
  (try simp only [Act.put, List.setIfInBounds_toArray, List.set_cons_zero, List.set_cons_succ])
  apply quiet_wanted
  · go_simp
  · intro W hW; unfold Oper.quietAt; go_simp; (try exact ⟨rfl, rfl⟩); (try rfl)
  (try simp only [Act.put, List.setIfInBounds_toArray, List.set_cons_zero, List.set_cons_succ])
  apply quiet_wanted
  · go_simp
  · intro W hW; unfold Oper.quietAt; go_simp; (try exact ⟨rfl, rfl⟩); (try rfl)
  (try simp only [Act.put, List.setIfInBounds_toArray, List.set_cons_zero, List.set_cons_succ])
  apply quiet_wanted
  · go_simp
  · intro W hW; unfold Oper.quietAt; go_simp; (try exact ⟨rfl, rfl⟩); (try rfl)
  (try simp only [Act.put, List.setIfInBounds_toArray, List.set_cons_zero, List.set_cons_succ])
  apply quiet_wanted
  · go_simp
  · intro W hW; unfold Oper.quietAt; go_simp; (try exact ⟨rfl, rfl⟩); (try rfl)
  (try simp only [Act.put, List.setIfInBounds_toArray, List.set_cons_zero, List.set_cons_succ])
  apply quiet_wanted
  · go_simp
  · intro W hW; unfold Oper.quietAt; go_simp; (try exact ⟨rfl, rfl⟩); (try rfl)
  (try simp only [Act.put, List.setIfInBounds_toArray, List.set_cons_zero, List.set_cons_succ])
  apply quiet_wanted
  · go_simp
  · intro W hW; unfold Oper.quietAt; go_simp; (try exact ⟨rfl, rfl⟩); (try rfl)
  (try simp only [Act.put, List.setIfInBounds_toArray, List.set_cons_zero, List.set_cons_succ])
  apply quiet_wanted
  · go_simp
  · intro W hW; unfold Oper.quietAt; go_simp; (try exact ⟨rfl, rfl⟩); (try rfl)
  (try simp only [Act.put, List.setIfInBounds_toArray, List.set_cons_zero, List.set_cons_succ])
  apply quiet_wanted
  · go_simp
  · intro W hW; unfold Oper.quietAt; go_simp; (try exact ⟨rfl, rfl⟩); (try rfl)
  (try simp only [Act.put, List.setIfInBounds_toArray, List.set_cons_zero, List.set_cons_succ])
  apply quiet_wanted
  · go_simp
  · intro W hW; unfold Oper.quietAt; go_simp; (try exact ⟨rfl, rfl⟩); (try rfl)
  (try simp only [Act.put, List.setIfInBounds_toArray, List.set_cons_zero, List.set_cons_succ])
  apply quiet_wanted
  · go_simp
  · intro W hW; unfold Oper.quietAt; go_simp; (try exact ⟨rfl, rfl⟩); (try rfl)
  (try simp only [Act.put, List.setIfInBounds_toArray, List.set_cons_zero, List.set_cons_succ])
  apply quiet_wanted
  · go_simp
  · intro W hW; unfold Oper.quietAt; go_simp; (try exact ⟨rfl, rfl⟩); (try rfl)
  (try simp only [Act.put, List.setIfInBounds_toArray, List.set_cons_zero, List.set_cons_succ])
  refine wpQuiet_nil ?_
  intro u9 hb
  unfold Grown at hb
  have Bv_12 := Lib.hid (Bv_11.out.below hb Bv_11.out.lt)
  have Ba_12 := Lib.hid (Ba_11.out.below hb Ba_11.out.lt)
  have Bb_12 := Lib.hid (Bb_11.out.below hb Bb_11.out.lt)
  have H_12 := Lib.hid (H_11.out.trans (hb.mono H_11.out.size))
  clear hb H_11 Bv_11 Ba_11 Bb_11
  go_wp2_with fail
  go_ret
  exact ⟨rfl, H_12.out⟩

theorem texts_c (K N : Int) (T s : List UInt8) (hN : In64Z N) (w : World) (hw : Wd w) :
    Calls Tryz.prog 3 #[valV K N T, .string ⟨s.toArray⟩] w fun e w' => e = .returned (.bool true) ∧ Below w.heap.size w w' := by
  by_cases hx : T.length ≤ 800
  · by_cases hs : s.length ≤ 800
    · exact texts_all K N T s hx hs hN w hw
    · exact texts_long2 K N T s hx hs w hw
  · exact texts_long1 K N T s hx w hw
end Go.Proofs.YthbfbpbppjkoeaaGreatDoor
