/- The walk of BigParts of package proteuslaw03, case by case. Conditions: those in the statements. -/
import Derived.Test.YthbfbpbppjkoeaaGreatDoorBigUz
import Derived.Test.YthbfbpbppjkoeaaGreatDoorBigQu
namespace Go.Proofs.YthbfbpbppjkoeaaGreatDoor
open Go.RowKit Go.Shelf
set_option exponentiation.threshold 500
set_option maxRecDepth 100000
set_option linter.unusedSimpArgs false
set_option linter.unusedVariables false
attribute [local irreducible] wpQuiet

theorem isRoot_ex (n : Nat) : ∃ r, Bg.IsRoot n r := by
  induction n with
  | zero => exact ⟨0, by decide, by decide⟩
  | succ n ih =>
    obtain ⟨r, h1, h2⟩ := ih
    by_cases h : n + 1 < (r + 1) * (r + 1)
    · exact ⟨r, by omega, h⟩
    · refine ⟨r + 1, by omega, ?_⟩
      have e : (r + 1 + 1) * (r + 1 + 1) = (r + 1) * (r + 1) + 2 * (r + 1) + 1 := sq_succ (r + 1)
      omega
theorem few_of_root {N r : Nat} (h : Few (N : Int)) (hr : Bg.IsRoot N r) : Few (r : Int) := few_le (b := ((r : Int) + 1)) (by omega) (few_root h hr)
theorem parts_Div (K N K' N' : Int) (T T' : List UInt8) (hN : In64Z N) (hN' : In64Z N') (hT : T.length ≤ 1000) (hT' : T'.length ≤ 1000) : ∃ (A B : Int) (S : List UInt8) (E : Int), (∀ (w : World), Wd w → Calls Tryz.prog 33 #[valV K N T, valV K' N' T'] w fun e w' => e = .returned (.tuple #[valV A B S, .int .i64 E]) ∧ Below w.heap.size w w') ∧ (∀ (w : World), Calls Tryz.prog 34 #[valV K N T, valV K' N' T'] w fun e w' => e = .returned (.tuple #[valV A B S, .int .i64 E]) ∧ Below w.heap.size w w') := by
  by_cases h1 : ∃ z, IsNum K N T z
  · by_cases h2 : ∃ z, IsNum K' N' T' z
    · obtain ⟨x, h1⟩ := h1
      obtain ⟨y, h2⟩ := h2
      by_cases hy0 : y = 0
      · exact ⟨0, 0, [], 30, fun w hw => Div_zero K N x K' N' y T T' h1 h2 hy0 w hw, fun w => DivRef_zero h1 h2 hy0 w⟩
      · obtain ⟨A, B, S, hr⟩ := isNum_few (few_fdiv h1.1 hy0)
        exact ⟨A, B, S, 0, fun w hw => Div_num h1 h2 hy0 rfl hr w hw, fun w => DivRef_ok h1 h2 (Ans.num hr) hy0 rfl w⟩
    · exact ⟨0, 0, [], 31, fun w hw => Div_no K N K' N' T T' (.inr fun z hz => h2 ⟨z, hz⟩) hN hN' w hw, fun w => DivRef_no K N K' N' T T' w (.inr fun z hz => h2 ⟨z, hz⟩) hN hN' hT hT'⟩
  · exact ⟨0, 0, [], 31, fun w hw => Div_no K N K' N' T T' (.inl fun z hz => h1 ⟨z, hz⟩) hN hN' w hw, fun w => DivRef_no K N K' N' T T' w (.inl fun z hz => h1 ⟨z, hz⟩) hN hN' hT hT'⟩
theorem parts_Mod (K N K' N' : Int) (T T' : List UInt8) (hN : In64Z N) (hN' : In64Z N') (hT : T.length ≤ 1000) (hT' : T'.length ≤ 1000) : ∃ (A B : Int) (S : List UInt8) (E : Int), (∀ (w : World), Wd w → Calls Tryz.prog 35 #[valV K N T, valV K' N' T'] w fun e w' => e = .returned (.tuple #[valV A B S, .int .i64 E]) ∧ Below w.heap.size w w') ∧ (∀ (w : World), Calls Tryz.prog 36 #[valV K N T, valV K' N' T'] w fun e w' => e = .returned (.tuple #[valV A B S, .int .i64 E]) ∧ Below w.heap.size w w') := by
  by_cases h1 : ∃ z, IsNum K N T z
  · by_cases h2 : ∃ z, IsNum K' N' T' z
    · obtain ⟨x, h1⟩ := h1
      obtain ⟨y, h2⟩ := h2
      by_cases hy0 : y = 0
      · exact ⟨0, 0, [], 30, fun w hw => Mod_zero K N x K' N' y T T' h1 h2 hy0 w hw, fun w => ModRef_zero h1 h2 hy0 w⟩
      · obtain ⟨A, B, S, hr⟩ := isNum_few (few_fmod (x := x) h2.1 hy0)
        exact ⟨A, B, S, 0, fun w hw => Mod_num h1 h2 hy0 rfl hr w hw, fun w => ModRef_ok h1 h2 (Ans.num hr) hy0 rfl w⟩
    · exact ⟨0, 0, [], 31, fun w hw => Mod_no K N K' N' T T' (.inr fun z hz => h2 ⟨z, hz⟩) hN hN' w hw, fun w => ModRef_no K N K' N' T T' w (.inr fun z hz => h2 ⟨z, hz⟩) hN hN' hT hT'⟩
  · exact ⟨0, 0, [], 31, fun w hw => Mod_no K N K' N' T T' (.inl fun z hz => h1 ⟨z, hz⟩) hN hN' w hw, fun w => ModRef_no K N K' N' T T' w (.inl fun z hz => h1 ⟨z, hz⟩) hN hN' hT hT'⟩
theorem parts_Gcd (K N K' N' : Int) (T T' : List UInt8) (hN : In64Z N) (hN' : In64Z N') (hT : T.length ≤ 1000) (hT' : T'.length ≤ 1000) : ∃ (A B : Int) (S : List UInt8) (E : Int), (∀ (w : World), Wd w → Calls Tryz.prog 39 #[valV K N T, valV K' N' T'] w fun e w' => e = .returned (.tuple #[valV A B S, .int .i64 E]) ∧ Below w.heap.size w w') ∧ (∀ (w : World), Calls Tryz.prog 40 #[valV K N T, valV K' N' T'] w fun e w' => e = .returned (.tuple #[valV A B S, .int .i64 E]) ∧ Below w.heap.size w w') := by
  by_cases h1 : ∃ z, IsNum K N T z
  · by_cases h2 : ∃ z, IsNum K' N' T' z
    · obtain ⟨x, h1⟩ := h1
      obtain ⟨y, h2⟩ := h2
      obtain ⟨A, B, S, hr⟩ := isNum_few (few_gcd h1.1 h2.1)
      exact ⟨A, B, S, 0, fun w hw => Gcd_num h1 h2 rfl hr w hw, fun w => GcdRef_ok h1 h2 (Ans.num hr) rfl w⟩
    · exact ⟨0, 0, [], 31, fun w hw => Gcd_no K N K' N' T T' (.inr fun z hz => h2 ⟨z, hz⟩) hN hN' w hw, fun w => GcdRef_no K N K' N' T T' w (.inr fun z hz => h2 ⟨z, hz⟩) hN hN' hT hT'⟩
  · exact ⟨0, 0, [], 31, fun w hw => Gcd_no K N K' N' T T' (.inl fun z hz => h1 ⟨z, hz⟩) hN hN' w hw, fun w => GcdRef_no K N K' N' T T' w (.inl fun z hz => h1 ⟨z, hz⟩) hN hN' hT hT'⟩
theorem parts_Pow (K N n : Int) (T : List UInt8) (hN : In64Z N) (hT : T.length ≤ 1000) : ∃ (A B : Int) (S : List UInt8) (E : Int), (∀ (w : World), Wd w → Calls Tryz.prog 37 #[valV K N T, .int .i64 n] w fun e w' => e = .returned (.tuple #[valV A B S, .int .i64 E]) ∧ Below w.heap.size w w') ∧ (∀ (w : World), Calls Tryz.prog 38 #[valV K N T, .int .i64 n] w fun e w' => e = .returned (.tuple #[valV A B S, .int .i64 E]) ∧ Below w.heap.size w w') := by
  by_cases h1 : ∃ z, IsNum K N T z
  · obtain ⟨x, h1⟩ := h1
    by_cases hn : n < 0 ∨ 2000 < n
    · exact ⟨0, 0, [], 1, fun w hw => Pow_arg K N x T h1 n hn w hw, fun w => PowRef_arg K N n x T w h1 hn⟩
    · obtain ⟨m, rfl⟩ := Int.eq_ofNat_of_zero_le (show 0 ≤ n by omega)
      obtain ⟨A, B, S, E, ha⟩ := ans_ex (x ^ m)
      exact ⟨A, B, S, E, fun w hw => Pow_any h1 m (by omega) ha rfl w hw, fun w => PowRef_ok h1 m (by omega) ha rfl w⟩
  · exact ⟨0, 0, [], 31, fun w hw => Pow_no K N T (fun z hz => h1 ⟨z, hz⟩) hN n w hw, fun w => PowRef_no K N n T w (fun z hz => h1 ⟨z, hz⟩) hN hT⟩
theorem parts_Root (K N : Int) (T : List UInt8) (hN : In64Z N) (hT : T.length ≤ 1000) : ∃ (A B : Int) (S : List UInt8) (E : Int), (∀ (w : World), Wd w → Calls Tryz.prog 41 #[valV K N T] w fun e w' => e = .returned (.tuple #[valV A B S, .int .i64 E]) ∧ Below w.heap.size w w') ∧ (∀ (w : World), Calls Tryz.prog 42 #[valV K N T] w fun e w' => e = .returned (.tuple #[valV A B S, .int .i64 E]) ∧ Below w.heap.size w w') := by
  by_cases h1 : ∃ z, IsNum K N T z
  · obtain ⟨x, h1⟩ := h1
    by_cases hx : x < 0
    · exact ⟨0, 0, [], 1, fun w hw => Root_neg K N x T h1 hx w hw, fun w => RootRef_neg K N x T w h1 hx⟩
    · obtain ⟨r, hr⟩ := isRoot_ex x.natAbs
      have hf : Few ((x.natAbs : Nat) : Int) := by rw [show ((x.natAbs : Nat) : Int) = x by omega]; exact h1.1
      obtain ⟨A, B, S, hn⟩ := isNum_few (few_of_root hf hr)
      exact ⟨A, B, S, 0, fun w hw => Root_num h1 r (by omega) hr hn w hw, fun w => RootRef_ok h1 (by omega) r hr hn w⟩
  · exact ⟨0, 0, [], 31, fun w hw => Root_no K N T (fun z hz => h1 ⟨z, hz⟩) hN w hw, fun w => RootRef_no K N T w (fun z hz => h1 ⟨z, hz⟩) hN hT⟩
set_option maxHeartbeats 4000000 in
theorem parts_long1 (K N K' N' n : Int) (T T' : List UInt8) (hx : ¬ T.length ≤ 800) (w : World) (hw : Wd w) :
    Calls Tryz.prog 5 #[valV K N T, valV K' N' T', .int .i64 n] w fun e w' => e = .returned (.bool true) ∧ Below w.heap.size w w' := by
  have H_0 := Lib.hid (Below.refl w.heap.size w)
  try unfold valV
  go_enter Tryz.func5, Tryz.ntmps5
  have hb : Below (w).heap.size (w) ((w).alloc (.cells #[.int .i64 K, .int .i64 N, .string ⟨T.toArray⟩] 23)) := (Below.refl _ (w)).alloc (Nat.le_refl _) _
  have Bnew := VB.new (w) (.int .i64 K) (.int .i64 N) (.string ⟨T.toArray⟩)
  try simp only [World.size_alloc] at Bnew
  have H_1 := Lib.hid (H_0.out.trans (hb.mono H_0.out.size))
  clear hb H_0
  have Bx_1 := Lib.hid Bnew
  clear Bnew
  have hb : Below ((w).alloc (.cells #[.int .i64 K, .int .i64 N, .string ⟨T.toArray⟩] 23)).heap.size ((w).alloc (.cells #[.int .i64 K, .int .i64 N, .string ⟨T.toArray⟩] 23)) (((w).alloc (.cells #[.int .i64 K, .int .i64 N, .string ⟨T.toArray⟩] 23)).alloc (.cells #[.int .i64 K', .int .i64 N', .string ⟨T'.toArray⟩] 23)) := (Below.refl _ ((w).alloc (.cells #[.int .i64 K, .int .i64 N, .string ⟨T.toArray⟩] 23))).alloc (Nat.le_refl _) _
  have Bnew := VB.new ((w).alloc (.cells #[.int .i64 K, .int .i64 N, .string ⟨T.toArray⟩] 23)) (.int .i64 K') (.int .i64 N') (.string ⟨T'.toArray⟩)
  try simp only [World.size_alloc] at Bnew
  have Bx_2 := Lib.hid (Bx_1.out.below hb Bx_1.out.lt)
  have H_2 := Lib.hid (H_1.out.trans (hb.mono H_1.out.size))
  clear hb H_1 Bx_1
  have By_2 := Lib.hid Bnew
  clear Bnew
  go_wp2_with fail
  have hc := awake_c (((w).alloc (.cells #[.int .i64 K, .int .i64 N, .string ⟨T.toArray⟩] 23)).alloc (.cells #[.int .i64 K', .int .i64 N', .string ⟨T'.toArray⟩] 23)) (hw.below H_2.out)
  unfold valV at hc
  refine hc.mono ?_
  rintro e u1 ⟨rfl, hb⟩
  clear hc
  have Bx_3 := Lib.hid (Bx_2.out.below hb Bx_2.out.lt)
  have By_3 := Lib.hid (By_2.out.below hb By_2.out.lt)
  have H_3 := Lib.hid (H_2.out.trans (hb.mono H_2.out.size))
  clear hb H_2 Bx_2 By_2
  have qx0 := Bx_3.out.c0
  have qx1 := Bx_3.out.c1
  have qx2 := Bx_3.out.c2
  go_wp2_with fail
  clear qx0 qx1 qx2
  have hc := short_not K N T hx (u1)
  unfold valV at hc
  refine hc.mono ?_
  rintro e u2 ⟨rfl, hb⟩
  clear hc
  have Bx_4 := Lib.hid (Bx_3.out.below hb Bx_3.out.lt)
  have By_4 := Lib.hid (By_3.out.below hb By_3.out.lt)
  have H_4 := Lib.hid (H_3.out.trans (hb.mono H_3.out.size))
  clear hb H_3 Bx_3 By_3
  go_wp2_with fail
  go_ret
  exact ⟨rfl, H_4.out⟩

set_option maxHeartbeats 4000000 in
theorem parts_long2 (K N K' N' n : Int) (T T' : List UInt8) (hx : T.length ≤ 800) (hy : ¬ T'.length ≤ 800) (w : World) (hw : Wd w) :
    Calls Tryz.prog 5 #[valV K N T, valV K' N' T', .int .i64 n] w fun e w' => e = .returned (.bool true) ∧ Below w.heap.size w w' := by
  have H_0 := Lib.hid (Below.refl w.heap.size w)
  try unfold valV
  go_enter Tryz.func5, Tryz.ntmps5
  have hb : Below (w).heap.size (w) ((w).alloc (.cells #[.int .i64 K, .int .i64 N, .string ⟨T.toArray⟩] 23)) := (Below.refl _ (w)).alloc (Nat.le_refl _) _
  have Bnew := VB.new (w) (.int .i64 K) (.int .i64 N) (.string ⟨T.toArray⟩)
  try simp only [World.size_alloc] at Bnew
  have H_1 := Lib.hid (H_0.out.trans (hb.mono H_0.out.size))
  clear hb H_0
  have Bx_1 := Lib.hid Bnew
  clear Bnew
  have hb : Below ((w).alloc (.cells #[.int .i64 K, .int .i64 N, .string ⟨T.toArray⟩] 23)).heap.size ((w).alloc (.cells #[.int .i64 K, .int .i64 N, .string ⟨T.toArray⟩] 23)) (((w).alloc (.cells #[.int .i64 K, .int .i64 N, .string ⟨T.toArray⟩] 23)).alloc (.cells #[.int .i64 K', .int .i64 N', .string ⟨T'.toArray⟩] 23)) := (Below.refl _ ((w).alloc (.cells #[.int .i64 K, .int .i64 N, .string ⟨T.toArray⟩] 23))).alloc (Nat.le_refl _) _
  have Bnew := VB.new ((w).alloc (.cells #[.int .i64 K, .int .i64 N, .string ⟨T.toArray⟩] 23)) (.int .i64 K') (.int .i64 N') (.string ⟨T'.toArray⟩)
  try simp only [World.size_alloc] at Bnew
  have Bx_2 := Lib.hid (Bx_1.out.below hb Bx_1.out.lt)
  have H_2 := Lib.hid (H_1.out.trans (hb.mono H_1.out.size))
  clear hb H_1 Bx_1
  have By_2 := Lib.hid Bnew
  clear Bnew
  go_wp2_with fail
  have hc := awake_c (((w).alloc (.cells #[.int .i64 K, .int .i64 N, .string ⟨T.toArray⟩] 23)).alloc (.cells #[.int .i64 K', .int .i64 N', .string ⟨T'.toArray⟩] 23)) (hw.below H_2.out)
  unfold valV at hc
  refine hc.mono ?_
  rintro e u1 ⟨rfl, hb⟩
  clear hc
  have Bx_3 := Lib.hid (Bx_2.out.below hb Bx_2.out.lt)
  have By_3 := Lib.hid (By_2.out.below hb By_2.out.lt)
  have H_3 := Lib.hid (H_2.out.trans (hb.mono H_2.out.size))
  clear hb H_2 Bx_2 By_2
  have qx0 := Bx_3.out.c0
  have qx1 := Bx_3.out.c1
  have qx2 := Bx_3.out.c2
  go_wp2_with fail
  clear qx0 qx1 qx2
  have hc := short_yes K N T hx (u1)
  unfold valV at hc
  refine hc.mono ?_
  rintro e u2 ⟨rfl, hb⟩
  clear hc
  have Bx_4 := Lib.hid (Bx_3.out.below hb Bx_3.out.lt)
  have By_4 := Lib.hid (By_3.out.below hb By_3.out.lt)
  have H_4 := Lib.hid (H_3.out.trans (hb.mono H_3.out.size))
  clear hb H_3 Bx_3 By_3
  have qy0 := By_4.out.c0
  have qy1 := By_4.out.c1
  have qy2 := By_4.out.c2
  go_wp2_with fail
  clear qy0 qy1 qy2
  have hc := short_not K' N' T' hy (u2)
  unfold valV at hc
  refine hc.mono ?_
  rintro e u3 ⟨rfl, hb⟩
  clear hc
  have Bx_5 := Lib.hid (Bx_4.out.below hb Bx_4.out.lt)
  have By_5 := Lib.hid (By_4.out.below hb By_4.out.lt)
  have H_5 := Lib.hid (H_4.out.trans (hb.mono H_4.out.size))
  clear hb H_4 Bx_4 By_4
  go_wp2_with fail
  go_ret
  exact ⟨rfl, H_5.out⟩

set_option maxHeartbeats 8000000 in
theorem parts_all (K N K' N' n : Int) (T T' : List UInt8) (hx : T.length ≤ 800) (hy : T'.length ≤ 800) (hN : In64Z N) (hN' : In64Z N') (w : World) (hw : Wd w) :
    Calls Tryz.prog 5 #[valV K N T, valV K' N' T', .int .i64 n] w fun e w' => e = .returned (.bool true) ∧ Below w.heap.size w w' := by
  obtain ⟨A0, A1, A2, E, ha, har⟩ := parts_Div K N K' N' T T' hN hN' (by omega) (by omega)
  obtain ⟨B0, B1, B2, F, hb', hbr⟩ := parts_Mod K N K' N' T T' hN hN' (by omega) (by omega)
  obtain ⟨C0, C1, C2, G, hc', hcr⟩ := parts_Pow K N n T hN (by omega)
  obtain ⟨D0, D1, D2, J, hd', hdr⟩ := parts_Gcd K N K' N' T T' hN hN' (by omega) (by omega)
  obtain ⟨R0, R1, R2, M, he, her⟩ := parts_Root K N T hN (by omega)
  have Hha := Lib.hid ha
  have Hhar := Lib.hid har
  have Hhb' := Lib.hid hb'
  have Hhbr := Lib.hid hbr
  have Hhc' := Lib.hid hc'
  have Hhcr := Lib.hid hcr
  have Hhd' := Lib.hid hd'
  have Hhdr := Lib.hid hdr
  have Hhe := Lib.hid he
  have Hher := Lib.hid her
  clear ha har hb' hbr hc' hcr hd' hdr he her
  have H_0 := Lib.hid (Below.refl w.heap.size w)
  try unfold valV
  go_enter Tryz.func5, Tryz.ntmps5
  have hb : Below (w).heap.size (w) ((w).alloc (.cells #[.int .i64 K, .int .i64 N, .string ⟨T.toArray⟩] 23)) := (Below.refl _ (w)).alloc (Nat.le_refl _) _
  have Bnew := VB.new (w) (.int .i64 K) (.int .i64 N) (.string ⟨T.toArray⟩)
  try simp only [World.size_alloc] at Bnew
  have H_1 := Lib.hid (H_0.out.trans (hb.mono H_0.out.size))
  clear hb H_0
  have Bx_1 := Lib.hid Bnew
  clear Bnew
  have hb : Below ((w).alloc (.cells #[.int .i64 K, .int .i64 N, .string ⟨T.toArray⟩] 23)).heap.size ((w).alloc (.cells #[.int .i64 K, .int .i64 N, .string ⟨T.toArray⟩] 23)) (((w).alloc (.cells #[.int .i64 K, .int .i64 N, .string ⟨T.toArray⟩] 23)).alloc (.cells #[.int .i64 K', .int .i64 N', .string ⟨T'.toArray⟩] 23)) := (Below.refl _ ((w).alloc (.cells #[.int .i64 K, .int .i64 N, .string ⟨T.toArray⟩] 23))).alloc (Nat.le_refl _) _
  have Bnew := VB.new ((w).alloc (.cells #[.int .i64 K, .int .i64 N, .string ⟨T.toArray⟩] 23)) (.int .i64 K') (.int .i64 N') (.string ⟨T'.toArray⟩)
  try simp only [World.size_alloc] at Bnew
  have Bx_2 := Lib.hid (Bx_1.out.below hb Bx_1.out.lt)
  have H_2 := Lib.hid (H_1.out.trans (hb.mono H_1.out.size))
  clear hb H_1 Bx_1
  have By_2 := Lib.hid Bnew
  clear Bnew
  go_wp2_with fail
  have hc := awake_c (((w).alloc (.cells #[.int .i64 K, .int .i64 N, .string ⟨T.toArray⟩] 23)).alloc (.cells #[.int .i64 K', .int .i64 N', .string ⟨T'.toArray⟩] 23)) (hw.below H_2.out)
  unfold valV at hc
  refine hc.mono ?_
  rintro e u1 ⟨rfl, hb⟩
  clear hc
  have Bx_3 := Lib.hid (Bx_2.out.below hb Bx_2.out.lt)
  have By_3 := Lib.hid (By_2.out.below hb By_2.out.lt)
  have H_3 := Lib.hid (H_2.out.trans (hb.mono H_2.out.size))
  clear hb H_2 Bx_2 By_2
  have qx0 := Bx_3.out.c0
  have qx1 := Bx_3.out.c1
  have qx2 := Bx_3.out.c2
  go_wp2_with fail
  clear qx0 qx1 qx2
  have hc := short_yes K N T hx (u1)
  unfold valV at hc
  refine hc.mono ?_
  rintro e u2 ⟨rfl, hb⟩
  clear hc
  have Bx_4 := Lib.hid (Bx_3.out.below hb Bx_3.out.lt)
  have By_4 := Lib.hid (By_3.out.below hb By_3.out.lt)
  have H_4 := Lib.hid (H_3.out.trans (hb.mono H_3.out.size))
  clear hb H_3 Bx_3 By_3
  have qy0 := By_4.out.c0
  have qy1 := By_4.out.c1
  have qy2 := By_4.out.c2
  go_wp2_with fail
  clear qy0 qy1 qy2
  have hc := short_yes K' N' T' hy (u2)
  unfold valV at hc
  refine hc.mono ?_
  rintro e u3 ⟨rfl, hb⟩
  clear hc
  have Bx_5 := Lib.hid (Bx_4.out.below hb Bx_4.out.lt)
  have By_5 := Lib.hid (By_4.out.below hb By_4.out.lt)
  have H_5 := Lib.hid (H_4.out.trans (hb.mono H_4.out.size))
  clear hb H_4 Bx_4 By_4
  have qx0 := Bx_5.out.c0
  have qx1 := Bx_5.out.c1
  have qx2 := Bx_5.out.c2
  have qy0 := By_5.out.c0
  have qy1 := By_5.out.c1
  have qy2 := By_5.out.c2
  go_wp2_with fail
  clear qx0 qx1 qx2 qy0 qy1 qy2
  have hc := Hha.out (u3) (hw.below H_5.out)
  unfold valV at hc
  refine hc.mono ?_
  rintro e u4 ⟨rfl, hb⟩
  clear hc
  have Bx_6 := Lib.hid (Bx_5.out.below hb Bx_5.out.lt)
  have By_6 := Lib.hid (By_5.out.below hb By_5.out.lt)
  have H_6 := Lib.hid (H_5.out.trans (hb.mono H_5.out.size))
  clear hb H_5 Bx_5 By_5
  have hb : Below (u4).heap.size (u4) ((u4).alloc (.cells #[.int .i64 A0, .int .i64 A1, .string ⟨A2.toArray⟩] 23)) := (Below.refl _ (u4)).alloc (Nat.le_refl _) _
  have Lxa := Lib.hid Bx_6.out.lt
  have Lya := Lib.hid By_6.out.lt
  have Bnew := VB.new (u4) (.int .i64 A0) (.int .i64 A1) (.string ⟨A2.toArray⟩)
  try simp only [World.size_alloc] at Bnew
  have Bx_7 := Lib.hid (Bx_6.out.below hb Bx_6.out.lt)
  have By_7 := Lib.hid (By_6.out.below hb By_6.out.lt)
  have H_7 := Lib.hid (H_6.out.trans (hb.mono H_6.out.size))
  clear hb H_6 Bx_6 By_6
  have Ba_7 := Lib.hid Bnew
  clear Bnew
  have qx0 := Bx_7.out.c0
  have qx1 := Bx_7.out.c1
  have qx2 := Bx_7.out.c2
  have qy0 := By_7.out.c0
  have qy1 := By_7.out.c1
  have qy2 := By_7.out.c2
  go_wp2_with fail
  clear qx0 qx1 qx2 qy0 qy1 qy2
  have hc := Hhar.out ((u4).alloc (.cells #[.int .i64 A0, .int .i64 A1, .string ⟨A2.toArray⟩] 23))
  unfold valV at hc
  refine hc.mono ?_
  rintro e u5 ⟨rfl, hb⟩
  clear hc
  have Bx_8 := Lib.hid (Bx_7.out.below hb Bx_7.out.lt)
  have By_8 := Lib.hid (By_7.out.below hb By_7.out.lt)
  have Ba_8 := Lib.hid (Ba_7.out.below hb Ba_7.out.lt)
  have H_8 := Lib.hid (H_7.out.trans (hb.mono H_7.out.size))
  clear hb H_7 Bx_7 By_7 Ba_7
  have hb : Below (u5).heap.size (u5) ((u5).alloc (.cells #[.int .i64 A0, .int .i64 A1, .string ⟨A2.toArray⟩] 23)) := (Below.refl _ (u5)).alloc (Nat.le_refl _) _
  have Lab := Lib.hid Ba_8.out.lt
  have Lxb := Lib.hid Bx_8.out.lt
  have Lyb := Lib.hid By_8.out.lt
  have Bnew := VB.new (u5) (.int .i64 A0) (.int .i64 A1) (.string ⟨A2.toArray⟩)
  try simp only [World.size_alloc] at Bnew
  have Bx_9 := Lib.hid (Bx_8.out.below hb Bx_8.out.lt)
  have By_9 := Lib.hid (By_8.out.below hb By_8.out.lt)
  have Ba_9 := Lib.hid (Ba_8.out.below hb Ba_8.out.lt)
  have H_9 := Lib.hid (H_8.out.trans (hb.mono H_8.out.size))
  clear hb H_8 Bx_8 By_8 Ba_8
  have Bb_9 := Lib.hid Bnew
  clear Bnew
  have qa0 := Ba_9.out.c0
  have qa1 := Ba_9.out.c1
  have qa2 := Ba_9.out.c2
  have qb0 := Bb_9.out.c0
  have qb1 := Bb_9.out.c1
  have qb2 := Bb_9.out.c2
  have qx0 := Bx_9.out.c0
  have qx1 := Bx_9.out.c1
  have qx2 := Bx_9.out.c2
  have qy0 := By_9.out.c0
  have qy1 := By_9.out.c1
  have qy2 := By_9.out.c2
  go_wp2_with fail
  clear qx0 qx1 qx2 qy0 qy1 qy2
  have hc := Hhb'.out ((u5).alloc (.cells #[.int .i64 A0, .int .i64 A1, .string ⟨A2.toArray⟩] 23)) (hw.below H_9.out)
  unfold valV at hc
  refine hc.mono ?_
  rintro e u6 ⟨rfl, hb⟩
  clear hc
  have Bx_10 := Lib.hid (Bx_9.out.below hb Bx_9.out.lt)
  have By_10 := Lib.hid (By_9.out.below hb By_9.out.lt)
  have Ba_10 := Lib.hid (Ba_9.out.below hb Ba_9.out.lt)
  have Bb_10 := Lib.hid (Bb_9.out.below hb Bb_9.out.lt)
  have H_10 := Lib.hid (H_9.out.trans (hb.mono H_9.out.size))
  clear hb H_9 Bx_9 By_9 Ba_9 Bb_9
  have st7c0 := Ba_10.out.c0
  have st7f0 := Ba_10.out.fz 0
  have st7c1 := Ba_10.out.c1
  have st7f1 := Ba_10.out.fz 1
  have st7c2 := Ba_10.out.c2
  have st7f2 := Ba_10.out.fz 2
  have hne : ((u4).heap.size) ≠ (w.heap.size) := by have h1 := Lxa.out; omega
  have Bx_11 := Lib.hid (((Bx_10.out.other ⟨(u4).heap.size, 0, none⟩ hne (.int .i64 B0)).other ⟨(u4).heap.size, 1, none⟩ hne (.int .i64 B1)).other ⟨(u4).heap.size, 2, none⟩ hne (.string ⟨B2.toArray⟩))
  clear hne
  have hne : ((u4).heap.size) ≠ (w.heap.size + 1) := by have h1 := Lya.out; omega
  have By_11 := Lib.hid (((By_10.out.other ⟨(u4).heap.size, 0, none⟩ hne (.int .i64 B0)).other ⟨(u4).heap.size, 1, none⟩ hne (.int .i64 B1)).other ⟨(u4).heap.size, 2, none⟩ hne (.string ⟨B2.toArray⟩))
  clear hne
  have Ba_11 := Lib.hid (Ba_10.out.put (.int .i64 B0) (.int .i64 B1) (.string ⟨B2.toArray⟩))
  have hne : ((u4).heap.size) ≠ ((u5).heap.size) := by have h1 := Lab.out; omega
  have Bb_11 := Lib.hid (((Bb_10.out.other ⟨(u4).heap.size, 0, none⟩ hne (.int .i64 B0)).other ⟨(u4).heap.size, 1, none⟩ hne (.int .i64 B1)).other ⟨(u4).heap.size, 2, none⟩ hne (.string ⟨B2.toArray⟩))
  clear hne
  have hle : w.heap.size ≤ (u4).heap.size := by have h1 := Lxa.out; omega
  have H_11 := Lib.hid (below_put3 H_10.out hle (.int .i64 B0) (.int .i64 B1) (.string ⟨B2.toArray⟩))
  clear hle H_10 Bx_10 By_10 Ba_10 Bb_10
  have qx0 := Bx_11.out.c0
  have qx1 := Bx_11.out.c1
  have qx2 := Bx_11.out.c2
  have qy0 := By_11.out.c0
  have qy1 := By_11.out.c1
  have qy2 := By_11.out.c2
  go_wp2_with fail
  clear qx0 qx1 qx2 qy0 qy1 qy2
  clear st7c0 st7f0 st7c1 st7f1 st7c2 st7f2
  have hc := Hhbr.out ((((u6).setCell ⟨(u4).heap.size, 0, none⟩ (.int .i64 B0)).setCell ⟨(u4).heap.size, 1, none⟩ (.int .i64 B1)).setCell ⟨(u4).heap.size, 2, none⟩ (.string ⟨B2.toArray⟩))
  unfold valV at hc
  refine hc.mono ?_
  rintro e u8 ⟨rfl, hb⟩
  clear hc
  have Bx_12 := Lib.hid (Bx_11.out.below hb Bx_11.out.lt)
  have By_12 := Lib.hid (By_11.out.below hb By_11.out.lt)
  have Ba_12 := Lib.hid (Ba_11.out.below hb Ba_11.out.lt)
  have Bb_12 := Lib.hid (Bb_11.out.below hb Bb_11.out.lt)
  have H_12 := Lib.hid (H_11.out.trans (hb.mono H_11.out.size))
  clear hb H_11 Bx_11 By_11 Ba_11 Bb_11
  have st9c0 := Bb_12.out.c0
  have st9f0 := Bb_12.out.fz 0
  have st9c1 := Bb_12.out.c1
  have st9f1 := Bb_12.out.fz 1
  have st9c2 := Bb_12.out.c2
  have st9f2 := Bb_12.out.fz 2
  have hne : ((u5).heap.size) ≠ (w.heap.size) := by have h1 := Lxb.out; omega
  have Bx_13 := Lib.hid (((Bx_12.out.other ⟨(u5).heap.size, 0, none⟩ hne (.int .i64 B0)).other ⟨(u5).heap.size, 1, none⟩ hne (.int .i64 B1)).other ⟨(u5).heap.size, 2, none⟩ hne (.string ⟨B2.toArray⟩))
  clear hne
  have hne : ((u5).heap.size) ≠ (w.heap.size + 1) := by have h1 := Lyb.out; omega
  have By_13 := Lib.hid (((By_12.out.other ⟨(u5).heap.size, 0, none⟩ hne (.int .i64 B0)).other ⟨(u5).heap.size, 1, none⟩ hne (.int .i64 B1)).other ⟨(u5).heap.size, 2, none⟩ hne (.string ⟨B2.toArray⟩))
  clear hne
  have hne : ((u5).heap.size) ≠ ((u4).heap.size) := by have h1 := Lab.out; omega
  have Ba_13 := Lib.hid (((Ba_12.out.other ⟨(u5).heap.size, 0, none⟩ hne (.int .i64 B0)).other ⟨(u5).heap.size, 1, none⟩ hne (.int .i64 B1)).other ⟨(u5).heap.size, 2, none⟩ hne (.string ⟨B2.toArray⟩))
  clear hne
  have Bb_13 := Lib.hid (Bb_12.out.put (.int .i64 B0) (.int .i64 B1) (.string ⟨B2.toArray⟩))
  have hle : w.heap.size ≤ (u5).heap.size := by have h1 := Lxb.out; omega
  have H_13 := Lib.hid (below_put3 H_12.out hle (.int .i64 B0) (.int .i64 B1) (.string ⟨B2.toArray⟩))
  clear hle H_12 Bx_12 By_12 Ba_12 Bb_12
  have qa0 := Ba_13.out.c0
  have qa1 := Ba_13.out.c1
  have qa2 := Ba_13.out.c2
  have qb0 := Bb_13.out.c0
  have qb1 := Bb_13.out.c1
  have qb2 := Bb_13.out.c2
  have qx0 := Bx_13.out.c0
  have qx1 := Bx_13.out.c1
  have qx2 := Bx_13.out.c2
  have qy0 := By_13.out.c0
  have qy1 := By_13.out.c1
  have qy2 := By_13.out.c2
  go_wp2_with fail
  clear qx0 qx1 qx2 qy0 qy1 qy2
  clear st9c0 st9f0 st9c1 st9f1 st9c2 st9f2
  have hc := Hhc'.out ((((u8).setCell ⟨(u5).heap.size, 0, none⟩ (.int .i64 B0)).setCell ⟨(u5).heap.size, 1, none⟩ (.int .i64 B1)).setCell ⟨(u5).heap.size, 2, none⟩ (.string ⟨B2.toArray⟩)) (hw.below H_13.out)
  unfold valV at hc
  refine hc.mono ?_
  rintro e u10 ⟨rfl, hb⟩
  clear hc
  have Bx_14 := Lib.hid (Bx_13.out.below hb Bx_13.out.lt)
  have By_14 := Lib.hid (By_13.out.below hb By_13.out.lt)
  have Ba_14 := Lib.hid (Ba_13.out.below hb Ba_13.out.lt)
  have Bb_14 := Lib.hid (Bb_13.out.below hb Bb_13.out.lt)
  have H_14 := Lib.hid (H_13.out.trans (hb.mono H_13.out.size))
  clear hb H_13 Bx_13 By_13 Ba_13 Bb_13
  have st11c0 := Ba_14.out.c0
  have st11f0 := Ba_14.out.fz 0
  have st11c1 := Ba_14.out.c1
  have st11f1 := Ba_14.out.fz 1
  have st11c2 := Ba_14.out.c2
  have st11f2 := Ba_14.out.fz 2
  have hne : ((u4).heap.size) ≠ (w.heap.size) := by have h1 := Lxa.out; omega
  have Bx_15 := Lib.hid (((Bx_14.out.other ⟨(u4).heap.size, 0, none⟩ hne (.int .i64 C0)).other ⟨(u4).heap.size, 1, none⟩ hne (.int .i64 C1)).other ⟨(u4).heap.size, 2, none⟩ hne (.string ⟨C2.toArray⟩))
  clear hne
  have hne : ((u4).heap.size) ≠ (w.heap.size + 1) := by have h1 := Lya.out; omega
  have By_15 := Lib.hid (((By_14.out.other ⟨(u4).heap.size, 0, none⟩ hne (.int .i64 C0)).other ⟨(u4).heap.size, 1, none⟩ hne (.int .i64 C1)).other ⟨(u4).heap.size, 2, none⟩ hne (.string ⟨C2.toArray⟩))
  clear hne
  have Ba_15 := Lib.hid (Ba_14.out.put (.int .i64 C0) (.int .i64 C1) (.string ⟨C2.toArray⟩))
  have hne : ((u4).heap.size) ≠ ((u5).heap.size) := by have h1 := Lab.out; omega
  have Bb_15 := Lib.hid (((Bb_14.out.other ⟨(u4).heap.size, 0, none⟩ hne (.int .i64 C0)).other ⟨(u4).heap.size, 1, none⟩ hne (.int .i64 C1)).other ⟨(u4).heap.size, 2, none⟩ hne (.string ⟨C2.toArray⟩))
  clear hne
  have hle : w.heap.size ≤ (u4).heap.size := by have h1 := Lxa.out; omega
  have H_15 := Lib.hid (below_put3 H_14.out hle (.int .i64 C0) (.int .i64 C1) (.string ⟨C2.toArray⟩))
  clear hle H_14 Bx_14 By_14 Ba_14 Bb_14
  have qx0 := Bx_15.out.c0
  have qx1 := Bx_15.out.c1
  have qx2 := Bx_15.out.c2
  have qy0 := By_15.out.c0
  have qy1 := By_15.out.c1
  have qy2 := By_15.out.c2
  go_wp2_with fail
  clear qx0 qx1 qx2 qy0 qy1 qy2
  clear st11c0 st11f0 st11c1 st11f1 st11c2 st11f2
  have hc := Hhcr.out ((((u10).setCell ⟨(u4).heap.size, 0, none⟩ (.int .i64 C0)).setCell ⟨(u4).heap.size, 1, none⟩ (.int .i64 C1)).setCell ⟨(u4).heap.size, 2, none⟩ (.string ⟨C2.toArray⟩))
  unfold valV at hc
  refine hc.mono ?_
  rintro e u12 ⟨rfl, hb⟩
  clear hc
  have Bx_16 := Lib.hid (Bx_15.out.below hb Bx_15.out.lt)
  have By_16 := Lib.hid (By_15.out.below hb By_15.out.lt)
  have Ba_16 := Lib.hid (Ba_15.out.below hb Ba_15.out.lt)
  have Bb_16 := Lib.hid (Bb_15.out.below hb Bb_15.out.lt)
  have H_16 := Lib.hid (H_15.out.trans (hb.mono H_15.out.size))
  clear hb H_15 Bx_15 By_15 Ba_15 Bb_15
  have st13c0 := Bb_16.out.c0
  have st13f0 := Bb_16.out.fz 0
  have st13c1 := Bb_16.out.c1
  have st13f1 := Bb_16.out.fz 1
  have st13c2 := Bb_16.out.c2
  have st13f2 := Bb_16.out.fz 2
  have hne : ((u5).heap.size) ≠ (w.heap.size) := by have h1 := Lxb.out; omega
  have Bx_17 := Lib.hid (((Bx_16.out.other ⟨(u5).heap.size, 0, none⟩ hne (.int .i64 C0)).other ⟨(u5).heap.size, 1, none⟩ hne (.int .i64 C1)).other ⟨(u5).heap.size, 2, none⟩ hne (.string ⟨C2.toArray⟩))
  clear hne
  have hne : ((u5).heap.size) ≠ (w.heap.size + 1) := by have h1 := Lyb.out; omega
  have By_17 := Lib.hid (((By_16.out.other ⟨(u5).heap.size, 0, none⟩ hne (.int .i64 C0)).other ⟨(u5).heap.size, 1, none⟩ hne (.int .i64 C1)).other ⟨(u5).heap.size, 2, none⟩ hne (.string ⟨C2.toArray⟩))
  clear hne
  have hne : ((u5).heap.size) ≠ ((u4).heap.size) := by have h1 := Lab.out; omega
  have Ba_17 := Lib.hid (((Ba_16.out.other ⟨(u5).heap.size, 0, none⟩ hne (.int .i64 C0)).other ⟨(u5).heap.size, 1, none⟩ hne (.int .i64 C1)).other ⟨(u5).heap.size, 2, none⟩ hne (.string ⟨C2.toArray⟩))
  clear hne
  have Bb_17 := Lib.hid (Bb_16.out.put (.int .i64 C0) (.int .i64 C1) (.string ⟨C2.toArray⟩))
  have hle : w.heap.size ≤ (u5).heap.size := by have h1 := Lxb.out; omega
  have H_17 := Lib.hid (below_put3 H_16.out hle (.int .i64 C0) (.int .i64 C1) (.string ⟨C2.toArray⟩))
  clear hle H_16 Bx_16 By_16 Ba_16 Bb_16
  have qa0 := Ba_17.out.c0
  have qa1 := Ba_17.out.c1
  have qa2 := Ba_17.out.c2
  have qb0 := Bb_17.out.c0
  have qb1 := Bb_17.out.c1
  have qb2 := Bb_17.out.c2
  have qx0 := Bx_17.out.c0
  have qx1 := Bx_17.out.c1
  have qx2 := Bx_17.out.c2
  have qy0 := By_17.out.c0
  have qy1 := By_17.out.c1
  have qy2 := By_17.out.c2
  go_wp2_with fail
  clear qx0 qx1 qx2 qy0 qy1 qy2
  clear st13c0 st13f0 st13c1 st13f1 st13c2 st13f2
  have hc := Hhd'.out ((((u12).setCell ⟨(u5).heap.size, 0, none⟩ (.int .i64 C0)).setCell ⟨(u5).heap.size, 1, none⟩ (.int .i64 C1)).setCell ⟨(u5).heap.size, 2, none⟩ (.string ⟨C2.toArray⟩)) (hw.below H_17.out)
  unfold valV at hc
  refine hc.mono ?_
  rintro e u14 ⟨rfl, hb⟩
  clear hc
  have Bx_18 := Lib.hid (Bx_17.out.below hb Bx_17.out.lt)
  have By_18 := Lib.hid (By_17.out.below hb By_17.out.lt)
  have Ba_18 := Lib.hid (Ba_17.out.below hb Ba_17.out.lt)
  have Bb_18 := Lib.hid (Bb_17.out.below hb Bb_17.out.lt)
  have H_18 := Lib.hid (H_17.out.trans (hb.mono H_17.out.size))
  clear hb H_17 Bx_17 By_17 Ba_17 Bb_17
  have st15c0 := Ba_18.out.c0
  have st15f0 := Ba_18.out.fz 0
  have st15c1 := Ba_18.out.c1
  have st15f1 := Ba_18.out.fz 1
  have st15c2 := Ba_18.out.c2
  have st15f2 := Ba_18.out.fz 2
  have hne : ((u4).heap.size) ≠ (w.heap.size) := by have h1 := Lxa.out; omega
  have Bx_19 := Lib.hid (((Bx_18.out.other ⟨(u4).heap.size, 0, none⟩ hne (.int .i64 D0)).other ⟨(u4).heap.size, 1, none⟩ hne (.int .i64 D1)).other ⟨(u4).heap.size, 2, none⟩ hne (.string ⟨D2.toArray⟩))
  clear hne
  have hne : ((u4).heap.size) ≠ (w.heap.size + 1) := by have h1 := Lya.out; omega
  have By_19 := Lib.hid (((By_18.out.other ⟨(u4).heap.size, 0, none⟩ hne (.int .i64 D0)).other ⟨(u4).heap.size, 1, none⟩ hne (.int .i64 D1)).other ⟨(u4).heap.size, 2, none⟩ hne (.string ⟨D2.toArray⟩))
  clear hne
  have Ba_19 := Lib.hid (Ba_18.out.put (.int .i64 D0) (.int .i64 D1) (.string ⟨D2.toArray⟩))
  have hne : ((u4).heap.size) ≠ ((u5).heap.size) := by have h1 := Lab.out; omega
  have Bb_19 := Lib.hid (((Bb_18.out.other ⟨(u4).heap.size, 0, none⟩ hne (.int .i64 D0)).other ⟨(u4).heap.size, 1, none⟩ hne (.int .i64 D1)).other ⟨(u4).heap.size, 2, none⟩ hne (.string ⟨D2.toArray⟩))
  clear hne
  have hle : w.heap.size ≤ (u4).heap.size := by have h1 := Lxa.out; omega
  have H_19 := Lib.hid (below_put3 H_18.out hle (.int .i64 D0) (.int .i64 D1) (.string ⟨D2.toArray⟩))
  clear hle H_18 Bx_18 By_18 Ba_18 Bb_18
  have qx0 := Bx_19.out.c0
  have qx1 := Bx_19.out.c1
  have qx2 := Bx_19.out.c2
  have qy0 := By_19.out.c0
  have qy1 := By_19.out.c1
  have qy2 := By_19.out.c2
  go_wp2_with fail
  clear qx0 qx1 qx2 qy0 qy1 qy2
  clear st15c0 st15f0 st15c1 st15f1 st15c2 st15f2
  have hc := Hhdr.out ((((u14).setCell ⟨(u4).heap.size, 0, none⟩ (.int .i64 D0)).setCell ⟨(u4).heap.size, 1, none⟩ (.int .i64 D1)).setCell ⟨(u4).heap.size, 2, none⟩ (.string ⟨D2.toArray⟩))
  unfold valV at hc
  refine hc.mono ?_
  rintro e u16 ⟨rfl, hb⟩
  clear hc
  have Bx_20 := Lib.hid (Bx_19.out.below hb Bx_19.out.lt)
  have By_20 := Lib.hid (By_19.out.below hb By_19.out.lt)
  have Ba_20 := Lib.hid (Ba_19.out.below hb Ba_19.out.lt)
  have Bb_20 := Lib.hid (Bb_19.out.below hb Bb_19.out.lt)
  have H_20 := Lib.hid (H_19.out.trans (hb.mono H_19.out.size))
  clear hb H_19 Bx_19 By_19 Ba_19 Bb_19
  have st17c0 := Bb_20.out.c0
  have st17f0 := Bb_20.out.fz 0
  have st17c1 := Bb_20.out.c1
  have st17f1 := Bb_20.out.fz 1
  have st17c2 := Bb_20.out.c2
  have st17f2 := Bb_20.out.fz 2
  have hne : ((u5).heap.size) ≠ (w.heap.size) := by have h1 := Lxb.out; omega
  have Bx_21 := Lib.hid (((Bx_20.out.other ⟨(u5).heap.size, 0, none⟩ hne (.int .i64 D0)).other ⟨(u5).heap.size, 1, none⟩ hne (.int .i64 D1)).other ⟨(u5).heap.size, 2, none⟩ hne (.string ⟨D2.toArray⟩))
  clear hne
  have hne : ((u5).heap.size) ≠ (w.heap.size + 1) := by have h1 := Lyb.out; omega
  have By_21 := Lib.hid (((By_20.out.other ⟨(u5).heap.size, 0, none⟩ hne (.int .i64 D0)).other ⟨(u5).heap.size, 1, none⟩ hne (.int .i64 D1)).other ⟨(u5).heap.size, 2, none⟩ hne (.string ⟨D2.toArray⟩))
  clear hne
  have hne : ((u5).heap.size) ≠ ((u4).heap.size) := by have h1 := Lab.out; omega
  have Ba_21 := Lib.hid (((Ba_20.out.other ⟨(u5).heap.size, 0, none⟩ hne (.int .i64 D0)).other ⟨(u5).heap.size, 1, none⟩ hne (.int .i64 D1)).other ⟨(u5).heap.size, 2, none⟩ hne (.string ⟨D2.toArray⟩))
  clear hne
  have Bb_21 := Lib.hid (Bb_20.out.put (.int .i64 D0) (.int .i64 D1) (.string ⟨D2.toArray⟩))
  have hle : w.heap.size ≤ (u5).heap.size := by have h1 := Lxb.out; omega
  have H_21 := Lib.hid (below_put3 H_20.out hle (.int .i64 D0) (.int .i64 D1) (.string ⟨D2.toArray⟩))
  clear hle H_20 Bx_20 By_20 Ba_20 Bb_20
  have qx0 := Bx_21.out.c0
  have qx1 := Bx_21.out.c1
  have qx2 := Bx_21.out.c2
  go_wp2_with fail
  clear qx0 qx1 qx2
  clear st17c0 st17f0 st17c1 st17f1 st17c2 st17f2
  have hc := Hhe.out ((((u16).setCell ⟨(u5).heap.size, 0, none⟩ (.int .i64 D0)).setCell ⟨(u5).heap.size, 1, none⟩ (.int .i64 D1)).setCell ⟨(u5).heap.size, 2, none⟩ (.string ⟨D2.toArray⟩)) (hw.below H_21.out)
  unfold valV at hc
  refine hc.mono ?_
  rintro e u18 ⟨rfl, hb⟩
  clear hc
  have Bx_22 := Lib.hid (Bx_21.out.below hb Bx_21.out.lt)
  have By_22 := Lib.hid (By_21.out.below hb By_21.out.lt)
  have Ba_22 := Lib.hid (Ba_21.out.below hb Ba_21.out.lt)
  have Bb_22 := Lib.hid (Bb_21.out.below hb Bb_21.out.lt)
  have H_22 := Lib.hid (H_21.out.trans (hb.mono H_21.out.size))
  clear hb H_21 Bx_21 By_21 Ba_21 Bb_21
  have hb : Below (u18).heap.size (u18) ((u18).alloc (.cells #[.int .i64 R0, .int .i64 R1, .string ⟨R2.toArray⟩] 23)) := (Below.refl _ (u18)).alloc (Nat.le_refl _) _
  have Lac := Lib.hid Ba_22.out.lt
  have Lbc := Lib.hid Bb_22.out.lt
  have Lxc := Lib.hid Bx_22.out.lt
  have Lyc := Lib.hid By_22.out.lt
  have Bnew := VB.new (u18) (.int .i64 R0) (.int .i64 R1) (.string ⟨R2.toArray⟩)
  try simp only [World.size_alloc] at Bnew
  have Bx_23 := Lib.hid (Bx_22.out.below hb Bx_22.out.lt)
  have By_23 := Lib.hid (By_22.out.below hb By_22.out.lt)
  have Ba_23 := Lib.hid (Ba_22.out.below hb Ba_22.out.lt)
  have Bb_23 := Lib.hid (Bb_22.out.below hb Bb_22.out.lt)
  have H_23 := Lib.hid (H_22.out.trans (hb.mono H_22.out.size))
  clear hb H_22 Bx_22 By_22 Ba_22 Bb_22
  have Bc_23 := Lib.hid Bnew
  clear Bnew
  have qx0 := Bx_23.out.c0
  have qx1 := Bx_23.out.c1
  have qx2 := Bx_23.out.c2
  go_wp2_with fail
  clear qx0 qx1 qx2
  have hc := Hher.out ((u18).alloc (.cells #[.int .i64 R0, .int .i64 R1, .string ⟨R2.toArray⟩] 23))
  unfold valV at hc
  refine hc.mono ?_
  rintro e u19 ⟨rfl, hb⟩
  clear hc
  have Bx_24 := Lib.hid (Bx_23.out.below hb Bx_23.out.lt)
  have By_24 := Lib.hid (By_23.out.below hb By_23.out.lt)
  have Ba_24 := Lib.hid (Ba_23.out.below hb Ba_23.out.lt)
  have Bb_24 := Lib.hid (Bb_23.out.below hb Bb_23.out.lt)
  have Bc_24 := Lib.hid (Bc_23.out.below hb Bc_23.out.lt)
  have H_24 := Lib.hid (H_23.out.trans (hb.mono H_23.out.size))
  clear hb H_23 Bx_23 By_23 Ba_23 Bb_23 Bc_23
  have hb : Below (u19).heap.size (u19) ((u19).alloc (.cells #[.int .i64 R0, .int .i64 R1, .string ⟨R2.toArray⟩] 23)) := (Below.refl _ (u19)).alloc (Nat.le_refl _) _
  have Lad := Lib.hid Ba_24.out.lt
  have Lbd := Lib.hid Bb_24.out.lt
  have Lcd := Lib.hid Bc_24.out.lt
  have Lxd := Lib.hid Bx_24.out.lt
  have Lyd := Lib.hid By_24.out.lt
  have Bnew := VB.new (u19) (.int .i64 R0) (.int .i64 R1) (.string ⟨R2.toArray⟩)
  try simp only [World.size_alloc] at Bnew
  have Bx_25 := Lib.hid (Bx_24.out.below hb Bx_24.out.lt)
  have By_25 := Lib.hid (By_24.out.below hb By_24.out.lt)
  have Ba_25 := Lib.hid (Ba_24.out.below hb Ba_24.out.lt)
  have Bb_25 := Lib.hid (Bb_24.out.below hb Bb_24.out.lt)
  have Bc_25 := Lib.hid (Bc_24.out.below hb Bc_24.out.lt)
  have H_25 := Lib.hid (H_24.out.trans (hb.mono H_24.out.size))
  clear hb H_24 Bx_24 By_24 Ba_24 Bb_24 Bc_24
  have Bd_25 := Lib.hid Bnew
  clear Bnew
  have qa0 := Ba_25.out.c0
  have qa1 := Ba_25.out.c1
  have qa2 := Ba_25.out.c2
  have qb0 := Bb_25.out.c0
  have qb1 := Bb_25.out.c1
  have qb2 := Bb_25.out.c2
  have qc0 := Bc_25.out.c0
  have qc1 := Bc_25.out.c1
  have qc2 := Bc_25.out.c2
  have qd0 := Bd_25.out.c0
  have qd1 := Bd_25.out.c1
  have qd2 := Bd_25.out.c2
  go_wp2_with fail
  go_ret
  exact ⟨rfl, H_25.out⟩

theorem parts_c (K N : Int) (T : List UInt8) (K' N' : Int) (T' : List UInt8) (n : Int) (hN : In64Z N) (hN' : In64Z N') (_ : In64Z n) (w : World) (hw : Wd w) :
    Calls Tryz.prog 5 #[valV K N T, valV K' N' T', .int .i64 n] w fun e w' => e = .returned (.bool true) ∧ Below w.heap.size w w' := by
  by_cases hx : T.length ≤ 800
  · by_cases hy : T'.length ≤ 800
    · exact parts_all K N K' N' n T T' hx hy hN hN' w hw
    · exact parts_long2 K N K' N' n T T' hx hy w hw
  · exact parts_long1 K N K' N' n T T' hx w hw
end Go.Proofs.YthbfbpbppjkoeaaGreatDoor
