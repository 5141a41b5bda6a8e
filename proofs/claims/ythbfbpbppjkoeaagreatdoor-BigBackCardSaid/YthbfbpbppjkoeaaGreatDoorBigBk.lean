/- The walk of BigBack of package proteuslaw03, case by case. Conditions: those in the statements. -/
import Derived.Test.YthbfbpbppjkoeaaGreatDoorBigLb
import Derived.Test.YthbfbpbppjkoeaaGreatDoorBigV
namespace Go.Proofs.YthbfbpbppjkoeaaGreatDoor
open Go.RowKit Go.Shelf
set_option exponentiation.threshold 500
set_option maxRecDepth 100000
set_option linter.unusedSimpArgs false
set_option linter.unusedVariables false
attribute [local irreducible] wpQuiet

theorem Of_num {A B z : Int} {S t : List UInt8} (ht : t = Lib.itoa z) (hn : IsNum A B S z) (w : World) (hw : Wd w) :
    Calls Tryz.prog 17 #[.string ⟨t.toArray⟩] w fun e w' => e = .returned (.tuple #[valV A B S, .int .i64 0]) ∧ Below w.heap.size w w' := by
  have := of_ok z hn.1 w hw; rw [← hn.2, ← ht] at this; exact this
theorem Text_num {K N z : Int} {T t : List UInt8} (h : IsNum K N T z) (ht : t = Lib.itoa z) (w : World) (hw : Wd w) :
    Calls Tryz.prog 19 #[valV K N T] w fun e w' => e = .returned (.tuple #[.string ⟨t.toArray⟩, .int .i64 0]) ∧ Below w.heap.size w w' := by
  have := text_ok K N z T h w hw; rw [← ht] at this; exact this
theorem Digits_num {K N z : Int} {T : List UInt8} {d : Nat} (h : IsNum K N T z) (hd : Lib.nDigits z.natAbs = d) (w : World) (hw : Wd w) :
    Calls Tryz.prog 21 #[valV K N T] w fun e w' => e = .returned (.tuple #[.int .i64 d, .int .i64 0]) ∧ Below w.heap.size w w' := by
  have := Digits_ok K N z T h w hw; rw [hd] at this; exact this
theorem nDigits_mono {a b : Nat} (h : a ≤ b) : Lib.nDigits a ≤ Lib.nDigits b := Bg.nDigits_le (Nat.lt_of_le_of_lt h (Lib.lt_pow_nDigits b)) (Lib.nDigits_pos b)
theorem back_cases {x y K' N' : Int} {T' : List UInt8} {p b : Bool} {dn dm : Nat} (h' : IsNum K' N' T' y) (hp : decide (0 < x) = p) (hb : decide (x < y) = b) (hdn : Lib.nDigits x.natAbs = dn) (hdm : Lib.nDigits y.natAbs = dm) :
    p = false ∨ (p = true ∧ decide ((dm : Int) ≤ (dn : Int)) = true) ∨ (p = true ∧ decide ((dm : Int) ≤ (dn : Int)) = false ∧ b = true) ∨
      (p = true ∧ decide ((dm : Int) ≤ (dn : Int)) = false ∧ b = false ∧ K' = 1 ∧ decide (N' < 0) = true) ∨
      (p = true ∧ decide ((dm : Int) ≤ (dn : Int)) = false ∧ b = false ∧ K' = 2 ∧ ∃ r, T' = 45 :: r) := by
  by_cases h0 : 0 < x
  · have e1 : p = true := by rw [← hp]; exact decide_eq_true h0
    by_cases hd : dm ≤ dn
    · exact .inr (.inl ⟨e1, decide_eq_true (by omega)⟩)
    · have e2 : decide ((dm : Int) ≤ (dn : Int)) = false := decide_eq_false (by omega)
      by_cases hxy : x < y
      · exact .inr (.inr (.inl ⟨e1, e2, by rw [← hb]; exact decide_eq_true hxy⟩))
      · have e3 : b = false := by rw [← hb]; exact decide_eq_false hxy
        have hy : y < 0 := by
          rcases Int.lt_or_le y 0 with h | h
          · exact h
          · have := nDigits_mono (a := y.natAbs) (b := x.natAbs) (by omega)
            omega
        rcases h'.cells with ⟨_, h1, h2, _⟩ | ⟨_, h1, _, h3⟩
        · exact .inr (.inr (.inr (.inl ⟨e1, e2, e3, h1, decide_eq_true (by omega)⟩)))
        · refine .inr (.inr (.inr (.inr ⟨e1, e2, e3, h1, ?_⟩)))
          rw [h3]; unfold Lib.itoa; rw [if_pos hy]; exact ⟨_, rfl⟩
  · exact .inl (by rw [← hp]; exact decide_eq_false h0)
set_option maxHeartbeats 4000000 in
theorem back_long1 (K N K' N' : Int) (T T' s : List UInt8) (hx : ¬ T.length ≤ 800) (w : World) (hw : Wd w) :
    Calls Tryz.prog 6 #[valV K N T, valV K' N' T', .string ⟨s.toArray⟩] w fun e w' => e = .returned (.bool true) ∧ Below w.heap.size w w' := by
  have hsz : (⟨s.toArray⟩ : ByteArray).size = s.length := by simp [ByteArray.size]
  have H_0 := Lib.hid (Below.refl w.heap.size w)
  unfold valV
  go_enter Tryz.func6, Tryz.ntmps6
  have hb : Below (w).heap.size (w) ((w).alloc (.cells #[.int .i64 K, .int .i64 N, .string ⟨T.toArray⟩] 23)) := (Below.refl _ (w)).alloc (Nat.le_refl _) _
  have Bnew := VB.new (w) (.int .i64 K) (.int .i64 N) (.string ⟨T.toArray⟩)
  try simp only [World.size_alloc] at Bnew
  have H_1 := Lib.hid (H_0.out.trans (hb.mono H_0.out.size))
  clear hb H_0
  have Bv_1 := Lib.hid Bnew
  clear Bnew
  have hb : Below ((w).alloc (.cells #[.int .i64 K, .int .i64 N, .string ⟨T.toArray⟩] 23)).heap.size ((w).alloc (.cells #[.int .i64 K, .int .i64 N, .string ⟨T.toArray⟩] 23)) (((w).alloc (.cells #[.int .i64 K, .int .i64 N, .string ⟨T.toArray⟩] 23)).alloc (.cells #[.int .i64 K', .int .i64 N', .string ⟨T'.toArray⟩] 23)) := (Below.refl _ ((w).alloc (.cells #[.int .i64 K, .int .i64 N, .string ⟨T.toArray⟩] 23))).alloc (Nat.le_refl _) _
  have Bnew := VB.new ((w).alloc (.cells #[.int .i64 K, .int .i64 N, .string ⟨T.toArray⟩] 23)) (.int .i64 K') (.int .i64 N') (.string ⟨T'.toArray⟩)
  try simp only [World.size_alloc] at Bnew
  have Bv_2 := Lib.hid (Bv_1.out.below hb Bv_1.out.lt)
  have H_2 := Lib.hid (H_1.out.trans (hb.mono H_1.out.size))
  clear hb H_1 Bv_1
  have Bu_2 := Lib.hid Bnew
  clear Bnew
  go_wp2_with fail
  have hc := awake_c (((w).alloc (.cells #[.int .i64 K, .int .i64 N, .string ⟨T.toArray⟩] 23)).alloc (.cells #[.int .i64 K', .int .i64 N', .string ⟨T'.toArray⟩] 23)) (hw.below H_2.out)
  unfold valV at hc
  refine hc.mono ?_
  rintro e u1 ⟨rfl, hb⟩
  clear hc
  have Bv_3 := Lib.hid (Bv_2.out.below hb Bv_2.out.lt)
  have Bu_3 := Lib.hid (Bu_2.out.below hb Bu_2.out.lt)
  have H_3 := Lib.hid (H_2.out.trans (hb.mono H_2.out.size))
  clear hb H_2 Bv_2 Bu_2
  have qv0 := Bv_3.out.c0
  have qv1 := Bv_3.out.c1
  have qv2 := Bv_3.out.c2
  go_wp2_with fail
  clear qv0 qv1 qv2
  have hc := short_not K N T hx (u1)
  unfold valV at hc
  refine hc.mono ?_
  rintro e u2 ⟨rfl, hb⟩
  clear hc
  have Bv_4 := Lib.hid (Bv_3.out.below hb Bv_3.out.lt)
  have Bu_4 := Lib.hid (Bu_3.out.below hb Bu_3.out.lt)
  have H_4 := Lib.hid (H_3.out.trans (hb.mono H_3.out.size))
  clear hb H_3 Bv_3 Bu_3
  go_wp2_with fail
  go_ret
  exact ⟨rfl, H_4.out⟩

set_option maxHeartbeats 4000000 in
theorem back_long2 (K N K' N' : Int) (T T' s : List UInt8) (hx : T.length ≤ 800) (hy : ¬ T'.length ≤ 800) (w : World) (hw : Wd w) :
    Calls Tryz.prog 6 #[valV K N T, valV K' N' T', .string ⟨s.toArray⟩] w fun e w' => e = .returned (.bool true) ∧ Below w.heap.size w w' := by
  have hsz : (⟨s.toArray⟩ : ByteArray).size = s.length := by simp [ByteArray.size]
  have H_0 := Lib.hid (Below.refl w.heap.size w)
  unfold valV
  go_enter Tryz.func6, Tryz.ntmps6
  have hb : Below (w).heap.size (w) ((w).alloc (.cells #[.int .i64 K, .int .i64 N, .string ⟨T.toArray⟩] 23)) := (Below.refl _ (w)).alloc (Nat.le_refl _) _
  have Bnew := VB.new (w) (.int .i64 K) (.int .i64 N) (.string ⟨T.toArray⟩)
  try simp only [World.size_alloc] at Bnew
  have H_1 := Lib.hid (H_0.out.trans (hb.mono H_0.out.size))
  clear hb H_0
  have Bv_1 := Lib.hid Bnew
  clear Bnew
  have hb : Below ((w).alloc (.cells #[.int .i64 K, .int .i64 N, .string ⟨T.toArray⟩] 23)).heap.size ((w).alloc (.cells #[.int .i64 K, .int .i64 N, .string ⟨T.toArray⟩] 23)) (((w).alloc (.cells #[.int .i64 K, .int .i64 N, .string ⟨T.toArray⟩] 23)).alloc (.cells #[.int .i64 K', .int .i64 N', .string ⟨T'.toArray⟩] 23)) := (Below.refl _ ((w).alloc (.cells #[.int .i64 K, .int .i64 N, .string ⟨T.toArray⟩] 23))).alloc (Nat.le_refl _) _
  have Bnew := VB.new ((w).alloc (.cells #[.int .i64 K, .int .i64 N, .string ⟨T.toArray⟩] 23)) (.int .i64 K') (.int .i64 N') (.string ⟨T'.toArray⟩)
  try simp only [World.size_alloc] at Bnew
  have Bv_2 := Lib.hid (Bv_1.out.below hb Bv_1.out.lt)
  have H_2 := Lib.hid (H_1.out.trans (hb.mono H_1.out.size))
  clear hb H_1 Bv_1
  have Bu_2 := Lib.hid Bnew
  clear Bnew
  go_wp2_with fail
  have hc := awake_c (((w).alloc (.cells #[.int .i64 K, .int .i64 N, .string ⟨T.toArray⟩] 23)).alloc (.cells #[.int .i64 K', .int .i64 N', .string ⟨T'.toArray⟩] 23)) (hw.below H_2.out)
  unfold valV at hc
  refine hc.mono ?_
  rintro e u1 ⟨rfl, hb⟩
  clear hc
  have Bv_3 := Lib.hid (Bv_2.out.below hb Bv_2.out.lt)
  have Bu_3 := Lib.hid (Bu_2.out.below hb Bu_2.out.lt)
  have H_3 := Lib.hid (H_2.out.trans (hb.mono H_2.out.size))
  clear hb H_2 Bv_2 Bu_2
  have qv0 := Bv_3.out.c0
  have qv1 := Bv_3.out.c1
  have qv2 := Bv_3.out.c2
  go_wp2_with fail
  clear qv0 qv1 qv2
  have hc := short_yes K N T hx (u1)
  unfold valV at hc
  refine hc.mono ?_
  rintro e u2 ⟨rfl, hb⟩
  clear hc
  have Bv_4 := Lib.hid (Bv_3.out.below hb Bv_3.out.lt)
  have Bu_4 := Lib.hid (Bu_3.out.below hb Bu_3.out.lt)
  have H_4 := Lib.hid (H_3.out.trans (hb.mono H_3.out.size))
  clear hb H_3 Bv_3 Bu_3
  have qu0 := Bu_4.out.c0
  have qu1 := Bu_4.out.c1
  have qu2 := Bu_4.out.c2
  go_wp2_with fail
  clear qu0 qu1 qu2
  have hc := short_not K' N' T' hy (u2)
  unfold valV at hc
  refine hc.mono ?_
  rintro e u3 ⟨rfl, hb⟩
  clear hc
  have Bv_5 := Lib.hid (Bv_4.out.below hb Bv_4.out.lt)
  have Bu_5 := Lib.hid (Bu_4.out.below hb Bu_4.out.lt)
  have H_5 := Lib.hid (H_4.out.trans (hb.mono H_4.out.size))
  clear hb H_4 Bv_4 Bu_4
  go_wp2_with fail
  go_ret
  exact ⟨rfl, H_5.out⟩

set_option maxHeartbeats 4000000 in
theorem back_long3 (K N K' N' : Int) (T T' s : List UInt8) (hx : T.length ≤ 800) (hy : T'.length ≤ 800) (hs : ¬ s.length ≤ 800) (w : World) (hw : Wd w) :
    Calls Tryz.prog 6 #[valV K N T, valV K' N' T', .string ⟨s.toArray⟩] w fun e w' => e = .returned (.bool true) ∧ Below w.heap.size w w' := by
  have hsz : (⟨s.toArray⟩ : ByteArray).size = s.length := by simp [ByteArray.size]
  have dl : decide ((800 : Int) < ((s.length : Nat) : Int)) = true := decide_eq_true (by omega)
  clear hs
  have H_0 := Lib.hid (Below.refl w.heap.size w)
  unfold valV
  go_enter Tryz.func6, Tryz.ntmps6
  have hb : Below (w).heap.size (w) ((w).alloc (.cells #[.int .i64 K, .int .i64 N, .string ⟨T.toArray⟩] 23)) := (Below.refl _ (w)).alloc (Nat.le_refl _) _
  have Bnew := VB.new (w) (.int .i64 K) (.int .i64 N) (.string ⟨T.toArray⟩)
  try simp only [World.size_alloc] at Bnew
  have H_1 := Lib.hid (H_0.out.trans (hb.mono H_0.out.size))
  clear hb H_0
  have Bv_1 := Lib.hid Bnew
  clear Bnew
  have hb : Below ((w).alloc (.cells #[.int .i64 K, .int .i64 N, .string ⟨T.toArray⟩] 23)).heap.size ((w).alloc (.cells #[.int .i64 K, .int .i64 N, .string ⟨T.toArray⟩] 23)) (((w).alloc (.cells #[.int .i64 K, .int .i64 N, .string ⟨T.toArray⟩] 23)).alloc (.cells #[.int .i64 K', .int .i64 N', .string ⟨T'.toArray⟩] 23)) := (Below.refl _ ((w).alloc (.cells #[.int .i64 K, .int .i64 N, .string ⟨T.toArray⟩] 23))).alloc (Nat.le_refl _) _
  have Bnew := VB.new ((w).alloc (.cells #[.int .i64 K, .int .i64 N, .string ⟨T.toArray⟩] 23)) (.int .i64 K') (.int .i64 N') (.string ⟨T'.toArray⟩)
  try simp only [World.size_alloc] at Bnew
  have Bv_2 := Lib.hid (Bv_1.out.below hb Bv_1.out.lt)
  have H_2 := Lib.hid (H_1.out.trans (hb.mono H_1.out.size))
  clear hb H_1 Bv_1
  have Bu_2 := Lib.hid Bnew
  clear Bnew
  go_wp2_with fail
  have hc := awake_c (((w).alloc (.cells #[.int .i64 K, .int .i64 N, .string ⟨T.toArray⟩] 23)).alloc (.cells #[.int .i64 K', .int .i64 N', .string ⟨T'.toArray⟩] 23)) (hw.below H_2.out)
  unfold valV at hc
  refine hc.mono ?_
  rintro e u1 ⟨rfl, hb⟩
  clear hc
  have Bv_3 := Lib.hid (Bv_2.out.below hb Bv_2.out.lt)
  have Bu_3 := Lib.hid (Bu_2.out.below hb Bu_2.out.lt)
  have H_3 := Lib.hid (H_2.out.trans (hb.mono H_2.out.size))
  clear hb H_2 Bv_2 Bu_2
  have qv0 := Bv_3.out.c0
  have qv1 := Bv_3.out.c1
  have qv2 := Bv_3.out.c2
  go_wp2_with fail
  clear qv0 qv1 qv2
  have hc := short_yes K N T hx (u1)
  unfold valV at hc
  refine hc.mono ?_
  rintro e u2 ⟨rfl, hb⟩
  clear hc
  have Bv_4 := Lib.hid (Bv_3.out.below hb Bv_3.out.lt)
  have Bu_4 := Lib.hid (Bu_3.out.below hb Bu_3.out.lt)
  have H_4 := Lib.hid (H_3.out.trans (hb.mono H_3.out.size))
  clear hb H_3 Bv_3 Bu_3
  have qu0 := Bu_4.out.c0
  have qu1 := Bu_4.out.c1
  have qu2 := Bu_4.out.c2
  go_wp2_with fail
  clear qu0 qu1 qu2
  have hc := short_yes K' N' T' hy (u2)
  unfold valV at hc
  refine hc.mono ?_
  rintro e u3 ⟨rfl, hb⟩
  clear hc
  have Bv_5 := Lib.hid (Bv_4.out.below hb Bv_4.out.lt)
  have Bu_5 := Lib.hid (Bu_4.out.below hb Bu_4.out.lt)
  have H_5 := Lib.hid (H_4.out.trans (hb.mono H_4.out.size))
  clear hb H_4 Bv_4 Bu_4
  go_wp2_with fail
  go_ret
  exact ⟨rfl, H_5.out⟩

set_option maxHeartbeats 8000000 in
theorem back_no_a (K N K' N' : Int) (T T' s : List UInt8) (hx : T.length ≤ 800) (hy : T'.length ≤ 800) (hs : s.length ≤ 800) (z : Int) (hz : Few z) (hsz0 : s = Lib.itoa z) (h : ∀ z, ¬ IsNum K N T z) (hN : In64Z N) (w : World) (hw : Wd w) :
    Calls Tryz.prog 6 #[valV K N T, valV K' N' T', .string ⟨s.toArray⟩] w fun e w' => e = .returned (.bool true) ∧ Below w.heap.size w w' := by
  have hsz : (⟨s.toArray⟩ : ByteArray).size = s.length := by simp [ByteArray.size]
  have dl : decide ((800 : Int) < ((s.length : Nat) : Int)) = false := decide_eq_false (by omega)
  clear hs
  obtain ⟨S0, S1, S2, hs0⟩ := isNum_few hz
  have HS := Lib.hid hsz0
  clear hsz0
  have H_0 := Lib.hid (Below.refl w.heap.size w)
  unfold valV
  go_enter Tryz.func6, Tryz.ntmps6
  have hb : Below (w).heap.size (w) ((w).alloc (.cells #[.int .i64 K, .int .i64 N, .string ⟨T.toArray⟩] 23)) := (Below.refl _ (w)).alloc (Nat.le_refl _) _
  have Bnew := VB.new (w) (.int .i64 K) (.int .i64 N) (.string ⟨T.toArray⟩)
  try simp only [World.size_alloc] at Bnew
  have H_1 := Lib.hid (H_0.out.trans (hb.mono H_0.out.size))
  clear hb H_0
  have Bv_1 := Lib.hid Bnew
  clear Bnew
  have hb : Below ((w).alloc (.cells #[.int .i64 K, .int .i64 N, .string ⟨T.toArray⟩] 23)).heap.size ((w).alloc (.cells #[.int .i64 K, .int .i64 N, .string ⟨T.toArray⟩] 23)) (((w).alloc (.cells #[.int .i64 K, .int .i64 N, .string ⟨T.toArray⟩] 23)).alloc (.cells #[.int .i64 K', .int .i64 N', .string ⟨T'.toArray⟩] 23)) := (Below.refl _ ((w).alloc (.cells #[.int .i64 K, .int .i64 N, .string ⟨T.toArray⟩] 23))).alloc (Nat.le_refl _) _
  have Bnew := VB.new ((w).alloc (.cells #[.int .i64 K, .int .i64 N, .string ⟨T.toArray⟩] 23)) (.int .i64 K') (.int .i64 N') (.string ⟨T'.toArray⟩)
  try simp only [World.size_alloc] at Bnew
  have Bv_2 := Lib.hid (Bv_1.out.below hb Bv_1.out.lt)
  have H_2 := Lib.hid (H_1.out.trans (hb.mono H_1.out.size))
  clear hb H_1 Bv_1
  have Bu_2 := Lib.hid Bnew
  clear Bnew
  go_wp2_with fail
  have hc := awake_c (((w).alloc (.cells #[.int .i64 K, .int .i64 N, .string ⟨T.toArray⟩] 23)).alloc (.cells #[.int .i64 K', .int .i64 N', .string ⟨T'.toArray⟩] 23)) (hw.below H_2.out)
  unfold valV at hc
  refine hc.mono ?_
  rintro e u1 ⟨rfl, hb⟩
  clear hc
  have Bv_3 := Lib.hid (Bv_2.out.below hb Bv_2.out.lt)
  have Bu_3 := Lib.hid (Bu_2.out.below hb Bu_2.out.lt)
  have H_3 := Lib.hid (H_2.out.trans (hb.mono H_2.out.size))
  clear hb H_2 Bv_2 Bu_2
  have qv0 := Bv_3.out.c0
  have qv1 := Bv_3.out.c1
  have qv2 := Bv_3.out.c2
  go_wp2_with fail
  clear qv0 qv1 qv2
  have hc := short_yes K N T hx (u1)
  unfold valV at hc
  refine hc.mono ?_
  rintro e u2 ⟨rfl, hb⟩
  clear hc
  have Bv_4 := Lib.hid (Bv_3.out.below hb Bv_3.out.lt)
  have Bu_4 := Lib.hid (Bu_3.out.below hb Bu_3.out.lt)
  have H_4 := Lib.hid (H_3.out.trans (hb.mono H_3.out.size))
  clear hb H_3 Bv_3 Bu_3
  have qu0 := Bu_4.out.c0
  have qu1 := Bu_4.out.c1
  have qu2 := Bu_4.out.c2
  go_wp2_with fail
  clear qu0 qu1 qu2
  have hc := short_yes K' N' T' hy (u2)
  unfold valV at hc
  refine hc.mono ?_
  rintro e u3 ⟨rfl, hb⟩
  clear hc
  have Bv_5 := Lib.hid (Bv_4.out.below hb Bv_4.out.lt)
  have Bu_5 := Lib.hid (Bu_4.out.below hb Bu_4.out.lt)
  have H_5 := Lib.hid (H_4.out.trans (hb.mono H_4.out.size))
  clear hb H_4 Bv_4 Bu_4
  go_wp2_with fail
  have hc := Of_num HS.out hs0 (u3) (hw.below H_5.out)
  unfold valV at hc
  refine hc.mono ?_
  rintro e u4 ⟨rfl, hb⟩
  clear hc
  have Bv_6 := Lib.hid (Bv_5.out.below hb Bv_5.out.lt)
  have Bu_6 := Lib.hid (Bu_5.out.below hb Bu_5.out.lt)
  have H_6 := Lib.hid (H_5.out.trans (hb.mono H_5.out.size))
  clear hb H_5 Bv_5 Bu_5
  have hb : Below (u4).heap.size (u4) ((u4).alloc (.cells #[.int .i64 S0, .int .i64 S1, .string ⟨S2.toArray⟩] 23)) := (Below.refl _ (u4)).alloc (Nat.le_refl _) _
  have Bnew := VB.new (u4) (.int .i64 S0) (.int .i64 S1) (.string ⟨S2.toArray⟩)
  try simp only [World.size_alloc] at Bnew
  have Bv_7 := Lib.hid (Bv_6.out.below hb Bv_6.out.lt)
  have Bu_7 := Lib.hid (Bu_6.out.below hb Bu_6.out.lt)
  have H_7 := Lib.hid (H_6.out.trans (hb.mono H_6.out.size))
  clear hb H_6 Bv_6 Bu_6
  have Ba_7 := Lib.hid Bnew
  clear Bnew
  have qa0 := Ba_7.out.c0
  have qa1 := Ba_7.out.c1
  have qa2 := Ba_7.out.c2
  go_wp2_with fail
  clear qa0 qa1 qa2
  have hc := Text_num hs0 HS.out ((u4).alloc (.cells #[.int .i64 S0, .int .i64 S1, .string ⟨S2.toArray⟩] 23)) (hw.below H_7.out)
  unfold valV at hc
  refine hc.mono ?_
  rintro e u5 ⟨rfl, hb⟩
  clear hc
  have Bv_8 := Lib.hid (Bv_7.out.below hb Bv_7.out.lt)
  have Bu_8 := Lib.hid (Bu_7.out.below hb Bu_7.out.lt)
  have Ba_8 := Lib.hid (Ba_7.out.below hb Ba_7.out.lt)
  have H_8 := Lib.hid (H_7.out.trans (hb.mono H_7.out.size))
  clear hb H_7 Bv_7 Bu_7 Ba_7
  have qa0 := Ba_8.out.c0
  have qa1 := Ba_8.out.c1
  have qa2 := Ba_8.out.c2
  go_wp2_with fail
  clear qa0 qa1 qa2
  have hc := check_ok S0 S1 z S2 hs0 (u5) (hw.below H_8.out)
  unfold valV at hc
  refine hc.mono ?_
  rintro e u6 ⟨rfl, hb⟩
  clear hc
  have Bv_9 := Lib.hid (Bv_8.out.below hb Bv_8.out.lt)
  have Bu_9 := Lib.hid (Bu_8.out.below hb Bu_8.out.lt)
  have Ba_9 := Lib.hid (Ba_8.out.below hb Ba_8.out.lt)
  have H_9 := Lib.hid (H_8.out.trans (hb.mono H_8.out.size))
  clear hb H_8 Bv_8 Bu_8 Ba_8
  have qv0 := Bv_9.out.c0
  have qv1 := Bv_9.out.c1
  have qv2 := Bv_9.out.c2
  go_wp2_with fail
  clear qv0 qv1 qv2
  have hc := text_no K N T h hN (u6) (hw.below H_9.out)
  unfold valV at hc
  refine hc.mono ?_
  rintro e u7 ⟨rfl, hb⟩
  clear hc
  have Bv_10 := Lib.hid (Bv_9.out.below hb Bv_9.out.lt)
  have Bu_10 := Lib.hid (Bu_9.out.below hb Bu_9.out.lt)
  have Ba_10 := Lib.hid (Ba_9.out.below hb Ba_9.out.lt)
  have H_10 := Lib.hid (H_9.out.trans (hb.mono H_9.out.size))
  clear hb H_9 Bv_9 Bu_9 Ba_9
  have qv0 := Bv_10.out.c0
  have qv1 := Bv_10.out.c1
  have qv2 := Bv_10.out.c2
  go_wp2_with fail
  clear qv0 qv1 qv2
  have hc := check_no K N T h hN (u7) (hw.below H_10.out)
  unfold valV at hc
  refine hc.mono ?_
  rintro e u8 ⟨rfl, hb⟩
  clear hc
  have Bv_11 := Lib.hid (Bv_10.out.below hb Bv_10.out.lt)
  have Bu_11 := Lib.hid (Bu_10.out.below hb Bu_10.out.lt)
  have Ba_11 := Lib.hid (Ba_10.out.below hb Ba_10.out.lt)
  have H_11 := Lib.hid (H_10.out.trans (hb.mono H_10.out.size))
  clear hb H_10 Bv_10 Bu_10 Ba_10
  go_wp2_with fail
  go_ret
  exact ⟨rfl, H_11.out⟩

set_option maxHeartbeats 8000000 in
theorem back_nou_a (K N K' N' : Int) (T T' s : List UInt8) (hy : T'.length ≤ 800) (hs : s.length ≤ 800) (z : Int) (hz : Few z) (hsz0 : s = Lib.itoa z) (x : Int) (h : IsNum K N T x) (hn : ∀ z, ¬ IsNum K' N' T' z) (hN' : In64Z N') (w : World) (hw : Wd w) :
    Calls Tryz.prog 6 #[valV K N T, valV K' N' T', .string ⟨s.toArray⟩] w fun e w' => e = .returned (.bool true) ∧ Below w.heap.size w w' := by
  have hsz : (⟨s.toArray⟩ : ByteArray).size = s.length := by simp [ByteArray.size]
  have dl : decide ((800 : Int) < ((s.length : Nat) : Int)) = false := decide_eq_false (by omega)
  clear hs
  obtain ⟨S0, S1, S2, hs0⟩ := isNum_few hz
  have HS := Lib.hid hsz0
  clear hsz0
  obtain ⟨t, htx⟩ : ∃ t, t = Lib.itoa x := ⟨_, rfl⟩
  obtain ⟨dn, hdn⟩ : ∃ d, Lib.nDigits x.natAbs = d := ⟨_, rfl⟩
  have HT := Lib.hid htx
  have HD := Lib.hid hdn
  clear htx hdn
  have hx : T.length ≤ 800 := by have := h.len; omega
  obtain ⟨p, hp⟩ : ∃ p, decide (0 < x) = p := ⟨_, rfl⟩
  have H_0 := Lib.hid (Below.refl w.heap.size w)
  unfold valV
  go_enter Tryz.func6, Tryz.ntmps6
  have hb : Below (w).heap.size (w) ((w).alloc (.cells #[.int .i64 K, .int .i64 N, .string ⟨T.toArray⟩] 23)) := (Below.refl _ (w)).alloc (Nat.le_refl _) _
  have Bnew := VB.new (w) (.int .i64 K) (.int .i64 N) (.string ⟨T.toArray⟩)
  try simp only [World.size_alloc] at Bnew
  have H_1 := Lib.hid (H_0.out.trans (hb.mono H_0.out.size))
  clear hb H_0
  have Bv_1 := Lib.hid Bnew
  clear Bnew
  have hb : Below ((w).alloc (.cells #[.int .i64 K, .int .i64 N, .string ⟨T.toArray⟩] 23)).heap.size ((w).alloc (.cells #[.int .i64 K, .int .i64 N, .string ⟨T.toArray⟩] 23)) (((w).alloc (.cells #[.int .i64 K, .int .i64 N, .string ⟨T.toArray⟩] 23)).alloc (.cells #[.int .i64 K', .int .i64 N', .string ⟨T'.toArray⟩] 23)) := (Below.refl _ ((w).alloc (.cells #[.int .i64 K, .int .i64 N, .string ⟨T.toArray⟩] 23))).alloc (Nat.le_refl _) _
  have Bnew := VB.new ((w).alloc (.cells #[.int .i64 K, .int .i64 N, .string ⟨T.toArray⟩] 23)) (.int .i64 K') (.int .i64 N') (.string ⟨T'.toArray⟩)
  try simp only [World.size_alloc] at Bnew
  have Bv_2 := Lib.hid (Bv_1.out.below hb Bv_1.out.lt)
  have H_2 := Lib.hid (H_1.out.trans (hb.mono H_1.out.size))
  clear hb H_1 Bv_1
  have Bu_2 := Lib.hid Bnew
  clear Bnew
  go_wp2_with fail
  have hc := awake_c (((w).alloc (.cells #[.int .i64 K, .int .i64 N, .string ⟨T.toArray⟩] 23)).alloc (.cells #[.int .i64 K', .int .i64 N', .string ⟨T'.toArray⟩] 23)) (hw.below H_2.out)
  unfold valV at hc
  refine hc.mono ?_
  rintro e u1 ⟨rfl, hb⟩
  clear hc
  have Bv_3 := Lib.hid (Bv_2.out.below hb Bv_2.out.lt)
  have Bu_3 := Lib.hid (Bu_2.out.below hb Bu_2.out.lt)
  have H_3 := Lib.hid (H_2.out.trans (hb.mono H_2.out.size))
  clear hb H_2 Bv_2 Bu_2
  have qv0 := Bv_3.out.c0
  have qv1 := Bv_3.out.c1
  have qv2 := Bv_3.out.c2
  go_wp2_with fail
  clear qv0 qv1 qv2
  have hc := short_yes K N T hx (u1)
  unfold valV at hc
  refine hc.mono ?_
  rintro e u2 ⟨rfl, hb⟩
  clear hc
  have Bv_4 := Lib.hid (Bv_3.out.below hb Bv_3.out.lt)
  have Bu_4 := Lib.hid (Bu_3.out.below hb Bu_3.out.lt)
  have H_4 := Lib.hid (H_3.out.trans (hb.mono H_3.out.size))
  clear hb H_3 Bv_3 Bu_3
  have qu0 := Bu_4.out.c0
  have qu1 := Bu_4.out.c1
  have qu2 := Bu_4.out.c2
  go_wp2_with fail
  clear qu0 qu1 qu2
  have hc := short_yes K' N' T' hy (u2)
  unfold valV at hc
  refine hc.mono ?_
  rintro e u3 ⟨rfl, hb⟩
  clear hc
  have Bv_5 := Lib.hid (Bv_4.out.below hb Bv_4.out.lt)
  have Bu_5 := Lib.hid (Bu_4.out.below hb Bu_4.out.lt)
  have H_5 := Lib.hid (H_4.out.trans (hb.mono H_4.out.size))
  clear hb H_4 Bv_4 Bu_4
  go_wp2_with fail
  have hc := Of_num HS.out hs0 (u3) (hw.below H_5.out)
  unfold valV at hc
  refine hc.mono ?_
  rintro e u4 ⟨rfl, hb⟩
  clear hc
  have Bv_6 := Lib.hid (Bv_5.out.below hb Bv_5.out.lt)
  have Bu_6 := Lib.hid (Bu_5.out.below hb Bu_5.out.lt)
  have H_6 := Lib.hid (H_5.out.trans (hb.mono H_5.out.size))
  clear hb H_5 Bv_5 Bu_5
  have hb : Below (u4).heap.size (u4) ((u4).alloc (.cells #[.int .i64 S0, .int .i64 S1, .string ⟨S2.toArray⟩] 23)) := (Below.refl _ (u4)).alloc (Nat.le_refl _) _
  have Bnew := VB.new (u4) (.int .i64 S0) (.int .i64 S1) (.string ⟨S2.toArray⟩)
  try simp only [World.size_alloc] at Bnew
  have Bv_7 := Lib.hid (Bv_6.out.below hb Bv_6.out.lt)
  have Bu_7 := Lib.hid (Bu_6.out.below hb Bu_6.out.lt)
  have H_7 := Lib.hid (H_6.out.trans (hb.mono H_6.out.size))
  clear hb H_6 Bv_6 Bu_6
  have Ba_7 := Lib.hid Bnew
  clear Bnew
  have qa0 := Ba_7.out.c0
  have qa1 := Ba_7.out.c1
  have qa2 := Ba_7.out.c2
  go_wp2_with fail
  clear qa0 qa1 qa2
  have hc := Text_num hs0 HS.out ((u4).alloc (.cells #[.int .i64 S0, .int .i64 S1, .string ⟨S2.toArray⟩] 23)) (hw.below H_7.out)
  unfold valV at hc
  refine hc.mono ?_
  rintro e u5 ⟨rfl, hb⟩
  clear hc
  have Bv_8 := Lib.hid (Bv_7.out.below hb Bv_7.out.lt)
  have Bu_8 := Lib.hid (Bu_7.out.below hb Bu_7.out.lt)
  have Ba_8 := Lib.hid (Ba_7.out.below hb Ba_7.out.lt)
  have H_8 := Lib.hid (H_7.out.trans (hb.mono H_7.out.size))
  clear hb H_7 Bv_7 Bu_7 Ba_7
  have qa0 := Ba_8.out.c0
  have qa1 := Ba_8.out.c1
  have qa2 := Ba_8.out.c2
  go_wp2_with fail
  clear qa0 qa1 qa2
  have hc := check_ok S0 S1 z S2 hs0 (u5) (hw.below H_8.out)
  unfold valV at hc
  refine hc.mono ?_
  rintro e u6 ⟨rfl, hb⟩
  clear hc
  have Bv_9 := Lib.hid (Bv_8.out.below hb Bv_8.out.lt)
  have Bu_9 := Lib.hid (Bu_8.out.below hb Bu_8.out.lt)
  have Ba_9 := Lib.hid (Ba_8.out.below hb Ba_8.out.lt)
  have H_9 := Lib.hid (H_8.out.trans (hb.mono H_8.out.size))
  clear hb H_8 Bv_8 Bu_8 Ba_8
  have qv0 := Bv_9.out.c0
  have qv1 := Bv_9.out.c1
  have qv2 := Bv_9.out.c2
  go_wp2_with fail
  clear qv0 qv1 qv2
  have hc := Text_num h HT.out (u6) (hw.below H_9.out)
  unfold valV at hc
  refine hc.mono ?_
  rintro e u7 ⟨rfl, hb⟩
  clear hc
  have Bv_10 := Lib.hid (Bv_9.out.below hb Bv_9.out.lt)
  have Bu_10 := Lib.hid (Bu_9.out.below hb Bu_9.out.lt)
  have Ba_10 := Lib.hid (Ba_9.out.below hb Ba_9.out.lt)
  have H_10 := Lib.hid (H_9.out.trans (hb.mono H_9.out.size))
  clear hb H_9 Bv_9 Bu_9 Ba_9
  go_wp2_with fail
  have hc := Of_num HT.out h (u7) (hw.below H_10.out)
  unfold valV at hc
  refine hc.mono ?_
  rintro e u8 ⟨rfl, hb⟩
  clear hc
  have Bv_11 := Lib.hid (Bv_10.out.below hb Bv_10.out.lt)
  have Bu_11 := Lib.hid (Bu_10.out.below hb Bu_10.out.lt)
  have Ba_11 := Lib.hid (Ba_10.out.below hb Ba_10.out.lt)
  have H_11 := Lib.hid (H_10.out.trans (hb.mono H_10.out.size))
  clear hb H_10 Bv_10 Bu_10 Ba_10
  have hb : Below (u8).heap.size (u8) ((u8).alloc (.cells #[.int .i64 K, .int .i64 N, .string ⟨T.toArray⟩] 23)) := (Below.refl _ (u8)).alloc (Nat.le_refl _) _
  have Bnew := VB.new (u8) (.int .i64 K) (.int .i64 N) (.string ⟨T.toArray⟩)
  try simp only [World.size_alloc] at Bnew
  have Bv_12 := Lib.hid (Bv_11.out.below hb Bv_11.out.lt)
  have Bu_12 := Lib.hid (Bu_11.out.below hb Bu_11.out.lt)
  have Ba_12 := Lib.hid (Ba_11.out.below hb Ba_11.out.lt)
  have H_12 := Lib.hid (H_11.out.trans (hb.mono H_11.out.size))
  clear hb H_11 Bv_11 Bu_11 Ba_11
  have Bb_12 := Lib.hid Bnew
  clear Bnew
  have qv0 := Bv_12.out.c0
  have qv1 := Bv_12.out.c1
  have qv2 := Bv_12.out.c2
  go_wp2_with fail
  clear qv0 qv1 qv2
  have hc := Digits_num h HD.out ((u8).alloc (.cells #[.int .i64 K, .int .i64 N, .string ⟨T.toArray⟩] 23)) (hw.below H_12.out)
  unfold valV at hc
  refine hc.mono ?_
  rintro e u9 ⟨rfl, hb⟩
  clear hc
  have Bv_13 := Lib.hid (Bv_12.out.below hb Bv_12.out.lt)
  have Bu_13 := Lib.hid (Bu_12.out.below hb Bu_12.out.lt)
  have Ba_13 := Lib.hid (Ba_12.out.below hb Ba_12.out.lt)
  have Bb_13 := Lib.hid (Bb_12.out.below hb Bb_12.out.lt)
  have H_13 := Lib.hid (H_12.out.trans (hb.mono H_12.out.size))
  clear hb H_12 Bv_12 Bu_12 Ba_12 Bb_12
  have qu0 := Bu_13.out.c0
  have qu1 := Bu_13.out.c1
  have qu2 := Bu_13.out.c2
  go_wp2_with fail
  clear qu0 qu1 qu2
  have hc := Digits_no K' N' T' hn hN' (u9) (hw.below H_13.out)
  unfold valV at hc
  refine hc.mono ?_
  rintro e u10 ⟨rfl, hb⟩
  clear hc
  have Bv_14 := Lib.hid (Bv_13.out.below hb Bv_13.out.lt)
  have Bu_14 := Lib.hid (Bu_13.out.below hb Bu_13.out.lt)
  have Ba_14 := Lib.hid (Ba_13.out.below hb Ba_13.out.lt)
  have Bb_14 := Lib.hid (Bb_13.out.below hb Bb_13.out.lt)
  have H_14 := Lib.hid (H_13.out.trans (hb.mono H_13.out.size))
  clear hb H_13 Bv_13 Bu_13 Ba_13 Bb_13
  have qv0 := Bv_14.out.c0
  have qv1 := Bv_14.out.c1
  have qv2 := Bv_14.out.c2
  have qu0 := Bu_14.out.c0
  have qu1 := Bu_14.out.c1
  have qu2 := Bu_14.out.c2
  have qb0 := Bb_14.out.c0
  have qb1 := Bb_14.out.c1
  have qb2 := Bb_14.out.c2
  go_wp2_with fail
  clear qv0 qv1 qv2 qu0 qu1 qu2 qb0 qb1 qb2
  have hc := Less_no K N K' N' T T' (.inr hn) h.in64 hN' (u10) (hw.below H_14.out)
  unfold valV at hc
  refine hc.mono ?_
  rintro e u11 ⟨rfl, hb⟩
  clear hc
  have Bv_15 := Lib.hid (Bv_14.out.below hb Bv_14.out.lt)
  have Bu_15 := Lib.hid (Bu_14.out.below hb Bu_14.out.lt)
  have Ba_15 := Lib.hid (Ba_14.out.below hb Ba_14.out.lt)
  have Bb_15 := Lib.hid (Bb_14.out.below hb Bb_14.out.lt)
  have H_15 := Lib.hid (H_14.out.trans (hb.mono H_14.out.size))
  clear hb H_14 Bv_14 Bu_14 Ba_14 Bb_14
  go_upto_region 18 with fail
  have HU := Lib.hid (hw.below H_15.out)
  refine region_grown (by kernel_rfl) ?_
  apply quiet_wanted
  · go_simp
  · intro W hW; unfold Oper.quietAt; go_simp; have hc := number_c 0 W; unfold valV at hc; exact hc.mono fun e w' hr => ⟨hr.1, Grown.trans hW hr.2⟩
  (try simp only [Act.put, List.setIfInBounds_toArray, List.set_cons_zero, List.set_cons_succ])
  apply quiet_wanted
  · go_simp
  · intro W hW; have hV := Bv_15.out.below hW Bv_15.out.lt; have c0 := hV.c0; have c1 := hV.c1; have c2 := hV.c2; clear hV; unfold Oper.quietAt; go_simp; (try exact ⟨rfl, rfl⟩); (try rfl)
  (try simp only [Act.put, List.setIfInBounds_toArray, List.set_cons_zero, List.set_cons_succ])
  apply quiet_wanted
  · go_simp
  · intro W hW; unfold Oper.quietAt; go_simp; have hc := Less_num isNum_zero h p hp W (HU.out.below hW); unfold valV at hc; exact hc.mono fun e w' hr => ⟨hr.1, Grown.trans hW hr.2⟩
  (try simp only [Act.put, List.setIfInBounds_toArray, List.set_cons_zero, List.set_cons_succ])
  apply quiet_wanted
  · go_simp
  · intro W hW; unfold Oper.quietAt; go_simp; (try exact ⟨rfl, rfl⟩); (try rfl)
  (try simp only [Act.put, List.setIfInBounds_toArray, List.set_cons_zero, List.set_cons_succ])
  apply quiet_wanted
  · go_simp
  · intro W hW; unfold Oper.quietAt; go_simp; (try exact ⟨rfl, rfl⟩); (try rfl)
  (try simp only [Act.put, List.setIfInBounds_toArray, List.set_cons_zero, List.set_cons_succ])
  apply quiet_wanted
  · go_simp
  · intro W hW; unfold Oper.quietAt; go_simp; (try exact ⟨rfl, rfl⟩); (try rfl)
  (try simp only [Act.put, List.setIfInBounds_toArray, List.set_cons_zero, List.set_cons_succ])
  apply quiet_wanted
  · go_simp
  · intro W hW; unfold Oper.quietAt; go_simp; (try exact ⟨rfl, rfl⟩); (try rfl)
  (try simp only [Act.put, List.setIfInBounds_toArray, List.set_cons_zero, List.set_cons_succ])
  apply quiet_wanted
  · go_simp
  · intro W hW; unfold Oper.quietAt; go_simp; (try exact ⟨rfl, rfl⟩); (try rfl)
  (try simp only [Act.put, List.setIfInBounds_toArray, List.set_cons_zero, List.set_cons_succ])
  refine wpQuiet_nil ?_
  intro u12 hb
  unfold Grown at hb
  have Bv_16 := Lib.hid (Bv_15.out.below hb Bv_15.out.lt)
  have Bu_16 := Lib.hid (Bu_15.out.below hb Bu_15.out.lt)
  have Ba_16 := Lib.hid (Ba_15.out.below hb Ba_15.out.lt)
  have Bb_16 := Lib.hid (Bb_15.out.below hb Bb_15.out.lt)
  have H_16 := Lib.hid (H_15.out.trans (hb.mono H_15.out.size))
  clear hb H_15 Bv_15 Bu_15 Ba_15 Bb_15
  go_wp2_with fail
  go_ret
  exact ⟨rfl, H_16.out⟩

set_option maxHeartbeats 8000000 in
theorem back_num_a (K N K' N' : Int) (T T' s : List UInt8) (hs : s.length ≤ 800) (z : Int) (hz : Few z) (hsz0 : s = Lib.itoa z) (x y : Int) (h : IsNum K N T x) (h' : IsNum K' N' T' y) (w : World) (hw : Wd w) :
    Calls Tryz.prog 6 #[valV K N T, valV K' N' T', .string ⟨s.toArray⟩] w fun e w' => e = .returned (.bool true) ∧ Below w.heap.size w w' := by
  have hsz : (⟨s.toArray⟩ : ByteArray).size = s.length := by simp [ByteArray.size]
  have dl : decide ((800 : Int) < ((s.length : Nat) : Int)) = false := decide_eq_false (by omega)
  clear hs
  obtain ⟨S0, S1, S2, hs0⟩ := isNum_few hz
  have HS := Lib.hid hsz0
  clear hsz0
  obtain ⟨t, htx⟩ : ∃ t, t = Lib.itoa x := ⟨_, rfl⟩
  obtain ⟨dn, hdn⟩ : ∃ d, Lib.nDigits x.natAbs = d := ⟨_, rfl⟩
  have HT := Lib.hid htx
  have HD := Lib.hid hdn
  clear htx hdn
  have hx : T.length ≤ 800 := by have := h.len; omega
  obtain ⟨p, hp⟩ : ∃ p, decide (0 < x) = p := ⟨_, rfl⟩
  obtain ⟨b, hb⟩ : ∃ b, decide (x < y) = b := ⟨_, rfl⟩
  obtain ⟨dm, hdm⟩ : ∃ d, Lib.nDigits y.natAbs = d := ⟨_, rfl⟩
  have HM := Lib.hid hdm
  have HP := Lib.hid hp
  have HB := Lib.hid hb
  clear hdm hp hb
  have hy : T'.length ≤ 800 := by have := h'.len; omega
  have hlt := h'.len
  have HC := Lib.hid (back_cases h' HP.out HB.out HD.out HM.out)
  have H_0 := Lib.hid (Below.refl w.heap.size w)
  unfold valV
  go_enter Tryz.func6, Tryz.ntmps6
  have hb : Below (w).heap.size (w) ((w).alloc (.cells #[.int .i64 K, .int .i64 N, .string ⟨T.toArray⟩] 23)) := (Below.refl _ (w)).alloc (Nat.le_refl _) _
  have Bnew := VB.new (w) (.int .i64 K) (.int .i64 N) (.string ⟨T.toArray⟩)
  try simp only [World.size_alloc] at Bnew
  have H_1 := Lib.hid (H_0.out.trans (hb.mono H_0.out.size))
  clear hb H_0
  have Bv_1 := Lib.hid Bnew
  clear Bnew
  have hb : Below ((w).alloc (.cells #[.int .i64 K, .int .i64 N, .string ⟨T.toArray⟩] 23)).heap.size ((w).alloc (.cells #[.int .i64 K, .int .i64 N, .string ⟨T.toArray⟩] 23)) (((w).alloc (.cells #[.int .i64 K, .int .i64 N, .string ⟨T.toArray⟩] 23)).alloc (.cells #[.int .i64 K', .int .i64 N', .string ⟨T'.toArray⟩] 23)) := (Below.refl _ ((w).alloc (.cells #[.int .i64 K, .int .i64 N, .string ⟨T.toArray⟩] 23))).alloc (Nat.le_refl _) _
  have Bnew := VB.new ((w).alloc (.cells #[.int .i64 K, .int .i64 N, .string ⟨T.toArray⟩] 23)) (.int .i64 K') (.int .i64 N') (.string ⟨T'.toArray⟩)
  try simp only [World.size_alloc] at Bnew
  have Bv_2 := Lib.hid (Bv_1.out.below hb Bv_1.out.lt)
  have H_2 := Lib.hid (H_1.out.trans (hb.mono H_1.out.size))
  clear hb H_1 Bv_1
  have Bu_2 := Lib.hid Bnew
  clear Bnew
  go_wp2_with fail
  have hc := awake_c (((w).alloc (.cells #[.int .i64 K, .int .i64 N, .string ⟨T.toArray⟩] 23)).alloc (.cells #[.int .i64 K', .int .i64 N', .string ⟨T'.toArray⟩] 23)) (hw.below H_2.out)
  unfold valV at hc
  refine hc.mono ?_
  rintro e u1 ⟨rfl, hb⟩
  clear hc
  have Bv_3 := Lib.hid (Bv_2.out.below hb Bv_2.out.lt)
  have Bu_3 := Lib.hid (Bu_2.out.below hb Bu_2.out.lt)
  have H_3 := Lib.hid (H_2.out.trans (hb.mono H_2.out.size))
  clear hb H_2 Bv_2 Bu_2
  have qv0 := Bv_3.out.c0
  have qv1 := Bv_3.out.c1
  have qv2 := Bv_3.out.c2
  go_wp2_with fail
  clear qv0 qv1 qv2
  have hc := short_yes K N T hx (u1)
  unfold valV at hc
  refine hc.mono ?_
  rintro e u2 ⟨rfl, hb⟩
  clear hc
  have Bv_4 := Lib.hid (Bv_3.out.below hb Bv_3.out.lt)
  have Bu_4 := Lib.hid (Bu_3.out.below hb Bu_3.out.lt)
  have H_4 := Lib.hid (H_3.out.trans (hb.mono H_3.out.size))
  clear hb H_3 Bv_3 Bu_3
  have qu0 := Bu_4.out.c0
  have qu1 := Bu_4.out.c1
  have qu2 := Bu_4.out.c2
  go_wp2_with fail
  clear qu0 qu1 qu2
  have hc := short_yes K' N' T' hy (u2)
  unfold valV at hc
  refine hc.mono ?_
  rintro e u3 ⟨rfl, hb⟩
  clear hc
  have Bv_5 := Lib.hid (Bv_4.out.below hb Bv_4.out.lt)
  have Bu_5 := Lib.hid (Bu_4.out.below hb Bu_4.out.lt)
  have H_5 := Lib.hid (H_4.out.trans (hb.mono H_4.out.size))
  clear hb H_4 Bv_4 Bu_4
  go_wp2_with fail
  have hc := Of_num HS.out hs0 (u3) (hw.below H_5.out)
  unfold valV at hc
  refine hc.mono ?_
  rintro e u4 ⟨rfl, hb⟩
  clear hc
  have Bv_6 := Lib.hid (Bv_5.out.below hb Bv_5.out.lt)
  have Bu_6 := Lib.hid (Bu_5.out.below hb Bu_5.out.lt)
  have H_6 := Lib.hid (H_5.out.trans (hb.mono H_5.out.size))
  clear hb H_5 Bv_5 Bu_5
  have hb : Below (u4).heap.size (u4) ((u4).alloc (.cells #[.int .i64 S0, .int .i64 S1, .string ⟨S2.toArray⟩] 23)) := (Below.refl _ (u4)).alloc (Nat.le_refl _) _
  have Bnew := VB.new (u4) (.int .i64 S0) (.int .i64 S1) (.string ⟨S2.toArray⟩)
  try simp only [World.size_alloc] at Bnew
  have Bv_7 := Lib.hid (Bv_6.out.below hb Bv_6.out.lt)
  have Bu_7 := Lib.hid (Bu_6.out.below hb Bu_6.out.lt)
  have H_7 := Lib.hid (H_6.out.trans (hb.mono H_6.out.size))
  clear hb H_6 Bv_6 Bu_6
  have Ba_7 := Lib.hid Bnew
  clear Bnew
  have qa0 := Ba_7.out.c0
  have qa1 := Ba_7.out.c1
  have qa2 := Ba_7.out.c2
  go_wp2_with fail
  clear qa0 qa1 qa2
  have hc := Text_num hs0 HS.out ((u4).alloc (.cells #[.int .i64 S0, .int .i64 S1, .string ⟨S2.toArray⟩] 23)) (hw.below H_7.out)
  unfold valV at hc
  refine hc.mono ?_
  rintro e u5 ⟨rfl, hb⟩
  clear hc
  have Bv_8 := Lib.hid (Bv_7.out.below hb Bv_7.out.lt)
  have Bu_8 := Lib.hid (Bu_7.out.below hb Bu_7.out.lt)
  have Ba_8 := Lib.hid (Ba_7.out.below hb Ba_7.out.lt)
  have H_8 := Lib.hid (H_7.out.trans (hb.mono H_7.out.size))
  clear hb H_7 Bv_7 Bu_7 Ba_7
  have qa0 := Ba_8.out.c0
  have qa1 := Ba_8.out.c1
  have qa2 := Ba_8.out.c2
  go_wp2_with fail
  clear qa0 qa1 qa2
  have hc := check_ok S0 S1 z S2 hs0 (u5) (hw.below H_8.out)
  unfold valV at hc
  refine hc.mono ?_
  rintro e u6 ⟨rfl, hb⟩
  clear hc
  have Bv_9 := Lib.hid (Bv_8.out.below hb Bv_8.out.lt)
  have Bu_9 := Lib.hid (Bu_8.out.below hb Bu_8.out.lt)
  have Ba_9 := Lib.hid (Ba_8.out.below hb Ba_8.out.lt)
  have H_9 := Lib.hid (H_8.out.trans (hb.mono H_8.out.size))
  clear hb H_8 Bv_8 Bu_8 Ba_8
  have qv0 := Bv_9.out.c0
  have qv1 := Bv_9.out.c1
  have qv2 := Bv_9.out.c2
  go_wp2_with fail
  clear qv0 qv1 qv2
  have hc := Text_num h HT.out (u6) (hw.below H_9.out)
  unfold valV at hc
  refine hc.mono ?_
  rintro e u7 ⟨rfl, hb⟩
  clear hc
  have Bv_10 := Lib.hid (Bv_9.out.below hb Bv_9.out.lt)
  have Bu_10 := Lib.hid (Bu_9.out.below hb Bu_9.out.lt)
  have Ba_10 := Lib.hid (Ba_9.out.below hb Ba_9.out.lt)
  have H_10 := Lib.hid (H_9.out.trans (hb.mono H_9.out.size))
  clear hb H_9 Bv_9 Bu_9 Ba_9
  go_wp2_with fail
  have hc := Of_num HT.out h (u7) (hw.below H_10.out)
  unfold valV at hc
  refine hc.mono ?_
  rintro e u8 ⟨rfl, hb⟩
  clear hc
  have Bv_11 := Lib.hid (Bv_10.out.below hb Bv_10.out.lt)
  have Bu_11 := Lib.hid (Bu_10.out.below hb Bu_10.out.lt)
  have Ba_11 := Lib.hid (Ba_10.out.below hb Ba_10.out.lt)
  have H_11 := Lib.hid (H_10.out.trans (hb.mono H_10.out.size))
  clear hb H_10 Bv_10 Bu_10 Ba_10
  have hb : Below (u8).heap.size (u8) ((u8).alloc (.cells #[.int .i64 K, .int .i64 N, .string ⟨T.toArray⟩] 23)) := (Below.refl _ (u8)).alloc (Nat.le_refl _) _
  have Bnew := VB.new (u8) (.int .i64 K) (.int .i64 N) (.string ⟨T.toArray⟩)
  try simp only [World.size_alloc] at Bnew
  have Bv_12 := Lib.hid (Bv_11.out.below hb Bv_11.out.lt)
  have Bu_12 := Lib.hid (Bu_11.out.below hb Bu_11.out.lt)
  have Ba_12 := Lib.hid (Ba_11.out.below hb Ba_11.out.lt)
  have H_12 := Lib.hid (H_11.out.trans (hb.mono H_11.out.size))
  clear hb H_11 Bv_11 Bu_11 Ba_11
  have Bb_12 := Lib.hid Bnew
  clear Bnew
  have qv0 := Bv_12.out.c0
  have qv1 := Bv_12.out.c1
  have qv2 := Bv_12.out.c2
  go_wp2_with fail
  clear qv0 qv1 qv2
  have hc := Digits_num h HD.out ((u8).alloc (.cells #[.int .i64 K, .int .i64 N, .string ⟨T.toArray⟩] 23)) (hw.below H_12.out)
  unfold valV at hc
  refine hc.mono ?_
  rintro e u9 ⟨rfl, hb⟩
  clear hc
  have Bv_13 := Lib.hid (Bv_12.out.below hb Bv_12.out.lt)
  have Bu_13 := Lib.hid (Bu_12.out.below hb Bu_12.out.lt)
  have Ba_13 := Lib.hid (Ba_12.out.below hb Ba_12.out.lt)
  have Bb_13 := Lib.hid (Bb_12.out.below hb Bb_12.out.lt)
  have H_13 := Lib.hid (H_12.out.trans (hb.mono H_12.out.size))
  clear hb H_12 Bv_12 Bu_12 Ba_12 Bb_12
  have qu0 := Bu_13.out.c0
  have qu1 := Bu_13.out.c1
  have qu2 := Bu_13.out.c2
  go_wp2_with fail
  clear qu0 qu1 qu2
  have hc := Digits_num h' HM.out (u9) (hw.below H_13.out)
  unfold valV at hc
  refine hc.mono ?_
  rintro e u10 ⟨rfl, hb⟩
  clear hc
  have Bv_14 := Lib.hid (Bv_13.out.below hb Bv_13.out.lt)
  have Bu_14 := Lib.hid (Bu_13.out.below hb Bu_13.out.lt)
  have Ba_14 := Lib.hid (Ba_13.out.below hb Ba_13.out.lt)
  have Bb_14 := Lib.hid (Bb_13.out.below hb Bb_13.out.lt)
  have H_14 := Lib.hid (H_13.out.trans (hb.mono H_13.out.size))
  clear hb H_13 Bv_13 Bu_13 Ba_13 Bb_13
  have qv0 := Bv_14.out.c0
  have qv1 := Bv_14.out.c1
  have qv2 := Bv_14.out.c2
  have qu0 := Bu_14.out.c0
  have qu1 := Bu_14.out.c1
  have qu2 := Bu_14.out.c2
  have qb0 := Bb_14.out.c0
  have qb1 := Bb_14.out.c1
  have qb2 := Bb_14.out.c2
  go_wp2_with fail
  clear qv0 qv1 qv2 qu0 qu1 qu2 qb0 qb1 qb2
  have hc := Less_num h h' b HB.out (u10) (hw.below H_14.out)
  unfold valV at hc
  refine hc.mono ?_
  rintro e u11 ⟨rfl, hb⟩
  clear hc
  have Bv_15 := Lib.hid (Bv_14.out.below hb Bv_14.out.lt)
  have Bu_15 := Lib.hid (Bu_14.out.below hb Bu_14.out.lt)
  have Ba_15 := Lib.hid (Ba_14.out.below hb Ba_14.out.lt)
  have Bb_15 := Lib.hid (Bb_14.out.below hb Bb_14.out.lt)
  have H_15 := Lib.hid (H_14.out.trans (hb.mono H_14.out.size))
  clear hb H_14 Bv_14 Bu_14 Ba_14 Bb_14
  go_upto_region 18 with fail
  have HU := Lib.hid (hw.below H_15.out)
  refine region_grown (by kernel_rfl) ?_
  apply quiet_wanted
  · go_simp
  · intro W hW; unfold Oper.quietAt; go_simp; have hc := number_c 0 W; unfold valV at hc; exact hc.mono fun e w' hr => ⟨hr.1, Grown.trans hW hr.2⟩
  (try simp only [Act.put, List.setIfInBounds_toArray, List.set_cons_zero, List.set_cons_succ])
  apply quiet_wanted
  · go_simp
  · intro W hW; have hV := Bv_15.out.below hW Bv_15.out.lt; have c0 := hV.c0; have c1 := hV.c1; have c2 := hV.c2; clear hV; unfold Oper.quietAt; go_simp; (try exact ⟨rfl, rfl⟩); (try rfl)
  (try simp only [Act.put, List.setIfInBounds_toArray, List.set_cons_zero, List.set_cons_succ])
  apply quiet_wanted
  · go_simp
  · intro W hW; unfold Oper.quietAt; go_simp; have hc := Less_num isNum_zero h p HP.out W (HU.out.below hW); unfold valV at hc; exact hc.mono fun e w' hr => ⟨hr.1, Grown.trans hW hr.2⟩
  (try simp only [Act.put, List.setIfInBounds_toArray, List.set_cons_zero, List.set_cons_succ])
  apply quiet_wanted
  · go_simp
  · intro W hW; unfold Oper.quietAt; go_simp; (try exact ⟨rfl, rfl⟩); (try rfl)
  (try simp only [Act.put, List.setIfInBounds_toArray, List.set_cons_zero, List.set_cons_succ])
  apply quiet_wanted
  · go_simp
  · intro W hW; unfold Oper.quietAt; go_simp; (try exact ⟨rfl, rfl⟩); (try rfl)
  (try simp only [Act.put, List.setIfInBounds_toArray, List.set_cons_zero, List.set_cons_succ])
  apply quiet_wanted
  · go_simp
  · intro W hW; unfold Oper.quietAt; go_simp; (try exact ⟨rfl, rfl⟩); (try rfl)
  (try simp only [Act.put, List.setIfInBounds_toArray, List.set_cons_zero, List.set_cons_succ])
  apply quiet_wanted
  · go_simp
  · intro W hW; unfold Oper.quietAt; go_simp; (try exact ⟨rfl, rfl⟩); (try rfl)
  (try simp only [Act.put, List.setIfInBounds_toArray, List.set_cons_zero, List.set_cons_succ])
  apply quiet_wanted
  · go_simp
  · intro W hW; unfold Oper.quietAt; go_simp; (try exact ⟨rfl, rfl⟩); (try rfl)
  (try simp only [Act.put, List.setIfInBounds_toArray, List.set_cons_zero, List.set_cons_succ])
  refine wpQuiet_nil ?_
  intro u12 hb
  unfold Grown at hb
  have Bv_16 := Lib.hid (Bv_15.out.below hb Bv_15.out.lt)
  have Bu_16 := Lib.hid (Bu_15.out.below hb Bu_15.out.lt)
  have Ba_16 := Lib.hid (Ba_15.out.below hb Ba_15.out.lt)
  have Bb_16 := Lib.hid (Bb_15.out.below hb Bb_15.out.lt)
  have H_16 := Lib.hid (H_15.out.trans (hb.mono H_15.out.size))
  clear hb H_15 Bv_15 Bu_15 Ba_15 Bb_15
  rcases HC.out with rfl | ⟨rfl, hc⟩ | ⟨rfl, hc, rfl⟩ | ⟨rfl, hc, rfl, rfl, hn⟩ | ⟨rfl, hc, rfl, rfl, r, hr⟩
  · go_wp2_with fail
    go_ret
    exact ⟨rfl, H_16.out⟩
  · have hcn : dm ≤ dn := by have := of_decide_eq_true hc; omega
    have hcd : decide (dm ≤ dn) = true := decide_eq_true hcn
    go_wp2_with fail
    go_ret
    exact ⟨rfl, H_16.out⟩
  · have hcn : dn < dm := by have := of_decide_eq_false hc; omega
    have hcd : decide (dm ≤ dn) = false := decide_eq_false (by omega)
    have hcd2 : decide (dn < dm) = true := decide_eq_true hcn
    go_wp2_with fail
    go_ret
    exact ⟨rfl, H_16.out⟩
  · have hcn : dn < dm := by have := of_decide_eq_false hc; omega
    have hcd : decide (dm ≤ dn) = false := decide_eq_false (by omega)
    have hcd2 : decide (dn < dm) = true := decide_eq_true hcn
    have qu0 := Bu_16.out.c0
    have qu1 := Bu_16.out.c1
    have qu2 := Bu_16.out.c2
    go_wp2_with fail
    go_ret
    exact ⟨rfl, H_16.out⟩
  · have hcn : dn < dm := by have := of_decide_eq_false hc; omega
    have hcd : decide (dm ≤ dn) = false := decide_eq_false (by omega)
    have hcd2 : decide (dn < dm) = true := decide_eq_true hcn
    subst hr
    have hsz2 : (⟨((45 : UInt8) :: r).toArray⟩ : ByteArray).size = r.length + 1 := by simp [ByteArray.size]
    have hget : ∀ h, (⟨((45 : UInt8) :: r).toArray⟩ : ByteArray)[0]'h = 45 := fun _ => rfl
    rw [List.length_cons] at hlt
    have qu0 := Bu_16.out.c0
    have qu1 := Bu_16.out.c1
    have qu2 := Bu_16.out.c2
    go_wp2_with fail
    go_ret
    exact ⟨rfl, H_16.out⟩

set_option maxHeartbeats 8000000 in
theorem back_no_b (K N K' N' : Int) (T T' s : List UInt8) (hx : T.length ≤ 800) (hy : T'.length ≤ 800) (hs : s.length ≤ 800) (hno : Bg.okT s = false) (h : ∀ z, ¬ IsNum K N T z) (hN : In64Z N) (w : World) (hw : Wd w) :
    Calls Tryz.prog 6 #[valV K N T, valV K' N' T', .string ⟨s.toArray⟩] w fun e w' => e = .returned (.bool true) ∧ Below w.heap.size w w' := by
  have hsz : (⟨s.toArray⟩ : ByteArray).size = s.length := by simp [ByteArray.size]
  have dl : decide ((800 : Int) < ((s.length : Nat) : Int)) = false := decide_eq_false (by omega)
  clear hs
  have H_0 := Lib.hid (Below.refl w.heap.size w)
  unfold valV
  go_enter Tryz.func6, Tryz.ntmps6
  have hb : Below (w).heap.size (w) ((w).alloc (.cells #[.int .i64 K, .int .i64 N, .string ⟨T.toArray⟩] 23)) := (Below.refl _ (w)).alloc (Nat.le_refl _) _
  have Bnew := VB.new (w) (.int .i64 K) (.int .i64 N) (.string ⟨T.toArray⟩)
  try simp only [World.size_alloc] at Bnew
  have H_1 := Lib.hid (H_0.out.trans (hb.mono H_0.out.size))
  clear hb H_0
  have Bv_1 := Lib.hid Bnew
  clear Bnew
  have hb : Below ((w).alloc (.cells #[.int .i64 K, .int .i64 N, .string ⟨T.toArray⟩] 23)).heap.size ((w).alloc (.cells #[.int .i64 K, .int .i64 N, .string ⟨T.toArray⟩] 23)) (((w).alloc (.cells #[.int .i64 K, .int .i64 N, .string ⟨T.toArray⟩] 23)).alloc (.cells #[.int .i64 K', .int .i64 N', .string ⟨T'.toArray⟩] 23)) := (Below.refl _ ((w).alloc (.cells #[.int .i64 K, .int .i64 N, .string ⟨T.toArray⟩] 23))).alloc (Nat.le_refl _) _
  have Bnew := VB.new ((w).alloc (.cells #[.int .i64 K, .int .i64 N, .string ⟨T.toArray⟩] 23)) (.int .i64 K') (.int .i64 N') (.string ⟨T'.toArray⟩)
  try simp only [World.size_alloc] at Bnew
  have Bv_2 := Lib.hid (Bv_1.out.below hb Bv_1.out.lt)
  have H_2 := Lib.hid (H_1.out.trans (hb.mono H_1.out.size))
  clear hb H_1 Bv_1
  have Bu_2 := Lib.hid Bnew
  clear Bnew
  go_wp2_with fail
  have hc := awake_c (((w).alloc (.cells #[.int .i64 K, .int .i64 N, .string ⟨T.toArray⟩] 23)).alloc (.cells #[.int .i64 K', .int .i64 N', .string ⟨T'.toArray⟩] 23)) (hw.below H_2.out)
  unfold valV at hc
  refine hc.mono ?_
  rintro e u1 ⟨rfl, hb⟩
  clear hc
  have Bv_3 := Lib.hid (Bv_2.out.below hb Bv_2.out.lt)
  have Bu_3 := Lib.hid (Bu_2.out.below hb Bu_2.out.lt)
  have H_3 := Lib.hid (H_2.out.trans (hb.mono H_2.out.size))
  clear hb H_2 Bv_2 Bu_2
  have qv0 := Bv_3.out.c0
  have qv1 := Bv_3.out.c1
  have qv2 := Bv_3.out.c2
  go_wp2_with fail
  clear qv0 qv1 qv2
  have hc := short_yes K N T hx (u1)
  unfold valV at hc
  refine hc.mono ?_
  rintro e u2 ⟨rfl, hb⟩
  clear hc
  have Bv_4 := Lib.hid (Bv_3.out.below hb Bv_3.out.lt)
  have Bu_4 := Lib.hid (Bu_3.out.below hb Bu_3.out.lt)
  have H_4 := Lib.hid (H_3.out.trans (hb.mono H_3.out.size))
  clear hb H_3 Bv_3 Bu_3
  have qu0 := Bu_4.out.c0
  have qu1 := Bu_4.out.c1
  have qu2 := Bu_4.out.c2
  go_wp2_with fail
  clear qu0 qu1 qu2
  have hc := short_yes K' N' T' hy (u2)
  unfold valV at hc
  refine hc.mono ?_
  rintro e u3 ⟨rfl, hb⟩
  clear hc
  have Bv_5 := Lib.hid (Bv_4.out.below hb Bv_4.out.lt)
  have Bu_5 := Lib.hid (Bu_4.out.below hb Bu_4.out.lt)
  have H_5 := Lib.hid (H_4.out.trans (hb.mono H_4.out.size))
  clear hb H_4 Bv_4 Bu_4
  go_wp2_with fail
  have hc := of_no s hno (u3)
  unfold valV at hc
  refine hc.mono ?_
  rintro e u4 ⟨rfl, hb⟩
  clear hc
  have Bv_6 := Lib.hid (Bv_5.out.below hb Bv_5.out.lt)
  have Bu_6 := Lib.hid (Bu_5.out.below hb Bu_5.out.lt)
  have H_6 := Lib.hid (H_5.out.trans (hb.mono H_5.out.size))
  clear hb H_5 Bv_5 Bu_5
  have hb : Below (u4).heap.size (u4) ((u4).alloc (.cells #[.int .i64 0, .int .i64 0, .string ⟨#[]⟩] 23)) := (Below.refl _ (u4)).alloc (Nat.le_refl _) _
  have Bnew := VB.new (u4) (.int .i64 0) (.int .i64 0) (.string ⟨#[]⟩)
  try simp only [World.size_alloc] at Bnew
  have Bv_7 := Lib.hid (Bv_6.out.below hb Bv_6.out.lt)
  have Bu_7 := Lib.hid (Bu_6.out.below hb Bu_6.out.lt)
  have H_7 := Lib.hid (H_6.out.trans (hb.mono H_6.out.size))
  clear hb H_6 Bv_6 Bu_6
  have Ba_7 := Lib.hid Bnew
  clear Bnew
  have qv0 := Bv_7.out.c0
  have qv1 := Bv_7.out.c1
  have qv2 := Bv_7.out.c2
  go_wp2_with fail
  clear qv0 qv1 qv2
  have hc := text_no K N T h hN ((u4).alloc (.cells #[.int .i64 0, .int .i64 0, .string ⟨#[]⟩] 23)) (hw.below H_7.out)
  unfold valV at hc
  refine hc.mono ?_
  rintro e u5 ⟨rfl, hb⟩
  clear hc
  have Bv_8 := Lib.hid (Bv_7.out.below hb Bv_7.out.lt)
  have Bu_8 := Lib.hid (Bu_7.out.below hb Bu_7.out.lt)
  have Ba_8 := Lib.hid (Ba_7.out.below hb Ba_7.out.lt)
  have H_8 := Lib.hid (H_7.out.trans (hb.mono H_7.out.size))
  clear hb H_7 Bv_7 Bu_7 Ba_7
  have qv0 := Bv_8.out.c0
  have qv1 := Bv_8.out.c1
  have qv2 := Bv_8.out.c2
  go_wp2_with fail
  clear qv0 qv1 qv2
  have hc := check_no K N T h hN (u5) (hw.below H_8.out)
  unfold valV at hc
  refine hc.mono ?_
  rintro e u6 ⟨rfl, hb⟩
  clear hc
  have Bv_9 := Lib.hid (Bv_8.out.below hb Bv_8.out.lt)
  have Bu_9 := Lib.hid (Bu_8.out.below hb Bu_8.out.lt)
  have Ba_9 := Lib.hid (Ba_8.out.below hb Ba_8.out.lt)
  have H_9 := Lib.hid (H_8.out.trans (hb.mono H_8.out.size))
  clear hb H_8 Bv_8 Bu_8 Ba_8
  go_wp2_with fail
  go_ret
  exact ⟨rfl, H_9.out⟩

set_option maxHeartbeats 8000000 in
theorem back_nou_b (K N K' N' : Int) (T T' s : List UInt8) (hy : T'.length ≤ 800) (hs : s.length ≤ 800) (hno : Bg.okT s = false) (x : Int) (h : IsNum K N T x) (hn : ∀ z, ¬ IsNum K' N' T' z) (hN' : In64Z N') (w : World) (hw : Wd w) :
    Calls Tryz.prog 6 #[valV K N T, valV K' N' T', .string ⟨s.toArray⟩] w fun e w' => e = .returned (.bool true) ∧ Below w.heap.size w w' := by
  have hsz : (⟨s.toArray⟩ : ByteArray).size = s.length := by simp [ByteArray.size]
  have dl : decide ((800 : Int) < ((s.length : Nat) : Int)) = false := decide_eq_false (by omega)
  clear hs
  obtain ⟨t, htx⟩ : ∃ t, t = Lib.itoa x := ⟨_, rfl⟩
  obtain ⟨dn, hdn⟩ : ∃ d, Lib.nDigits x.natAbs = d := ⟨_, rfl⟩
  have HT := Lib.hid htx
  have HD := Lib.hid hdn
  clear htx hdn
  have hx : T.length ≤ 800 := by have := h.len; omega
  obtain ⟨p, hp⟩ : ∃ p, decide (0 < x) = p := ⟨_, rfl⟩
  have H_0 := Lib.hid (Below.refl w.heap.size w)
  unfold valV
  go_enter Tryz.func6, Tryz.ntmps6
  have hb : Below (w).heap.size (w) ((w).alloc (.cells #[.int .i64 K, .int .i64 N, .string ⟨T.toArray⟩] 23)) := (Below.refl _ (w)).alloc (Nat.le_refl _) _
  have Bnew := VB.new (w) (.int .i64 K) (.int .i64 N) (.string ⟨T.toArray⟩)
  try simp only [World.size_alloc] at Bnew
  have H_1 := Lib.hid (H_0.out.trans (hb.mono H_0.out.size))
  clear hb H_0
  have Bv_1 := Lib.hid Bnew
  clear Bnew
  have hb : Below ((w).alloc (.cells #[.int .i64 K, .int .i64 N, .string ⟨T.toArray⟩] 23)).heap.size ((w).alloc (.cells #[.int .i64 K, .int .i64 N, .string ⟨T.toArray⟩] 23)) (((w).alloc (.cells #[.int .i64 K, .int .i64 N, .string ⟨T.toArray⟩] 23)).alloc (.cells #[.int .i64 K', .int .i64 N', .string ⟨T'.toArray⟩] 23)) := (Below.refl _ ((w).alloc (.cells #[.int .i64 K, .int .i64 N, .string ⟨T.toArray⟩] 23))).alloc (Nat.le_refl _) _
  have Bnew := VB.new ((w).alloc (.cells #[.int .i64 K, .int .i64 N, .string ⟨T.toArray⟩] 23)) (.int .i64 K') (.int .i64 N') (.string ⟨T'.toArray⟩)
  try simp only [World.size_alloc] at Bnew
  have Bv_2 := Lib.hid (Bv_1.out.below hb Bv_1.out.lt)
  have H_2 := Lib.hid (H_1.out.trans (hb.mono H_1.out.size))
  clear hb H_1 Bv_1
  have Bu_2 := Lib.hid Bnew
  clear Bnew
  go_wp2_with fail
  have hc := awake_c (((w).alloc (.cells #[.int .i64 K, .int .i64 N, .string ⟨T.toArray⟩] 23)).alloc (.cells #[.int .i64 K', .int .i64 N', .string ⟨T'.toArray⟩] 23)) (hw.below H_2.out)
  unfold valV at hc
  refine hc.mono ?_
  rintro e u1 ⟨rfl, hb⟩
  clear hc
  have Bv_3 := Lib.hid (Bv_2.out.below hb Bv_2.out.lt)
  have Bu_3 := Lib.hid (Bu_2.out.below hb Bu_2.out.lt)
  have H_3 := Lib.hid (H_2.out.trans (hb.mono H_2.out.size))
  clear hb H_2 Bv_2 Bu_2
  have qv0 := Bv_3.out.c0
  have qv1 := Bv_3.out.c1
  have qv2 := Bv_3.out.c2
  go_wp2_with fail
  clear qv0 qv1 qv2
  have hc := short_yes K N T hx (u1)
  unfold valV at hc
  refine hc.mono ?_
  rintro e u2 ⟨rfl, hb⟩
  clear hc
  have Bv_4 := Lib.hid (Bv_3.out.below hb Bv_3.out.lt)
  have Bu_4 := Lib.hid (Bu_3.out.below hb Bu_3.out.lt)
  have H_4 := Lib.hid (H_3.out.trans (hb.mono H_3.out.size))
  clear hb H_3 Bv_3 Bu_3
  have qu0 := Bu_4.out.c0
  have qu1 := Bu_4.out.c1
  have qu2 := Bu_4.out.c2
  go_wp2_with fail
  clear qu0 qu1 qu2
  have hc := short_yes K' N' T' hy (u2)
  unfold valV at hc
  refine hc.mono ?_
  rintro e u3 ⟨rfl, hb⟩
  clear hc
  have Bv_5 := Lib.hid (Bv_4.out.below hb Bv_4.out.lt)
  have Bu_5 := Lib.hid (Bu_4.out.below hb Bu_4.out.lt)
  have H_5 := Lib.hid (H_4.out.trans (hb.mono H_4.out.size))
  clear hb H_4 Bv_4 Bu_4
  go_wp2_with fail
  have hc := of_no s hno (u3)
  unfold valV at hc
  refine hc.mono ?_
  rintro e u4 ⟨rfl, hb⟩
  clear hc
  have Bv_6 := Lib.hid (Bv_5.out.below hb Bv_5.out.lt)
  have Bu_6 := Lib.hid (Bu_5.out.below hb Bu_5.out.lt)
  have H_6 := Lib.hid (H_5.out.trans (hb.mono H_5.out.size))
  clear hb H_5 Bv_5 Bu_5
  have hb : Below (u4).heap.size (u4) ((u4).alloc (.cells #[.int .i64 0, .int .i64 0, .string ⟨#[]⟩] 23)) := (Below.refl _ (u4)).alloc (Nat.le_refl _) _
  have Bnew := VB.new (u4) (.int .i64 0) (.int .i64 0) (.string ⟨#[]⟩)
  try simp only [World.size_alloc] at Bnew
  have Bv_7 := Lib.hid (Bv_6.out.below hb Bv_6.out.lt)
  have Bu_7 := Lib.hid (Bu_6.out.below hb Bu_6.out.lt)
  have H_7 := Lib.hid (H_6.out.trans (hb.mono H_6.out.size))
  clear hb H_6 Bv_6 Bu_6
  have Ba_7 := Lib.hid Bnew
  clear Bnew
  have qv0 := Bv_7.out.c0
  have qv1 := Bv_7.out.c1
  have qv2 := Bv_7.out.c2
  go_wp2_with fail
  clear qv0 qv1 qv2
  have hc := Text_num h HT.out ((u4).alloc (.cells #[.int .i64 0, .int .i64 0, .string ⟨#[]⟩] 23)) (hw.below H_7.out)
  unfold valV at hc
  refine hc.mono ?_
  rintro e u5 ⟨rfl, hb⟩
  clear hc
  have Bv_8 := Lib.hid (Bv_7.out.below hb Bv_7.out.lt)
  have Bu_8 := Lib.hid (Bu_7.out.below hb Bu_7.out.lt)
  have Ba_8 := Lib.hid (Ba_7.out.below hb Ba_7.out.lt)
  have H_8 := Lib.hid (H_7.out.trans (hb.mono H_7.out.size))
  clear hb H_7 Bv_7 Bu_7 Ba_7
  go_wp2_with fail
  have hc := Of_num HT.out h (u5) (hw.below H_8.out)
  unfold valV at hc
  refine hc.mono ?_
  rintro e u6 ⟨rfl, hb⟩
  clear hc
  have Bv_9 := Lib.hid (Bv_8.out.below hb Bv_8.out.lt)
  have Bu_9 := Lib.hid (Bu_8.out.below hb Bu_8.out.lt)
  have Ba_9 := Lib.hid (Ba_8.out.below hb Ba_8.out.lt)
  have H_9 := Lib.hid (H_8.out.trans (hb.mono H_8.out.size))
  clear hb H_8 Bv_8 Bu_8 Ba_8
  have hb : Below (u6).heap.size (u6) ((u6).alloc (.cells #[.int .i64 K, .int .i64 N, .string ⟨T.toArray⟩] 23)) := (Below.refl _ (u6)).alloc (Nat.le_refl _) _
  have Bnew := VB.new (u6) (.int .i64 K) (.int .i64 N) (.string ⟨T.toArray⟩)
  try simp only [World.size_alloc] at Bnew
  have Bv_10 := Lib.hid (Bv_9.out.below hb Bv_9.out.lt)
  have Bu_10 := Lib.hid (Bu_9.out.below hb Bu_9.out.lt)
  have Ba_10 := Lib.hid (Ba_9.out.below hb Ba_9.out.lt)
  have H_10 := Lib.hid (H_9.out.trans (hb.mono H_9.out.size))
  clear hb H_9 Bv_9 Bu_9 Ba_9
  have Bb_10 := Lib.hid Bnew
  clear Bnew
  have qv0 := Bv_10.out.c0
  have qv1 := Bv_10.out.c1
  have qv2 := Bv_10.out.c2
  go_wp2_with fail
  clear qv0 qv1 qv2
  have hc := Digits_num h HD.out ((u6).alloc (.cells #[.int .i64 K, .int .i64 N, .string ⟨T.toArray⟩] 23)) (hw.below H_10.out)
  unfold valV at hc
  refine hc.mono ?_
  rintro e u7 ⟨rfl, hb⟩
  clear hc
  have Bv_11 := Lib.hid (Bv_10.out.below hb Bv_10.out.lt)
  have Bu_11 := Lib.hid (Bu_10.out.below hb Bu_10.out.lt)
  have Ba_11 := Lib.hid (Ba_10.out.below hb Ba_10.out.lt)
  have Bb_11 := Lib.hid (Bb_10.out.below hb Bb_10.out.lt)
  have H_11 := Lib.hid (H_10.out.trans (hb.mono H_10.out.size))
  clear hb H_10 Bv_10 Bu_10 Ba_10 Bb_10
  have qu0 := Bu_11.out.c0
  have qu1 := Bu_11.out.c1
  have qu2 := Bu_11.out.c2
  go_wp2_with fail
  clear qu0 qu1 qu2
  have hc := Digits_no K' N' T' hn hN' (u7) (hw.below H_11.out)
  unfold valV at hc
  refine hc.mono ?_
  rintro e u8 ⟨rfl, hb⟩
  clear hc
  have Bv_12 := Lib.hid (Bv_11.out.below hb Bv_11.out.lt)
  have Bu_12 := Lib.hid (Bu_11.out.below hb Bu_11.out.lt)
  have Ba_12 := Lib.hid (Ba_11.out.below hb Ba_11.out.lt)
  have Bb_12 := Lib.hid (Bb_11.out.below hb Bb_11.out.lt)
  have H_12 := Lib.hid (H_11.out.trans (hb.mono H_11.out.size))
  clear hb H_11 Bv_11 Bu_11 Ba_11 Bb_11
  have qv0 := Bv_12.out.c0
  have qv1 := Bv_12.out.c1
  have qv2 := Bv_12.out.c2
  have qu0 := Bu_12.out.c0
  have qu1 := Bu_12.out.c1
  have qu2 := Bu_12.out.c2
  have qb0 := Bb_12.out.c0
  have qb1 := Bb_12.out.c1
  have qb2 := Bb_12.out.c2
  go_wp2_with fail
  clear qv0 qv1 qv2 qu0 qu1 qu2 qb0 qb1 qb2
  have hc := Less_no K N K' N' T T' (.inr hn) h.in64 hN' (u8) (hw.below H_12.out)
  unfold valV at hc
  refine hc.mono ?_
  rintro e u9 ⟨rfl, hb⟩
  clear hc
  have Bv_13 := Lib.hid (Bv_12.out.below hb Bv_12.out.lt)
  have Bu_13 := Lib.hid (Bu_12.out.below hb Bu_12.out.lt)
  have Ba_13 := Lib.hid (Ba_12.out.below hb Ba_12.out.lt)
  have Bb_13 := Lib.hid (Bb_12.out.below hb Bb_12.out.lt)
  have H_13 := Lib.hid (H_12.out.trans (hb.mono H_12.out.size))
  clear hb H_12 Bv_12 Bu_12 Ba_12 Bb_12
  go_upto_region 18 with fail
  have HU := Lib.hid (hw.below H_13.out)
  refine region_grown (by kernel_rfl) ?_
  apply quiet_wanted
  · go_simp
  · intro W hW; unfold Oper.quietAt; go_simp; have hc := number_c 0 W; unfold valV at hc; exact hc.mono fun e w' hr => ⟨hr.1, Grown.trans hW hr.2⟩
  (try simp only [Act.put, List.setIfInBounds_toArray, List.set_cons_zero, List.set_cons_succ])
  apply quiet_wanted
  · go_simp
  · intro W hW; have hV := Bv_13.out.below hW Bv_13.out.lt; have c0 := hV.c0; have c1 := hV.c1; have c2 := hV.c2; clear hV; unfold Oper.quietAt; go_simp; (try exact ⟨rfl, rfl⟩); (try rfl)
  (try simp only [Act.put, List.setIfInBounds_toArray, List.set_cons_zero, List.set_cons_succ])
  apply quiet_wanted
  · go_simp
  · intro W hW; unfold Oper.quietAt; go_simp; have hc := Less_num isNum_zero h p hp W (HU.out.below hW); unfold valV at hc; exact hc.mono fun e w' hr => ⟨hr.1, Grown.trans hW hr.2⟩
  (try simp only [Act.put, List.setIfInBounds_toArray, List.set_cons_zero, List.set_cons_succ])
  apply quiet_wanted
  · go_simp
  · intro W hW; unfold Oper.quietAt; go_simp; (try exact ⟨rfl, rfl⟩); (try rfl)
  (try simp only [Act.put, List.setIfInBounds_toArray, List.set_cons_zero, List.set_cons_succ])
  apply quiet_wanted
  · go_simp
  · intro W hW; unfold Oper.quietAt; go_simp; (try exact ⟨rfl, rfl⟩); (try rfl)
  (try simp only [Act.put, List.setIfInBounds_toArray, List.set_cons_zero, List.set_cons_succ])
  apply quiet_wanted
  · go_simp
  · intro W hW; unfold Oper.quietAt; go_simp; (try exact ⟨rfl, rfl⟩); (try rfl)
  (try simp only [Act.put, List.setIfInBounds_toArray, List.set_cons_zero, List.set_cons_succ])
  apply quiet_wanted
  · go_simp
  · intro W hW; unfold Oper.quietAt; go_simp; (try exact ⟨rfl, rfl⟩); (try rfl)
  (try simp only [Act.put, List.setIfInBounds_toArray, List.set_cons_zero, List.set_cons_succ])
  apply quiet_wanted
  · go_simp
  · intro W hW; unfold Oper.quietAt; go_simp; (try exact ⟨rfl, rfl⟩); (try rfl)
  (try simp only [Act.put, List.setIfInBounds_toArray, List.set_cons_zero, List.set_cons_succ])
  refine wpQuiet_nil ?_
  intro u10 hb
  unfold Grown at hb
  have Bv_14 := Lib.hid (Bv_13.out.below hb Bv_13.out.lt)
  have Bu_14 := Lib.hid (Bu_13.out.below hb Bu_13.out.lt)
  have Ba_14 := Lib.hid (Ba_13.out.below hb Ba_13.out.lt)
  have Bb_14 := Lib.hid (Bb_13.out.below hb Bb_13.out.lt)
  have H_14 := Lib.hid (H_13.out.trans (hb.mono H_13.out.size))
  clear hb H_13 Bv_13 Bu_13 Ba_13 Bb_13
  go_wp2_with fail
  go_ret
  exact ⟨rfl, H_14.out⟩

set_option maxHeartbeats 8000000 in
theorem back_num_b (K N K' N' : Int) (T T' s : List UInt8) (hs : s.length ≤ 800) (hno : Bg.okT s = false) (x y : Int) (h : IsNum K N T x) (h' : IsNum K' N' T' y) (w : World) (hw : Wd w) :
    Calls Tryz.prog 6 #[valV K N T, valV K' N' T', .string ⟨s.toArray⟩] w fun e w' => e = .returned (.bool true) ∧ Below w.heap.size w w' := by
  have hsz : (⟨s.toArray⟩ : ByteArray).size = s.length := by simp [ByteArray.size]
  have dl : decide ((800 : Int) < ((s.length : Nat) : Int)) = false := decide_eq_false (by omega)
  clear hs
  obtain ⟨t, htx⟩ : ∃ t, t = Lib.itoa x := ⟨_, rfl⟩
  obtain ⟨dn, hdn⟩ : ∃ d, Lib.nDigits x.natAbs = d := ⟨_, rfl⟩
  have HT := Lib.hid htx
  have HD := Lib.hid hdn
  clear htx hdn
  have hx : T.length ≤ 800 := by have := h.len; omega
  obtain ⟨p, hp⟩ : ∃ p, decide (0 < x) = p := ⟨_, rfl⟩
  obtain ⟨b, hb⟩ : ∃ b, decide (x < y) = b := ⟨_, rfl⟩
  obtain ⟨dm, hdm⟩ : ∃ d, Lib.nDigits y.natAbs = d := ⟨_, rfl⟩
  have HM := Lib.hid hdm
  have HP := Lib.hid hp
  have HB := Lib.hid hb
  clear hdm hp hb
  have hy : T'.length ≤ 800 := by have := h'.len; omega
  have hlt := h'.len
  have HC := Lib.hid (back_cases h' HP.out HB.out HD.out HM.out)
  have H_0 := Lib.hid (Below.refl w.heap.size w)
  unfold valV
  go_enter Tryz.func6, Tryz.ntmps6
  have hb : Below (w).heap.size (w) ((w).alloc (.cells #[.int .i64 K, .int .i64 N, .string ⟨T.toArray⟩] 23)) := (Below.refl _ (w)).alloc (Nat.le_refl _) _
  have Bnew := VB.new (w) (.int .i64 K) (.int .i64 N) (.string ⟨T.toArray⟩)
  try simp only [World.size_alloc] at Bnew
  have H_1 := Lib.hid (H_0.out.trans (hb.mono H_0.out.size))
  clear hb H_0
  have Bv_1 := Lib.hid Bnew
  clear Bnew
  have hb : Below ((w).alloc (.cells #[.int .i64 K, .int .i64 N, .string ⟨T.toArray⟩] 23)).heap.size ((w).alloc (.cells #[.int .i64 K, .int .i64 N, .string ⟨T.toArray⟩] 23)) (((w).alloc (.cells #[.int .i64 K, .int .i64 N, .string ⟨T.toArray⟩] 23)).alloc (.cells #[.int .i64 K', .int .i64 N', .string ⟨T'.toArray⟩] 23)) := (Below.refl _ ((w).alloc (.cells #[.int .i64 K, .int .i64 N, .string ⟨T.toArray⟩] 23))).alloc (Nat.le_refl _) _
  have Bnew := VB.new ((w).alloc (.cells #[.int .i64 K, .int .i64 N, .string ⟨T.toArray⟩] 23)) (.int .i64 K') (.int .i64 N') (.string ⟨T'.toArray⟩)
  try simp only [World.size_alloc] at Bnew
  have Bv_2 := Lib.hid (Bv_1.out.below hb Bv_1.out.lt)
  have H_2 := Lib.hid (H_1.out.trans (hb.mono H_1.out.size))
  clear hb H_1 Bv_1
  have Bu_2 := Lib.hid Bnew
  clear Bnew
  go_wp2_with fail
  have hc := awake_c (((w).alloc (.cells #[.int .i64 K, .int .i64 N, .string ⟨T.toArray⟩] 23)).alloc (.cells #[.int .i64 K', .int .i64 N', .string ⟨T'.toArray⟩] 23)) (hw.below H_2.out)
  unfold valV at hc
  refine hc.mono ?_
  rintro e u1 ⟨rfl, hb⟩
  clear hc
  have Bv_3 := Lib.hid (Bv_2.out.below hb Bv_2.out.lt)
  have Bu_3 := Lib.hid (Bu_2.out.below hb Bu_2.out.lt)
  have H_3 := Lib.hid (H_2.out.trans (hb.mono H_2.out.size))
  clear hb H_2 Bv_2 Bu_2
  have qv0 := Bv_3.out.c0
  have qv1 := Bv_3.out.c1
  have qv2 := Bv_3.out.c2
  go_wp2_with fail
  clear qv0 qv1 qv2
  have hc := short_yes K N T hx (u1)
  unfold valV at hc
  refine hc.mono ?_
  rintro e u2 ⟨rfl, hb⟩
  clear hc
  have Bv_4 := Lib.hid (Bv_3.out.below hb Bv_3.out.lt)
  have Bu_4 := Lib.hid (Bu_3.out.below hb Bu_3.out.lt)
  have H_4 := Lib.hid (H_3.out.trans (hb.mono H_3.out.size))
  clear hb H_3 Bv_3 Bu_3
  have qu0 := Bu_4.out.c0
  have qu1 := Bu_4.out.c1
  have qu2 := Bu_4.out.c2
  go_wp2_with fail
  clear qu0 qu1 qu2
  have hc := short_yes K' N' T' hy (u2)
  unfold valV at hc
  refine hc.mono ?_
  rintro e u3 ⟨rfl, hb⟩
  clear hc
  have Bv_5 := Lib.hid (Bv_4.out.below hb Bv_4.out.lt)
  have Bu_5 := Lib.hid (Bu_4.out.below hb Bu_4.out.lt)
  have H_5 := Lib.hid (H_4.out.trans (hb.mono H_4.out.size))
  clear hb H_4 Bv_4 Bu_4
  go_wp2_with fail
  have hc := of_no s hno (u3)
  unfold valV at hc
  refine hc.mono ?_
  rintro e u4 ⟨rfl, hb⟩
  clear hc
  have Bv_6 := Lib.hid (Bv_5.out.below hb Bv_5.out.lt)
  have Bu_6 := Lib.hid (Bu_5.out.below hb Bu_5.out.lt)
  have H_6 := Lib.hid (H_5.out.trans (hb.mono H_5.out.size))
  clear hb H_5 Bv_5 Bu_5
  have hb : Below (u4).heap.size (u4) ((u4).alloc (.cells #[.int .i64 0, .int .i64 0, .string ⟨#[]⟩] 23)) := (Below.refl _ (u4)).alloc (Nat.le_refl _) _
  have Bnew := VB.new (u4) (.int .i64 0) (.int .i64 0) (.string ⟨#[]⟩)
  try simp only [World.size_alloc] at Bnew
  have Bv_7 := Lib.hid (Bv_6.out.below hb Bv_6.out.lt)
  have Bu_7 := Lib.hid (Bu_6.out.below hb Bu_6.out.lt)
  have H_7 := Lib.hid (H_6.out.trans (hb.mono H_6.out.size))
  clear hb H_6 Bv_6 Bu_6
  have Ba_7 := Lib.hid Bnew
  clear Bnew
  have qv0 := Bv_7.out.c0
  have qv1 := Bv_7.out.c1
  have qv2 := Bv_7.out.c2
  go_wp2_with fail
  clear qv0 qv1 qv2
  have hc := Text_num h HT.out ((u4).alloc (.cells #[.int .i64 0, .int .i64 0, .string ⟨#[]⟩] 23)) (hw.below H_7.out)
  unfold valV at hc
  refine hc.mono ?_
  rintro e u5 ⟨rfl, hb⟩
  clear hc
  have Bv_8 := Lib.hid (Bv_7.out.below hb Bv_7.out.lt)
  have Bu_8 := Lib.hid (Bu_7.out.below hb Bu_7.out.lt)
  have Ba_8 := Lib.hid (Ba_7.out.below hb Ba_7.out.lt)
  have H_8 := Lib.hid (H_7.out.trans (hb.mono H_7.out.size))
  clear hb H_7 Bv_7 Bu_7 Ba_7
  go_wp2_with fail
  have hc := Of_num HT.out h (u5) (hw.below H_8.out)
  unfold valV at hc
  refine hc.mono ?_
  rintro e u6 ⟨rfl, hb⟩
  clear hc
  have Bv_9 := Lib.hid (Bv_8.out.below hb Bv_8.out.lt)
  have Bu_9 := Lib.hid (Bu_8.out.below hb Bu_8.out.lt)
  have Ba_9 := Lib.hid (Ba_8.out.below hb Ba_8.out.lt)
  have H_9 := Lib.hid (H_8.out.trans (hb.mono H_8.out.size))
  clear hb H_8 Bv_8 Bu_8 Ba_8
  have hb : Below (u6).heap.size (u6) ((u6).alloc (.cells #[.int .i64 K, .int .i64 N, .string ⟨T.toArray⟩] 23)) := (Below.refl _ (u6)).alloc (Nat.le_refl _) _
  have Bnew := VB.new (u6) (.int .i64 K) (.int .i64 N) (.string ⟨T.toArray⟩)
  try simp only [World.size_alloc] at Bnew
  have Bv_10 := Lib.hid (Bv_9.out.below hb Bv_9.out.lt)
  have Bu_10 := Lib.hid (Bu_9.out.below hb Bu_9.out.lt)
  have Ba_10 := Lib.hid (Ba_9.out.below hb Ba_9.out.lt)
  have H_10 := Lib.hid (H_9.out.trans (hb.mono H_9.out.size))
  clear hb H_9 Bv_9 Bu_9 Ba_9
  have Bb_10 := Lib.hid Bnew
  clear Bnew
  have qv0 := Bv_10.out.c0
  have qv1 := Bv_10.out.c1
  have qv2 := Bv_10.out.c2
  go_wp2_with fail
  clear qv0 qv1 qv2
  have hc := Digits_num h HD.out ((u6).alloc (.cells #[.int .i64 K, .int .i64 N, .string ⟨T.toArray⟩] 23)) (hw.below H_10.out)
  unfold valV at hc
  refine hc.mono ?_
  rintro e u7 ⟨rfl, hb⟩
  clear hc
  have Bv_11 := Lib.hid (Bv_10.out.below hb Bv_10.out.lt)
  have Bu_11 := Lib.hid (Bu_10.out.below hb Bu_10.out.lt)
  have Ba_11 := Lib.hid (Ba_10.out.below hb Ba_10.out.lt)
  have Bb_11 := Lib.hid (Bb_10.out.below hb Bb_10.out.lt)
  have H_11 := Lib.hid (H_10.out.trans (hb.mono H_10.out.size))
  clear hb H_10 Bv_10 Bu_10 Ba_10 Bb_10
  have qu0 := Bu_11.out.c0
  have qu1 := Bu_11.out.c1
  have qu2 := Bu_11.out.c2
  go_wp2_with fail
  clear qu0 qu1 qu2
  have hc := Digits_num h' HM.out (u7) (hw.below H_11.out)
  unfold valV at hc
  refine hc.mono ?_
  rintro e u8 ⟨rfl, hb⟩
  clear hc
  have Bv_12 := Lib.hid (Bv_11.out.below hb Bv_11.out.lt)
  have Bu_12 := Lib.hid (Bu_11.out.below hb Bu_11.out.lt)
  have Ba_12 := Lib.hid (Ba_11.out.below hb Ba_11.out.lt)
  have Bb_12 := Lib.hid (Bb_11.out.below hb Bb_11.out.lt)
  have H_12 := Lib.hid (H_11.out.trans (hb.mono H_11.out.size))
  clear hb H_11 Bv_11 Bu_11 Ba_11 Bb_11
  have qv0 := Bv_12.out.c0
  have qv1 := Bv_12.out.c1
  have qv2 := Bv_12.out.c2
  have qu0 := Bu_12.out.c0
  have qu1 := Bu_12.out.c1
  have qu2 := Bu_12.out.c2
  have qb0 := Bb_12.out.c0
  have qb1 := Bb_12.out.c1
  have qb2 := Bb_12.out.c2
  go_wp2_with fail
  clear qv0 qv1 qv2 qu0 qu1 qu2 qb0 qb1 qb2
  have hc := Less_num h h' b HB.out (u8) (hw.below H_12.out)
  unfold valV at hc
  refine hc.mono ?_
  rintro e u9 ⟨rfl, hb⟩
  clear hc
  have Bv_13 := Lib.hid (Bv_12.out.below hb Bv_12.out.lt)
  have Bu_13 := Lib.hid (Bu_12.out.below hb Bu_12.out.lt)
  have Ba_13 := Lib.hid (Ba_12.out.below hb Ba_12.out.lt)
  have Bb_13 := Lib.hid (Bb_12.out.below hb Bb_12.out.lt)
  have H_13 := Lib.hid (H_12.out.trans (hb.mono H_12.out.size))
  clear hb H_12 Bv_12 Bu_12 Ba_12 Bb_12
  go_upto_region 18 with fail
  have HU := Lib.hid (hw.below H_13.out)
  refine region_grown (by kernel_rfl) ?_
  apply quiet_wanted
  · go_simp
  · intro W hW; unfold Oper.quietAt; go_simp; have hc := number_c 0 W; unfold valV at hc; exact hc.mono fun e w' hr => ⟨hr.1, Grown.trans hW hr.2⟩
  (try simp only [Act.put, List.setIfInBounds_toArray, List.set_cons_zero, List.set_cons_succ])
  apply quiet_wanted
  · go_simp
  · intro W hW; have hV := Bv_13.out.below hW Bv_13.out.lt; have c0 := hV.c0; have c1 := hV.c1; have c2 := hV.c2; clear hV; unfold Oper.quietAt; go_simp; (try exact ⟨rfl, rfl⟩); (try rfl)
  (try simp only [Act.put, List.setIfInBounds_toArray, List.set_cons_zero, List.set_cons_succ])
  apply quiet_wanted
  · go_simp
  · intro W hW; unfold Oper.quietAt; go_simp; have hc := Less_num isNum_zero h p HP.out W (HU.out.below hW); unfold valV at hc; exact hc.mono fun e w' hr => ⟨hr.1, Grown.trans hW hr.2⟩
  (try simp only [Act.put, List.setIfInBounds_toArray, List.set_cons_zero, List.set_cons_succ])
  apply quiet_wanted
  · go_simp
  · intro W hW; unfold Oper.quietAt; go_simp; (try exact ⟨rfl, rfl⟩); (try rfl)
  (try simp only [Act.put, List.setIfInBounds_toArray, List.set_cons_zero, List.set_cons_succ])
  apply quiet_wanted
  · go_simp
  · intro W hW; unfold Oper.quietAt; go_simp; (try exact ⟨rfl, rfl⟩); (try rfl)
  (try simp only [Act.put, List.setIfInBounds_toArray, List.set_cons_zero, List.set_cons_succ])
  apply quiet_wanted
  · go_simp
  · intro W hW; unfold Oper.quietAt; go_simp; (try exact ⟨rfl, rfl⟩); (try rfl)
  (try simp only [Act.put, List.setIfInBounds_toArray, List.set_cons_zero, List.set_cons_succ])
  apply quiet_wanted
  · go_simp
  · intro W hW; unfold Oper.quietAt; go_simp; (try exact ⟨rfl, rfl⟩); (try rfl)
  (try simp only [Act.put, List.setIfInBounds_toArray, List.set_cons_zero, List.set_cons_succ])
  apply quiet_wanted
  · go_simp
  · intro W hW; unfold Oper.quietAt; go_simp; (try exact ⟨rfl, rfl⟩); (try rfl)
  (try simp only [Act.put, List.setIfInBounds_toArray, List.set_cons_zero, List.set_cons_succ])
  refine wpQuiet_nil ?_
  intro u10 hb
  unfold Grown at hb
  have Bv_14 := Lib.hid (Bv_13.out.below hb Bv_13.out.lt)
  have Bu_14 := Lib.hid (Bu_13.out.below hb Bu_13.out.lt)
  have Ba_14 := Lib.hid (Ba_13.out.below hb Ba_13.out.lt)
  have Bb_14 := Lib.hid (Bb_13.out.below hb Bb_13.out.lt)
  have H_14 := Lib.hid (H_13.out.trans (hb.mono H_13.out.size))
  clear hb H_13 Bv_13 Bu_13 Ba_13 Bb_13
  rcases HC.out with rfl | ⟨rfl, hc⟩ | ⟨rfl, hc, rfl⟩ | ⟨rfl, hc, rfl, rfl, hn⟩ | ⟨rfl, hc, rfl, rfl, r, hr⟩
  · go_wp2_with fail
    go_ret
    exact ⟨rfl, H_14.out⟩
  · have hcn : dm ≤ dn := by have := of_decide_eq_true hc; omega
    have hcd : decide (dm ≤ dn) = true := decide_eq_true hcn
    go_wp2_with fail
    go_ret
    exact ⟨rfl, H_14.out⟩
  · have hcn : dn < dm := by have := of_decide_eq_false hc; omega
    have hcd : decide (dm ≤ dn) = false := decide_eq_false (by omega)
    have hcd2 : decide (dn < dm) = true := decide_eq_true hcn
    go_wp2_with fail
    go_ret
    exact ⟨rfl, H_14.out⟩
  · have hcn : dn < dm := by have := of_decide_eq_false hc; omega
    have hcd : decide (dm ≤ dn) = false := decide_eq_false (by omega)
    have hcd2 : decide (dn < dm) = true := decide_eq_true hcn
    have qu0 := Bu_14.out.c0
    have qu1 := Bu_14.out.c1
    have qu2 := Bu_14.out.c2
    go_wp2_with fail
    go_ret
    exact ⟨rfl, H_14.out⟩
  · have hcn : dn < dm := by have := of_decide_eq_false hc; omega
    have hcd : decide (dm ≤ dn) = false := decide_eq_false (by omega)
    have hcd2 : decide (dn < dm) = true := decide_eq_true hcn
    subst hr
    have hsz2 : (⟨((45 : UInt8) :: r).toArray⟩ : ByteArray).size = r.length + 1 := by simp [ByteArray.size]
    have hget : ∀ h, (⟨((45 : UInt8) :: r).toArray⟩ : ByteArray)[0]'h = 45 := fun _ => rfl
    rw [List.length_cons] at hlt
    have qu0 := Bu_14.out.c0
    have qu1 := Bu_14.out.c1
    have qu2 := Bu_14.out.c2
    go_wp2_with fail
    go_ret
    exact ⟨rfl, H_14.out⟩

theorem back_c (K N : Int) (T : List UInt8) (K' N' : Int) (T' s : List UInt8) (hN : In64Z N) (hN' : In64Z N') (w : World) (hw : Wd w) :
    Calls Tryz.prog 6 #[valV K N T, valV K' N' T', .string ⟨s.toArray⟩] w fun e w' => e = .returned (.bool true) ∧ Below w.heap.size w w' := by
  by_cases hx : T.length ≤ 800
  · by_cases hy : T'.length ≤ 800
    · by_cases hs : s.length ≤ 800
      · by_cases ho : Bg.okT s = true
        · obtain ⟨z, e, hz⟩ := Bg.itoa_okT s ho
          by_cases h1 : ∃ z, IsNum K N T z
          · obtain ⟨x, h1⟩ := h1
            by_cases h2 : ∃ z, IsNum K' N' T' z
            · obtain ⟨y, h2⟩ := h2
              exact back_num_a K N K' N' T T' s hs z hz e x y h1 h2 w hw
            · exact back_nou_a K N K' N' T T' s hy hs z hz e x h1 (fun z hz => h2 ⟨z, hz⟩) hN' w hw
          · exact back_no_a K N K' N' T T' s hx hy hs z hz e (fun z hz => h1 ⟨z, hz⟩) hN w hw
        · have ho' := Bool.eq_false_iff.2 ho
          by_cases h1 : ∃ z, IsNum K N T z
          · obtain ⟨x, h1⟩ := h1
            by_cases h2 : ∃ z, IsNum K' N' T' z
            · obtain ⟨y, h2⟩ := h2
              exact back_num_b K N K' N' T T' s hs ho' x y h1 h2 w hw
            · exact back_nou_b K N K' N' T T' s hy hs ho' x h1 (fun z hz => h2 ⟨z, hz⟩) hN' w hw
          · exact back_no_b K N K' N' T T' s hx hy hs ho' (fun z hz => h1 ⟨z, hz⟩) hN w hw
      · exact back_long3 K N K' N' T T' s hx hy hs w hw
    · exact back_long2 K N K' N' T T' s hx hy w hw
  · exact back_long1 K N K' N' T T' s hx w hw
end Go.Proofs.YthbfbpbppjkoeaaGreatDoor
