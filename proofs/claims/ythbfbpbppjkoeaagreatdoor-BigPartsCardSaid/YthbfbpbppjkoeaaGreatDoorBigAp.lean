/- Contracts of Add, Sub, Mul, Div, Mod, Gcd of package big: they answer what reckoned answers. Conditions: those in the statements. -/
import Derived.Test.YthbfbpbppjkoeaaGreatDoorBigRk
namespace Go.Proofs.YthbfbpbppjkoeaaGreatDoor
open Go.RowKit Go.Shelf
set_option maxRecDepth 100000

/-- Three values in new boxes. -/
theorem boxesA3 (w : World) (u v x u' v' x' : Value) :
    VB (((w.alloc (.cells #[u, v, x] 23)).alloc (.cells #[u', v', x'] 23)).alloc (.cells #[.int .i64 0, .int .i64 0, .string ⟨#[]⟩] 23)) (w.heap.size + 1 + 1) (.int .i64 0) (.int .i64 0) (.string ⟨#[]⟩) ∧
    Below w.heap.size w (((w.alloc (.cells #[u, v, x] 23)).alloc (.cells #[u', v', x'] 23)).alloc (.cells #[.int .i64 0, .int .i64 0, .string ⟨#[]⟩] 23)) := by
  refine ⟨?_, (((Below.refl _ w).alloc (Nat.le_refl _) _).alloc (by simp) _).alloc (by simp; omega) _⟩
  have := VB.new ((w.alloc (.cells #[u, v, x] 23)).alloc (.cells #[u', v', x'] 23)) (.int .i64 0) (.int .i64 0) (.string ⟨#[]⟩)
  rwa [World.size_alloc, World.size_alloc] at this

set_option maxHeartbeats 1000000 in
theorem Add_c (K N K' N' A B E : Int) (T T' S : List UInt8) (w : World)
    (h : ∀ W, Below w.heap.size w W → Calls Tryz.prog 55 #[.int .i64 0, valV K N T, valV K' N' T'] W fun e w' => e = .returned (.tuple #[valV A B S, .int .i64 E]) ∧ Below W.heap.size W w') :
    Calls Tryz.prog 25 #[valV K N T, valV K' N' T'] w fun e w' => e = .returned (.tuple #[valV A B S, .int .i64 E]) ∧ Below w.heap.size w w' := by
  unfold valV at *
  obtain ⟨hV0, hb0⟩ := boxesA3 w (.int .i64 K) (.int .i64 N) (.string ⟨T.toArray⟩) (.int .i64 K') (.int .i64 N') (.string ⟨T'.toArray⟩)
  have HV0 := Lib.hid hV0
  have Hb0 := Lib.hid hb0
  have H := Lib.hid h
  clear h hV0 hb0
  go_enter Tryz.func25, Tryz.ntmps25
  go_wp2_with fail
  refine (H.out _ Hb0.out).mono ?_
  rintro e w1 ⟨rfl, hb1⟩
  have hV1 := HV0.out.below hb1 HV0.out.lt
  have Hb1 := Lib.hid (Hb0.out.trans (hb1.mono Hb0.out.size))
  have v0 := hV1.c0
  have v1 := hV1.c1
  have v2 := hV1.c2
  have g0 := hV1.fz 0
  have g1 := hV1.fz 1
  have g2 := hV1.fz 2
  have HV1 := Lib.hid hV1
  clear hb1 hV1
  go_wp2_with fail
  exact ret_val_err (y := .int .i64 E) rfl rfl rfl rfl (HV1.out.put (.int .i64 A) (.int .i64 B) (.string ⟨S.toArray⟩)) ⟨rfl, below_put3 Hb1.out (by omega) _ _ _⟩

set_option maxHeartbeats 1000000 in
theorem Sub_c (K N K' N' A B E : Int) (T T' S : List UInt8) (w : World)
    (h : ∀ W, Below w.heap.size w W → Calls Tryz.prog 55 #[.int .i64 1, valV K N T, valV K' N' T'] W fun e w' => e = .returned (.tuple #[valV A B S, .int .i64 E]) ∧ Below W.heap.size W w') :
    Calls Tryz.prog 27 #[valV K N T, valV K' N' T'] w fun e w' => e = .returned (.tuple #[valV A B S, .int .i64 E]) ∧ Below w.heap.size w w' := by
  unfold valV at *
  obtain ⟨hV0, hb0⟩ := boxesA3 w (.int .i64 K) (.int .i64 N) (.string ⟨T.toArray⟩) (.int .i64 K') (.int .i64 N') (.string ⟨T'.toArray⟩)
  have HV0 := Lib.hid hV0
  have Hb0 := Lib.hid hb0
  have H := Lib.hid h
  clear h hV0 hb0
  go_enter Tryz.func27, Tryz.ntmps27
  go_wp2_with fail
  refine (H.out _ Hb0.out).mono ?_
  rintro e w1 ⟨rfl, hb1⟩
  have hV1 := HV0.out.below hb1 HV0.out.lt
  have Hb1 := Lib.hid (Hb0.out.trans (hb1.mono Hb0.out.size))
  have v0 := hV1.c0
  have v1 := hV1.c1
  have v2 := hV1.c2
  have g0 := hV1.fz 0
  have g1 := hV1.fz 1
  have g2 := hV1.fz 2
  have HV1 := Lib.hid hV1
  clear hb1 hV1
  go_wp2_with fail
  exact ret_val_err (y := .int .i64 E) rfl rfl rfl rfl (HV1.out.put (.int .i64 A) (.int .i64 B) (.string ⟨S.toArray⟩)) ⟨rfl, below_put3 Hb1.out (by omega) _ _ _⟩

set_option maxHeartbeats 1000000 in
theorem Mul_c (K N K' N' A B E : Int) (T T' S : List UInt8) (w : World)
    (h : ∀ W, Below w.heap.size w W → Calls Tryz.prog 55 #[.int .i64 2, valV K N T, valV K' N' T'] W fun e w' => e = .returned (.tuple #[valV A B S, .int .i64 E]) ∧ Below W.heap.size W w') :
    Calls Tryz.prog 29 #[valV K N T, valV K' N' T'] w fun e w' => e = .returned (.tuple #[valV A B S, .int .i64 E]) ∧ Below w.heap.size w w' := by
  unfold valV at *
  obtain ⟨hV0, hb0⟩ := boxesA3 w (.int .i64 K) (.int .i64 N) (.string ⟨T.toArray⟩) (.int .i64 K') (.int .i64 N') (.string ⟨T'.toArray⟩)
  have HV0 := Lib.hid hV0
  have Hb0 := Lib.hid hb0
  have H := Lib.hid h
  clear h hV0 hb0
  go_enter Tryz.func29, Tryz.ntmps29
  go_wp2_with fail
  refine (H.out _ Hb0.out).mono ?_
  rintro e w1 ⟨rfl, hb1⟩
  have hV1 := HV0.out.below hb1 HV0.out.lt
  have Hb1 := Lib.hid (Hb0.out.trans (hb1.mono Hb0.out.size))
  have v0 := hV1.c0
  have v1 := hV1.c1
  have v2 := hV1.c2
  have g0 := hV1.fz 0
  have g1 := hV1.fz 1
  have g2 := hV1.fz 2
  have HV1 := Lib.hid hV1
  clear hb1 hV1
  go_wp2_with fail
  exact ret_val_err (y := .int .i64 E) rfl rfl rfl rfl (HV1.out.put (.int .i64 A) (.int .i64 B) (.string ⟨S.toArray⟩)) ⟨rfl, below_put3 Hb1.out (by omega) _ _ _⟩

set_option maxHeartbeats 1000000 in
theorem Div_c (K N K' N' A B E : Int) (T T' S : List UInt8) (w : World)
    (h : ∀ W, Below w.heap.size w W → Calls Tryz.prog 55 #[.int .i64 3, valV K N T, valV K' N' T'] W fun e w' => e = .returned (.tuple #[valV A B S, .int .i64 E]) ∧ Below W.heap.size W w') :
    Calls Tryz.prog 33 #[valV K N T, valV K' N' T'] w fun e w' => e = .returned (.tuple #[valV A B S, .int .i64 E]) ∧ Below w.heap.size w w' := by
  unfold valV at *
  obtain ⟨hV0, hb0⟩ := boxesA3 w (.int .i64 K) (.int .i64 N) (.string ⟨T.toArray⟩) (.int .i64 K') (.int .i64 N') (.string ⟨T'.toArray⟩)
  have HV0 := Lib.hid hV0
  have Hb0 := Lib.hid hb0
  have H := Lib.hid h
  clear h hV0 hb0
  go_enter Tryz.func33, Tryz.ntmps33
  go_wp2_with fail
  refine (H.out _ Hb0.out).mono ?_
  rintro e w1 ⟨rfl, hb1⟩
  have hV1 := HV0.out.below hb1 HV0.out.lt
  have Hb1 := Lib.hid (Hb0.out.trans (hb1.mono Hb0.out.size))
  have v0 := hV1.c0
  have v1 := hV1.c1
  have v2 := hV1.c2
  have g0 := hV1.fz 0
  have g1 := hV1.fz 1
  have g2 := hV1.fz 2
  have HV1 := Lib.hid hV1
  clear hb1 hV1
  go_wp2_with fail
  exact ret_val_err (y := .int .i64 E) rfl rfl rfl rfl (HV1.out.put (.int .i64 A) (.int .i64 B) (.string ⟨S.toArray⟩)) ⟨rfl, below_put3 Hb1.out (by omega) _ _ _⟩

set_option maxHeartbeats 1000000 in
theorem Mod_c (K N K' N' A B E : Int) (T T' S : List UInt8) (w : World)
    (h : ∀ W, Below w.heap.size w W → Calls Tryz.prog 55 #[.int .i64 4, valV K N T, valV K' N' T'] W fun e w' => e = .returned (.tuple #[valV A B S, .int .i64 E]) ∧ Below W.heap.size W w') :
    Calls Tryz.prog 35 #[valV K N T, valV K' N' T'] w fun e w' => e = .returned (.tuple #[valV A B S, .int .i64 E]) ∧ Below w.heap.size w w' := by
  unfold valV at *
  obtain ⟨hV0, hb0⟩ := boxesA3 w (.int .i64 K) (.int .i64 N) (.string ⟨T.toArray⟩) (.int .i64 K') (.int .i64 N') (.string ⟨T'.toArray⟩)
  have HV0 := Lib.hid hV0
  have Hb0 := Lib.hid hb0
  have H := Lib.hid h
  clear h hV0 hb0
  go_enter Tryz.func35, Tryz.ntmps35
  go_wp2_with fail
  refine (H.out _ Hb0.out).mono ?_
  rintro e w1 ⟨rfl, hb1⟩
  have hV1 := HV0.out.below hb1 HV0.out.lt
  have Hb1 := Lib.hid (Hb0.out.trans (hb1.mono Hb0.out.size))
  have v0 := hV1.c0
  have v1 := hV1.c1
  have v2 := hV1.c2
  have g0 := hV1.fz 0
  have g1 := hV1.fz 1
  have g2 := hV1.fz 2
  have HV1 := Lib.hid hV1
  clear hb1 hV1
  go_wp2_with fail
  exact ret_val_err (y := .int .i64 E) rfl rfl rfl rfl (HV1.out.put (.int .i64 A) (.int .i64 B) (.string ⟨S.toArray⟩)) ⟨rfl, below_put3 Hb1.out (by omega) _ _ _⟩

set_option maxHeartbeats 1000000 in
theorem Gcd_c (K N K' N' A B E : Int) (T T' S : List UInt8) (w : World)
    (h : ∀ W, Below w.heap.size w W → Calls Tryz.prog 55 #[.int .i64 5, valV K N T, valV K' N' T'] W fun e w' => e = .returned (.tuple #[valV A B S, .int .i64 E]) ∧ Below W.heap.size W w') :
    Calls Tryz.prog 39 #[valV K N T, valV K' N' T'] w fun e w' => e = .returned (.tuple #[valV A B S, .int .i64 E]) ∧ Below w.heap.size w w' := by
  unfold valV at *
  obtain ⟨hV0, hb0⟩ := boxesA3 w (.int .i64 K) (.int .i64 N) (.string ⟨T.toArray⟩) (.int .i64 K') (.int .i64 N') (.string ⟨T'.toArray⟩)
  have HV0 := Lib.hid hV0
  have Hb0 := Lib.hid hb0
  have H := Lib.hid h
  clear h hV0 hb0
  go_enter Tryz.func39, Tryz.ntmps39
  go_wp2_with fail
  refine (H.out _ Hb0.out).mono ?_
  rintro e w1 ⟨rfl, hb1⟩
  have hV1 := HV0.out.below hb1 HV0.out.lt
  have Hb1 := Lib.hid (Hb0.out.trans (hb1.mono Hb0.out.size))
  have v0 := hV1.c0
  have v1 := hV1.c1
  have v2 := hV1.c2
  have g0 := hV1.fz 0
  have g1 := hV1.fz 1
  have g2 := hV1.fz 2
  have HV1 := Lib.hid hV1
  clear hb1 hV1
  go_wp2_with fail
  exact ret_val_err (y := .int .i64 E) rfl rfl rfl rfl (HV1.out.put (.int .i64 A) (.int .i64 B) (.string ⟨S.toArray⟩)) ⟨rfl, below_put3 Hb1.out (by omega) _ _ _⟩
end Go.Proofs.YthbfbpbppjkoeaaGreatDoor
