/- Contracts of Less and Digits of package big. Conditions: those in the statements. -/
import Derived.Test.YthbfbpbppjkoeaaGreatDoorBigNo
import Derived.Test.YthbfbpbppjkoeaaGreatDoorBigRh
namespace Go.Proofs.YthbfbpbppjkoeaaGreatDoor
open Go.RowKit Go.Shelf
set_option exponentiation.threshold 500
set_option maxRecDepth 100000

theorem boxesV2 (w : World) (u v x u' v' x' : Value) : Below w.heap.size w ((w.alloc (.cells #[u, v, x] 23)).alloc (.cells #[u', v', x'] 23)) := ((Below.refl _ w).alloc (Nat.le_refl _) _).alloc (by simp) _

set_option maxHeartbeats 1000000 in
theorem Less_ok (K N x K' N' y : Int) (T T' : List UInt8) (h : IsNum K N T x) (h' : IsNum K' N' T' y) (w : World) (hw : Wd w) :
    Calls Tryz.prog 31 #[valV K N T, valV K' N' T'] w fun e w' => e = .returned (.tuple #[.bool (decide (x < y)), .int .i64 0]) ∧ Below w.heap.size w w' := by
  have HNo := Lib.hid (fun (W : World) (hB : Below w.heap.size w W) => numbersOf_ok K N x K' N' y T T' h h' W (hw.below hB))
  clear h h' hw
  obtain ⟨d, hd⟩ : ∃ d, decide (x < y) = d := ⟨_, rfl⟩
  rw [hd]
  unfold valV at *
  have Hb0 := Lib.hid (boxesV2 w (.int .i64 K) (.int .i64 N) (.string ⟨T.toArray⟩) (.int .i64 K') (.int .i64 N') (.string ⟨T'.toArray⟩))
  go_enter Tryz.func31, Tryz.ntmps31
  go_wp2_with fail
  refine (HNo.out _ Hb0.out).mono ?_
  rintro e w1 ⟨o1, c1, o2, c2, rfl, hn1, hn2, hb1, -, -⟩
  obtain ⟨hX, hY, hbx⟩ := boxes2 w1 (.int .i64 x.sign) (.slice o1 (Bg.ds x.natAbs).length c1) (.int .i64 y.sign) (.slice o2 (Bg.ds y.natAbs).length c2)
  have Hb2 := Lib.hid ((Hb0.out.trans (hb1.mono Hb0.out.size)).trans (hbx.mono (by have := Hb0.out.size; have := hb1.size; omega)))
  have hl := less_c x y o1 o2 c1 c2 _ (hn1.mono hbx) (hn2.mono hbx)
  unfold numV at hl
  rw [hd] at hl
  clear hd
  have HL := Lib.hid hl
  clear hX hY hbx hn1 hn2 hb1 hl
  unfold numV
  go_wp2_with fail
  refine HL.out.mono ?_
  rintro e w3 ⟨rfl, hb3⟩
  have Hb3 := Lib.hid (Hb2.out.trans (hb3.mono Hb2.out.size))
  clear hb3
  go_wp2_with fail
  go_ret2
  exact ⟨rfl, Hb3.out⟩

set_option maxHeartbeats 1000000 in
theorem Less_no (K N K' N' : Int) (T T' : List UInt8) (h : (∀ z, ¬ IsNum K N T z) ∨ ∀ z, ¬ IsNum K' N' T' z) (hN : In64Z N) (hN' : In64Z N') (w : World) (hw : Wd w) :
    Calls Tryz.prog 31 #[valV K N T, valV K' N' T'] w fun e w' => e = .returned (.tuple #[.bool false, .int .i64 31]) ∧ Below w.heap.size w w' := by
  have HNo := Lib.hid (fun (W : World) (hB : Below w.heap.size w W) => numbersOf_no K N K' N' T T' h hN hN' W (hw.below hB))
  clear h hw hN hN'
  unfold valV noNum at *
  have Hb0 := Lib.hid (boxesV2 w (.int .i64 K) (.int .i64 N) (.string ⟨T.toArray⟩) (.int .i64 K') (.int .i64 N') (.string ⟨T'.toArray⟩))
  go_enter Tryz.func31, Tryz.ntmps31
  go_wp2_with fail
  refine (HNo.out _ Hb0.out).mono ?_
  rintro e w1 ⟨rfl, hb1⟩
  obtain ⟨-, -, hbx⟩ := boxes2 w1 (.int .i64 0) (.slice none 0 0) (.int .i64 0) (.slice none 0 0)
  have Hb2 := Lib.hid ((Hb0.out.trans (hb1.mono Hb0.out.size)).trans (hbx.mono (by have := Hb0.out.size; have := hb1.size; omega)))
  clear hbx hb1
  go_wp2_with fail
  go_ret2
  exact ⟨rfl, Hb2.out⟩

set_option maxHeartbeats 1000000 in
theorem Digits_ok (K N z : Int) (T : List UInt8) (h : IsNum K N T z) (w : World) (hw : Wd w) :
    Calls Tryz.prog 21 #[valV K N T] w fun e w' => e = .returned (.tuple #[.int .i64 (Lib.nDigits z.natAbs), .int .i64 0]) ∧ Below w.heap.size w w' := by
  have HNo := Lib.hid (fun (W : World) (hB : Below w.heap.size w W) => numberOf_ok K N z T h W (hw.below hB))
  have HC := Lib.hid (fun (o : Option Addr) (c : Nat) (W : World) (hB : Below w.heap.size w W) (hn : NumAt W o z) => count_c o c z.natAbs W (hw.below hB) hn.at_ (by have := hn.few.len; omega))
  clear h hw
  unfold valV at *
  generalize Lib.nDigits z.natAbs = d at *
  go_enter Tryz.func21, Tryz.ntmps21
  go_wp2_with fail
  refine (HNo.out _ ((Below.refl _ w).alloc (Nat.le_refl _) _)).mono ?_
  rintro e w1 ⟨o1, c1, rfl, hn1, hb1, -⟩
  have hbA : Below w.heap.size w w1 := ((Below.refl _ w).alloc (Nat.le_refl _) (.cells #[.int .i64 K, .int .i64 N, .string ⟨T.toArray⟩] 23)).trans (hb1.mono (by simp))
  have hbx : Below w1.heap.size w1 (w1.alloc (.cells #[.int .i64 z.sign, .slice o1 (Bg.ds z.natAbs).length c1] 61)) := (Below.refl _ w1).alloc (Nat.le_refl _) _
  have Hb2 := Lib.hid (hbA.trans (hbx.mono hbA.size))
  have Hn1 := Lib.hid (hn1.mono hbx)
  clear hb1 hbA hbx hn1
  unfold numV
  go_wp2_with fail
  refine (HC.out o1 c1 _ Hb2.out Hn1.out).mono ?_
  rintro e w3 ⟨rfl, hb3⟩
  have Hb3 := Lib.hid (Hb2.out.trans (hb3.mono Hb2.out.size))
  clear hb3
  go_wp2_with fail
  go_ret2
  exact ⟨rfl, Hb3.out⟩

set_option maxHeartbeats 1000000 in
theorem Digits_no (K N : Int) (T : List UInt8) (h : ∀ z, ¬ IsNum K N T z) (hN : In64Z N) (w : World) (hw : Wd w) :
    Calls Tryz.prog 21 #[valV K N T] w fun e w' => e = .returned (.tuple #[.int .i64 0, .int .i64 31]) ∧ Below w.heap.size w w' := by
  have HNo := Lib.hid (fun (W : World) (hB : Below w.heap.size w W) => numberOf_no K N T h hN W (hw.below hB))
  clear h hw hN
  unfold valV noNum at *
  go_enter Tryz.func21, Tryz.ntmps21
  go_wp2_with fail
  refine (HNo.out _ ((Below.refl _ w).alloc (Nat.le_refl _) _)).mono ?_
  rintro e w1 ⟨rfl, hb1⟩
  have hbA : Below w.heap.size w w1 := ((Below.refl _ w).alloc (Nat.le_refl _) (.cells #[.int .i64 K, .int .i64 N, .string ⟨T.toArray⟩] 23)).trans (hb1.mono (by simp))
  have Hb2 := Lib.hid (hbA.alloc hbA.size (.cells #[.int .i64 0, .slice none 0 0] 61))
  clear hb1 hbA
  go_wp2_with fail
  go_ret2
  exact ⟨rfl, Hb2.out⟩
end Go.Proofs.YthbfbpbppjkoeaaGreatDoor
