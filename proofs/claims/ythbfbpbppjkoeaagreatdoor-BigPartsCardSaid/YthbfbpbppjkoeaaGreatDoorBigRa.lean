/- Contracts of Root of package big. Conditions: those in the statements. -/
import Derived.Test.YthbfbpbppjkoeaaGreatDoorBigLi
import Derived.Test.YthbfbpbppjkoeaaGreatDoorBigNo
namespace Go.Proofs.YthbfbpbppjkoeaaGreatDoor
open Go.RowKit Go.Shelf
set_option exponentiation.threshold 500
set_option maxRecDepth 100000

theorem eg_root : ∀ args w, (callFunc 70 args).run Tryz.prog w = .ok (.enter 70 args) w := enters_of Tryz.func70 (by kernel_rfl) rfl
theorem canon_err (z : Int) : ∃ (A B : Int) (S : List UInt8), canonV z = .agg #[.int .i64 A, .int .i64 B, .string ⟨S.toArray⟩] := canon_agg z

theorem boxR2 (w : World) (u v x : Value) :
    VB ((w.alloc (.cells #[u, v, x] 23)).alloc (.cells #[.int .i64 0, .int .i64 0, .string ⟨#[]⟩] 23)) (w.heap.size + 1) (.int .i64 0) (.int .i64 0) (.string ⟨#[]⟩) ∧
    Below w.heap.size w ((w.alloc (.cells #[u, v, x] 23)).alloc (.cells #[.int .i64 0, .int .i64 0, .string ⟨#[]⟩] 23)) :=
  ⟨heap2 _ _ _, ((Below.refl _ w).alloc (Nat.le_refl _) _).alloc (by simp) _⟩

set_option maxHeartbeats 2000000 in
theorem Root_ok (K M z : Int) (T : List UInt8) (h : IsNum K M T z) (x : Nat) (hz : 0 ≤ z) (hx : Bg.IsRoot z.natAbs x) (w : World) (hw : Wd w) :
    Calls Tryz.prog 41 #[valV K M T] w fun e w' => e = .returned (.tuple #[canonV x, .int .i64 0]) ∧ Below w.heap.size w w' := by
  have hxs : Few (x : Int) := by
    refine few_of_le (b := z.natAbs) ?_ h.1
    rw [Int.natAbs_natCast]
    have := hx.1
    by_cases h0 : x = 0
    · omega
    · exact Nat.le_trans (Nat.le_mul_of_pos_left x (by omega)) this
  have HNo := Lib.hid (fun (W : World) (hB : Below w.heap.size w W) => numberOf_ok K M z T h W (hw.below hB))
  have HW := Lib.hid hw
  have HF := Lib.hid hxs
  have HX := Lib.hid hx
  have HZ := Lib.hid hz
  have dz : decide (z.sign < 0) = false := decide_eq_false (fun h => by have := Int.sign_neg_iff.1 h; omega)
  have dz2 : decide (z < 0) = false := decide_eq_false (by omega)
  clear h hw hxs hx hz
  unfold valV at *
  obtain ⟨hV0, hb0⟩ := boxR2 w (.int .i64 K) (.int .i64 M) (.string ⟨T.toArray⟩)
  have HV0 := Lib.hid hV0
  have Hb0 := Lib.hid hb0
  clear hV0 hb0
  go_enter Tryz.func41, Tryz.ntmps41
  go_wp2_with fail
  refine (HNo.out _ Hb0.out).mono ?_
  rintro e w1 ⟨o1, c1, rfl, hn1, hb1, hw1⟩
  have Hn1 := Lib.hid hn1
  have Hb1 := Lib.hid hb1
  clear hn1 hb1 hw1
  unfold numV
  go_wp2_with fail
  obtain ⟨w2, hw2⟩ : ∃ w2, w1.alloc (.cells #[.int .i64 z.sign, .slice o1 (Bg.ds z.natAbs).length c1] 61) = w2 := ⟨_, rfl⟩
  have hn1 := Hn1.out
  have hb1 := Hb1.out
  have hb12 : Below w1.heap.size w1 w2 := by rw [← hw2]; exact (Below.refl _ w1).alloc (Nat.le_refl _) _
  have hV2 := (HV0.out.below hb1 HV0.out.lt).below hb12 (Nat.lt_of_lt_of_le HV0.out.lt hb1.size)
  have hX2 : NB w2 w1.heap.size (.int .i64 z.sign) (.slice o1 (Bg.ds z.natAbs).length c1) := by rw [← hw2]; exact NB.new _ _ _
  have Hb2 := Lib.hid ((Hb0.out.trans (hb1.mono Hb0.out.size)).trans (hb12.mono (by have := Hb0.out.size; have := hb1.size; omega)))
  have Hn2 := Lib.hid (hn1.mono hb12)
  have hlim := limited_b (x : Int) 70 (numV z o1 c1) w2 (HW.out.below Hb2.out) eg_root (fun W hB hz => (root_c z z.natAbs (by have := HZ.out; omega) (fun _ => False) o1 c1 W (HW.out.below (Hb2.out.trans (hB.mono Hb2.out.size))) (Hn2.out.mono hB) (fun b h => h.elim) (fun _ k e h => h)).mono fun e w' hr => by
    obtain ⟨y, hy, hr⟩ := hr
    rw [Bg.isRoot_unique hy HX.out] at hr
    obtain ⟨o, c, e1, e2, e3, _⟩ := hr
    exact ⟨fun _ => ⟨o, c, e1, e2, e3⟩, fun hn => absurd HF.out hn⟩)
  unfold numV at hlim
  have HLim := Lib.hid hlim
  have HV2 := Lib.hid hV2
  have HX2 := Lib.hid hX2
  clear hn1 hb1 hb12 hV2 hX2 hlim
  rw [hw2]
  refine HLim.out.mono ?_
  rintro e w3 hl
  obtain ⟨he, hb3⟩ := hl
  rw [if_pos HF.out] at he
  obtain ⟨A, B, S, hc⟩ := canon_err x
  rw [hc] at he
  subst he
  have HC := Lib.hid hc
  have hV3 := HV2.out.below hb3 HV2.out.lt
  have Hb3 := Lib.hid (Hb2.out.trans (hb3.mono Hb2.out.size))
  have v0 := hV3.c0
  have v1 := hV3.c1
  have v2 := hV3.c2
  have g0 := hV3.fz 0
  have g1 := hV3.fz 1
  have g2 := hV3.fz 2
  have HV3 := Lib.hid hV3
  clear hc hb3 hV3 hw2
  go_wp2_with fail
  refine ret_val_err (y := .int .i64 0) rfl rfl rfl rfl (HV3.out.put (.int .i64 A) (.int .i64 B) (.string ⟨S.toArray⟩)) ⟨?_, below_put3 Hb3.out (by omega) _ _ _⟩
  rw [HC.out]

set_option maxHeartbeats 2000000 in
theorem Root_neg (K M z : Int) (T : List UInt8) (h : IsNum K M T z) (hz : z < 0) (w : World) (hw : Wd w) :
    Calls Tryz.prog 41 #[valV K M T] w fun e w' => e = .returned (.tuple #[valV 0 0 [], .int .i64 1]) ∧ Below w.heap.size w w' := by
  have HNo := Lib.hid (fun (W : World) (hB : Below w.heap.size w W) => numberOf_ok K M z T h W (hw.below hB))
  have dz : decide (z.sign < 0) = true := decide_eq_true (Int.sign_neg_iff.2 hz)
  have dz2 : decide (z < 0) = true := decide_eq_true hz
  clear h hw hz
  unfold valV at *
  obtain ⟨hV0, hb0⟩ := boxR2 w (.int .i64 K) (.int .i64 M) (.string ⟨T.toArray⟩)
  have HV0 := Lib.hid hV0
  have Hb0 := Lib.hid hb0
  clear hV0 hb0
  go_enter Tryz.func41, Tryz.ntmps41
  go_wp2_with fail
  refine (HNo.out _ Hb0.out).mono ?_
  rintro e w1 ⟨o1, c1, rfl, hn1, hb1, hw1⟩
  have hb12 : Below w1.heap.size w1 (w1.alloc (.cells #[.int .i64 z.sign, .slice o1 (Bg.ds z.natAbs).length c1] 61)) := (Below.refl _ w1).alloc (Nat.le_refl _) _
  have hV2 := (HV0.out.below hb1 HV0.out.lt).below hb12 (Nat.lt_of_lt_of_le HV0.out.lt hb1.size)
  have Hb2 := Lib.hid ((Hb0.out.trans (hb1.mono Hb0.out.size)).trans (hb12.mono (by have := Hb0.out.size; have := hb1.size; omega)))
  have v0 := hV2.c0
  have v1 := hV2.c1
  have v2 := hV2.c2
  have g0 := hV2.fz 0
  have g1 := hV2.fz 1
  have g2 := hV2.fz 2
  have HV2 := Lib.hid hV2
  clear hn1 hb1 hw1 hb12 hV2
  unfold numV
  go_wp2_with fail
  exact ret_val_err rfl rfl rfl rfl (HV2.out.put (.int .i64 0) (.int .i64 0) (.string ⟨#[]⟩)) ⟨rfl, below_put3 Hb2.out (by omega) _ _ _⟩

set_option maxHeartbeats 2000000 in
theorem Root_no (K M : Int) (T : List UInt8) (h : ∀ z, ¬ IsNum K M T z) (hM : In64Z M) (w : World) (hw : Wd w) :
    Calls Tryz.prog 41 #[valV K M T] w fun e w' => e = .returned (.tuple #[valV 0 0 [], .int .i64 31]) ∧ Below w.heap.size w w' := by
  have HNo := Lib.hid (fun (W : World) (hB : Below w.heap.size w W) => numberOf_no K M T h hM W (hw.below hB))
  clear h hw hM
  unfold valV noNum at *
  obtain ⟨hV0, hb0⟩ := boxR2 w (.int .i64 K) (.int .i64 M) (.string ⟨T.toArray⟩)
  have HV0 := Lib.hid hV0
  have Hb0 := Lib.hid hb0
  clear hV0 hb0
  go_enter Tryz.func41, Tryz.ntmps41
  go_wp2_with fail
  refine (HNo.out _ Hb0.out).mono ?_
  rintro e w1 ⟨rfl, hb1⟩
  have hb12 : Below w1.heap.size w1 (w1.alloc (.cells #[.int .i64 0, .slice none 0 0] 61)) := (Below.refl _ w1).alloc (Nat.le_refl _) _
  have hV2 := (HV0.out.below hb1 HV0.out.lt).below hb12 (Nat.lt_of_lt_of_le HV0.out.lt hb1.size)
  have Hb2 := Lib.hid ((Hb0.out.trans (hb1.mono Hb0.out.size)).trans (hb12.mono (by have := Hb0.out.size; have := hb1.size; omega)))
  have v0 := hV2.c0
  have v1 := hV2.c1
  have v2 := hV2.c2
  have g0 := hV2.fz 0
  have g1 := hV2.fz 1
  have g2 := hV2.fz 2
  have HV2 := Lib.hid hV2
  clear hb1 hb12 hV2
  go_wp2_with fail
  exact ret_val_err rfl rfl rfl rfl (HV2.out.put (.int .i64 0) (.int .i64 0) (.string ⟨#[]⟩)) ⟨rfl, below_put3 Hb2.out (by omega) _ _ _⟩
end Go.Proofs.YthbfbpbppjkoeaaGreatDoor
