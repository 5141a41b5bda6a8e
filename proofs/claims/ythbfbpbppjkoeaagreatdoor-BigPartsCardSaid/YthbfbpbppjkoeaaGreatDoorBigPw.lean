/- Contracts of Pow of package big. Conditions: those in the statements. -/
import Derived.Test.YthbfbpbppjkoeaaGreatDoorBigRc
namespace Go.Proofs.YthbfbpbppjkoeaaGreatDoor
open Go.RowKit Go.Shelf
set_option exponentiation.threshold 500
set_option maxRecDepth 100000

theorem eg_pow1 : ∀ args w, (callFunc 66 args).run Tryz.prog w = .ok (.enter 66 args) w := enters_of Tryz.func66 (by kernel_rfl) rfl
theorem boxP3 (w : World) (u v x i : Value) :
    VB (((w.alloc (.cells #[u, v, x] 23)).alloc (.cells #[i] 3)).alloc (.cells #[.int .i64 0, .int .i64 0, .string ⟨#[]⟩] 23)) (w.heap.size + 1 + 1) (.int .i64 0) (.int .i64 0) (.string ⟨#[]⟩) ∧
    Boxed (((w.alloc (.cells #[u, v, x] 23)).alloc (.cells #[i] 3)).alloc (.cells #[.int .i64 0, .int .i64 0, .string ⟨#[]⟩] 23)) (w.heap.size + 1) 3 i ∧
    Below w.heap.size w (((w.alloc (.cells #[u, v, x] 23)).alloc (.cells #[i] 3)).alloc (.cells #[.int .i64 0, .int .i64 0, .string ⟨#[]⟩] 23)) := by
  refine ⟨?_, Boxed.alloc (show Boxed ((w.alloc (.cells #[u, v, x] 23)).alloc (.cells #[i] 3)) (w.heap.size + 1) 3 i from heap2 _ _ _) _, (((Below.refl _ w).alloc (Nat.le_refl _) _).alloc (by simp) _).alloc (by simp; omega) _⟩
  have := VB.new ((w.alloc (.cells #[u, v, x] 23)).alloc (.cells #[i] 3)) (.int .i64 0) (.int .i64 0) (.string ⟨#[]⟩)
  rwa [World.size_alloc, World.size_alloc] at this

set_option maxHeartbeats 1000000 in
theorem pow1_c (X I n : Nat) (x : Int) (o : Option Addr) (c : Nat) (W : World) (hw : Wd W) (hn : n ≤ 1000000)
    (hX : NB W X (.int .i64 x.sign) (.slice o (Bg.ds x.natAbs).length c)) (hI : Boxed W I 3 (.int .i64 n)) (hx : NumAt W o x) :
    Calls Tryz.prog 66 #[.pointer (some ⟨X, 0, none⟩), .pointer (some ⟨I, 0, none⟩)] W (RetAny (x ^ n) W) := by
  have HN0 := Lib.hid (NB.new W (.int .i64 0) (.slice none 0 0))
  have hb0 : Below W.heap.size W (W.alloc (.cells #[.int .i64 0, .slice none 0 0] 61)) := (Below.refl _ W).alloc (Nat.le_refl _) _
  have hf0 := power_c x o c n hn _ (hw.below hb0) (hx.mono hb0)
  unfold numV at hf0
  have i0 := (hI.alloc (.cells #[.int .i64 0, .slice none 0 0] 61)).cell
  have x0 := (hX.below hb0 hX.lt).c0
  have x1 := (hX.below hb0 hX.lt).c1
  have HF := Lib.hid hf0
  have HB0 := Lib.hid hb0
  obtain ⟨z, hz⟩ : ∃ z, x ^ n = z := ⟨_, rfl⟩
  rw [hz] at HF ⊢
  clear hf0 hb0 hX hI hx hw hz
  go_enter Tryz.func66, Tryz.ntmps66
  go_wp2_with fail
  refine HF.out.mono ?_
  rintro e w1 hz
  by_cases hfz : Few z
  · obtain ⟨o', c', rfl, hn', hb1, hbad⟩ := hz.1 hfz
    have hN1 := HN0.out.below hb1 HN0.out.lt
    have Hb1 := Lib.hid (HB0.out.trans (hb1.mono HB0.out.size))
    have Hn := Lib.hid hn'
    have HBad := Lib.hid (show ∀ b, o' = some ⟨b, 0, none⟩ → W.heap.size < b from fun b e => by have h9 := hbad b e; simp at h9; omega)
    have HFz := Lib.hid hfz
    have c0 := hN1.c0
    have c1 := hN1.c1
    have f0 := hN1.f0
    have f1 := hN1.f1
    have HN1 := Lib.hid hN1
    clear hz hb1 hn' hbad hN1 hfz
    unfold numV
    go_wp2_with fail
    exact ret_box rfl rfl rfl (HN1.out.put (.int .i64 z.sign) (.slice o' (Bg.ds z.natAbs).length c')) ⟨fun _ => ⟨o', c', rfl, Hn.out.put' _ (fun _ b e => by have := HBad.out b e; omega) _ _, below_put Hb1.out (Nat.le_refl _) _ _⟩, fun h => absurd HFz.out h⟩
  · obtain ⟨rfl, hb1⟩ := hz.2 hfz
    exact ⟨rfl, fun h => absurd h hfz, fun _ => ⟨rfl, HB0.out.trans (hb1.mono HB0.out.size)⟩⟩

set_option maxHeartbeats 2000000 in
theorem Pow_ok (K M z : Int) (T : List UInt8) (h : IsNum K M T z) (n : Nat) (hn : n ≤ 2000) (w : World) (hw : Wd w) :
    Calls Tryz.prog 37 #[valV K M T, .int .i64 n] w (RetLim (z ^ n) w) := by
  have HNo := Lib.hid (fun (W : World) (hB : Below w.heap.size w W) => numberOf_ok K M z T h W (hw.below hB))
  have HW := Lib.hid hw
  have d1 : decide ((n : Int) < 0) = false := decide_eq_false (by omega)
  have d2 : decide ((2000 : Int) < (n : Int)) = false := decide_eq_false (by omega)
  have Hn := Lib.hid hn
  clear h hw hn
  unfold valV at *
  obtain ⟨hV0, hI0, hb0⟩ := boxP3 w (.int .i64 K) (.int .i64 M) (.string ⟨T.toArray⟩) (.int .i64 n)
  have HV0 := Lib.hid hV0
  have HI0 := Lib.hid hI0
  have Hb0 := Lib.hid hb0
  clear hV0 hI0 hb0
  go_enter Tryz.func37, Tryz.ntmps37
  go_wp2_with fail
  refine (HNo.out _ Hb0.out).mono ?_
  rintro e w1 ⟨o1, c1, rfl, hn1, hb1, -⟩
  have hb12 : Below w1.heap.size w1 (w1.alloc (.cells #[.int .i64 z.sign, .slice o1 (Bg.ds z.natAbs).length c1] 61)) := (Below.refl _ w1).alloc (Nat.le_refl _) _
  have hV2 := (HV0.out.below hb1 HV0.out.lt).below hb12 (Nat.lt_of_lt_of_le HV0.out.lt hb1.size)
  have hI2 : Boxed _ _ _ _ := (hb12.block _ (Nat.lt_of_lt_of_le (Boxed.lt HI0.out) hb1.size)).trans ((hb1.block _ (Boxed.lt HI0.out)).trans HI0.out)
  have i0 := hI2.cell
  have Hb2 := Lib.hid ((Hb0.out.trans (hb1.mono Hb0.out.size)).trans (hb12.mono (by have := Hb0.out.size; have := hb1.size; omega)))
  have HV2 := Lib.hid hV2
  have HI2 := Lib.hid hI2
  have Hn2 := Lib.hid (hn1.mono hb12)
  have HX2 := Lib.hid (NB.new w1 (.int .i64 z.sign) (.slice o1 (Bg.ds z.natAbs).length c1))
  clear hn1 hb1 hb12 hV2 hI2
  unfold numV
  go_wp2_with fail
  obtain ⟨w2, hw2⟩ : ∃ w2, w1.alloc (.cells #[.int .i64 z.sign, .slice o1 (Bg.ds z.natAbs).length c1] 61) = w2 := ⟨_, rfl⟩
  have hX2 := HX2.out
  have hV2 := HV2.out
  have hI2 := HI2.out
  have hn2 := Hn2.out
  have hb2 := Hb2.out
  rw [hw2] at hX2 hV2 hI2 hn2 hb2
  have hlim := limited_c (z ^ n) 66 #[.pointer (some ⟨w1.heap.size, 0, none⟩), .pointer (some ⟨w.heap.size + 1, 0, none⟩)] w2 (HW.out.below hb2) eg_pow1 (fun W hB hz => pow1_c w1.heap.size (w.heap.size + 1) n z o1 c1 W (HW.out.below (hb2.trans (hB.mono hb2.size))) (by have := Hn.out; omega) (hX2.below hB hX2.lt) ((hB.block _ (Boxed.lt hI2)).trans hI2) (hn2.mono hB))
  obtain ⟨zn, hzn⟩ : ∃ zn, z ^ n = zn := ⟨_, rfl⟩
  rw [hzn] at hlim
  rw [hw2]
  have HLim := Lib.hid hlim
  have HV2 := Lib.hid hV2
  have Hb2 := Lib.hid hb2
  have HZn := Lib.hid hzn
  clear hX2 hV2 hI2 hn2 hb2 hlim hzn hw2 HX2 HI2 Hn2 i0
  refine HLim.out.mono ?_
  rintro e w5 hl
  obtain ⟨A, B, S, E, hlit⟩ := retLim_lit zn
  have he := hl.eq
  rw [hlit] at he
  subst he
  have hV5 := HV2.out.below hl.2 HV2.out.lt
  have HB5 := Lib.hid (Hb2.out.trans (hl.2.mono Hb2.out.size))
  have HLit := Lib.hid hlit
  have v0 := hV5.c0
  have v1 := hV5.c1
  have v2 := hV5.c2
  have g0 := hV5.fz 0
  have g1 := hV5.fz 1
  have g2 := hV5.fz 2
  have HV5 := Lib.hid hV5
  clear hl hlit hV5
  go_wp2_with fail
  refine ret_val_err (y := .int .i64 E) rfl rfl rfl rfl (HV5.out.put (.int .i64 A) (.int .i64 B) (.string ⟨S.toArray⟩)) ?_
  rw [HZn.out]
  exact RetLim.mk (by rw [HLit.out]) (below_put3 HB5.out (by omega) _ _ _)

set_option maxHeartbeats 2000000 in
theorem Pow_arg (K M z : Int) (T : List UInt8) (h : IsNum K M T z) (n : Int) (hn : n < 0 ∨ 2000 < n) (w : World) (hw : Wd w) :
    Calls Tryz.prog 37 #[valV K M T, .int .i64 n] w fun e w' => e = .returned (.tuple #[valV 0 0 [], .int .i64 1]) ∧ Below w.heap.size w w' := by
  have HNo := Lib.hid (fun (W : World) (hB : Below w.heap.size w W) => numberOf_ok K M z T h W (hw.below hB))
  by_cases hn1 : n < 0
  · have d1 : decide (n < 0) = true := decide_eq_true hn1
    clear h hw hn hn1
    unfold valV at *
    obtain ⟨hV0, hI0, hb0⟩ := boxP3 w (.int .i64 K) (.int .i64 M) (.string ⟨T.toArray⟩) (.int .i64 n)
    have HV0 := Lib.hid hV0
    have HI0 := Lib.hid hI0
    have Hb0 := Lib.hid hb0
    clear hV0 hI0 hb0
    go_enter Tryz.func37, Tryz.ntmps37
    go_wp2_with fail
    refine (HNo.out _ Hb0.out).mono ?_
    rintro e w1 ⟨o1, c1, rfl, hn1, hb1, -⟩
    have hb12 : Below w1.heap.size w1 (w1.alloc (.cells #[.int .i64 z.sign, .slice o1 (Bg.ds z.natAbs).length c1] 61)) := (Below.refl _ w1).alloc (Nat.le_refl _) _
    have hV2 := (HV0.out.below hb1 HV0.out.lt).below hb12 (Nat.lt_of_lt_of_le HV0.out.lt hb1.size)
    have hI2 : Boxed _ _ _ _ := (hb12.block _ (Nat.lt_of_lt_of_le (Boxed.lt HI0.out) hb1.size)).trans ((hb1.block _ (Boxed.lt HI0.out)).trans HI0.out)
    have i0 := hI2.cell
    have Hb2 := Lib.hid ((Hb0.out.trans (hb1.mono Hb0.out.size)).trans (hb12.mono (by have := Hb0.out.size; have := hb1.size; omega)))
    have v0 := hV2.c0
    have v1 := hV2.c1
    have v2 := hV2.c2
    have g0 := hV2.fz 0
    have g1 := hV2.fz 1
    have g2 := hV2.fz 2
    have HV2 := Lib.hid hV2
    clear hn1 hb1 hb12 hV2 hI2
    unfold numV
    go_wp2_with fail
    exact ret_val_err rfl rfl rfl rfl (HV2.out.put (.int .i64 0) (.int .i64 0) (.string ⟨#[]⟩)) ⟨rfl, below_put3 Hb2.out (by omega) _ _ _⟩
  · have d1 : decide (n < 0) = false := decide_eq_false hn1
    have d2 : decide (2000 < n) = true := decide_eq_true (by omega)
    clear h hw hn hn1
    unfold valV at *
    obtain ⟨hV0, hI0, hb0⟩ := boxP3 w (.int .i64 K) (.int .i64 M) (.string ⟨T.toArray⟩) (.int .i64 n)
    have HV0 := Lib.hid hV0
    have HI0 := Lib.hid hI0
    have Hb0 := Lib.hid hb0
    clear hV0 hI0 hb0
    go_enter Tryz.func37, Tryz.ntmps37
    go_wp2_with fail
    refine (HNo.out _ Hb0.out).mono ?_
    rintro e w1 ⟨o1, c1, rfl, hn1, hb1, -⟩
    have hb12 : Below w1.heap.size w1 (w1.alloc (.cells #[.int .i64 z.sign, .slice o1 (Bg.ds z.natAbs).length c1] 61)) := (Below.refl _ w1).alloc (Nat.le_refl _) _
    have hV2 := (HV0.out.below hb1 HV0.out.lt).below hb12 (Nat.lt_of_lt_of_le HV0.out.lt hb1.size)
    have hI2 : Boxed _ _ _ _ := (hb12.block _ (Nat.lt_of_lt_of_le (Boxed.lt HI0.out) hb1.size)).trans ((hb1.block _ (Boxed.lt HI0.out)).trans HI0.out)
    have i0 := hI2.cell
    have Hb2 := Lib.hid ((Hb0.out.trans (hb1.mono Hb0.out.size)).trans (hb12.mono (by have := Hb0.out.size; have := hb1.size; omega)))
    have v0 := hV2.c0
    have v1 := hV2.c1
    have v2 := hV2.c2
    have g0 := hV2.fz 0
    have g1 := hV2.fz 1
    have g2 := hV2.fz 2
    have HV2 := Lib.hid hV2
    clear hn1 hb1 hb12 hV2 hI2
    unfold numV
    go_wp2_with fail
    exact ret_val_err rfl rfl rfl rfl (HV2.out.put (.int .i64 0) (.int .i64 0) (.string ⟨#[]⟩)) ⟨rfl, below_put3 Hb2.out (by omega) _ _ _⟩

set_option maxHeartbeats 2000000 in
theorem Pow_no (K M : Int) (T : List UInt8) (h : ∀ z, ¬ IsNum K M T z) (hM : In64Z M) (n : Int) (w : World) (hw : Wd w) :
    Calls Tryz.prog 37 #[valV K M T, .int .i64 n] w fun e w' => e = .returned (.tuple #[valV 0 0 [], .int .i64 31]) ∧ Below w.heap.size w w' := by
  have HNo := Lib.hid (fun (W : World) (hB : Below w.heap.size w W) => numberOf_no K M T h hM W (hw.below hB))
  clear h hw hM
  unfold valV noNum at *
  obtain ⟨hV0, hI0, hb0⟩ := boxP3 w (.int .i64 K) (.int .i64 M) (.string ⟨T.toArray⟩) (.int .i64 n)
  have HV0 := Lib.hid hV0
  have HI0 := Lib.hid hI0
  have Hb0 := Lib.hid hb0
  clear hV0 hI0 hb0
  go_enter Tryz.func37, Tryz.ntmps37
  go_wp2_with fail
  refine (HNo.out _ Hb0.out).mono ?_
  rintro e w1 ⟨rfl, hb1⟩
  have hb12 : Below w1.heap.size w1 (w1.alloc (.cells #[.int .i64 0, .slice none 0 0] 61)) := (Below.refl _ w1).alloc (Nat.le_refl _) _
  have hV2 := (HV0.out.below hb1 HV0.out.lt).below hb12 (Nat.lt_of_lt_of_le HV0.out.lt hb1.size)
  have hI2 : Boxed _ _ _ _ := (hb12.block _ (Nat.lt_of_lt_of_le (Boxed.lt HI0.out) hb1.size)).trans ((hb1.block _ (Boxed.lt HI0.out)).trans HI0.out)
  have i0 := hI2.cell
  have Hb2 := Lib.hid ((Hb0.out.trans (hb1.mono Hb0.out.size)).trans (hb12.mono (by have := Hb0.out.size; have := hb1.size; omega)))
  have v0 := hV2.c0
  have v1 := hV2.c1
  have v2 := hV2.c2
  have g0 := hV2.fz 0
  have g1 := hV2.fz 1
  have g2 := hV2.fz 2
  have HV2 := Lib.hid hV2
  clear hb1 hb12 hV2 hI2
  go_wp2_with fail
  exact ret_val_err rfl rfl rfl rfl (HV2.out.put (.int .i64 0) (.int .i64 0) (.string ⟨#[]⟩)) ⟨rfl, below_put3 Hb2.out (by omega) _ _ _⟩
end Go.Proofs.YthbfbpbppjkoeaaGreatDoor
