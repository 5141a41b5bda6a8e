/- Contracts of reckoned of package big, for each operation. Conditions: those in the statements. -/
import Derived.Test.YthbfbpbppjkoeaaGreatDoorBigRk
namespace Go.Proofs.YthbfbpbppjkoeaaGreatDoor
open Go.RowKit Go.Shelf
set_option exponentiation.threshold 500
set_option maxRecDepth 100000

/-- Three values in new boxes. -/
theorem boxesV3 (w : World) (u v x u' v' x' : Value) :
    VB (((w.alloc (.cells #[u, v, x] 23)).alloc (.cells #[u', v', x'] 23)).alloc (.cells #[.int .i64 0, .int .i64 0, .string ⟨#[]⟩] 23)) (w.heap.size + 1 + 1) (.int .i64 0) (.int .i64 0) (.string ⟨#[]⟩) ∧
    Below w.heap.size w (((w.alloc (.cells #[u, v, x] 23)).alloc (.cells #[u', v', x'] 23)).alloc (.cells #[.int .i64 0, .int .i64 0, .string ⟨#[]⟩] 23)) := by
  refine ⟨?_, (((Below.refl _ w).alloc (Nat.le_refl _) _).alloc (by simp) _).alloc (by simp; omega) _⟩
  have := VB.new ((w.alloc (.cells #[u, v, x] 23)).alloc (.cells #[u', v', x'] 23)) (.int .i64 0) (.int .i64 0) (.string ⟨#[]⟩)
  rwa [World.size_alloc, World.size_alloc] at this
theorem few_gcd {x y : Int} (hx : Few x) (hy : Few y) : Few (Int.gcd x y : Int) := by
  unfold Few
  rw [Int.natAbs_natCast]
  by_cases h : x = 0
  · subst h; rw [Int.gcd_zero_left]; exact hy
  · exact few_of_le (Nat.le_of_dvd (by omega) (Int.gcd_dvd_natAbs_left x y)) hx
theorem few_fdiv {x y : Int} (hx : Few x) (hy : y ≠ 0) : Few (x.fdiv y) := by
  have hfl := Bg.floor_eq x y hy
  have hq := quo_abs x y hy
  have hr := rest_abs x y
  split at hfl
  · rename_i hneg
    unfold Few
    refine few_of_le (b := x.natAbs) ?_ hx
    have hr0 : (x.sign * ((x.natAbs % y.natAbs : Nat) : Int)).natAbs ≠ 0 := fun e => by
      have : x.sign * ((x.natAbs % y.natAbs : Nat) : Int) = 0 := by omega
      rw [this] at hneg; simp at hneg
    rw [hr] at hr0
    have h1 := Nat.mod_lt x.natAbs (by omega : 0 < y.natAbs)
    have h2 := Nat.div_add_mod x.natAbs y.natAbs
    have h3 : 2 * (x.natAbs / y.natAbs) ≤ y.natAbs * (x.natAbs / y.natAbs) := Nat.mul_le_mul_right _ (by omega)
    rw [hfl.1]
    omega
  · rw [hfl.1]
    unfold Few
    rw [hq]
    exact few_of_le (Nat.div_le_self _ _) hx
theorem few_fmod {x y : Int} (hy : Few y) (h0 : y ≠ 0) : Few (x.fmod y) := by
  refine few_of_le (b := y.natAbs) ?_ hy
  have := Bg.fmod_range x h0
  omega
def retLimV (z : Int) : Value := if Few z then .tuple #[canonV z, .int .i64 0] else .tuple #[valV 0 0 [], .int .i64 2]
theorem RetLim.eq {z : Int} {w w' : World} {e : Ending} (h : RetLim z w e w') : e = .returned (retLimV z) := by
  have h1 := h.1
  unfold retLimV
  split at h1
  · rename_i hf; rw [if_pos hf, h1]
  · rename_i hf; rw [if_neg hf, h1]
theorem RetLim.mk {z : Int} {w w' : World} {e : Ending} (he : e = .returned (retLimV z)) (hb : Below w.heap.size w w') : RetLim z w e w' := by
  refine ⟨?_, hb⟩
  rw [he]
  unfold retLimV
  split <;> rfl
theorem retLim_lit (z : Int) : ∃ (A B : Int) (S : List UInt8) (E : Int), retLimV z = .tuple #[.agg #[.int .i64 A, .int .i64 B, .string ⟨S.toArray⟩], .int .i64 E] := by
  unfold retLimV
  split
  · obtain ⟨A, B, S, h⟩ := canon_agg z
    rw [h]; exact ⟨_, _, _, _, rfl⟩
  · exact ⟨_, _, _, _, rfl⟩
theorem eg_reck : ∀ args w, (callFunc 81 args).run Tryz.prog w = .ok (.enter 81 args) w := enters_of Tryz.func81 (by kernel_rfl) rfl

theorem index_add (w : World) : (Instr.index 97 (.agg #[.func (.func 88) #[] #[], .bool false, .func (.func 101) #[] #[], .bool false, .func (.func 87) #[] #[], .bool false, .func (.func 89) #[] #[], .bool true, .func (.func 102) #[] #[], .bool true, .func (.func 103) #[] #[], .bool false]) (.int .i64 0)).run Tryz.prog w = .ok (.agg #[.func (.func 88) #[] #[], .bool false]) w := by kernel_rfl
theorem eg_plus : ∀ args w, (callFunc 88 args).run Tryz.prog w = .ok (.enter 88 args) w := enters_of Tryz.func88 (by kernel_rfl) rfl
set_option maxHeartbeats 2000000 in
theorem reckoned_add (K N x K' N' y : Int) (T T' : List UInt8) (h : IsNum K N T x) (h' : IsNum K' N' T' y) (w : World) (hw : Wd w) :
    Calls Tryz.prog 55 #[.int .i64 0, valV K N T, valV K' N' T'] w (RetLim (x + y) w) := by
  have hop := fun ox cx oy cy W Bd (hW : Wd W) (hx : NumAt W ox x) (hy : NumAt W oy y) (hB : Bd < W.heap.size) (_ : x ≠ 0 → ∀ b, ox = some ⟨b, 0, none⟩ → b ≠ Bd) (_ : y ≠ 0 → ∀ b, oy = some ⟨b, 0, none⟩ → b ≠ Bd) => (plus_c x y ox oy cx cy W hW hx hy).mono fun e w' h => h.ap (fun b => b = Bd) (fun b e => by omega)
  have HNo := Lib.hid (fun (W : World) (hB : Below w.heap.size w W) => numbersOf_ok K N x K' N' y T T' h h' W (hw.below hB))
  have HOp := Lib.hid hop
  have HW := Lib.hid hw
  clear h h' hw hop
  unfold valV at *
  generalize hzz : x + y = z at *
  clear hzz
  obtain ⟨hV0, hb0⟩ := boxesV3 w (.int .i64 K) (.int .i64 N) (.string ⟨T.toArray⟩) (.int .i64 K') (.int .i64 N') (.string ⟨T'.toArray⟩)
  have HV0 := Lib.hid hV0
  have Hb0 := Lib.hid hb0
  clear hV0 hb0
  go_enter Tryz.func55, Tryz.ntmps55
  go_wp2_with fail
  refine (HNo.out _ Hb0.out).mono ?_
  rintro e w1 ⟨o1, c1, o2, c2, rfl, hn1, hn2, hb1, hw1, hw2⟩
  obtain ⟨hX, hY, hbx⟩ := boxes2 w1 (.int .i64 x.sign) (.slice o1 (Bg.ds x.natAbs).length c1) (.int .i64 y.sign) (.slice o2 (Bg.ds y.natAbs).length c2)
  have HX := Lib.hid hX
  have HY := Lib.hid hY
  have HV2 := Lib.hid ((HV0.out.below hb1 HV0.out.lt).below hbx (Nat.lt_of_lt_of_le HV0.out.lt hb1.size))
  have Hb2 := Lib.hid ((Hb0.out.trans (hb1.mono Hb0.out.size)).trans (hbx.mono (by have := Hb0.out.size; have := hb1.size; omega)))
  have Hn1 := Lib.hid (hn1.mono hbx)
  have Hn2 := Lib.hid (hn2.mono hbx)
  have HO1 := Lib.hid hn1
  have HO2 := Lib.hid hn2
  clear hX hY hbx hn1 hn2 hb1 hw1 hw2
  unfold numV
  go_wp2_with fail
  refine (rules_c _).mono ?_
  rintro e w3 ⟨rfl, hb3⟩
  have hX3 := HX.out.below hb3 HX.out.lt
  have hY3 := HY.out.below hb3 HY.out.lt
  have hV3 := HV2.out.below hb3 HV2.out.lt
  have Hb3 := Lib.hid (Hb2.out.trans (hb3.mono Hb2.out.size))
  have Hn13 := Lib.hid (Hn1.out.mono hb3)
  have Hn23 := Lib.hid (Hn2.out.mono hb3)
  have HX3 := Lib.hid hX3
  have HY3 := Lib.hid hY3
  have HV3 := Lib.hid hV3
  have y0 := fun ob : Obj => (hY3.alloc ob).c0
  clear hb3 hX3 hY3 hV3
  unfold rulesV
  have hix := index_add
  go_wp2_with fail
  obtain ⟨w4, hw4⟩ : ∃ w4, w3.alloc (.cells #[.func (.func 88) #[] #[], .bool false] 96) = w4 := ⟨_, rfl⟩
  have hb4 : Below w3.heap.size w3 w4 := by rw [← hw4]; exact (Below.refl _ w3).alloc (Nat.le_refl _) _
  have hR4 : w4.cell? ⟨w3.heap.size, 0, none⟩ = some (.func (.func 88) #[] #[]) := by rw [← hw4]; exact (Lib.cell_of_heap (World.alloc_heap_new w3 _) 0).trans rfl
  have hX4 := HX3.out.below hb4 HX3.out.lt
  have hY4 := HY3.out.below hb4 HY3.out.lt
  have hV4 := HV3.out.below hb4 HV3.out.lt
  have Hb4 := Hb3.out.trans (hb4.mono Hb3.out.size)
  have hlim := limited_c z 81 #[.pointer (some ⟨w3.heap.size, 0, none⟩), .pointer (some ⟨w1.heap.size, 0, none⟩), .pointer (some ⟨w1.heap.size + 1, 0, none⟩)] w4 (HW.out.below Hb4) eg_reck (fun W hB hz => reckon1_c w3.heap.size w1.heap.size (w1.heap.size + 1) 88 x y z o1 o2 c1 c2 W eg_plus
    ((hB.cell (p := ⟨w3.heap.size, 0, none⟩) (World.block_lt_of_cell? _ _ hR4)).trans hR4) (hX4.below hB hX4.lt) (hY4.below hB hY4.lt) (fun W' hB' hlt => HOp.out o1 c1 o2 c2 W' W.heap.size (HW.out.below ((Hb4.trans (hB.mono Hb4.size)).trans (hB'.mono (by have := Hb4.size; have := hB.size; omega)))) (((Hn13.out.mono hb4).mono hB).mono hB') (((Hn23.out.mono hb4).mono hB).mono hB') hlt
      (fun h0 b e => by have := HO1.out.old h0 b e; have := hX4.lt; omega) (fun h0 b e => by have := HO2.out.old h0 b e; have := hX4.lt; omega)))
  rw [hw4]
  have HLim := Lib.hid hlim
  have HV4 := Lib.hid hV4
  have HB4 := Lib.hid Hb4
  clear hlim hw4 hb4 hR4 hX4 hY4 hV4 Hb4
  refine HLim.out.mono ?_
  rintro e w5 hl
  obtain ⟨A, B, S, E, hlit⟩ := retLim_lit z
  have he := hl.eq
  rw [hlit] at he
  subst he
  have hV5 := HV4.out.below hl.2 HV4.out.lt
  have HB5 := Lib.hid (HB4.out.trans (hl.2.mono HB4.out.size))
  have HLit := Lib.hid hlit
  have v0 := hV5.c0
  have v1 := hV5.c1
  have v2 := hV5.c2
  have g0 := hV5.fz 0
  have g1 := hV5.fz 1
  have g2 := hV5.fz 2
  have HV5 := Lib.hid hV5
  clear hl hlit hV5 y0
  go_wp2_with fail
  exact ret_val_err (y := .int .i64 E) rfl rfl rfl rfl (HV5.out.put (.int .i64 A) (.int .i64 B) (.string ⟨S.toArray⟩)) (RetLim.mk (by rw [HLit.out]) (below_put3 HB5.out (by omega) _ _ _))

theorem index_sub (w : World) : (Instr.index 97 (.agg #[.func (.func 88) #[] #[], .bool false, .func (.func 101) #[] #[], .bool false, .func (.func 87) #[] #[], .bool false, .func (.func 89) #[] #[], .bool true, .func (.func 102) #[] #[], .bool true, .func (.func 103) #[] #[], .bool false]) (.int .i64 1)).run Tryz.prog w = .ok (.agg #[.func (.func 101) #[] #[], .bool false]) w := by kernel_rfl
theorem eg_minus : ∀ args w, (callFunc 101 args).run Tryz.prog w = .ok (.enter 101 args) w := enters_of Tryz.func101 (by kernel_rfl) rfl
set_option maxHeartbeats 2000000 in
theorem reckoned_sub (K N x K' N' y : Int) (T T' : List UInt8) (h : IsNum K N T x) (h' : IsNum K' N' T' y) (w : World) (hw : Wd w) :
    Calls Tryz.prog 55 #[.int .i64 1, valV K N T, valV K' N' T'] w (RetLim (x - y) w) := by
  have hop := fun ox cx oy cy W Bd (hW : Wd W) (hx : NumAt W ox x) (hy : NumAt W oy y) (hB : Bd < W.heap.size) (_ : x ≠ 0 → ∀ b, ox = some ⟨b, 0, none⟩ → b ≠ Bd) (_ : y ≠ 0 → ∀ b, oy = some ⟨b, 0, none⟩ → b ≠ Bd) => (minus_c x y ox oy cx cy W hW hx hy).mono fun e w' h => h.ap (fun b => b = Bd) (fun b e => by omega)
  have HNo := Lib.hid (fun (W : World) (hB : Below w.heap.size w W) => numbersOf_ok K N x K' N' y T T' h h' W (hw.below hB))
  have HOp := Lib.hid hop
  have HW := Lib.hid hw
  clear h h' hw hop
  unfold valV at *
  generalize hzz : x - y = z at *
  clear hzz
  obtain ⟨hV0, hb0⟩ := boxesV3 w (.int .i64 K) (.int .i64 N) (.string ⟨T.toArray⟩) (.int .i64 K') (.int .i64 N') (.string ⟨T'.toArray⟩)
  have HV0 := Lib.hid hV0
  have Hb0 := Lib.hid hb0
  clear hV0 hb0
  go_enter Tryz.func55, Tryz.ntmps55
  go_wp2_with fail
  refine (HNo.out _ Hb0.out).mono ?_
  rintro e w1 ⟨o1, c1, o2, c2, rfl, hn1, hn2, hb1, hw1, hw2⟩
  obtain ⟨hX, hY, hbx⟩ := boxes2 w1 (.int .i64 x.sign) (.slice o1 (Bg.ds x.natAbs).length c1) (.int .i64 y.sign) (.slice o2 (Bg.ds y.natAbs).length c2)
  have HX := Lib.hid hX
  have HY := Lib.hid hY
  have HV2 := Lib.hid ((HV0.out.below hb1 HV0.out.lt).below hbx (Nat.lt_of_lt_of_le HV0.out.lt hb1.size))
  have Hb2 := Lib.hid ((Hb0.out.trans (hb1.mono Hb0.out.size)).trans (hbx.mono (by have := Hb0.out.size; have := hb1.size; omega)))
  have Hn1 := Lib.hid (hn1.mono hbx)
  have Hn2 := Lib.hid (hn2.mono hbx)
  have HO1 := Lib.hid hn1
  have HO2 := Lib.hid hn2
  clear hX hY hbx hn1 hn2 hb1 hw1 hw2
  unfold numV
  go_wp2_with fail
  refine (rules_c _).mono ?_
  rintro e w3 ⟨rfl, hb3⟩
  have hX3 := HX.out.below hb3 HX.out.lt
  have hY3 := HY.out.below hb3 HY.out.lt
  have hV3 := HV2.out.below hb3 HV2.out.lt
  have Hb3 := Lib.hid (Hb2.out.trans (hb3.mono Hb2.out.size))
  have Hn13 := Lib.hid (Hn1.out.mono hb3)
  have Hn23 := Lib.hid (Hn2.out.mono hb3)
  have HX3 := Lib.hid hX3
  have HY3 := Lib.hid hY3
  have HV3 := Lib.hid hV3
  have y0 := fun ob : Obj => (hY3.alloc ob).c0
  clear hb3 hX3 hY3 hV3
  unfold rulesV
  have hix := index_sub
  go_wp2_with fail
  obtain ⟨w4, hw4⟩ : ∃ w4, w3.alloc (.cells #[.func (.func 101) #[] #[], .bool false] 96) = w4 := ⟨_, rfl⟩
  have hb4 : Below w3.heap.size w3 w4 := by rw [← hw4]; exact (Below.refl _ w3).alloc (Nat.le_refl _) _
  have hR4 : w4.cell? ⟨w3.heap.size, 0, none⟩ = some (.func (.func 101) #[] #[]) := by rw [← hw4]; exact (Lib.cell_of_heap (World.alloc_heap_new w3 _) 0).trans rfl
  have hX4 := HX3.out.below hb4 HX3.out.lt
  have hY4 := HY3.out.below hb4 HY3.out.lt
  have hV4 := HV3.out.below hb4 HV3.out.lt
  have Hb4 := Hb3.out.trans (hb4.mono Hb3.out.size)
  have hlim := limited_c z 81 #[.pointer (some ⟨w3.heap.size, 0, none⟩), .pointer (some ⟨w1.heap.size, 0, none⟩), .pointer (some ⟨w1.heap.size + 1, 0, none⟩)] w4 (HW.out.below Hb4) eg_reck (fun W hB hz => reckon1_c w3.heap.size w1.heap.size (w1.heap.size + 1) 101 x y z o1 o2 c1 c2 W eg_minus
    ((hB.cell (p := ⟨w3.heap.size, 0, none⟩) (World.block_lt_of_cell? _ _ hR4)).trans hR4) (hX4.below hB hX4.lt) (hY4.below hB hY4.lt) (fun W' hB' hlt => HOp.out o1 c1 o2 c2 W' W.heap.size (HW.out.below ((Hb4.trans (hB.mono Hb4.size)).trans (hB'.mono (by have := Hb4.size; have := hB.size; omega)))) (((Hn13.out.mono hb4).mono hB).mono hB') (((Hn23.out.mono hb4).mono hB).mono hB') hlt
      (fun h0 b e => by have := HO1.out.old h0 b e; have := hX4.lt; omega) (fun h0 b e => by have := HO2.out.old h0 b e; have := hX4.lt; omega)))
  rw [hw4]
  have HLim := Lib.hid hlim
  have HV4 := Lib.hid hV4
  have HB4 := Lib.hid Hb4
  clear hlim hw4 hb4 hR4 hX4 hY4 hV4 Hb4
  refine HLim.out.mono ?_
  rintro e w5 hl
  obtain ⟨A, B, S, E, hlit⟩ := retLim_lit z
  have he := hl.eq
  rw [hlit] at he
  subst he
  have hV5 := HV4.out.below hl.2 HV4.out.lt
  have HB5 := Lib.hid (HB4.out.trans (hl.2.mono HB4.out.size))
  have HLit := Lib.hid hlit
  have v0 := hV5.c0
  have v1 := hV5.c1
  have v2 := hV5.c2
  have g0 := hV5.fz 0
  have g1 := hV5.fz 1
  have g2 := hV5.fz 2
  have HV5 := Lib.hid hV5
  clear hl hlit hV5 y0
  go_wp2_with fail
  exact ret_val_err (y := .int .i64 E) rfl rfl rfl rfl (HV5.out.put (.int .i64 A) (.int .i64 B) (.string ⟨S.toArray⟩)) (RetLim.mk (by rw [HLit.out]) (below_put3 HB5.out (by omega) _ _ _))

theorem index_mul (w : World) : (Instr.index 97 (.agg #[.func (.func 88) #[] #[], .bool false, .func (.func 101) #[] #[], .bool false, .func (.func 87) #[] #[], .bool false, .func (.func 89) #[] #[], .bool true, .func (.func 102) #[] #[], .bool true, .func (.func 103) #[] #[], .bool false]) (.int .i64 2)).run Tryz.prog w = .ok (.agg #[.func (.func 87) #[] #[], .bool false]) w := by kernel_rfl
theorem eg_times : ∀ args w, (callFunc 87 args).run Tryz.prog w = .ok (.enter 87 args) w := enters_of Tryz.func87 (by kernel_rfl) rfl
set_option maxHeartbeats 2000000 in
theorem reckoned_mul (K N x K' N' y : Int) (T T' : List UInt8) (h : IsNum K N T x) (h' : IsNum K' N' T' y) (w : World) (hw : Wd w) :
    Calls Tryz.prog 55 #[.int .i64 2, valV K N T, valV K' N' T'] w (RetLim (x * y) w) := by
  have hop := fun ox cx oy cy W Bd (hW : Wd W) (hx : NumAt W ox x) (hy : NumAt W oy y) (hB : Bd < W.heap.size) (_ : x ≠ 0 → ∀ b, ox = some ⟨b, 0, none⟩ → b ≠ Bd) (_ : y ≠ 0 → ∀ b, oy = some ⟨b, 0, none⟩ → b ≠ Bd) => (times_c x y ox oy cx cy W hW hx hy).mono fun e w' h => h.ap (fun b => b = Bd) (fun b e => by omega)
  have HNo := Lib.hid (fun (W : World) (hB : Below w.heap.size w W) => numbersOf_ok K N x K' N' y T T' h h' W (hw.below hB))
  have HOp := Lib.hid hop
  have HW := Lib.hid hw
  clear h h' hw hop
  unfold valV at *
  generalize hzz : x * y = z at *
  clear hzz
  obtain ⟨hV0, hb0⟩ := boxesV3 w (.int .i64 K) (.int .i64 N) (.string ⟨T.toArray⟩) (.int .i64 K') (.int .i64 N') (.string ⟨T'.toArray⟩)
  have HV0 := Lib.hid hV0
  have Hb0 := Lib.hid hb0
  clear hV0 hb0
  go_enter Tryz.func55, Tryz.ntmps55
  go_wp2_with fail
  refine (HNo.out _ Hb0.out).mono ?_
  rintro e w1 ⟨o1, c1, o2, c2, rfl, hn1, hn2, hb1, hw1, hw2⟩
  obtain ⟨hX, hY, hbx⟩ := boxes2 w1 (.int .i64 x.sign) (.slice o1 (Bg.ds x.natAbs).length c1) (.int .i64 y.sign) (.slice o2 (Bg.ds y.natAbs).length c2)
  have HX := Lib.hid hX
  have HY := Lib.hid hY
  have HV2 := Lib.hid ((HV0.out.below hb1 HV0.out.lt).below hbx (Nat.lt_of_lt_of_le HV0.out.lt hb1.size))
  have Hb2 := Lib.hid ((Hb0.out.trans (hb1.mono Hb0.out.size)).trans (hbx.mono (by have := Hb0.out.size; have := hb1.size; omega)))
  have Hn1 := Lib.hid (hn1.mono hbx)
  have Hn2 := Lib.hid (hn2.mono hbx)
  have HO1 := Lib.hid hn1
  have HO2 := Lib.hid hn2
  clear hX hY hbx hn1 hn2 hb1 hw1 hw2
  unfold numV
  go_wp2_with fail
  refine (rules_c _).mono ?_
  rintro e w3 ⟨rfl, hb3⟩
  have hX3 := HX.out.below hb3 HX.out.lt
  have hY3 := HY.out.below hb3 HY.out.lt
  have hV3 := HV2.out.below hb3 HV2.out.lt
  have Hb3 := Lib.hid (Hb2.out.trans (hb3.mono Hb2.out.size))
  have Hn13 := Lib.hid (Hn1.out.mono hb3)
  have Hn23 := Lib.hid (Hn2.out.mono hb3)
  have HX3 := Lib.hid hX3
  have HY3 := Lib.hid hY3
  have HV3 := Lib.hid hV3
  have y0 := fun ob : Obj => (hY3.alloc ob).c0
  clear hb3 hX3 hY3 hV3
  unfold rulesV
  have hix := index_mul
  go_wp2_with fail
  obtain ⟨w4, hw4⟩ : ∃ w4, w3.alloc (.cells #[.func (.func 87) #[] #[], .bool false] 96) = w4 := ⟨_, rfl⟩
  have hb4 : Below w3.heap.size w3 w4 := by rw [← hw4]; exact (Below.refl _ w3).alloc (Nat.le_refl _) _
  have hR4 : w4.cell? ⟨w3.heap.size, 0, none⟩ = some (.func (.func 87) #[] #[]) := by rw [← hw4]; exact (Lib.cell_of_heap (World.alloc_heap_new w3 _) 0).trans rfl
  have hX4 := HX3.out.below hb4 HX3.out.lt
  have hY4 := HY3.out.below hb4 HY3.out.lt
  have hV4 := HV3.out.below hb4 HV3.out.lt
  have Hb4 := Hb3.out.trans (hb4.mono Hb3.out.size)
  have hlim := limited_c z 81 #[.pointer (some ⟨w3.heap.size, 0, none⟩), .pointer (some ⟨w1.heap.size, 0, none⟩), .pointer (some ⟨w1.heap.size + 1, 0, none⟩)] w4 (HW.out.below Hb4) eg_reck (fun W hB hz => reckon1_c w3.heap.size w1.heap.size (w1.heap.size + 1) 87 x y z o1 o2 c1 c2 W eg_times
    ((hB.cell (p := ⟨w3.heap.size, 0, none⟩) (World.block_lt_of_cell? _ _ hR4)).trans hR4) (hX4.below hB hX4.lt) (hY4.below hB hY4.lt) (fun W' hB' hlt => HOp.out o1 c1 o2 c2 W' W.heap.size (HW.out.below ((Hb4.trans (hB.mono Hb4.size)).trans (hB'.mono (by have := Hb4.size; have := hB.size; omega)))) (((Hn13.out.mono hb4).mono hB).mono hB') (((Hn23.out.mono hb4).mono hB).mono hB') hlt
      (fun h0 b e => by have := HO1.out.old h0 b e; have := hX4.lt; omega) (fun h0 b e => by have := HO2.out.old h0 b e; have := hX4.lt; omega)))
  rw [hw4]
  have HLim := Lib.hid hlim
  have HV4 := Lib.hid hV4
  have HB4 := Lib.hid Hb4
  clear hlim hw4 hb4 hR4 hX4 hY4 hV4 Hb4
  refine HLim.out.mono ?_
  rintro e w5 hl
  obtain ⟨A, B, S, E, hlit⟩ := retLim_lit z
  have he := hl.eq
  rw [hlit] at he
  subst he
  have hV5 := HV4.out.below hl.2 HV4.out.lt
  have HB5 := Lib.hid (HB4.out.trans (hl.2.mono HB4.out.size))
  have HLit := Lib.hid hlit
  have v0 := hV5.c0
  have v1 := hV5.c1
  have v2 := hV5.c2
  have g0 := hV5.fz 0
  have g1 := hV5.fz 1
  have g2 := hV5.fz 2
  have HV5 := Lib.hid hV5
  clear hl hlit hV5 y0
  go_wp2_with fail
  exact ret_val_err (y := .int .i64 E) rfl rfl rfl rfl (HV5.out.put (.int .i64 A) (.int .i64 B) (.string ⟨S.toArray⟩)) (RetLim.mk (by rw [HLit.out]) (below_put3 HB5.out (by omega) _ _ _))

theorem index_div (w : World) : (Instr.index 97 (.agg #[.func (.func 88) #[] #[], .bool false, .func (.func 101) #[] #[], .bool false, .func (.func 87) #[] #[], .bool false, .func (.func 89) #[] #[], .bool true, .func (.func 102) #[] #[], .bool true, .func (.func 103) #[] #[], .bool false]) (.int .i64 3)).run Tryz.prog w = .ok (.agg #[.func (.func 89) #[] #[], .bool true]) w := by kernel_rfl
theorem eg_quotient : ∀ args w, (callFunc 89 args).run Tryz.prog w = .ok (.enter 89 args) w := enters_of Tryz.func89 (by kernel_rfl) rfl
set_option maxHeartbeats 2000000 in
theorem reckoned_div (K N x K' N' y : Int) (T T' : List UInt8) (h : IsNum K N T x) (h' : IsNum K' N' T' y) (hy0 : y ≠ 0) (w : World) (hw : Wd w) :
    Calls Tryz.prog 55 #[.int .i64 3, valV K N T, valV K' N' T'] w (RetLim (x.fdiv y) w) := by
  have hfz : Few (x.fdiv y) := few_fdiv h.1 hy0
  have dy : (y.sign == 0) = false := beq_eq_false_iff_ne.2 (fun e => hy0 (Int.sign_eq_zero_iff_zero.1 e))
  have hop := fun ox cx oy cy W Bd (hW : Wd W) (hx : NumAt W ox x) (hy : NumAt W oy y) (hB : Bd < W.heap.size) (_ : x ≠ 0 → ∀ b, ox = some ⟨b, 0, none⟩ → b ≠ Bd) (_ : y ≠ 0 → ∀ b, oy = some ⟨b, 0, none⟩ → b ≠ Bd) => (quotient_c x y hy0 ox oy cx cy W hW hx hy).mono fun e w' h => (⟨fun _ => h.ap (fun b => b = Bd) (fun b e => by omega), fun hn => absurd hfz hn⟩ : RetApZ _ _ _ _ _)
  have HNo := Lib.hid (fun (W : World) (hB : Below w.heap.size w W) => numbersOf_ok K N x K' N' y T T' h h' W (hw.below hB))
  have HOp := Lib.hid hop
  have HW := Lib.hid hw
  clear h h' hw hop
  unfold valV at *
  generalize hzz : x.fdiv y = z at *
  clear hzz
  obtain ⟨hV0, hb0⟩ := boxesV3 w (.int .i64 K) (.int .i64 N) (.string ⟨T.toArray⟩) (.int .i64 K') (.int .i64 N') (.string ⟨T'.toArray⟩)
  have HV0 := Lib.hid hV0
  have Hb0 := Lib.hid hb0
  clear hV0 hb0
  go_enter Tryz.func55, Tryz.ntmps55
  go_wp2_with fail
  refine (HNo.out _ Hb0.out).mono ?_
  rintro e w1 ⟨o1, c1, o2, c2, rfl, hn1, hn2, hb1, hw1, hw2⟩
  obtain ⟨hX, hY, hbx⟩ := boxes2 w1 (.int .i64 x.sign) (.slice o1 (Bg.ds x.natAbs).length c1) (.int .i64 y.sign) (.slice o2 (Bg.ds y.natAbs).length c2)
  have HX := Lib.hid hX
  have HY := Lib.hid hY
  have HV2 := Lib.hid ((HV0.out.below hb1 HV0.out.lt).below hbx (Nat.lt_of_lt_of_le HV0.out.lt hb1.size))
  have Hb2 := Lib.hid ((Hb0.out.trans (hb1.mono Hb0.out.size)).trans (hbx.mono (by have := Hb0.out.size; have := hb1.size; omega)))
  have Hn1 := Lib.hid (hn1.mono hbx)
  have Hn2 := Lib.hid (hn2.mono hbx)
  have HO1 := Lib.hid hn1
  have HO2 := Lib.hid hn2
  clear hX hY hbx hn1 hn2 hb1 hw1 hw2
  unfold numV
  go_wp2_with fail
  refine (rules_c _).mono ?_
  rintro e w3 ⟨rfl, hb3⟩
  have hX3 := HX.out.below hb3 HX.out.lt
  have hY3 := HY.out.below hb3 HY.out.lt
  have hV3 := HV2.out.below hb3 HV2.out.lt
  have Hb3 := Lib.hid (Hb2.out.trans (hb3.mono Hb2.out.size))
  have Hn13 := Lib.hid (Hn1.out.mono hb3)
  have Hn23 := Lib.hid (Hn2.out.mono hb3)
  have HX3 := Lib.hid hX3
  have HY3 := Lib.hid hY3
  have HV3 := Lib.hid hV3
  have y0 := fun ob : Obj => (hY3.alloc ob).c0
  clear hb3 hX3 hY3 hV3
  unfold rulesV
  have hix := index_div
  go_wp2_with fail
  obtain ⟨w4, hw4⟩ : ∃ w4, w3.alloc (.cells #[.func (.func 89) #[] #[], .bool true] 96) = w4 := ⟨_, rfl⟩
  have hb4 : Below w3.heap.size w3 w4 := by rw [← hw4]; exact (Below.refl _ w3).alloc (Nat.le_refl _) _
  have hR4 : w4.cell? ⟨w3.heap.size, 0, none⟩ = some (.func (.func 89) #[] #[]) := by rw [← hw4]; exact (Lib.cell_of_heap (World.alloc_heap_new w3 _) 0).trans rfl
  have hX4 := HX3.out.below hb4 HX3.out.lt
  have hY4 := HY3.out.below hb4 HY3.out.lt
  have hV4 := HV3.out.below hb4 HV3.out.lt
  have Hb4 := Hb3.out.trans (hb4.mono Hb3.out.size)
  have hlim := limited_c z 81 #[.pointer (some ⟨w3.heap.size, 0, none⟩), .pointer (some ⟨w1.heap.size, 0, none⟩), .pointer (some ⟨w1.heap.size + 1, 0, none⟩)] w4 (HW.out.below Hb4) eg_reck (fun W hB hz => reckon1_c w3.heap.size w1.heap.size (w1.heap.size + 1) 89 x y z o1 o2 c1 c2 W eg_quotient
    ((hB.cell (p := ⟨w3.heap.size, 0, none⟩) (World.block_lt_of_cell? _ _ hR4)).trans hR4) (hX4.below hB hX4.lt) (hY4.below hB hY4.lt) (fun W' hB' hlt => HOp.out o1 c1 o2 c2 W' W.heap.size (HW.out.below ((Hb4.trans (hB.mono Hb4.size)).trans (hB'.mono (by have := Hb4.size; have := hB.size; omega)))) (((Hn13.out.mono hb4).mono hB).mono hB') (((Hn23.out.mono hb4).mono hB).mono hB') hlt
      (fun h0 b e => by have := HO1.out.old h0 b e; have := hX4.lt; omega) (fun h0 b e => by have := HO2.out.old h0 b e; have := hX4.lt; omega)))
  rw [hw4]
  have HLim := Lib.hid hlim
  have HV4 := Lib.hid hV4
  have HB4 := Lib.hid Hb4
  clear hlim hw4 hb4 hR4 hX4 hY4 hV4 Hb4
  refine HLim.out.mono ?_
  rintro e w5 hl
  obtain ⟨A, B, S, E, hlit⟩ := retLim_lit z
  have he := hl.eq
  rw [hlit] at he
  subst he
  have hV5 := HV4.out.below hl.2 HV4.out.lt
  have HB5 := Lib.hid (HB4.out.trans (hl.2.mono HB4.out.size))
  have HLit := Lib.hid hlit
  have v0 := hV5.c0
  have v1 := hV5.c1
  have v2 := hV5.c2
  have g0 := hV5.fz 0
  have g1 := hV5.fz 1
  have g2 := hV5.fz 2
  have HV5 := Lib.hid hV5
  clear hl hlit hV5 y0
  go_wp2_with fail
  exact ret_val_err (y := .int .i64 E) rfl rfl rfl rfl (HV5.out.put (.int .i64 A) (.int .i64 B) (.string ⟨S.toArray⟩)) (RetLim.mk (by rw [HLit.out]) (below_put3 HB5.out (by omega) _ _ _))

set_option maxHeartbeats 2000000 in
theorem reckoned_div_zero (K N x K' N' y : Int) (T T' : List UInt8) (h : IsNum K N T x) (h' : IsNum K' N' T' y) (hy0 : y = 0) (w : World) (hw : Wd w) :
    Calls Tryz.prog 55 #[.int .i64 3, valV K N T, valV K' N' T'] w fun e w' => e = .returned (.tuple #[valV 0 0 [], .int .i64 30]) ∧ Below w.heap.size w w' := by
  have dy : (y.sign == 0) = true := by rw [hy0]; rfl
  have HNo := Lib.hid (fun (W : World) (hB : Below w.heap.size w W) => numbersOf_ok K N x K' N' y T T' h h' W (hw.below hB))
  clear h h' hw hy0
  unfold valV at *
  obtain ⟨hV0, hb0⟩ := boxesV3 w (.int .i64 K) (.int .i64 N) (.string ⟨T.toArray⟩) (.int .i64 K') (.int .i64 N') (.string ⟨T'.toArray⟩)
  have HV0 := Lib.hid hV0
  have Hb0 := Lib.hid hb0
  clear hV0 hb0
  go_enter Tryz.func55, Tryz.ntmps55
  go_wp2_with fail
  refine (HNo.out _ Hb0.out).mono ?_
  rintro e w1 ⟨o1, c1, o2, c2, rfl, hn1, hn2, hb1, hw1, hw2⟩
  obtain ⟨hX, hY, hbx⟩ := boxes2 w1 (.int .i64 x.sign) (.slice o1 (Bg.ds x.natAbs).length c1) (.int .i64 y.sign) (.slice o2 (Bg.ds y.natAbs).length c2)
  have HY := Lib.hid hY
  have HV2 := Lib.hid ((HV0.out.below hb1 HV0.out.lt).below hbx (Nat.lt_of_lt_of_le HV0.out.lt hb1.size))
  have Hb2 := Lib.hid ((Hb0.out.trans (hb1.mono Hb0.out.size)).trans (hbx.mono (by have := Hb0.out.size; have := hb1.size; omega)))
  clear hX hY hbx hn1 hn2 hb1 hw1 hw2
  unfold numV
  go_wp2_with fail
  refine (rules_c _).mono ?_
  rintro e w3 ⟨rfl, hb3⟩
  have hY3 := HY.out.below hb3 HY.out.lt
  have hV3 := HV2.out.below hb3 HV2.out.lt
  have Hb3 := Lib.hid (Hb2.out.trans (hb3.mono Hb2.out.size))
  have y0 := fun ob : Obj => (hY3.alloc ob).c0
  have v0 := fun ob : Obj => (hV3.alloc ob).c0
  have v1 := fun ob : Obj => (hV3.alloc ob).c1
  have v2 := fun ob : Obj => (hV3.alloc ob).c2
  have g0 := fun ob : Obj => (hV3.alloc ob).fz 0
  have g1 := fun ob : Obj => (hV3.alloc ob).fz 1
  have g2 := fun ob : Obj => (hV3.alloc ob).fz 2
  have HV3 := Lib.hid hV3
  clear hb3 hY3 hV3
  unfold rulesV
  have hix := index_div
  go_wp2_with fail
  exact ret_val_err rfl rfl rfl rfl ((HV3.out.alloc _).put (.int .i64 0) (.int .i64 0) (.string ⟨#[]⟩)) ⟨rfl, below_put3 (Hb3.out.alloc Hb3.out.size _) (by omega) _ _ _⟩

theorem index_mod (w : World) : (Instr.index 97 (.agg #[.func (.func 88) #[] #[], .bool false, .func (.func 101) #[] #[], .bool false, .func (.func 87) #[] #[], .bool false, .func (.func 89) #[] #[], .bool true, .func (.func 102) #[] #[], .bool true, .func (.func 103) #[] #[], .bool false]) (.int .i64 4)).run Tryz.prog w = .ok (.agg #[.func (.func 102) #[] #[], .bool true]) w := by kernel_rfl
theorem eg_rest : ∀ args w, (callFunc 102 args).run Tryz.prog w = .ok (.enter 102 args) w := enters_of Tryz.func102 (by kernel_rfl) rfl
set_option maxHeartbeats 2000000 in
theorem reckoned_mod (K N x K' N' y : Int) (T T' : List UInt8) (h : IsNum K N T x) (h' : IsNum K' N' T' y) (hy0 : y ≠ 0) (w : World) (hw : Wd w) :
    Calls Tryz.prog 55 #[.int .i64 4, valV K N T, valV K' N' T'] w (RetLim (x.fmod y) w) := by
  have hfz : Few (x.fmod y) := few_fmod h'.1 hy0
  have dy : (y.sign == 0) = false := beq_eq_false_iff_ne.2 (fun e => hy0 (Int.sign_eq_zero_iff_zero.1 e))
  have hop := fun ox cx oy cy W Bd (hW : Wd W) (hx : NumAt W ox x) (hy : NumAt W oy y) (hB : Bd < W.heap.size) (_ : x ≠ 0 → ∀ b, ox = some ⟨b, 0, none⟩ → b ≠ Bd) (_ : y ≠ 0 → ∀ b, oy = some ⟨b, 0, none⟩ → b ≠ Bd) => (rest_c x y hy0 ox oy cx cy W hW hx hy).mono fun e w' h => (⟨fun _ => h.ap (fun b => b = Bd) (fun b e => by omega), fun hn => absurd hfz hn⟩ : RetApZ _ _ _ _ _)
  have HNo := Lib.hid (fun (W : World) (hB : Below w.heap.size w W) => numbersOf_ok K N x K' N' y T T' h h' W (hw.below hB))
  have HOp := Lib.hid hop
  have HW := Lib.hid hw
  clear h h' hw hop
  unfold valV at *
  generalize hzz : x.fmod y = z at *
  clear hzz
  obtain ⟨hV0, hb0⟩ := boxesV3 w (.int .i64 K) (.int .i64 N) (.string ⟨T.toArray⟩) (.int .i64 K') (.int .i64 N') (.string ⟨T'.toArray⟩)
  have HV0 := Lib.hid hV0
  have Hb0 := Lib.hid hb0
  clear hV0 hb0
  go_enter Tryz.func55, Tryz.ntmps55
  go_wp2_with fail
  refine (HNo.out _ Hb0.out).mono ?_
  rintro e w1 ⟨o1, c1, o2, c2, rfl, hn1, hn2, hb1, hw1, hw2⟩
  obtain ⟨hX, hY, hbx⟩ := boxes2 w1 (.int .i64 x.sign) (.slice o1 (Bg.ds x.natAbs).length c1) (.int .i64 y.sign) (.slice o2 (Bg.ds y.natAbs).length c2)
  have HX := Lib.hid hX
  have HY := Lib.hid hY
  have HV2 := Lib.hid ((HV0.out.below hb1 HV0.out.lt).below hbx (Nat.lt_of_lt_of_le HV0.out.lt hb1.size))
  have Hb2 := Lib.hid ((Hb0.out.trans (hb1.mono Hb0.out.size)).trans (hbx.mono (by have := Hb0.out.size; have := hb1.size; omega)))
  have Hn1 := Lib.hid (hn1.mono hbx)
  have Hn2 := Lib.hid (hn2.mono hbx)
  have HO1 := Lib.hid hn1
  have HO2 := Lib.hid hn2
  clear hX hY hbx hn1 hn2 hb1 hw1 hw2
  unfold numV
  go_wp2_with fail
  refine (rules_c _).mono ?_
  rintro e w3 ⟨rfl, hb3⟩
  have hX3 := HX.out.below hb3 HX.out.lt
  have hY3 := HY.out.below hb3 HY.out.lt
  have hV3 := HV2.out.below hb3 HV2.out.lt
  have Hb3 := Lib.hid (Hb2.out.trans (hb3.mono Hb2.out.size))
  have Hn13 := Lib.hid (Hn1.out.mono hb3)
  have Hn23 := Lib.hid (Hn2.out.mono hb3)
  have HX3 := Lib.hid hX3
  have HY3 := Lib.hid hY3
  have HV3 := Lib.hid hV3
  have y0 := fun ob : Obj => (hY3.alloc ob).c0
  clear hb3 hX3 hY3 hV3
  unfold rulesV
  have hix := index_mod
  go_wp2_with fail
  obtain ⟨w4, hw4⟩ : ∃ w4, w3.alloc (.cells #[.func (.func 102) #[] #[], .bool true] 96) = w4 := ⟨_, rfl⟩
  have hb4 : Below w3.heap.size w3 w4 := by rw [← hw4]; exact (Below.refl _ w3).alloc (Nat.le_refl _) _
  have hR4 : w4.cell? ⟨w3.heap.size, 0, none⟩ = some (.func (.func 102) #[] #[]) := by rw [← hw4]; exact (Lib.cell_of_heap (World.alloc_heap_new w3 _) 0).trans rfl
  have hX4 := HX3.out.below hb4 HX3.out.lt
  have hY4 := HY3.out.below hb4 HY3.out.lt
  have hV4 := HV3.out.below hb4 HV3.out.lt
  have Hb4 := Hb3.out.trans (hb4.mono Hb3.out.size)
  have hlim := limited_c z 81 #[.pointer (some ⟨w3.heap.size, 0, none⟩), .pointer (some ⟨w1.heap.size, 0, none⟩), .pointer (some ⟨w1.heap.size + 1, 0, none⟩)] w4 (HW.out.below Hb4) eg_reck (fun W hB hz => reckon1_c w3.heap.size w1.heap.size (w1.heap.size + 1) 102 x y z o1 o2 c1 c2 W eg_rest
    ((hB.cell (p := ⟨w3.heap.size, 0, none⟩) (World.block_lt_of_cell? _ _ hR4)).trans hR4) (hX4.below hB hX4.lt) (hY4.below hB hY4.lt) (fun W' hB' hlt => HOp.out o1 c1 o2 c2 W' W.heap.size (HW.out.below ((Hb4.trans (hB.mono Hb4.size)).trans (hB'.mono (by have := Hb4.size; have := hB.size; omega)))) (((Hn13.out.mono hb4).mono hB).mono hB') (((Hn23.out.mono hb4).mono hB).mono hB') hlt
      (fun h0 b e => by have := HO1.out.old h0 b e; have := hX4.lt; omega) (fun h0 b e => by have := HO2.out.old h0 b e; have := hX4.lt; omega)))
  rw [hw4]
  have HLim := Lib.hid hlim
  have HV4 := Lib.hid hV4
  have HB4 := Lib.hid Hb4
  clear hlim hw4 hb4 hR4 hX4 hY4 hV4 Hb4
  refine HLim.out.mono ?_
  rintro e w5 hl
  obtain ⟨A, B, S, E, hlit⟩ := retLim_lit z
  have he := hl.eq
  rw [hlit] at he
  subst he
  have hV5 := HV4.out.below hl.2 HV4.out.lt
  have HB5 := Lib.hid (HB4.out.trans (hl.2.mono HB4.out.size))
  have HLit := Lib.hid hlit
  have v0 := hV5.c0
  have v1 := hV5.c1
  have v2 := hV5.c2
  have g0 := hV5.fz 0
  have g1 := hV5.fz 1
  have g2 := hV5.fz 2
  have HV5 := Lib.hid hV5
  clear hl hlit hV5 y0
  go_wp2_with fail
  exact ret_val_err (y := .int .i64 E) rfl rfl rfl rfl (HV5.out.put (.int .i64 A) (.int .i64 B) (.string ⟨S.toArray⟩)) (RetLim.mk (by rw [HLit.out]) (below_put3 HB5.out (by omega) _ _ _))

set_option maxHeartbeats 2000000 in
theorem reckoned_mod_zero (K N x K' N' y : Int) (T T' : List UInt8) (h : IsNum K N T x) (h' : IsNum K' N' T' y) (hy0 : y = 0) (w : World) (hw : Wd w) :
    Calls Tryz.prog 55 #[.int .i64 4, valV K N T, valV K' N' T'] w fun e w' => e = .returned (.tuple #[valV 0 0 [], .int .i64 30]) ∧ Below w.heap.size w w' := by
  have dy : (y.sign == 0) = true := by rw [hy0]; rfl
  have HNo := Lib.hid (fun (W : World) (hB : Below w.heap.size w W) => numbersOf_ok K N x K' N' y T T' h h' W (hw.below hB))
  clear h h' hw hy0
  unfold valV at *
  obtain ⟨hV0, hb0⟩ := boxesV3 w (.int .i64 K) (.int .i64 N) (.string ⟨T.toArray⟩) (.int .i64 K') (.int .i64 N') (.string ⟨T'.toArray⟩)
  have HV0 := Lib.hid hV0
  have Hb0 := Lib.hid hb0
  clear hV0 hb0
  go_enter Tryz.func55, Tryz.ntmps55
  go_wp2_with fail
  refine (HNo.out _ Hb0.out).mono ?_
  rintro e w1 ⟨o1, c1, o2, c2, rfl, hn1, hn2, hb1, hw1, hw2⟩
  obtain ⟨hX, hY, hbx⟩ := boxes2 w1 (.int .i64 x.sign) (.slice o1 (Bg.ds x.natAbs).length c1) (.int .i64 y.sign) (.slice o2 (Bg.ds y.natAbs).length c2)
  have HY := Lib.hid hY
  have HV2 := Lib.hid ((HV0.out.below hb1 HV0.out.lt).below hbx (Nat.lt_of_lt_of_le HV0.out.lt hb1.size))
  have Hb2 := Lib.hid ((Hb0.out.trans (hb1.mono Hb0.out.size)).trans (hbx.mono (by have := Hb0.out.size; have := hb1.size; omega)))
  clear hX hY hbx hn1 hn2 hb1 hw1 hw2
  unfold numV
  go_wp2_with fail
  refine (rules_c _).mono ?_
  rintro e w3 ⟨rfl, hb3⟩
  have hY3 := HY.out.below hb3 HY.out.lt
  have hV3 := HV2.out.below hb3 HV2.out.lt
  have Hb3 := Lib.hid (Hb2.out.trans (hb3.mono Hb2.out.size))
  have y0 := fun ob : Obj => (hY3.alloc ob).c0
  have v0 := fun ob : Obj => (hV3.alloc ob).c0
  have v1 := fun ob : Obj => (hV3.alloc ob).c1
  have v2 := fun ob : Obj => (hV3.alloc ob).c2
  have g0 := fun ob : Obj => (hV3.alloc ob).fz 0
  have g1 := fun ob : Obj => (hV3.alloc ob).fz 1
  have g2 := fun ob : Obj => (hV3.alloc ob).fz 2
  have HV3 := Lib.hid hV3
  clear hb3 hY3 hV3
  unfold rulesV
  have hix := index_mod
  go_wp2_with fail
  exact ret_val_err rfl rfl rfl rfl ((HV3.out.alloc _).put (.int .i64 0) (.int .i64 0) (.string ⟨#[]⟩)) ⟨rfl, below_put3 (Hb3.out.alloc Hb3.out.size _) (by omega) _ _ _⟩

theorem index_gcd (w : World) : (Instr.index 97 (.agg #[.func (.func 88) #[] #[], .bool false, .func (.func 101) #[] #[], .bool false, .func (.func 87) #[] #[], .bool false, .func (.func 89) #[] #[], .bool true, .func (.func 102) #[] #[], .bool true, .func (.func 103) #[] #[], .bool false]) (.int .i64 5)).run Tryz.prog w = .ok (.agg #[.func (.func 103) #[] #[], .bool false]) w := by kernel_rfl
theorem eg_divisor : ∀ args w, (callFunc 103 args).run Tryz.prog w = .ok (.enter 103 args) w := enters_of Tryz.func103 (by kernel_rfl) rfl
set_option maxHeartbeats 2000000 in
theorem reckoned_gcd (K N x K' N' y : Int) (T T' : List UInt8) (h : IsNum K N T x) (h' : IsNum K' N' T' y) (w : World) (hw : Wd w) :
    Calls Tryz.prog 55 #[.int .i64 5, valV K N T, valV K' N' T'] w (RetLim ((Int.gcd x y : Int)) w) := by
  have hfz : Few (Int.gcd x y : Int) := few_gcd h.1 h'.1
  have hop := fun ox cx oy cy W Bd (hW : Wd W) (hx : NumAt W ox x) (hy : NumAt W oy y) (hB : Bd < W.heap.size) (h1 : x ≠ 0 → ∀ b, ox = some ⟨b, 0, none⟩ → b ≠ Bd) (h2 : y ≠ 0 → ∀ b, oy = some ⟨b, 0, none⟩ → b ≠ Bd) => (divisor_c x y (fun b => b = Bd) ox oy cx cy W hW hx hy (fun b e => by omega) h1 h2).mono fun e w' h => (⟨fun _ => h, fun hn => absurd hfz hn⟩ : RetApZ _ _ _ _ _)
  have HNo := Lib.hid (fun (W : World) (hB : Below w.heap.size w W) => numbersOf_ok K N x K' N' y T T' h h' W (hw.below hB))
  have HOp := Lib.hid hop
  have HW := Lib.hid hw
  clear h h' hw hop
  unfold valV at *
  generalize hzz : (Int.gcd x y : Int) = z at *
  clear hzz
  obtain ⟨hV0, hb0⟩ := boxesV3 w (.int .i64 K) (.int .i64 N) (.string ⟨T.toArray⟩) (.int .i64 K') (.int .i64 N') (.string ⟨T'.toArray⟩)
  have HV0 := Lib.hid hV0
  have Hb0 := Lib.hid hb0
  clear hV0 hb0
  go_enter Tryz.func55, Tryz.ntmps55
  go_wp2_with fail
  refine (HNo.out _ Hb0.out).mono ?_
  rintro e w1 ⟨o1, c1, o2, c2, rfl, hn1, hn2, hb1, hw1, hw2⟩
  obtain ⟨hX, hY, hbx⟩ := boxes2 w1 (.int .i64 x.sign) (.slice o1 (Bg.ds x.natAbs).length c1) (.int .i64 y.sign) (.slice o2 (Bg.ds y.natAbs).length c2)
  have HX := Lib.hid hX
  have HY := Lib.hid hY
  have HV2 := Lib.hid ((HV0.out.below hb1 HV0.out.lt).below hbx (Nat.lt_of_lt_of_le HV0.out.lt hb1.size))
  have Hb2 := Lib.hid ((Hb0.out.trans (hb1.mono Hb0.out.size)).trans (hbx.mono (by have := Hb0.out.size; have := hb1.size; omega)))
  have Hn1 := Lib.hid (hn1.mono hbx)
  have Hn2 := Lib.hid (hn2.mono hbx)
  have HO1 := Lib.hid hn1
  have HO2 := Lib.hid hn2
  clear hX hY hbx hn1 hn2 hb1 hw1 hw2
  unfold numV
  go_wp2_with fail
  refine (rules_c _).mono ?_
  rintro e w3 ⟨rfl, hb3⟩
  have hX3 := HX.out.below hb3 HX.out.lt
  have hY3 := HY.out.below hb3 HY.out.lt
  have hV3 := HV2.out.below hb3 HV2.out.lt
  have Hb3 := Lib.hid (Hb2.out.trans (hb3.mono Hb2.out.size))
  have Hn13 := Lib.hid (Hn1.out.mono hb3)
  have Hn23 := Lib.hid (Hn2.out.mono hb3)
  have HX3 := Lib.hid hX3
  have HY3 := Lib.hid hY3
  have HV3 := Lib.hid hV3
  have y0 := fun ob : Obj => (hY3.alloc ob).c0
  clear hb3 hX3 hY3 hV3
  unfold rulesV
  have hix := index_gcd
  go_wp2_with fail
  obtain ⟨w4, hw4⟩ : ∃ w4, w3.alloc (.cells #[.func (.func 103) #[] #[], .bool false] 96) = w4 := ⟨_, rfl⟩
  have hb4 : Below w3.heap.size w3 w4 := by rw [← hw4]; exact (Below.refl _ w3).alloc (Nat.le_refl _) _
  have hR4 : w4.cell? ⟨w3.heap.size, 0, none⟩ = some (.func (.func 103) #[] #[]) := by rw [← hw4]; exact (Lib.cell_of_heap (World.alloc_heap_new w3 _) 0).trans rfl
  have hX4 := HX3.out.below hb4 HX3.out.lt
  have hY4 := HY3.out.below hb4 HY3.out.lt
  have hV4 := HV3.out.below hb4 HV3.out.lt
  have Hb4 := Hb3.out.trans (hb4.mono Hb3.out.size)
  have hlim := limited_c z 81 #[.pointer (some ⟨w3.heap.size, 0, none⟩), .pointer (some ⟨w1.heap.size, 0, none⟩), .pointer (some ⟨w1.heap.size + 1, 0, none⟩)] w4 (HW.out.below Hb4) eg_reck (fun W hB hz => reckon1_c w3.heap.size w1.heap.size (w1.heap.size + 1) 103 x y z o1 o2 c1 c2 W eg_divisor
    ((hB.cell (p := ⟨w3.heap.size, 0, none⟩) (World.block_lt_of_cell? _ _ hR4)).trans hR4) (hX4.below hB hX4.lt) (hY4.below hB hY4.lt) (fun W' hB' hlt => HOp.out o1 c1 o2 c2 W' W.heap.size (HW.out.below ((Hb4.trans (hB.mono Hb4.size)).trans (hB'.mono (by have := Hb4.size; have := hB.size; omega)))) (((Hn13.out.mono hb4).mono hB).mono hB') (((Hn23.out.mono hb4).mono hB).mono hB') hlt
      (fun h0 b e => by have := HO1.out.old h0 b e; have := hX4.lt; omega) (fun h0 b e => by have := HO2.out.old h0 b e; have := hX4.lt; omega)))
  rw [hw4]
  have HLim := Lib.hid hlim
  have HV4 := Lib.hid hV4
  have HB4 := Lib.hid Hb4
  clear hlim hw4 hb4 hR4 hX4 hY4 hV4 Hb4
  refine HLim.out.mono ?_
  rintro e w5 hl
  obtain ⟨A, B, S, E, hlit⟩ := retLim_lit z
  have he := hl.eq
  rw [hlit] at he
  subst he
  have hV5 := HV4.out.below hl.2 HV4.out.lt
  have HB5 := Lib.hid (HB4.out.trans (hl.2.mono HB4.out.size))
  have HLit := Lib.hid hlit
  have v0 := hV5.c0
  have v1 := hV5.c1
  have v2 := hV5.c2
  have g0 := hV5.fz 0
  have g1 := hV5.fz 1
  have g2 := hV5.fz 2
  have HV5 := Lib.hid hV5
  clear hl hlit hV5 y0
  go_wp2_with fail
  exact ret_val_err (y := .int .i64 E) rfl rfl rfl rfl (HV5.out.put (.int .i64 A) (.int .i64 B) (.string ⟨S.toArray⟩)) (RetLim.mk (by rw [HLit.out]) (below_put3 HB5.out (by omega) _ _ _))

set_option maxHeartbeats 2000000 in
theorem reckoned_no (op K N K' N' : Int) (T T' : List UInt8) (h : (∀ z, ¬ IsNum K N T z) ∨ ∀ z, ¬ IsNum K' N' T' z) (hN : In64Z N) (hN' : In64Z N') (w : World) (hw : Wd w) :
    Calls Tryz.prog 55 #[.int .i64 op, valV K N T, valV K' N' T'] w fun e w' => e = .returned (.tuple #[valV 0 0 [], .int .i64 31]) ∧ Below w.heap.size w w' := by
  have HNo := Lib.hid (fun (W : World) (hB : Below w.heap.size w W) => numbersOf_no K N K' N' T T' h hN hN' W (hw.below hB))
  clear h hw hN hN'
  unfold valV noNum at *
  obtain ⟨hV0, hb0⟩ := boxesV3 w (.int .i64 K) (.int .i64 N) (.string ⟨T.toArray⟩) (.int .i64 K') (.int .i64 N') (.string ⟨T'.toArray⟩)
  have HV0 := Lib.hid hV0
  have Hb0 := Lib.hid hb0
  clear hV0 hb0
  go_enter Tryz.func55, Tryz.ntmps55
  go_wp2_with fail
  refine (HNo.out _ Hb0.out).mono ?_
  rintro e w1 ⟨rfl, hb1⟩
  obtain ⟨hX, hY, hbx⟩ := boxes2 w1 (.int .i64 0) (.slice none 0 0) (.int .i64 0) (.slice none 0 0)
  have hV2 := (HV0.out.below hb1 HV0.out.lt).below hbx (Nat.lt_of_lt_of_le HV0.out.lt hb1.size)
  have Hb2 := Lib.hid ((Hb0.out.trans (hb1.mono Hb0.out.size)).trans (hbx.mono (by have := Hb0.out.size; have := hb1.size; omega)))
  have v0 := hV2.c0
  have v1 := hV2.c1
  have v2 := hV2.c2
  have g0 := hV2.fz 0
  have g1 := hV2.fz 1
  have g2 := hV2.fz 2
  have HV2 := Lib.hid hV2
  clear hX hY hbx hb1 hV2
  go_wp2_with fail
  exact ret_val_err rfl rfl rfl rfl (HV2.out.put (.int .i64 0) (.int .i64 0) (.string ⟨#[]⟩)) ⟨rfl, below_put3 Hb2.out (by omega) _ _ _⟩
end Go.Proofs.YthbfbpbppjkoeaaGreatDoor
