/- Contract of numbersOf of package big. Conditions: those in the statements. -/
import Derived.Test.YthbfbpbppjkoeaaGreatDoorBigX
namespace Go.Proofs.YthbfbpbppjkoeaaGreatDoor
open Go.RowKit Go.Shelf
set_option exponentiation.threshold 500
set_option maxRecDepth 100000

/-- Two values and two numbers in new boxes. -/
theorem boxesV (w : World) (u v x u' v' x' : Value) :
    VB ((((w.alloc (.cells #[u, v, x] 23)).alloc (.cells #[u', v', x'] 23)).alloc (.cells #[.int .i64 0, .slice none 0 0] 61)).alloc (.cells #[.int .i64 0, .slice none 0 0] 61)) w.heap.size u v x ∧
    VB ((((w.alloc (.cells #[u, v, x] 23)).alloc (.cells #[u', v', x'] 23)).alloc (.cells #[.int .i64 0, .slice none 0 0] 61)).alloc (.cells #[.int .i64 0, .slice none 0 0] 61)) (w.heap.size + 1) u' v' x' ∧
    NB ((((w.alloc (.cells #[u, v, x] 23)).alloc (.cells #[u', v', x'] 23)).alloc (.cells #[.int .i64 0, .slice none 0 0] 61)).alloc (.cells #[.int .i64 0, .slice none 0 0] 61)) (w.heap.size + 1 + 1) (.int .i64 0) (.slice none 0 0) ∧
    NB ((((w.alloc (.cells #[u, v, x] 23)).alloc (.cells #[u', v', x'] 23)).alloc (.cells #[.int .i64 0, .slice none 0 0] 61)).alloc (.cells #[.int .i64 0, .slice none 0 0] 61)) (w.heap.size + 1 + 1 + 1) (.int .i64 0) (.slice none 0 0) ∧
    Below w.heap.size w ((((w.alloc (.cells #[u, v, x] 23)).alloc (.cells #[u', v', x'] 23)).alloc (.cells #[.int .i64 0, .slice none 0 0] 61)).alloc (.cells #[.int .i64 0, .slice none 0 0] 61)) := by
  refine ⟨(((VB.new w u v x).alloc _).alloc _).alloc _, VB.alloc (VB.alloc (show VB ((w.alloc (.cells #[u, v, x] 23)).alloc (.cells #[u', v', x'] 23)) (w.heap.size + 1) u' v' x' from heap2 _ _ _) _) _, NB.alloc ?_ _, ?_, ((((Below.refl _ w).alloc (Nat.le_refl _) _).alloc (by simp) _).alloc (by simp; omega) _).alloc (by simp; omega) _⟩
  · have := NB.new ((w.alloc (.cells #[u, v, x] 23)).alloc (.cells #[u', v', x'] 23)) (.int .i64 0) (.slice none 0 0)
    rwa [World.size_alloc, World.size_alloc] at this
  · have := NB.new (((w.alloc (.cells #[u, v, x] 23)).alloc (.cells #[u', v', x'] 23)).alloc (.cells #[.int .i64 0, .slice none 0 0] 61)) (.int .i64 0) (.slice none 0 0)
    rwa [World.size_alloc, World.size_alloc, World.size_alloc] at this
theorem ret_nums_err {f : Func} {R : Ending → World → Prop} {a : Act} {W : World} {B C : Nat} {t t' t'' : Tmp} {u v x y z : Value} (hres : f.results = #[.cell t 61, .cell t' 61, .tmp t'']) (hB : a.tmps.getD t undef = .pointer (some ⟨B, 0, none⟩)) (hC : a.tmps.getD t' undef = .pointer (some ⟨C, 0, none⟩)) (hz : a.tmps.getD t'' undef = z) (hd : a.defers = [])
    (hN : NB W B u v) (hM : NB W C x y) (hR : R (.returned (.tuple #[.agg #[u, v], .agg #[x, y], z])) W) : bodyPost Tryz.prog f R .ret a W := by
  have c0 := hN.c0
  have c1 := hN.c1
  have c2 := hM.c0
  have c3 := hM.c1
  rw [Array.getD_eq_getD_getElem?] at hB hC hz
  refine bodyPost_ret (v := .tuple #[.agg #[u, v], .agg #[x, y], z]) ?_ hd hR
  simp [results, hres, hB, hC, hz, go_sem, c0, c1, c2, c3]

set_option maxHeartbeats 2000000 in
theorem numbersOf_ok (K N x K' N' y : Int) (T T' : List UInt8) (h : IsNum K N T x) (h' : IsNum K' N' T' y) (w : World) (hw : Wd w) :
    Calls Tryz.prog 61 #[valV K N T, valV K' N' T'] w fun e w' => ∃ o c o' c', e = .returned (.tuple #[numV x o c, numV y o' c', .int .i64 0]) ∧ NumAt w' o x ∧ NumAt w' o' y ∧ Below w.heap.size w w' ∧ New w o ∧ New w o' := by
  have H1 := Lib.hid (fun (W : World) (hB : Below w.heap.size w W) => numberOf_ok K N x T h W (hw.below hB))
  have H2 := Lib.hid (fun (W : World) (hB : Below w.heap.size w W) => numberOf_ok K' N' y T' h' W (hw.below hB))
  clear h h' hw
  unfold valV at *
  obtain ⟨hA0, hB0, hC0, hD0, hb0⟩ := boxesV w (.int .i64 K) (.int .i64 N) (.string ⟨T.toArray⟩) (.int .i64 K') (.int .i64 N') (.string ⟨T'.toArray⟩)
  have HB0 := Lib.hid hB0
  have HC0 := Lib.hid hC0
  have HD0 := Lib.hid hD0
  have Hb0 := Lib.hid hb0
  clear hA0 hB0 hC0 hD0 hb0
  go_enter Tryz.func61, Tryz.ntmps61
  go_wp2_with fail
  refine (H1.out _ Hb0.out).mono ?_
  rintro e w1 ⟨o1, c1, rfl, hn1, hb1, hw1⟩
  have hAl : Below w1.heap.size w1 (w1.alloc (.cells #[.int .i64 x.sign, .slice o1 (Bg.ds x.natAbs).length c1] 61)) := (Below.refl _ w1).alloc (Nat.le_refl _) _
  have hbx := hb1.trans (hAl.mono hb1.size)
  have hB1 := HB0.out.below hbx HB0.out.lt
  have HX1 := Lib.hid (NB.new w1 (.int .i64 x.sign) (.slice o1 (Bg.ds x.natAbs).length c1))
  have HC1 := Lib.hid (HC0.out.below hbx HC0.out.lt)
  have HD1 := Lib.hid (HD0.out.below hbx HD0.out.lt)
  have Hb1 := Lib.hid (Hb0.out.trans (hbx.mono Hb0.out.size))
  have Hn1 := Lib.hid (hn1.mono hAl)
  have hgt : w.heap.size + 3 < w1.heap.size := Nat.lt_of_lt_of_le HD0.out.lt hb1.size
  have Hw1 := Lib.hid (show ∀ b, o1 = some ⟨b, 0, none⟩ → w.heap.size + 3 < b from fun b e => by have := hw1 b e; have := HD0.out.lt; omega)
  have b0 := hB1.c0
  have b1 := hB1.c1
  have b2 := hB1.c2
  clear hAl hbx hB1 hb1 hn1 hw1
  unfold numV
  go_wp2_with fail
  refine (H2.out _ Hb1.out).mono ?_
  rintro e w2 ⟨o2, c2, rfl, hn2, hb2, hw2⟩
  have hX2 := HX1.out.below hb2 HX1.out.lt
  have hC2 := HC1.out.below hb2 HC1.out.lt
  have hD2 := HD1.out.below hb2 HD1.out.lt
  have hAl : Below w2.heap.size w2 (w2.alloc (.cells #[.int .i64 y.sign, .slice o2 (Bg.ds y.natAbs).length c2] 61)) := (Below.refl _ w2).alloc (Nat.le_refl _) _
  have hX3 := hX2.below hAl hX2.lt
  have hC3 := hC2.below hAl hC2.lt
  have hD3 := hD2.below hAl hD2.lt
  have hgt2 : w1.heap.size < w2.heap.size := hX2.lt
  have Hn1' := Lib.hid ((Hn1.out.mono hb2).mono hAl)
  have Hn2 := Lib.hid (hn2.mono hAl)
  have Hb3 := Lib.hid ((Hb1.out.trans (hb2.mono Hb1.out.size)).trans (hAl.mono (by have := Hb1.out.size; have := hb2.size; omega)))
  have Hw2 := Lib.hid (show ∀ b, o2 = some ⟨b, 0, none⟩ → w.heap.size + 3 < b from fun b e => by have := hw2 b e; have := HX1.out.lt; omega)
  have r0 := hX3.c0
  have r1 := hX3.c1
  have d0 := hC3.c0
  have d1 := hC3.c1
  have d2 := hC3.f0
  have d3 := hC3.f1
  have e0 := hD3.c0
  have e1 := hD3.c1
  have e2 := hD3.f0
  have e3 := hD3.f1
  have HC3 := Lib.hid hC3
  have HD3 := Lib.hid hD3
  clear hAl hX2 hC2 hD2 hX3 hC3 hD3 hb2 hn2 hw2 b0 b1 b2
  unfold numV
  go_wp2_with fail
  go_region
  go_wp2_with fail
  refine ret_nums_err rfl rfl rfl rfl rfl ((HC3.out.put (.int .i64 x.sign) (.slice o1 (Bg.ds x.natAbs).length c1)).others (w.heap.size + 1 + 1 + 1) (by omega) (.int .i64 y.sign) (.slice o2 (Bg.ds y.natAbs).length c2)).drew ((HD3.out.others (w.heap.size + 1 + 1) (by omega) (.int .i64 x.sign) (.slice o1 (Bg.ds x.natAbs).length c1)).put (.int .i64 y.sign) (.slice o2 (Bg.ds y.natAbs).length c2)).drew ⟨o1, c1, o2, c2, rfl, ?_, ?_, ?_, ?_, ?_⟩
  · exact ((Hn1'.out.put (w.heap.size + 1 + 1) (fun b e => by have := Hw1.out b e; omega) _ _).put (w.heap.size + 1 + 1 + 1) (fun b e => by have := Hw1.out b e; omega) _ _).mono (Below.refl _ _).drew
  · exact ((Hn2.out.put (w.heap.size + 1 + 1) (fun b e => by have := Hw2.out b e; omega) _ _).put (w.heap.size + 1 + 1 + 1) (fun b e => by have := Hw2.out b e; omega) _ _).mono (Below.refl _ _).drew
  · exact (below_put (below_put Hb3.out (by omega) _ _) (by omega) _ _).drew
  · exact fun b e => by have := Hw1.out b e; omega
  · exact fun b e => by have := Hw2.out b e; omega

set_option maxHeartbeats 2000000 in
theorem numbersOf_no (K N K' N' : Int) (T T' : List UInt8) (h : (∀ z, ¬ IsNum K N T z) ∨ ∀ z, ¬ IsNum K' N' T' z) (hN : In64Z N) (hN' : In64Z N') (w : World) (hw : Wd w) :
    Calls Tryz.prog 61 #[valV K N T, valV K' N' T'] w fun e w' => e = .returned (.tuple #[noNum, noNum, .int .i64 31]) ∧ Below w.heap.size w w' := by
  obtain ⟨hA0, hB0, hC0, hD0, hb0⟩ := boxesV w (.int .i64 K) (.int .i64 N) (.string ⟨T.toArray⟩) (.int .i64 K') (.int .i64 N') (.string ⟨T'.toArray⟩)
  have HB0 := Lib.hid hB0
  have HC0 := Lib.hid hC0
  have HD0 := Lib.hid hD0
  have Hb0 := Lib.hid hb0
  clear hA0 hB0 hC0 hD0 hb0
  by_cases h1 : ∀ z, ¬ IsNum K N T z
  · have H1 := Lib.hid (fun (W : World) (hB : Below w.heap.size w W) => numberOf_no K N T h1 hN W (hw.below hB))
    clear h h1 hN hN' hw
    unfold valV noNum at *
    go_enter Tryz.func61, Tryz.ntmps61
    go_wp2_with fail
    refine (H1.out _ Hb0.out).mono ?_
    rintro e w1 ⟨rfl, hb1⟩
    have hAl : Below w1.heap.size w1 (w1.alloc (.cells #[.int .i64 0, .slice none 0 0] 61)) := (Below.refl _ w1).alloc (Nat.le_refl _) _
    have hbx := hb1.trans (hAl.mono hb1.size)
    have hC3 := HC0.out.below hbx HC0.out.lt
    have hD3 := HD0.out.below hbx HD0.out.lt
    have Hb3 := Lib.hid (Hb0.out.trans (hbx.mono Hb0.out.size))
    have d0 := hC3.c0
    have d1 := hC3.c1
    have d2 := hC3.f0
    have d3 := hC3.f1
    have e0 := hD3.c0
    have e1 := hD3.c1
    have e2 := hD3.f0
    have e3 := hD3.f1
    have HC3 := Lib.hid hC3
    have HD3 := Lib.hid hD3
    clear hAl hbx hC3 hD3 hb1
    go_wp2_with fail
    exact ret_nums_err rfl rfl rfl rfl rfl ((HC3.out.put (.int .i64 0) (.slice none 0 0)).others (w.heap.size + 1 + 1 + 1) (by omega) (.int .i64 0) (.slice none 0 0)) ((HD3.out.others (w.heap.size + 1 + 1) (by omega) (.int .i64 0) (.slice none 0 0)).put (.int .i64 0) (.slice none 0 0)) ⟨rfl, below_put (below_put Hb3.out (by omega) _ _) (by omega) _ _⟩
  · have h2 := h.resolve_left h1
    obtain ⟨x, hx⟩ : ∃ x, IsNum K N T x := by
      refine Classical.byContradiction fun hc => h1 fun z hz => hc ⟨z, hz⟩
    have H1 := Lib.hid (fun (W : World) (hB : Below w.heap.size w W) => numberOf_ok K N x T hx W (hw.below hB))
    have H2 := Lib.hid (fun (W : World) (hB : Below w.heap.size w W) => numberOf_no K' N' T' h2 hN' W (hw.below hB))
    clear h h1 h2 hx hN hN' hw
    unfold valV noNum at *
    go_enter Tryz.func61, Tryz.ntmps61
    go_wp2_with fail
    refine (H1.out _ Hb0.out).mono ?_
    rintro e w1 ⟨o1, c1, rfl, hn1, hb1, hw1⟩
    have hAl : Below w1.heap.size w1 (w1.alloc (.cells #[.int .i64 x.sign, .slice o1 (Bg.ds x.natAbs).length c1] 61)) := (Below.refl _ w1).alloc (Nat.le_refl _) _
    have hbx := hb1.trans (hAl.mono hb1.size)
    have hB1 := HB0.out.below hbx HB0.out.lt
    have HC1 := Lib.hid (HC0.out.below hbx HC0.out.lt)
    have HD1 := Lib.hid (HD0.out.below hbx HD0.out.lt)
    have Hb1 := Lib.hid (Hb0.out.trans (hbx.mono Hb0.out.size))
    have b0 := hB1.c0
    have b1 := hB1.c1
    have b2 := hB1.c2
    clear hAl hbx hB1 hb1 hn1 hw1
    unfold numV
    go_wp2_with fail
    refine (H2.out _ Hb1.out).mono ?_
    rintro e w2 ⟨rfl, hb2⟩
    have hAl : Below w2.heap.size w2 (w2.alloc (.cells #[.int .i64 0, .slice none 0 0] 61)) := (Below.refl _ w2).alloc (Nat.le_refl _) _
    have hbx := hb2.trans (hAl.mono hb2.size)
    have hC3 := HC1.out.below hbx HC1.out.lt
    have hD3 := HD1.out.below hbx HD1.out.lt
    have Hb3 := Lib.hid (Hb1.out.trans (hbx.mono Hb1.out.size))
    have d0 := hC3.c0
    have d1 := hC3.c1
    have d2 := hC3.f0
    have d3 := hC3.f1
    have e0 := hD3.c0
    have e1 := hD3.c1
    have e2 := hD3.f0
    have e3 := hD3.f1
    have HC3 := Lib.hid hC3
    have HD3 := Lib.hid hD3
    clear hAl hbx hC3 hD3 hb2 b0 b1 b2
    go_wp2_with fail
    exact ret_nums_err rfl rfl rfl rfl rfl ((HC3.out.put (.int .i64 0) (.slice none 0 0)).others (w.heap.size + 1 + 1 + 1) (by omega) (.int .i64 0) (.slice none 0 0)) ((HD3.out.others (w.heap.size + 1 + 1) (by omega) (.int .i64 0) (.slice none 0 0)).put (.int .i64 0) (.slice none 0 0)) ⟨rfl, below_put (below_put Hb3.out (by omega) _ _) (by omega) _ _⟩
end Go.Proofs.YthbfbpbppjkoeaaGreatDoor
