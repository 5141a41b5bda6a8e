/- Contracts of quotient and rest of package big. Conditions: those in the statements. -/
import Derived.Test.YthbfbpbppjkoeaaGreatDoorBigT
namespace Go.Proofs.YthbfbpbppjkoeaaGreatDoor
open Go.RowKit Go.Shelf
set_option exponentiation.threshold 500
set_option maxRecDepth 100000

set_option maxHeartbeats 4000000 in
theorem quotient_c (a b : Int) (hb0 : b ≠ 0) (oa ob : Option Addr) (ca cb : Nat) (w : World) (hw : Wd w) (ha : NumAt w oa a) (hb : NumAt w ob b) :
    Calls Tryz.prog 89 #[numV a oa ca, numV b ob cb] w (RetNum (a.fdiv b) w) := by
  have hdv := fun (W : World) (hB : Below w.heap.size w W) => divided_c a b hb0 oa ob ca cb W (hw.below hB) (ha.mono hB) (hb.mono hB)
  unfold numV at *
  have HDv := Lib.hid hdv
  clear hdv hw ha hb hb0
  generalize a.fdiv b = x at *
  generalize a.fmod b = y at *
  generalize a.sign = sa at *
  generalize b.sign = sb at *
  generalize (Bg.ds a.natAbs).length = la at *
  generalize (Bg.ds b.natAbs).length = lb at *
  obtain ⟨hA0, hB0, hN0, hb0⟩ := boxes3 w (.int .i64 sa) (.slice oa la ca) (.int .i64 sb) (.slice ob lb cb) (.int .i64 0) (.slice none 0 0)
  have HN0 := Lib.hid hN0
  have HB0 := Lib.hid hb0
  clear hA0 hB0 hN0 hb0
  go_enter Tryz.func89, Tryz.ntmps89
  go_wp2_with fail
  refine (HDv.out _ HB0.out).mono ?_
  rintro e w1 ⟨o1, c1, o2, c2, rfl, hn1, hn2, hb1, hw1, hw2⟩
  have hN1 := HN0.out.below hb1 HN0.out.lt
  have HB1 := Lib.hid (HB0.out.trans (hb1.mono HB0.out.size))
  have HX := Lib.hid (show ∀ b, o1 = some ⟨b, 0, none⟩ → w.heap.size + 1 + 1 < b from fun b e => by have := hw1 b e; have := HN0.out.lt; omega)
  have HI := Lib.hid hn1
  have hlt := hN1.lt
  obtain ⟨hA5, hB5, hb5⟩ := boxes2 w1 (.int .i64 x.sign) (.slice o1 (Bg.ds x.natAbs).length c1) (.int .i64 y.sign) (.slice o2 (Bg.ds y.natAbs).length c2)
  have HN5 := Lib.hid (hN1.below hb5 hlt)
  have HB5 := Lib.hid (HB1.out.trans (hb5.mono HB1.out.size))
  have HI5 := Lib.hid (HI.out.mono hb5)
  have d0 := HN5.out.c0
  have d1 := HN5.out.c1
  have d2 := HN5.out.f0
  have d3 := HN5.out.f1
  clear hN1 hb1 hn1 hn2 hw1 hw2 hA5 hB5 hb5
  unfold numV
  go_wp2_with fail
  exact ret_box rfl rfl rfl (HN5.out.put (.int .i64 x.sign) (.slice o1 (Bg.ds x.natAbs).length c1)) ⟨o1, c1, rfl, HI5.out.put _ (fun b e => by have := HX.out b e; omega) _ _, below_put HB5.out (by omega) _ _, fun b e => by have := HX.out b e; omega⟩

set_option maxHeartbeats 4000000 in
theorem rest_c (a b : Int) (hb0 : b ≠ 0) (oa ob : Option Addr) (ca cb : Nat) (w : World) (hw : Wd w) (ha : NumAt w oa a) (hb : NumAt w ob b) :
    Calls Tryz.prog 102 #[numV a oa ca, numV b ob cb] w (RetNum (a.fmod b) w) := by
  have hdv := fun (W : World) (hB : Below w.heap.size w W) => divided_c a b hb0 oa ob ca cb W (hw.below hB) (ha.mono hB) (hb.mono hB)
  unfold numV at *
  have HDv := Lib.hid hdv
  clear hdv hw ha hb hb0
  generalize a.fdiv b = x at *
  generalize a.fmod b = y at *
  generalize a.sign = sa at *
  generalize b.sign = sb at *
  generalize (Bg.ds a.natAbs).length = la at *
  generalize (Bg.ds b.natAbs).length = lb at *
  obtain ⟨hA0, hB0, hN0, hb0⟩ := boxes3 w (.int .i64 sa) (.slice oa la ca) (.int .i64 sb) (.slice ob lb cb) (.int .i64 0) (.slice none 0 0)
  have HN0 := Lib.hid hN0
  have HB0 := Lib.hid hb0
  clear hA0 hB0 hN0 hb0
  go_enter Tryz.func102, Tryz.ntmps102
  go_wp2_with fail
  refine (HDv.out _ HB0.out).mono ?_
  rintro e w1 ⟨o1, c1, o2, c2, rfl, hn1, hn2, hb1, hw1, hw2⟩
  have hN1 := HN0.out.below hb1 HN0.out.lt
  have HB1 := Lib.hid (HB0.out.trans (hb1.mono HB0.out.size))
  have HX := Lib.hid (show ∀ b, o2 = some ⟨b, 0, none⟩ → w.heap.size + 1 + 1 < b from fun b e => by have := hw2 b e; have := HN0.out.lt; omega)
  have HI := Lib.hid hn2
  have hlt := hN1.lt
  obtain ⟨hA5, hB5, hb5⟩ := boxes2 w1 (.int .i64 x.sign) (.slice o1 (Bg.ds x.natAbs).length c1) (.int .i64 y.sign) (.slice o2 (Bg.ds y.natAbs).length c2)
  have HN5 := Lib.hid (hN1.below hb5 hlt)
  have HB5 := Lib.hid (HB1.out.trans (hb5.mono HB1.out.size))
  have HI5 := Lib.hid (HI.out.mono hb5)
  have d0 := HN5.out.c0
  have d1 := HN5.out.c1
  have d2 := HN5.out.f0
  have d3 := HN5.out.f1
  clear hN1 hb1 hn1 hn2 hw1 hw2 hA5 hB5 hb5
  unfold numV
  go_wp2_with fail
  exact ret_box rfl rfl rfl (HN5.out.put (.int .i64 y.sign) (.slice o2 (Bg.ds y.natAbs).length c2)) ⟨o2, c2, rfl, HI5.out.put _ (fun b e => by have := HX.out b e; omega) _ _, below_put HB5.out (by omega) _ _, fun b e => by have := HX.out b e; omega⟩
end Go.Proofs.YthbfbpbppjkoeaaGreatDoor
