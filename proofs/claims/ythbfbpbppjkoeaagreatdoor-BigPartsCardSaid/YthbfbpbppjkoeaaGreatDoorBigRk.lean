/- Contracts of rules and of reckoned's literal of package big. Conditions: those in the statements. -/
import Derived.Test.YthbfbpbppjkoeaaGreatDoorBigLi
import Derived.Test.YthbfbpbppjkoeaaGreatDoorBigNo
namespace Go.Proofs.YthbfbpbppjkoeaaGreatDoor
open Go.RowKit Go.Shelf
set_option exponentiation.threshold 500
set_option maxRecDepth 100000

def rulesV : Value := .agg #[.func (.func 88) #[] #[], .bool false, .func (.func 101) #[] #[], .bool false, .func (.func 87) #[] #[], .bool false,
  .func (.func 89) #[] #[], .bool true, .func (.func 102) #[] #[], .bool true, .func (.func 103) #[] #[], .bool false]
theorem rules_c (w : World) : Calls Tryz.prog 80 #[] w fun e w' => e = .returned rulesV ∧ Below w.heap.size w w' := by
  go_enter Tryz.func80, Tryz.ntmps80
  go_wp2_with fail
  refine bodyPost_ret (v := rulesV) ?_ rfl ⟨rfl, (Below.refl _ w).alloc (Nat.le_refl _) _⟩
  simp [rulesV, results, Tryz.results80, go_sem]

set_option maxHeartbeats 1000000 in
theorem reckon1_c (R X Y : Nat) (f : Nat) (x y z : Int) (ox oy : Option Addr) (cx cy : Nat) (W : World)
    (eg : ∀ args w, (callFunc f args).run Tryz.prog w = .ok (.enter f args) w)
    (hR : W.cell? ⟨R, 0, none⟩ = some (.func (.func f) #[] #[])) (hX : NB W X (.int .i64 x.sign) (.slice ox (Bg.ds x.natAbs).length cx)) (hY : NB W Y (.int .i64 y.sign) (.slice oy (Bg.ds y.natAbs).length cy))
    (hf : ∀ W', Below W.heap.size W W' → W.heap.size < W'.heap.size → Calls Tryz.prog f #[numV x ox cx, numV y oy cy] W' (RetApZ (fun b => b = W.heap.size) z W')) :
    Calls Tryz.prog 81 #[.pointer (some ⟨R, 0, none⟩), .pointer (some ⟨X, 0, none⟩), .pointer (some ⟨Y, 0, none⟩)] W (RetAny z W) := by
  have HN0 := Lib.hid (NB.new W (.int .i64 0) (.slice none 0 0))
  have hb0 : Below W.heap.size W (W.alloc (.cells #[.int .i64 0, .slice none 0 0] 61)) := (Below.refl _ W).alloc (Nat.le_refl _) _
  have hf0 := hf _ hb0 (by simp)
  unfold numV at hf0
  have r0 := (hb0.cell (p := ⟨R, 0, none⟩) (World.block_lt_of_cell? _ _ hR)).trans hR
  have x0 := (hX.below hb0 hX.lt).c0
  have x1 := (hX.below hb0 hX.lt).c1
  have y0 := (hY.below hb0 hY.lt).c0
  have y1 := (hY.below hb0 hY.lt).c1
  have HF := Lib.hid hf0
  have HB0 := Lib.hid hb0
  clear hf hf0 hb0 hR hX hY
  go_enter Tryz.func81, Tryz.ntmps81
  go_wp2_with fail
  refine HF.out.mono ?_
  rintro e w1 hz
  by_cases hfz : Few z
  · obtain ⟨o, c, rfl, hn, hb1, hbad⟩ := hz.1 hfz
    have hN1 := HN0.out.below hb1 HN0.out.lt
    have Hb1 := Lib.hid (HB0.out.trans (hb1.mono HB0.out.size))
    have Hn := Lib.hid hn
    have HBad := Lib.hid hbad
    have HFz := Lib.hid hfz
    have c0 := hN1.c0
    have c1 := hN1.c1
    have f0 := hN1.f0
    have f1 := hN1.f1
    have HN1 := Lib.hid hN1
    clear hz hb1 hn hbad hN1 hfz
    unfold numV
    go_wp2_with fail
    exact ret_box rfl rfl rfl (HN1.out.put (.int .i64 z.sign) (.slice o (Bg.ds z.natAbs).length c)) ⟨fun _ => ⟨o, c, rfl, Hn.out.put' _ (fun h0 b e => HBad.out h0 b e) _ _, below_put Hb1.out (Nat.le_refl _) _ _⟩, fun h => absurd HFz.out h⟩
  · obtain ⟨rfl, hb1⟩ := hz.2 hfz
    exact ⟨rfl, fun h => absurd h hfz, fun _ => ⟨rfl, HB0.out.trans (hb1.mono HB0.out.size)⟩⟩
end Go.Proofs.YthbfbpbppjkoeaaGreatDoor
