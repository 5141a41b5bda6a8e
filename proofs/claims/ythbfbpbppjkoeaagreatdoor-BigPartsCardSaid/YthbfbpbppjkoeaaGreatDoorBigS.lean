/- Contracts of minus of package big. Conditions: those in the statements. -/
import Derived.Test.YthbfbpbppjkoeaaGreatDoorBigR
namespace Go.Proofs.YthbfbpbppjkoeaaGreatDoor
open Go.RowKit Go.Shelf
set_option linter.unusedSimpArgs false
set_option exponentiation.threshold 500
set_option maxRecDepth 100000

theorem NumAt.neg {w : World} {o : Option Addr} {z : Int} (h : NumAt w o z) : NumAt w o (-z) := ⟨by have := h.few; unfold Few at *; rwa [Int.natAbs_neg], by have := h.at_; rwa [Int.natAbs_neg]⟩

set_option maxHeartbeats 8000000 in
theorem minus_c (a b : Int) (oa ob : Option Addr) (ca cb : Nat) (w : World) (hw : Wd w) (ha : NumAt w oa a) (hb : NumAt w ob b) :
    Calls Tryz.prog 101 #[numV a oa ca, numV b ob cb] w (RetZ (a - b) w) := by
  have hpl := fun (W : World) (hB : Below w.heap.size w W) => plus_c a (-b) oa ob ca cb W (hw.below hB) (ha.mono hB) ((hb.mono hB).neg)
  have hng := negated_c b ob cb
  rw [← Int.sub_eq_add_neg] at hpl
  unfold numV at *
  rw [Int.natAbs_neg] at hpl hng
  have HPl := Lib.hid hpl
  have HNg := Lib.hid hng
  clear hpl hng hw ha hb
  generalize a - b = z at *
  generalize a.sign = sa at *
  generalize (-b).sign = sn at *
  generalize b.sign = sb at *
  generalize (Bg.ds a.natAbs).length = la at *
  generalize (Bg.ds b.natAbs).length = lb at *
  obtain ⟨hA0, hB0, hN0, hb0⟩ := boxes3 w (.int .i64 sa) (.slice oa la ca) (.int .i64 sb) (.slice ob lb cb) (.int .i64 0) (.slice none 0 0)
  have HS0 := Lib.hid (SM.mk (W := World.drew _) hA0.drew hB0.drew hb0.drew)
  have HN0 := Lib.hid hN0.drew
  have HB0 := Lib.hid hb0.drew
  clear hA0 hB0 hN0 hb0
  refine callsZ (fun hf => ?_) (fun hf => ?_)
  · have HF := Lib.hid hf
    clear hf
    go_enter Tryz.func101, Tryz.ntmps101
    go_wp2_with fail
    refine wp_region_held_drew (S := (fun W => W.cell? ⟨w.heap.size, 0, none⟩ = some (.int .i64 sa) ∧ W.cell? ⟨w.heap.size, 1, none⟩ = some (.slice oa la ca) ∧ W.cell? ⟨w.heap.size + 1, 0, none⟩ = some (.int .i64 sb) ∧ W.cell? ⟨w.heap.size + 1, 1, none⟩ = some (.slice ob lb cb) ∧ Below w.heap.size w W ∧ w.heap.size + 2 ≤ W.heap.size)) (by kernel_rfl) HS0.out (fun hS => ?_)
    refine wpAnyH_take (i := 0) (v := ?hlv1) rfl (by kernel_rfl) (by kernel_rfl) (by kernel_rfl) (fun _ _ _ h => h) (Or.inl ⟨by rfl, ?hly1⟩) (by assumption) ?hlr1
    case hly1 => (intro w hSw; (try dsimp only at hSw); go_simp; (try with_reducible rfl))
    (try simp only [Act.put, List.setIfInBounds_toArray, List.set_cons_zero, List.set_cons_succ])
    refine wpAnyH_take (i := 1) (v := ?hlv2) rfl (by kernel_rfl) (by kernel_rfl) (by kernel_rfl) (fun _ _ _ h => h) (Or.inl ⟨by rfl, ?hly2⟩) (by assumption) ?hlr2
    case hly2 => (intro w hSw; (try dsimp only at hSw); go_simp; (try with_reducible rfl))
    (try simp only [Act.put, List.setIfInBounds_toArray, List.set_cons_zero, List.set_cons_succ])
    refine wpAnyH_ready (rs := [2]) (by kernel_rfl) (by simp) ?_
    refine AllReadyH.one rfl ?_ AllReadyH.nil
    intro K hK
    go_simp
    refine (HNg.out _).mono ?_
    rintro e w2 ⟨rfl, hb2⟩
    refine hK.out _ _ (SM.kept (Nat.le_refl _) hS hb2) (fun hS2 => ?_)
    clear hK K
    have hN2 := HN0.out.below hb2 HN0.out.lt
    have hB2 := HB0.out.trans (hb2.mono HB0.out.size)
    have HN2 := Lib.hid hN2
    have HB2 := Lib.hid hB2
    clear hb2 hN2 hB2
    refine wpAnyH_ready (rs := [3]) (by kernel_rfl) (by simp) ?_
    refine AllReadyH.one rfl ?_ AllReadyH.nil
    intro K hK
    go_simp
    refine (HPl.out _ HB2.out).mono ?_
    rintro e w3 hz3
    obtain ⟨o3, c3, rfl, hn3, hb3, hf3⟩ := hz3.1 HF.out
    clear hz3
    unfold numV
    refine hK.out _ _ (SM.kept (Nat.le_refl _) hS2 hb3) (fun hS3 => ?_)
    clear hK K
    have hN3 := HN2.out.below hb3 HN2.out.lt
    have HB3 := Lib.hid (HB2.out.trans (hb3.mono HB2.out.size))
    have HI3 := Lib.hid hn3
    have HF3 := Lib.hid (New.of_le (w := w) (w' := _) hf3 HB2.out.size)
    have HA3 := Lib.hid (show ∀ b, o3 = some ⟨b, 0, none⟩ → b ≠ w.heap.size + 1 + 1 from fun b e => by have := hf3 b e; have := HN2.out.lt; omega)
    have c0 := hN3.c0
    have c1 := hN3.c1
    have f0 := hN3.f0
    have f1 := hN3.f1
    have HN3 := Lib.hid hN3
    clear hb3 hN3 hn3 hf3
    refine wpAnyH_ready (rs := [4]) (by kernel_rfl) (by simp) ?_
    refine AllReadyH.one rfl ?_ AllReadyH.nil
    intro K hK
    go_simp
    refine hK.out _ _ (SM.put hS3 (w.heap.size + 1 + 1) (by omega) (by omega) (by omega) _ _) (fun hS4 => ?_)
    clear hK K
    refine wpAnyH_done (by kernel_rfl) ?_ _
    go_wp2_with fail
    exact ret_box rfl rfl rfl (HN3.out.put (.int .i64 z.sign) (.slice o3 (Bg.ds z.natAbs).length c3)) ⟨o3, c3, rfl, HI3.out.put _ HA3.out _ _, below_put HB3.out (by omega) _ _, HF3.out⟩
  · have HF := Lib.hid hf
    clear hf
    go_enter Tryz.func101, Tryz.ntmps101
    go_wp2_with fail
    refine wp_region_held_drew (S := (fun W => W.cell? ⟨w.heap.size, 0, none⟩ = some (.int .i64 sa) ∧ W.cell? ⟨w.heap.size, 1, none⟩ = some (.slice oa la ca) ∧ W.cell? ⟨w.heap.size + 1, 0, none⟩ = some (.int .i64 sb) ∧ W.cell? ⟨w.heap.size + 1, 1, none⟩ = some (.slice ob lb cb) ∧ Below w.heap.size w W ∧ w.heap.size + 2 ≤ W.heap.size)) (by kernel_rfl) HS0.out (fun hS => ?_)
    refine wpAnyH_take (i := 0) (v := ?hlv3) rfl (by kernel_rfl) (by kernel_rfl) (by kernel_rfl) (fun _ _ _ h => h) (Or.inl ⟨by rfl, ?hly3⟩) (by assumption) ?hlr3
    case hly3 => (intro w hSw; (try dsimp only at hSw); go_simp; (try with_reducible rfl))
    (try simp only [Act.put, List.setIfInBounds_toArray, List.set_cons_zero, List.set_cons_succ])
    refine wpAnyH_take (i := 1) (v := ?hlv4) rfl (by kernel_rfl) (by kernel_rfl) (by kernel_rfl) (fun _ _ _ h => h) (Or.inl ⟨by rfl, ?hly4⟩) (by assumption) ?hlr4
    case hly4 => (intro w hSw; (try dsimp only at hSw); go_simp; (try with_reducible rfl))
    (try simp only [Act.put, List.setIfInBounds_toArray, List.set_cons_zero, List.set_cons_succ])
    refine wpAnyH_ready (rs := [2]) (by kernel_rfl) (by simp) ?_
    refine AllReadyH.one rfl ?_ AllReadyH.nil
    intro K hK
    go_simp
    refine (HNg.out _).mono ?_
    rintro e w2 ⟨rfl, hb2⟩
    refine hK.out _ _ (SM.kept (Nat.le_refl _) hS hb2) (fun hS2 => ?_)
    clear hK K
    have hN2 := HN0.out.below hb2 HN0.out.lt
    have hB2 := HB0.out.trans (hb2.mono HB0.out.size)
    have HN2 := Lib.hid hN2
    have HB2 := Lib.hid hB2
    clear hb2 hN2 hB2
    refine wpAnyH_ready (rs := [3]) (by kernel_rfl) (by simp) ?_
    refine AllReadyH.one rfl ?_ AllReadyH.nil
    intro K hK
    go_simp
    refine (HPl.out _ HB2.out).mono ?_
    rintro e w3 hz3
    obtain ⟨rfl, hb3⟩ := hz3.2 HF.out
    exact ⟨rfl, rfl, HB2.out.trans (hb3.mono HB2.out.size)⟩
end Go.Proofs.YthbfbpbppjkoeaaGreatDoor
