/- Contract of awake of package proteuslaw03. Conditions: those in the statement. -/
import Derived.Test.YthbfbpbppjkoeaaGreatDoorBigQu
namespace Go.Proofs.YthbfbpbppjkoeaaGreatDoor
open Go.RowKit Go.Shelf
set_option maxRecDepth 100000
set_option linter.unusedSimpArgs false

theorem VB.drew {W : World} {B : Nat} {u v x : Value} (h : VB W B u v x) : VB W.drew B u v x := h
def SV (A n : Nat) (w : World) (u v x : Value) (W : World) : Prop := W.cell? ⟨A, 0, none⟩ = some u ∧ W.cell? ⟨A, 1, none⟩ = some v ∧ W.cell? ⟨A, 2, none⟩ = some x ∧ W.heap[A]? = some (.cells #[u, v, x] 23 (0, 0)) ∧ Below n w W
theorem SV.mk {A n : Nat} {w W : World} {u v x : Value} (h : VB W A u v x) (hb : Below n w W) : SV A n w u v x W := ⟨h.c0, h.c1, h.c2, h, hb⟩
theorem SV.kept {A n : Nat} {w W W' : World} {u v x : Value} (h : SV A n w u v x W) (hn : n ≤ W.heap.size) (hb : Below W.heap.size W W') : SV A n w u v x W' :=
  SV.mk (VB.below (show VB W A u v x from h.2.2.2.1) hb (VB.lt (show VB W A u v x from h.2.2.2.1))) (h.2.2.2.2.trans (hb.mono hn))
theorem SV.put {A n : Nat} {w W : World} {u v x : Value} (h : SV A n w u v x W) (C : Nat) (hC : A < C) (hn : n ≤ C) (p q r : Value) : SV A n w u v x (((W.setCell ⟨C, 0, none⟩ p).setCell ⟨C, 1, none⟩ q).setCell ⟨C, 2, none⟩ r) :=
  SV.mk ((((show VB W A u v x from h.2.2.2.1).other ⟨C, 0, none⟩ (by simp; omega) p).other ⟨C, 1, none⟩ (by simp; omega) q).other ⟨C, 2, none⟩ (by simp; omega) r) (below_put3 h.2.2.2.2 hn p q r)

set_option maxHeartbeats 40000000 in
theorem awake_c (w : World) (hw : Wd w) : Calls Tryz.prog 15 #[] w fun e w' => e = .returned (.bool true) ∧ Below w.heap.size w w' := by
  have H_0 := Lib.hid (Below.refl w.heap.size w)
  go_enter Tryz.func15, Tryz.ntmps15
  go_wp2_with fail
  refine (number_c 9223372036854775807 _).mono ?_
  rintro e u1 ⟨rfl, hb⟩
  have H_1 := Lib.hid (H_0.out.trans (hb.mono H_0.out.size))
  clear hb H_0
  go_wp2_with fail
  refine (number_c 1 _).mono ?_
  rintro e u2 ⟨rfl, hb⟩
  have H_2 := Lib.hid (H_1.out.trans (hb.mono H_1.out.size))
  clear hb H_1
  go_wp2_with fail
  refine (aw_add _ (hw.below H_2.out)).mono ?_
  rintro e u3 ⟨rfl, hb⟩
  have H_3 := Lib.hid (H_2.out.trans (hb.mono H_2.out.size))
  clear hb H_2
  unfold valV
  have hb : Below u3.heap.size u3 (u3.alloc (.cells #[.int .i64 2, .int .i64 0, .string ⟨#[57, 50, 50, 51, 51, 55, 50, 48, 51, 54, 56, 53, 52, 55, 55, 53, 56, 48, 56]⟩] 23)) := (Below.refl _ u3).alloc (Nat.le_refl _) _
  have Ba_4 := Lib.hid (VB.new u3 (.int .i64 2) (.int .i64 0) (.string ⟨#[57, 50, 50, 51, 51, 55, 50, 48, 51, 54, 56, 53, 52, 55, 55, 53, 56, 48, 56]⟩))
  have H_4 := Lib.hid (H_3.out.trans (hb.mono H_3.out.size))
  clear hb H_3
  go_upto_region 2 with fail
  go_cut [3, 4] from 26 to 32 (fun p3 p4 wx => ∃ C, p3 = .pointer (some ⟨C, 0, none⟩) ∧ p4 = .int .i64 0 ∧ Hid (VB wx u3.heap.size (.int .i64 2) (.int .i64 0) (.string ⟨#[57, 50, 50, 51, 51, 55, 50, 48, 51, 54, 56, 53, 52, 55, 55, 53, 56, 48, 56]⟩)) ∧ Hid (VB wx C (.int .i64 1) (.int .i64 9223372036854775807) (.string ⟨#[]⟩)) ∧ Hid (Below w.heap.size w wx))
  case first =>
    have v0 := Ba_4.out.c0
    have v1 := Ba_4.out.c1
    have v2 := Ba_4.out.c2
    have hS0 := SV.mk (W := World.drew _) (VB.drew Ba_4.out) (H_4.out.drew)
    have hH0 := H_4.out.drew
    refine wp_region_held_drew (S := fun W => W.cell? ⟨u3.heap.size, 0, none⟩ = some (.int .i64 2) ∧ W.cell? ⟨u3.heap.size, 1, none⟩ = some (.int .i64 0) ∧ W.cell? ⟨u3.heap.size, 2, none⟩ = some (.string ⟨#[57, 50, 50, 51, 51, 55, 50, 48, 51, 54, 56, 53, 52, 55, 55, 53, 56, 48, 56]⟩) ∧ W.heap[u3.heap.size]? = some (.cells #[.int .i64 2, .int .i64 0, .string ⟨#[57, 50, 50, 51, 51, 55, 50, 48, 51, 54, 56, 53, 52, 55, 55, 53, 56, 48, 56]⟩] 23 (0, 0)) ∧ Below w.heap.size w W) (by kernel_rfl) hS0 (fun _ => ?_)
    refine wpAnyH_take (i := 0) (v := ?hlv1) rfl (by kernel_rfl) (by kernel_rfl) (by kernel_rfl) (fun _ _ _ h => h) (Or.inl ⟨by rfl, ?hly1⟩) (by assumption) ?hlr1
    case hly1 => (intro w hSw; (try dsimp only at hSw); go_simp; (try with_reducible rfl))
    (try simp only [Act.put, List.setIfInBounds_toArray, List.set_cons_zero, List.set_cons_succ])
    generalize World.drew _ = V0 at *
    refine wpAnyH_ready (rs := [1, 6]) (by kernel_rfl) (by simp) ?_
    refine AllReadyH.one rfl ?_ ?_
    · skip
      intro K hK
      go_simp
      refine (number_c 1 V0).mono ?_
      rintro e V1 ⟨rfl, hbn⟩
      unfold valV
      have hH1 := hH0.trans (hbn.mono hH0.size)
      have hS1 := SV.kept hS0 hH0.size hbn
      refine hK.out _ _ hS1 (fun _ => ?_)
      clear hK K hbn hH0 hS0
      refine wpAnyH_ready (rs := [2, 6]) (by kernel_rfl) (by simp) ?_
      refine AllReadyH.one rfl ?_ ?_
      · skip
        intro K hK
        go_simp
        have hc := aw_sub V1 (hw.below hH1)
        unfold valV at hc
        refine hc.mono ?_
        rintro e V2 ⟨rfl, hbn⟩
        clear hc
        have hH2 := hH1.trans (hbn.mono hH1.size)
        have hS2 := SV.kept hS1 hH1.size hbn
        refine hK.out _ _ hS2 (fun _ => ?_)
        clear hK K hbn hH1 hS1
        refine wpAnyH_take (i := 3) (v := ?hlv2) rfl (by kernel_rfl) (by kernel_rfl) (by kernel_rfl) (fun _ _ _ h => h) (Or.inl ⟨by rfl, ?hly2⟩) (by assumption) ?hlr2
        case hly2 => (intro w hSw; (try dsimp only at hSw); go_simp; (try with_reducible rfl))
        (try simp only [Act.put, List.setIfInBounds_toArray, List.set_cons_zero, List.set_cons_succ])
        refine wpAnyH_take (i := 4) (v := ?hlv3) rfl (by kernel_rfl) (by kernel_rfl) (by kernel_rfl) (fun _ _ _ h => h) (Or.inl ⟨by rfl, ?hly3⟩) (by assumption) ?hlr3
        case hly3 => (intro w hSw; (try dsimp only at hSw); go_simp; (try with_reducible rfl))
        (try simp only [Act.put, List.setIfInBounds_toArray, List.set_cons_zero, List.set_cons_succ])
        refine wpAnyH_take (i := 5) (v := ?hlv4) rfl (by kernel_rfl) (by kernel_rfl) (by kernel_rfl) (fun _ _ _ h => h) (Or.inl ⟨by rfl, ?hly4⟩) (by assumption) ?hlr4
        case hly4 => (intro w hSw; (try dsimp only at hSw); go_simp; (try with_reducible rfl))
        (try simp only [Act.put, List.setIfInBounds_toArray, List.set_cons_zero, List.set_cons_succ])
        refine wpAnyH_ready (rs := [6]) (by kernel_rfl) (by simp) ?_
        refine AllReadyH.one rfl ?_ AllReadyH.nil
        intro K hK
        go_simp
        have hbn : Below V2.heap.size V2 (V2.alloc (.cells #[.int .i64 0, .int .i64 0, .string ⟨#[]⟩] 23)) := (Below.refl _ V2).alloc (Nat.le_refl _) _
        have hC3 := VB.new V2 (.int .i64 0) (.int .i64 0) (.string ⟨#[]⟩)
        obtain ⟨C, hCe⟩ : ∃ C, V2.heap.size = C := ⟨_, rfl⟩
        have hCl : u3.heap.size < C := by rw [← hCe]; exact VB.lt hS2.2.2.2.1
        have hCw : w.heap.size ≤ C := by rw [← hCe]; exact hH2.size
        have hH3 := hH2.trans (hbn.mono hH2.size)
        have hS3 := SV.kept hS2 hH2.size hbn
        refine hK.out _ _ hS3 (fun _ => ?_)
        clear hK K hbn hH2 hS2
        generalize V2.alloc (.cells #[.int .i64 0, .int .i64 0, .string ⟨#[]⟩] 23) = V3 at *
        rw [hCe] at hC3 ⊢
        clear hCe
        have c0 := hC3.c0
        have c1 := hC3.c1
        have c2 := hC3.c2
        have f0 := hC3.fz 0
        have f1 := hC3.fz 1
        have f2 := hC3.fz 2
        refine wpAnyH_ready (rs := [7]) (by kernel_rfl) (by simp) ?_
        refine AllReadyH.one rfl ?_ AllReadyH.nil
        intro K hK
        go_simp
        have hSp := SV.put hS3 C (by omega) hCw (.int .i64 1) (.int .i64 9223372036854775807) (.string ⟨#[]⟩)
        refine hK.out _ _ hSp (fun _ => ?_)
        clear hK K
        refine wpAnyH_ready (rs := [8]) (by kernel_rfl) (by simp) ?_
        refine AllReadyH.one rfl ?_ AllReadyH.nil
        intro K hK
        go_simp
        refine hK.out _ _ hSp (fun _ => ?_)
        clear hK K
        refine wpAnyH_done (by kernel_rfl) ?_ _
        (try simp only [Act.put, List.setIfInBounds_toArray, List.set_cons_zero, List.set_cons_succ])
        have G1 := Lib.hid (hS3.2.2.2.1 : VB V3 u3.heap.size _ _ _)
        have G2 := Lib.hid hC3
        have G3 := Lib.hid hH3
        clear hS3 hSp hC3 hH3 c0 c1 c2 f0 f1 f2
        go_wp2_with fail
        go_meet
        exact ⟨C, by first | rfl | simp [Act.put], by first | rfl | simp [Act.put, go_sem], Lib.hid (VB.other (VB.other (VB.other G1.out ⟨C, 0, none⟩ (by simp; omega) _) ⟨C, 1, none⟩ (by simp; omega) _) ⟨C, 2, none⟩ (by simp; omega) _), Lib.hid (G2.out.put _ _ _), Lib.hid (below_put3 G3.out hCw _ _ _)⟩
      refine AllReadyH.one rfl ?_ ?_
      · skip
        intro K hK
        go_simp
        have hbn : Below V1.heap.size V1 (V1.alloc (.cells #[.int .i64 0, .int .i64 0, .string ⟨#[]⟩] 23)) := (Below.refl _ V1).alloc (Nat.le_refl _) _
        have hC2 := VB.new V1 (.int .i64 0) (.int .i64 0) (.string ⟨#[]⟩)
        obtain ⟨C, hCe⟩ : ∃ C, V1.heap.size = C := ⟨_, rfl⟩
        have hCl : u3.heap.size < C := by rw [← hCe]; exact VB.lt hS1.2.2.2.1
        have hCw : w.heap.size ≤ C := by rw [← hCe]; exact hH1.size
        have hH2 := hH1.trans (hbn.mono hH1.size)
        have hS2 := SV.kept hS1 hH1.size hbn
        refine hK.out _ _ hS2 (fun _ => ?_)
        clear hK K hbn hH1 hS1
        generalize V1.alloc (.cells #[.int .i64 0, .int .i64 0, .string ⟨#[]⟩] 23) = V2 at *
        rw [hCe] at hC2 ⊢
        clear hCe
        refine wpAnyH_ready (rs := [2]) (by kernel_rfl) (by simp) ?_
        refine AllReadyH.one rfl ?_ AllReadyH.nil
        intro K hK
        go_simp
        have hc := aw_sub V2 (hw.below hH2)
        unfold valV at hc
        refine hc.mono ?_
        rintro e V3 ⟨rfl, hbn⟩
        clear hc
        have hC3 := hC2.below hbn hC2.lt
        have hH3 := hH2.trans (hbn.mono hH2.size)
        have hS3 := SV.kept hS2 hH2.size hbn
        refine hK.out _ _ hS3 (fun _ => ?_)
        clear hK K hbn hH2 hS2 hC2
        refine wpAnyH_take (i := 3) (v := ?hlv5) rfl (by kernel_rfl) (by kernel_rfl) (by kernel_rfl) (fun _ _ _ h => h) (Or.inl ⟨by rfl, ?hly5⟩) (by assumption) ?hlr5
        case hly5 => (intro w hSw; (try dsimp only at hSw); go_simp; (try with_reducible rfl))
        (try simp only [Act.put, List.setIfInBounds_toArray, List.set_cons_zero, List.set_cons_succ])
        refine wpAnyH_take (i := 4) (v := ?hlv6) rfl (by kernel_rfl) (by kernel_rfl) (by kernel_rfl) (fun _ _ _ h => h) (Or.inl ⟨by rfl, ?hly6⟩) (by assumption) ?hlr6
        case hly6 => (intro w hSw; (try dsimp only at hSw); go_simp; (try with_reducible rfl))
        (try simp only [Act.put, List.setIfInBounds_toArray, List.set_cons_zero, List.set_cons_succ])
        refine wpAnyH_take (i := 5) (v := ?hlv7) rfl (by kernel_rfl) (by kernel_rfl) (by kernel_rfl) (fun _ _ _ h => h) (Or.inl ⟨by rfl, ?hly7⟩) (by assumption) ?hlr7
        case hly7 => (intro w hSw; (try dsimp only at hSw); go_simp; (try with_reducible rfl))
        (try simp only [Act.put, List.setIfInBounds_toArray, List.set_cons_zero, List.set_cons_succ])
        have c0 := hC3.c0
        have c1 := hC3.c1
        have c2 := hC3.c2
        have f0 := hC3.fz 0
        have f1 := hC3.fz 1
        have f2 := hC3.fz 2
        refine wpAnyH_ready (rs := [7]) (by kernel_rfl) (by simp) ?_
        refine AllReadyH.one rfl ?_ AllReadyH.nil
        intro K hK
        go_simp
        have hSp := SV.put hS3 C (by omega) hCw (.int .i64 1) (.int .i64 9223372036854775807) (.string ⟨#[]⟩)
        refine hK.out _ _ hSp (fun _ => ?_)
        clear hK K
        refine wpAnyH_ready (rs := [8]) (by kernel_rfl) (by simp) ?_
        refine AllReadyH.one rfl ?_ AllReadyH.nil
        intro K hK
        go_simp
        refine hK.out _ _ hSp (fun _ => ?_)
        clear hK K
        refine wpAnyH_done (by kernel_rfl) ?_ _
        (try simp only [Act.put, List.setIfInBounds_toArray, List.set_cons_zero, List.set_cons_succ])
        have G1 := Lib.hid (hS3.2.2.2.1 : VB V3 u3.heap.size _ _ _)
        have G2 := Lib.hid hC3
        have G3 := Lib.hid hH3
        clear hS3 hSp hC3 hH3 c0 c1 c2 f0 f1 f2
        go_wp2_with fail
        go_meet
        exact ⟨C, by first | rfl | simp [Act.put], by first | rfl | simp [Act.put, go_sem], Lib.hid (VB.other (VB.other (VB.other G1.out ⟨C, 0, none⟩ (by simp; omega) _) ⟨C, 1, none⟩ (by simp; omega) _) ⟨C, 2, none⟩ (by simp; omega) _), Lib.hid (G2.out.put _ _ _), Lib.hid (below_put3 G3.out hCw _ _ _)⟩
      exact AllReadyH.nil
    refine AllReadyH.one rfl ?_ ?_
    · skip
      intro K hK
      go_simp
      have hbn : Below V0.heap.size V0 (V0.alloc (.cells #[.int .i64 0, .int .i64 0, .string ⟨#[]⟩] 23)) := (Below.refl _ V0).alloc (Nat.le_refl _) _
      have hC1 := VB.new V0 (.int .i64 0) (.int .i64 0) (.string ⟨#[]⟩)
      obtain ⟨C, hCe⟩ : ∃ C, V0.heap.size = C := ⟨_, rfl⟩
      have hCl : u3.heap.size < C := by rw [← hCe]; exact VB.lt hS0.2.2.2.1
      have hCw : w.heap.size ≤ C := by rw [← hCe]; exact hH0.size
      have hH1 := hH0.trans (hbn.mono hH0.size)
      have hS1 := SV.kept hS0 hH0.size hbn
      refine hK.out _ _ hS1 (fun _ => ?_)
      clear hK K hbn hH0 hS0
      generalize V0.alloc (.cells #[.int .i64 0, .int .i64 0, .string ⟨#[]⟩] 23) = V1 at *
      rw [hCe] at hC1 ⊢
      clear hCe
      refine wpAnyH_ready (rs := [1]) (by kernel_rfl) (by simp) ?_
      refine AllReadyH.one rfl ?_ AllReadyH.nil
      intro K hK
      go_simp
      refine (number_c 1 V1).mono ?_
      rintro e V2 ⟨rfl, hbn⟩
      unfold valV
      have hC2 := hC1.below hbn hC1.lt
      have hH2 := hH1.trans (hbn.mono hH1.size)
      have hS2 := SV.kept hS1 hH1.size hbn
      refine hK.out _ _ hS2 (fun _ => ?_)
      clear hK K hbn hH1 hS1 hC1
      refine wpAnyH_ready (rs := [2]) (by kernel_rfl) (by simp) ?_
      refine AllReadyH.one rfl ?_ AllReadyH.nil
      intro K hK
      go_simp
      have hc := aw_sub V2 (hw.below hH2)
      unfold valV at hc
      refine hc.mono ?_
      rintro e V3 ⟨rfl, hbn⟩
      clear hc
      have hC3 := hC2.below hbn hC2.lt
      have hH3 := hH2.trans (hbn.mono hH2.size)
      have hS3 := SV.kept hS2 hH2.size hbn
      refine hK.out _ _ hS3 (fun _ => ?_)
      clear hK K hbn hH2 hS2 hC2
      refine wpAnyH_take (i := 3) (v := ?hlv8) rfl (by kernel_rfl) (by kernel_rfl) (by kernel_rfl) (fun _ _ _ h => h) (Or.inl ⟨by rfl, ?hly8⟩) (by assumption) ?hlr8
      case hly8 => (intro w hSw; (try dsimp only at hSw); go_simp; (try with_reducible rfl))
      (try simp only [Act.put, List.setIfInBounds_toArray, List.set_cons_zero, List.set_cons_succ])
      refine wpAnyH_take (i := 4) (v := ?hlv9) rfl (by kernel_rfl) (by kernel_rfl) (by kernel_rfl) (fun _ _ _ h => h) (Or.inl ⟨by rfl, ?hly9⟩) (by assumption) ?hlr9
      case hly9 => (intro w hSw; (try dsimp only at hSw); go_simp; (try with_reducible rfl))
      (try simp only [Act.put, List.setIfInBounds_toArray, List.set_cons_zero, List.set_cons_succ])
      refine wpAnyH_take (i := 5) (v := ?hlv10) rfl (by kernel_rfl) (by kernel_rfl) (by kernel_rfl) (fun _ _ _ h => h) (Or.inl ⟨by rfl, ?hly10⟩) (by assumption) ?hlr10
      case hly10 => (intro w hSw; (try dsimp only at hSw); go_simp; (try with_reducible rfl))
      (try simp only [Act.put, List.setIfInBounds_toArray, List.set_cons_zero, List.set_cons_succ])
      have c0 := hC3.c0
      have c1 := hC3.c1
      have c2 := hC3.c2
      have f0 := hC3.fz 0
      have f1 := hC3.fz 1
      have f2 := hC3.fz 2
      refine wpAnyH_ready (rs := [7]) (by kernel_rfl) (by simp) ?_
      refine AllReadyH.one rfl ?_ AllReadyH.nil
      intro K hK
      go_simp
      have hSp := SV.put hS3 C (by omega) hCw (.int .i64 1) (.int .i64 9223372036854775807) (.string ⟨#[]⟩)
      refine hK.out _ _ hSp (fun _ => ?_)
      clear hK K
      refine wpAnyH_ready (rs := [8]) (by kernel_rfl) (by simp) ?_
      refine AllReadyH.one rfl ?_ AllReadyH.nil
      intro K hK
      go_simp
      refine hK.out _ _ hSp (fun _ => ?_)
      clear hK K
      refine wpAnyH_done (by kernel_rfl) ?_ _
      (try simp only [Act.put, List.setIfInBounds_toArray, List.set_cons_zero, List.set_cons_succ])
      have G1 := Lib.hid (hS3.2.2.2.1 : VB V3 u3.heap.size _ _ _)
      have G2 := Lib.hid hC3
      have G3 := Lib.hid hH3
      clear hS3 hSp hC3 hH3 c0 c1 c2 f0 f1 f2
      go_wp2_with fail
      go_meet
      exact ⟨C, by first | rfl | simp [Act.put], by first | rfl | simp [Act.put, go_sem], Lib.hid (VB.other (VB.other (VB.other G1.out ⟨C, 0, none⟩ (by simp; omega) _) ⟨C, 1, none⟩ (by simp; omega) _) ⟨C, 2, none⟩ (by simp; omega) _), Lib.hid (G2.out.put _ _ _), Lib.hid (below_put3 G3.out hCw _ _ _)⟩
    exact AllReadyH.nil
  case rest =>
    obtain ⟨C, rfl, rfl, Ba_100, Bb_100, H_100⟩ := hcut
    go_wp2_with fail
    refine (number_c 4294967296 _).mono ?_
    rintro e u101 ⟨rfl, hb⟩
    have Ba_101 := Lib.hid (Ba_100.out.below hb Ba_100.out.lt)
    have Bb_101 := Lib.hid (Bb_100.out.below hb Bb_100.out.lt)
    have H_101 := Lib.hid (H_100.out.trans (hb.mono H_100.out.size))
    clear hb H_100 Ba_100 Bb_100
    go_wp2_with fail
    refine (number_c 4294967296 _).mono ?_
    rintro e u102 ⟨rfl, hb⟩
    have Ba_102 := Lib.hid (Ba_101.out.below hb Ba_101.out.lt)
    have Bb_102 := Lib.hid (Bb_101.out.below hb Bb_101.out.lt)
    have H_102 := Lib.hid (H_101.out.trans (hb.mono H_101.out.size))
    clear hb H_101 Ba_101 Bb_101
    go_wp2_with fail
    refine (aw_mul _ (hw.below H_102.out)).mono ?_
    rintro e u103 ⟨rfl, hb⟩
    have Ba_103 := Lib.hid (Ba_102.out.below hb Ba_102.out.lt)
    have Bb_103 := Lib.hid (Bb_102.out.below hb Bb_102.out.lt)
    have H_103 := Lib.hid (H_102.out.trans (hb.mono H_102.out.size))
    clear hb H_102 Ba_102 Bb_102
    unfold valV
    have hb : Below u103.heap.size u103 (u103.alloc (.cells #[.int .i64 2, .int .i64 0, .string ⟨#[49, 56, 52, 52, 54, 55, 52, 52, 48, 55, 51, 55, 48, 57, 53, 53, 49, 54, 49, 54]⟩] 23)) := (Below.refl _ u103).alloc (Nat.le_refl _) _
    have Bc_104 := Lib.hid (VB.new u103 (.int .i64 2) (.int .i64 0) (.string ⟨#[49, 56, 52, 52, 54, 55, 52, 52, 48, 55, 51, 55, 48, 57, 53, 53, 49, 54, 49, 54]⟩))
    have Ba_104 := Lib.hid (Ba_103.out.below hb Ba_103.out.lt)
    have Bb_104 := Lib.hid (Bb_103.out.below hb Bb_103.out.lt)
    have H_104 := Lib.hid (H_103.out.trans (hb.mono H_103.out.size))
    clear hb H_103 Ba_103 Bb_103
    go_wp2_with fail
    refine (number_c 7 _).mono ?_
    rintro e u105 ⟨rfl, hb⟩
    have Ba_105 := Lib.hid (Ba_104.out.below hb Ba_104.out.lt)
    have Bb_105 := Lib.hid (Bb_104.out.below hb Bb_104.out.lt)
    have Bc_105 := Lib.hid (Bc_104.out.below hb Bc_104.out.lt)
    have H_105 := Lib.hid (H_104.out.trans (hb.mono H_104.out.size))
    clear hb H_104 Ba_104 Bb_104 Bc_104
    go_wp2_with fail
    refine (number_c (-2) _).mono ?_
    rintro e u106 ⟨rfl, hb⟩
    have Ba_106 := Lib.hid (Ba_105.out.below hb Ba_105.out.lt)
    have Bb_106 := Lib.hid (Bb_105.out.below hb Bb_105.out.lt)
    have Bc_106 := Lib.hid (Bc_105.out.below hb Bc_105.out.lt)
    have H_106 := Lib.hid (H_105.out.trans (hb.mono H_105.out.size))
    clear hb H_105 Ba_105 Bb_105 Bc_105
    go_wp2_with fail
    refine (aw_div _ (hw.below H_106.out)).mono ?_
    rintro e u107 ⟨rfl, hb⟩
    have Ba_107 := Lib.hid (Ba_106.out.below hb Ba_106.out.lt)
    have Bb_107 := Lib.hid (Bb_106.out.below hb Bb_106.out.lt)
    have Bc_107 := Lib.hid (Bc_106.out.below hb Bc_106.out.lt)
    have H_107 := Lib.hid (H_106.out.trans (hb.mono H_106.out.size))
    clear hb H_106 Ba_106 Bb_106 Bc_106
    unfold valV
    have hb : Below u107.heap.size u107 (u107.alloc (.cells #[.int .i64 1, .int .i64 (-4), .string ⟨#[]⟩] 23)) := (Below.refl _ u107).alloc (Nat.le_refl _) _
    have Bd_108 := Lib.hid (VB.new u107 (.int .i64 1) (.int .i64 (-4)) (.string ⟨#[]⟩))
    have Ba_108 := Lib.hid (Ba_107.out.below hb Ba_107.out.lt)
    have Bb_108 := Lib.hid (Bb_107.out.below hb Bb_107.out.lt)
    have Bc_108 := Lib.hid (Bc_107.out.below hb Bc_107.out.lt)
    have H_108 := Lib.hid (H_107.out.trans (hb.mono H_107.out.size))
    clear hb H_107 Ba_107 Bb_107 Bc_107
    go_wp2_with fail
    refine (number_c (-7) _).mono ?_
    rintro e u109 ⟨rfl, hb⟩
    have Ba_109 := Lib.hid (Ba_108.out.below hb Ba_108.out.lt)
    have Bb_109 := Lib.hid (Bb_108.out.below hb Bb_108.out.lt)
    have Bc_109 := Lib.hid (Bc_108.out.below hb Bc_108.out.lt)
    have Bd_109 := Lib.hid (Bd_108.out.below hb Bd_108.out.lt)
    have H_109 := Lib.hid (H_108.out.trans (hb.mono H_108.out.size))
    clear hb H_108 Ba_108 Bb_108 Bc_108 Bd_108
    go_wp2_with fail
    refine (number_c 2 _).mono ?_
    rintro e u110 ⟨rfl, hb⟩
    have Ba_110 := Lib.hid (Ba_109.out.below hb Ba_109.out.lt)
    have Bb_110 := Lib.hid (Bb_109.out.below hb Bb_109.out.lt)
    have Bc_110 := Lib.hid (Bc_109.out.below hb Bc_109.out.lt)
    have Bd_110 := Lib.hid (Bd_109.out.below hb Bd_109.out.lt)
    have H_110 := Lib.hid (H_109.out.trans (hb.mono H_109.out.size))
    clear hb H_109 Ba_109 Bb_109 Bc_109 Bd_109
    go_wp2_with fail
    refine (aw_mod _ (hw.below H_110.out)).mono ?_
    rintro e u111 ⟨rfl, hb⟩
    have Ba_111 := Lib.hid (Ba_110.out.below hb Ba_110.out.lt)
    have Bb_111 := Lib.hid (Bb_110.out.below hb Bb_110.out.lt)
    have Bc_111 := Lib.hid (Bc_110.out.below hb Bc_110.out.lt)
    have Bd_111 := Lib.hid (Bd_110.out.below hb Bd_110.out.lt)
    have H_111 := Lib.hid (H_110.out.trans (hb.mono H_110.out.size))
    clear hb H_110 Ba_110 Bb_110 Bc_110 Bd_110
    unfold valV
    have hb : Below u111.heap.size u111 (u111.alloc (.cells #[.int .i64 1, .int .i64 1, .string ⟨#[]⟩] 23)) := (Below.refl _ u111).alloc (Nat.le_refl _) _
    have Bm_112 := Lib.hid (VB.new u111 (.int .i64 1) (.int .i64 1) (.string ⟨#[]⟩))
    have Ba_112 := Lib.hid (Ba_111.out.below hb Ba_111.out.lt)
    have Bb_112 := Lib.hid (Bb_111.out.below hb Bb_111.out.lt)
    have Bc_112 := Lib.hid (Bc_111.out.below hb Bc_111.out.lt)
    have Bd_112 := Lib.hid (Bd_111.out.below hb Bd_111.out.lt)
    have H_112 := Lib.hid (H_111.out.trans (hb.mono H_111.out.size))
    clear hb H_111 Ba_111 Bb_111 Bc_111 Bd_111
    go_wp2_with fail
    refine (number_c 2 _).mono ?_
    rintro e u113 ⟨rfl, hb⟩
    have Ba_113 := Lib.hid (Ba_112.out.below hb Ba_112.out.lt)
    have Bb_113 := Lib.hid (Bb_112.out.below hb Bb_112.out.lt)
    have Bc_113 := Lib.hid (Bc_112.out.below hb Bc_112.out.lt)
    have Bd_113 := Lib.hid (Bd_112.out.below hb Bd_112.out.lt)
    have Bm_113 := Lib.hid (Bm_112.out.below hb Bm_112.out.lt)
    have H_113 := Lib.hid (H_112.out.trans (hb.mono H_112.out.size))
    clear hb H_112 Ba_112 Bb_112 Bc_112 Bd_112 Bm_112
    go_wp2_with fail
    refine (aw_pow _ (hw.below H_113.out)).mono ?_
    rintro e u114 ⟨rfl, hb⟩
    have Ba_114 := Lib.hid (Ba_113.out.below hb Ba_113.out.lt)
    have Bb_114 := Lib.hid (Bb_113.out.below hb Bb_113.out.lt)
    have Bc_114 := Lib.hid (Bc_113.out.below hb Bc_113.out.lt)
    have Bd_114 := Lib.hid (Bd_113.out.below hb Bd_113.out.lt)
    have Bm_114 := Lib.hid (Bm_113.out.below hb Bm_113.out.lt)
    have H_114 := Lib.hid (H_113.out.trans (hb.mono H_113.out.size))
    clear hb H_113 Ba_113 Bb_113 Bc_113 Bd_113 Bm_113
    unfold valV
    have hb : Below u114.heap.size u114 (u114.alloc (.cells #[.int .i64 2, .int .i64 0, .string ⟨#[49, 56, 52, 52, 54, 55, 52, 52, 48, 55, 51, 55, 48, 57, 53, 53, 49, 54, 49, 54]⟩] 23)) := (Below.refl _ u114).alloc (Nat.le_refl _) _
    have Bp_115 := Lib.hid (VB.new u114 (.int .i64 2) (.int .i64 0) (.string ⟨#[49, 56, 52, 52, 54, 55, 52, 52, 48, 55, 51, 55, 48, 57, 53, 53, 49, 54, 49, 54]⟩))
    have Ba_115 := Lib.hid (Ba_114.out.below hb Ba_114.out.lt)
    have Bb_115 := Lib.hid (Bb_114.out.below hb Bb_114.out.lt)
    have Bc_115 := Lib.hid (Bc_114.out.below hb Bc_114.out.lt)
    have Bd_115 := Lib.hid (Bd_114.out.below hb Bd_114.out.lt)
    have Bm_115 := Lib.hid (Bm_114.out.below hb Bm_114.out.lt)
    have H_115 := Lib.hid (H_114.out.trans (hb.mono H_114.out.size))
    clear hb H_114 Ba_114 Bb_114 Bc_114 Bd_114 Bm_114
    go_wp2_with fail
    refine (number_c 99 _).mono ?_
    rintro e u116 ⟨rfl, hb⟩
    have Ba_116 := Lib.hid (Ba_115.out.below hb Ba_115.out.lt)
    have Bb_116 := Lib.hid (Bb_115.out.below hb Bb_115.out.lt)
    have Bc_116 := Lib.hid (Bc_115.out.below hb Bc_115.out.lt)
    have Bd_116 := Lib.hid (Bd_115.out.below hb Bd_115.out.lt)
    have Bm_116 := Lib.hid (Bm_115.out.below hb Bm_115.out.lt)
    have Bp_116 := Lib.hid (Bp_115.out.below hb Bp_115.out.lt)
    have H_116 := Lib.hid (H_115.out.trans (hb.mono H_115.out.size))
    clear hb H_115 Ba_115 Bb_115 Bc_115 Bd_115 Bm_115 Bp_115
    go_wp2_with fail
    refine (aw_root _ (hw.below H_116.out)).mono ?_
    rintro e u117 ⟨rfl, hb⟩
    have Ba_117 := Lib.hid (Ba_116.out.below hb Ba_116.out.lt)
    have Bb_117 := Lib.hid (Bb_116.out.below hb Bb_116.out.lt)
    have Bc_117 := Lib.hid (Bc_116.out.below hb Bc_116.out.lt)
    have Bd_117 := Lib.hid (Bd_116.out.below hb Bd_116.out.lt)
    have Bm_117 := Lib.hid (Bm_116.out.below hb Bm_116.out.lt)
    have Bp_117 := Lib.hid (Bp_116.out.below hb Bp_116.out.lt)
    have H_117 := Lib.hid (H_116.out.trans (hb.mono H_116.out.size))
    clear hb H_116 Ba_116 Bb_116 Bc_116 Bd_116 Bm_116 Bp_116
    unfold valV
    have hb : Below u117.heap.size u117 (u117.alloc (.cells #[.int .i64 1, .int .i64 9, .string ⟨#[]⟩] 23)) := (Below.refl _ u117).alloc (Nat.le_refl _) _
    have Br_118 := Lib.hid (VB.new u117 (.int .i64 1) (.int .i64 9) (.string ⟨#[]⟩))
    have Ba_118 := Lib.hid (Ba_117.out.below hb Ba_117.out.lt)
    have Bb_118 := Lib.hid (Bb_117.out.below hb Bb_117.out.lt)
    have Bc_118 := Lib.hid (Bc_117.out.below hb Bc_117.out.lt)
    have Bd_118 := Lib.hid (Bd_117.out.below hb Bd_117.out.lt)
    have Bm_118 := Lib.hid (Bm_117.out.below hb Bm_117.out.lt)
    have Bp_118 := Lib.hid (Bp_117.out.below hb Bp_117.out.lt)
    have H_118 := Lib.hid (H_117.out.trans (hb.mono H_117.out.size))
    clear hb H_117 Ba_117 Bb_117 Bc_117 Bd_117 Bm_117 Bp_117
    go_wp2_with fail
    refine (aw_of _).mono ?_
    rintro e u119 ⟨rfl, hb⟩
    have Ba_119 := Lib.hid (Ba_118.out.below hb Ba_118.out.lt)
    have Bb_119 := Lib.hid (Bb_118.out.below hb Bb_118.out.lt)
    have Bc_119 := Lib.hid (Bc_118.out.below hb Bc_118.out.lt)
    have Bd_119 := Lib.hid (Bd_118.out.below hb Bd_118.out.lt)
    have Bm_119 := Lib.hid (Bm_118.out.below hb Bm_118.out.lt)
    have Bp_119 := Lib.hid (Bp_118.out.below hb Bp_118.out.lt)
    have Br_119 := Lib.hid (Br_118.out.below hb Br_118.out.lt)
    have H_119 := Lib.hid (H_118.out.trans (hb.mono H_118.out.size))
    clear hb H_118 Ba_118 Bb_118 Bc_118 Bd_118 Bm_118 Bp_118 Br_118
    unfold valV
    have hb : Below u119.heap.size u119 (u119.alloc (.cells #[.int .i64 0, .int .i64 0, .string ⟨#[]⟩] 23)) := (Below.refl _ u119).alloc (Nat.le_refl _) _
    have Bo_120 := Lib.hid (VB.new u119 (.int .i64 0) (.int .i64 0) (.string ⟨#[]⟩))
    have Ba_120 := Lib.hid (Ba_119.out.below hb Ba_119.out.lt)
    have Bb_120 := Lib.hid (Bb_119.out.below hb Bb_119.out.lt)
    have Bc_120 := Lib.hid (Bc_119.out.below hb Bc_119.out.lt)
    have Bd_120 := Lib.hid (Bd_119.out.below hb Bd_119.out.lt)
    have Bm_120 := Lib.hid (Bm_119.out.below hb Bm_119.out.lt)
    have Bp_120 := Lib.hid (Bp_119.out.below hb Bp_119.out.lt)
    have Br_120 := Lib.hid (Br_119.out.below hb Br_119.out.lt)
    have H_120 := Lib.hid (H_119.out.trans (hb.mono H_119.out.size))
    clear hb H_119 Ba_119 Bb_119 Bc_119 Bd_119 Bm_119 Bp_119 Br_119
    go_wp2_with fail
    refine (number_c 12 _).mono ?_
    rintro e u121 ⟨rfl, hb⟩
    have Ba_121 := Lib.hid (Ba_120.out.below hb Ba_120.out.lt)
    have Bb_121 := Lib.hid (Bb_120.out.below hb Bb_120.out.lt)
    have Bc_121 := Lib.hid (Bc_120.out.below hb Bc_120.out.lt)
    have Bd_121 := Lib.hid (Bd_120.out.below hb Bd_120.out.lt)
    have Bm_121 := Lib.hid (Bm_120.out.below hb Bm_120.out.lt)
    have Bp_121 := Lib.hid (Bp_120.out.below hb Bp_120.out.lt)
    have Br_121 := Lib.hid (Br_120.out.below hb Br_120.out.lt)
    have Bo_121 := Lib.hid (Bo_120.out.below hb Bo_120.out.lt)
    have H_121 := Lib.hid (H_120.out.trans (hb.mono H_120.out.size))
    clear hb H_120 Ba_120 Bb_120 Bc_120 Bd_120 Bm_120 Bp_120 Br_120 Bo_120
    go_wp2_with fail
    refine (number_c (-18) _).mono ?_
    rintro e u122 ⟨rfl, hb⟩
    have Ba_122 := Lib.hid (Ba_121.out.below hb Ba_121.out.lt)
    have Bb_122 := Lib.hid (Bb_121.out.below hb Bb_121.out.lt)
    have Bc_122 := Lib.hid (Bc_121.out.below hb Bc_121.out.lt)
    have Bd_122 := Lib.hid (Bd_121.out.below hb Bd_121.out.lt)
    have Bm_122 := Lib.hid (Bm_121.out.below hb Bm_121.out.lt)
    have Bp_122 := Lib.hid (Bp_121.out.below hb Bp_121.out.lt)
    have Br_122 := Lib.hid (Br_121.out.below hb Br_121.out.lt)
    have Bo_122 := Lib.hid (Bo_121.out.below hb Bo_121.out.lt)
    have H_122 := Lib.hid (H_121.out.trans (hb.mono H_121.out.size))
    clear hb H_121 Ba_121 Bb_121 Bc_121 Bd_121 Bm_121 Bp_121 Br_121 Bo_121
    go_wp2_with fail
    refine (aw_gcd _ (hw.below H_122.out)).mono ?_
    rintro e u123 ⟨rfl, hb⟩
    have Ba_123 := Lib.hid (Ba_122.out.below hb Ba_122.out.lt)
    have Bb_123 := Lib.hid (Bb_122.out.below hb Bb_122.out.lt)
    have Bc_123 := Lib.hid (Bc_122.out.below hb Bc_122.out.lt)
    have Bd_123 := Lib.hid (Bd_122.out.below hb Bd_122.out.lt)
    have Bm_123 := Lib.hid (Bm_122.out.below hb Bm_122.out.lt)
    have Bp_123 := Lib.hid (Bp_122.out.below hb Bp_122.out.lt)
    have Br_123 := Lib.hid (Br_122.out.below hb Br_122.out.lt)
    have Bo_123 := Lib.hid (Bo_122.out.below hb Bo_122.out.lt)
    have H_123 := Lib.hid (H_122.out.trans (hb.mono H_122.out.size))
    clear hb H_122 Ba_122 Bb_122 Bc_122 Bd_122 Bm_122 Bp_122 Br_122 Bo_122
    unfold valV
    have hb : Below u123.heap.size u123 (u123.alloc (.cells #[.int .i64 1, .int .i64 6, .string ⟨#[]⟩] 23)) := (Below.refl _ u123).alloc (Nat.le_refl _) _
    have Bx_124 := Lib.hid (VB.new u123 (.int .i64 1) (.int .i64 6) (.string ⟨#[]⟩))
    have Ba_124 := Lib.hid (Ba_123.out.below hb Ba_123.out.lt)
    have Bb_124 := Lib.hid (Bb_123.out.below hb Bb_123.out.lt)
    have Bc_124 := Lib.hid (Bc_123.out.below hb Bc_123.out.lt)
    have Bd_124 := Lib.hid (Bd_123.out.below hb Bd_123.out.lt)
    have Bm_124 := Lib.hid (Bm_123.out.below hb Bm_123.out.lt)
    have Bp_124 := Lib.hid (Bp_123.out.below hb Bp_123.out.lt)
    have Br_124 := Lib.hid (Br_123.out.below hb Br_123.out.lt)
    have Bo_124 := Lib.hid (Bo_123.out.below hb Bo_123.out.lt)
    have H_124 := Lib.hid (H_123.out.trans (hb.mono H_123.out.size))
    clear hb H_123 Ba_123 Bb_123 Bc_123 Bd_123 Bm_123 Bp_123 Br_123 Bo_123
    have hb := (Below.refl _ (u123.alloc (.cells #[.int .i64 1, .int .i64 6, .string ⟨#[]⟩] 23))).alloc (Nat.le_refl _) (.cells #[.int .i64 2, .int .i64 0, .string ⟨#[57, 50, 50, 51, 51, 55, 50, 48, 51, 54, 56, 53, 52, 55, 55, 53, 56, 48, 56]⟩] 23)
    have hL := VB.new (u123.alloc (.cells #[.int .i64 1, .int .i64 6, .string ⟨#[]⟩] 23)) (.int .i64 2) (.int .i64 0) (.string ⟨#[57, 50, 50, 51, 51, 55, 50, 48, 51, 54, 56, 53, 52, 55, 55, 53, 56, 48, 56]⟩)
    rw [World.size_alloc] at hL
    have Bl_125 := Lib.hid hL
    clear hL
    have Ba_125 := Lib.hid (Ba_124.out.below hb Ba_124.out.lt)
    have Bb_125 := Lib.hid (Bb_124.out.below hb Bb_124.out.lt)
    have Bc_125 := Lib.hid (Bc_124.out.below hb Bc_124.out.lt)
    have Bd_125 := Lib.hid (Bd_124.out.below hb Bd_124.out.lt)
    have Bm_125 := Lib.hid (Bm_124.out.below hb Bm_124.out.lt)
    have Bp_125 := Lib.hid (Bp_124.out.below hb Bp_124.out.lt)
    have Br_125 := Lib.hid (Br_124.out.below hb Br_124.out.lt)
    have Bo_125 := Lib.hid (Bo_124.out.below hb Bo_124.out.lt)
    have Bx_125 := Lib.hid (Bx_124.out.below hb Bx_124.out.lt)
    have H_125 := Lib.hid (H_124.out.trans (hb.mono H_124.out.size))
    clear hb H_124 Ba_124 Bb_124 Bc_124 Bd_124 Bm_124 Bp_124 Br_124 Bo_124 Bx_124
    go_upto_region 13 with fail
    refine region_grown (by kernel_rfl) ?_
    apply quiet_wanted
    · go_simp
    · intro W hW; have hV := Ba_125.out.below hW Ba_125.out.lt; have c0 := hV.c0; have c1 := hV.c1; have c2 := hV.c2; clear hV; unfold Oper.quietAt; go_simp; (try exact ⟨rfl, rfl⟩); (try rfl)
    (try simp only [Act.put, List.setIfInBounds_toArray, List.set_cons_zero, List.set_cons_succ])
    apply quiet_wanted
    · go_simp
    · intro W hW; have hV := Bl_125.out.below hW Bl_125.out.lt; have c0 := hV.c0; have c1 := hV.c1; have c2 := hV.c2; clear hV; unfold Oper.quietAt; go_simp; (try exact ⟨rfl, rfl⟩); (try rfl)
    (try simp only [Act.put, List.setIfInBounds_toArray, List.set_cons_zero, List.set_cons_succ])
    apply quiet_wanted
    · go_simp
    · intro W hW; unfold Oper.quietAt; go_simp; (try exact ⟨rfl, rfl⟩); (try rfl)
    (try simp only [Act.put, List.setIfInBounds_toArray, List.set_cons_zero, List.set_cons_succ])
    apply quiet_wanted
    · go_simp
    · intro W hW; unfold Oper.quietAt; go_simp; (try exact ⟨rfl, rfl⟩); (try rfl)
    (try simp only [Act.put, List.setIfInBounds_toArray, List.set_cons_zero, List.set_cons_succ])
    apply quiet_wanted
    · go_simp
    · intro W hW; have hV := Bb_125.out.below hW Bb_125.out.lt; have c0 := hV.c0; have c1 := hV.c1; have c2 := hV.c2; clear hV; unfold Oper.quietAt; go_simp; (try exact ⟨rfl, rfl⟩); (try rfl)
    (try simp only [Act.put, List.setIfInBounds_toArray, List.set_cons_zero, List.set_cons_succ])
    apply quiet_wanted
    · go_simp
    · intro W hW; unfold Oper.quietAt; go_simp; have hc := number_c 9223372036854775807 W; unfold valV at hc; exact hc.mono fun e w' hr => ⟨hr.1, Grown.trans hW hr.2⟩
    (try simp only [Act.put, List.setIfInBounds_toArray, List.set_cons_zero, List.set_cons_succ])
    apply quiet_wanted
    · go_simp
    · intro W hW; unfold Oper.quietAt; go_simp; (try exact ⟨rfl, rfl⟩); (try rfl)
    (try simp only [Act.put, List.setIfInBounds_toArray, List.set_cons_zero, List.set_cons_succ])
    apply quiet_wanted
    · go_simp
    · intro W hW; unfold Oper.quietAt; go_simp; (try exact ⟨rfl, rfl⟩); (try rfl)
    (try simp only [Act.put, List.setIfInBounds_toArray, List.set_cons_zero, List.set_cons_succ])
    apply quiet_wanted
    · go_simp
    · intro W hW; unfold Oper.quietAt; go_simp; (try exact ⟨rfl, rfl⟩); (try rfl)
    (try simp only [Act.put, List.setIfInBounds_toArray, List.set_cons_zero, List.set_cons_succ])
    apply quiet_wanted
    · go_simp
    · intro W hW; unfold Oper.quietAt; go_simp; (try exact ⟨rfl, rfl⟩); (try rfl)
    (try simp only [Act.put, List.setIfInBounds_toArray, List.set_cons_zero, List.set_cons_succ])
    apply quiet_wanted
    · go_simp
    · intro W hW; have hV := Bc_125.out.below hW Bc_125.out.lt; have c0 := hV.c0; have c1 := hV.c1; have c2 := hV.c2; clear hV; unfold Oper.quietAt; go_simp; (try exact ⟨rfl, rfl⟩); (try rfl)
    (try simp only [Act.put, List.setIfInBounds_toArray, List.set_cons_zero, List.set_cons_succ])
    apply quiet_wanted
    · go_simp
    · intro W hW; unfold Oper.quietAt; go_simp; (try exact ⟨rfl, rfl⟩); (try rfl)
    (try simp only [Act.put, List.setIfInBounds_toArray, List.set_cons_zero, List.set_cons_succ])
    apply quiet_wanted
    · go_simp
    · intro W hW; unfold Oper.quietAt; go_simp; (try exact ⟨rfl, rfl⟩); (try rfl)
    (try simp only [Act.put, List.setIfInBounds_toArray, List.set_cons_zero, List.set_cons_succ])
    apply quiet_wanted
    · go_simp
    · intro W hW; unfold Oper.quietAt; go_simp; (try exact ⟨rfl, rfl⟩); (try rfl)
    (try simp only [Act.put, List.setIfInBounds_toArray, List.set_cons_zero, List.set_cons_succ])
    apply quiet_wanted
    · go_simp
    · intro W hW; have hV := Bd_125.out.below hW Bd_125.out.lt; have c0 := hV.c0; have c1 := hV.c1; have c2 := hV.c2; clear hV; unfold Oper.quietAt; go_simp; (try exact ⟨rfl, rfl⟩); (try rfl)
    (try simp only [Act.put, List.setIfInBounds_toArray, List.set_cons_zero, List.set_cons_succ])
    apply quiet_wanted
    · go_simp
    · intro W hW; unfold Oper.quietAt; go_simp; have hc := number_c (-4) W; unfold valV at hc; exact hc.mono fun e w' hr => ⟨hr.1, Grown.trans hW hr.2⟩
    (try simp only [Act.put, List.setIfInBounds_toArray, List.set_cons_zero, List.set_cons_succ])
    apply quiet_wanted
    · go_simp
    · intro W hW; unfold Oper.quietAt; go_simp; (try exact ⟨rfl, rfl⟩); (try rfl)
    (try simp only [Act.put, List.setIfInBounds_toArray, List.set_cons_zero, List.set_cons_succ])
    apply quiet_wanted
    · go_simp
    · intro W hW; unfold Oper.quietAt; go_simp; (try exact ⟨rfl, rfl⟩); (try rfl)
    (try simp only [Act.put, List.setIfInBounds_toArray, List.set_cons_zero, List.set_cons_succ])
    apply quiet_wanted
    · go_simp
    · intro W hW; unfold Oper.quietAt; go_simp; (try exact ⟨rfl, rfl⟩); (try rfl)
    (try simp only [Act.put, List.setIfInBounds_toArray, List.set_cons_zero, List.set_cons_succ])
    apply quiet_wanted
    · go_simp
    · intro W hW; have hV := Bm_125.out.below hW Bm_125.out.lt; have c0 := hV.c0; have c1 := hV.c1; have c2 := hV.c2; clear hV; unfold Oper.quietAt; go_simp; (try exact ⟨rfl, rfl⟩); (try rfl)
    (try simp only [Act.put, List.setIfInBounds_toArray, List.set_cons_zero, List.set_cons_succ])
    apply quiet_wanted
    · go_simp
    · intro W hW; unfold Oper.quietAt; go_simp; have hc := number_c 1 W; unfold valV at hc; exact hc.mono fun e w' hr => ⟨hr.1, Grown.trans hW hr.2⟩
    (try simp only [Act.put, List.setIfInBounds_toArray, List.set_cons_zero, List.set_cons_succ])
    apply quiet_wanted
    · go_simp
    · intro W hW; unfold Oper.quietAt; go_simp; (try exact ⟨rfl, rfl⟩); (try rfl)
    (try simp only [Act.put, List.setIfInBounds_toArray, List.set_cons_zero, List.set_cons_succ])
    apply quiet_wanted
    · go_simp
    · intro W hW; unfold Oper.quietAt; go_simp; (try exact ⟨rfl, rfl⟩); (try rfl)
    (try simp only [Act.put, List.setIfInBounds_toArray, List.set_cons_zero, List.set_cons_succ])
    apply quiet_wanted
    · go_simp
    · intro W hW; unfold Oper.quietAt; go_simp; (try exact ⟨rfl, rfl⟩); (try rfl)
    (try simp only [Act.put, List.setIfInBounds_toArray, List.set_cons_zero, List.set_cons_succ])
    apply quiet_wanted
    · go_simp
    · intro W hW; have hV := Bp_125.out.below hW Bp_125.out.lt; have c0 := hV.c0; have c1 := hV.c1; have c2 := hV.c2; clear hV; unfold Oper.quietAt; go_simp; (try exact ⟨rfl, rfl⟩); (try rfl)
    (try simp only [Act.put, List.setIfInBounds_toArray, List.set_cons_zero, List.set_cons_succ])
    apply quiet_wanted
    · go_simp
    · intro W hW; have hV := Bc_125.out.below hW Bc_125.out.lt; have c0 := hV.c0; have c1 := hV.c1; have c2 := hV.c2; clear hV; unfold Oper.quietAt; go_simp; (try exact ⟨rfl, rfl⟩); (try rfl)
    (try simp only [Act.put, List.setIfInBounds_toArray, List.set_cons_zero, List.set_cons_succ])
    apply quiet_wanted
    · go_simp
    · intro W hW; unfold Oper.quietAt; go_simp; (try exact ⟨rfl, rfl⟩); (try rfl)
    (try simp only [Act.put, List.setIfInBounds_toArray, List.set_cons_zero, List.set_cons_succ])
    apply quiet_wanted
    · go_simp
    · intro W hW; unfold Oper.quietAt; go_simp; (try exact ⟨rfl, rfl⟩); (try rfl)
    (try simp only [Act.put, List.setIfInBounds_toArray, List.set_cons_zero, List.set_cons_succ])
    apply quiet_wanted
    · go_simp
    · intro W hW; unfold Oper.quietAt; go_simp; (try exact ⟨rfl, rfl⟩); (try rfl)
    (try simp only [Act.put, List.setIfInBounds_toArray, List.set_cons_zero, List.set_cons_succ])
    apply quiet_wanted
    · go_simp
    · intro W hW; have hV := Br_125.out.below hW Br_125.out.lt; have c0 := hV.c0; have c1 := hV.c1; have c2 := hV.c2; clear hV; unfold Oper.quietAt; go_simp; (try exact ⟨rfl, rfl⟩); (try rfl)
    (try simp only [Act.put, List.setIfInBounds_toArray, List.set_cons_zero, List.set_cons_succ])
    apply quiet_wanted
    · go_simp
    · intro W hW; unfold Oper.quietAt; go_simp; have hc := number_c 9 W; unfold valV at hc; exact hc.mono fun e w' hr => ⟨hr.1, Grown.trans hW hr.2⟩
    (try simp only [Act.put, List.setIfInBounds_toArray, List.set_cons_zero, List.set_cons_succ])
    apply quiet_wanted
    · go_simp
    · intro W hW; unfold Oper.quietAt; go_simp; (try exact ⟨rfl, rfl⟩); (try rfl)
    (try simp only [Act.put, List.setIfInBounds_toArray, List.set_cons_zero, List.set_cons_succ])
    apply quiet_wanted
    · go_simp
    · intro W hW; unfold Oper.quietAt; go_simp; (try exact ⟨rfl, rfl⟩); (try rfl)
    (try simp only [Act.put, List.setIfInBounds_toArray, List.set_cons_zero, List.set_cons_succ])
    apply quiet_wanted
    · go_simp
    · intro W hW; unfold Oper.quietAt; go_simp; (try exact ⟨rfl, rfl⟩); (try rfl)
    (try simp only [Act.put, List.setIfInBounds_toArray, List.set_cons_zero, List.set_cons_succ])
    apply quiet_wanted
    · go_simp
    · intro W hW; unfold Oper.quietAt; go_simp; (try exact ⟨rfl, rfl⟩); (try rfl)
    (try simp only [Act.put, List.setIfInBounds_toArray, List.set_cons_zero, List.set_cons_succ])
    apply quiet_wanted
    · go_simp
    · intro W hW; unfold Oper.quietAt; go_simp; (try exact ⟨rfl, rfl⟩); (try rfl)
    (try simp only [Act.put, List.setIfInBounds_toArray, List.set_cons_zero, List.set_cons_succ])
    apply quiet_wanted
    · go_simp
    · intro W hW; unfold Oper.quietAt; go_simp; (try exact ⟨rfl, rfl⟩); (try rfl)
    (try simp only [Act.put, List.setIfInBounds_toArray, List.set_cons_zero, List.set_cons_succ])
    apply quiet_wanted
    · go_simp
    · intro W hW; unfold Oper.quietAt; go_simp; (try exact ⟨rfl, rfl⟩); (try rfl)
    (try simp only [Act.put, List.setIfInBounds_toArray, List.set_cons_zero, List.set_cons_succ])
    apply quiet_wanted
    · go_simp
    · intro W hW; have hV := Bx_125.out.below hW Bx_125.out.lt; have c0 := hV.c0; have c1 := hV.c1; have c2 := hV.c2; clear hV; unfold Oper.quietAt; go_simp; (try exact ⟨rfl, rfl⟩); (try rfl)
    (try simp only [Act.put, List.setIfInBounds_toArray, List.set_cons_zero, List.set_cons_succ])
    apply quiet_wanted
    · go_simp
    · intro W hW; unfold Oper.quietAt; go_simp; have hc := number_c 6 W; unfold valV at hc; exact hc.mono fun e w' hr => ⟨hr.1, Grown.trans hW hr.2⟩
    (try simp only [Act.put, List.setIfInBounds_toArray, List.set_cons_zero, List.set_cons_succ])
    apply quiet_wanted
    · go_simp
    · intro W hW; unfold Oper.quietAt; go_simp; (try exact ⟨rfl, rfl⟩); (try rfl)
    (try simp only [Act.put, List.setIfInBounds_toArray, List.set_cons_zero, List.set_cons_succ])
    apply quiet_wanted
    · go_simp
    · intro W hW; unfold Oper.quietAt; go_simp; (try exact ⟨rfl, rfl⟩); (try rfl)
    (try simp only [Act.put, List.setIfInBounds_toArray, List.set_cons_zero, List.set_cons_succ])
    apply quiet_wanted
    · go_simp
    · intro W hW; unfold Oper.quietAt; go_simp; (try exact ⟨rfl, rfl⟩); (try rfl)
    (try simp only [Act.put, List.setIfInBounds_toArray, List.set_cons_zero, List.set_cons_succ])
    refine wpQuiet_nil ?_
    intro u201 hb
    unfold Grown at hb
    have Ba_126 := Lib.hid (Ba_125.out.below hb Ba_125.out.lt)
    have Bb_126 := Lib.hid (Bb_125.out.below hb Bb_125.out.lt)
    have Bc_126 := Lib.hid (Bc_125.out.below hb Bc_125.out.lt)
    have Bd_126 := Lib.hid (Bd_125.out.below hb Bd_125.out.lt)
    have Bm_126 := Lib.hid (Bm_125.out.below hb Bm_125.out.lt)
    have Bp_126 := Lib.hid (Bp_125.out.below hb Bp_125.out.lt)
    have Br_126 := Lib.hid (Br_125.out.below hb Br_125.out.lt)
    have Bo_126 := Lib.hid (Bo_125.out.below hb Bo_125.out.lt)
    have Bx_126 := Lib.hid (Bx_125.out.below hb Bx_125.out.lt)
    have Bl_126 := Lib.hid (Bl_125.out.below hb Bl_125.out.lt)
    have H_126 := Lib.hid (H_125.out.trans (hb.mono H_125.out.size))
    clear hb H_125 Ba_125 Bb_125 Bc_125 Bd_125 Bm_125 Bp_125 Br_125 Bo_125 Bx_125 Bl_125
    go_wp2_with fail
    go_ret
    exact ⟨rfl, H_126.out⟩
end Go.Proofs.YthbfbpbppjkoeaaGreatDoor
