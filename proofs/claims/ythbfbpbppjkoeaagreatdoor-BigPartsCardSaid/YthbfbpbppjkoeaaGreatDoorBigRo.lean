/- Contract of root of package big. Conditions: those in the statements. -/
import Derived.Test.YthbfbpbppjkoeaaGreatDoorBigY
import Derived.Test.YthbfbpbppjkoeaaGreatDoorBigZ
namespace Go.Proofs.YthbfbpbppjkoeaaGreatDoor
open Go.RowKit Go.Shelf
set_option linter.unusedSimpArgs false
set_option exponentiation.threshold 500
set_option maxRecDepth 100000

theorem few_pow {k : Nat} (h : k ≤ 300) : Few ((10 : Int) ^ k) := by
  unfold Few
  rw [Int.natAbs_pow]
  exact few_lt (Nat.pow_lt_pow_right (by decide) (by omega))

set_option maxHeartbeats 600000 in
theorem root_c (a : Int) (N : Nat) (hN : a = N) (bad : Nat → Prop) (oa : Option Addr) (ca : Nat) (w : World) (hw : Wd w) (ha : NumAt w oa a)
    (hbad : ∀ b, bad b → b < w.heap.size) (ba : a ≠ 0 → ∀ k, oa = some ⟨k, 0, none⟩ → ¬ bad k) :
    Calls Tryz.prog 70 #[numV a oa ca] w fun e w' => ∃ x : Nat, Bg.IsRoot N x ∧ RetAp bad x w e w' := by
  obtain ⟨hA0, hR0, hb0⟩ := boxes2 w (.int .i64 a.sign) (.slice oa (Bg.ds a.natAbs).length ca) (.int .i64 0) (.slice none 0 0)
  have hold : a ≠ 0 → ∀ b, oa = some ⟨b, 0, none⟩ → b < w.heap.size := fun h0 b e => ha.old h0 b e
  by_cases h0 : a = 0
  · have ds : (a.sign == 0) = true := by rw [h0]; rfl
    have HA0 := Lib.hid hA0
    have HR0 := Lib.hid hR0
    have Hb0 := Lib.hid hb0
    have Ha := Lib.hid (ha.mono hb0)
    have H0 := Lib.hid h0
    have HN := Lib.hid hN
    clear hA0 hR0 hb0 ha h0 hN hold ba hbad hw
    unfold numV
    go_enter Tryz.func70, Tryz.ntmps70
    go_wp2_with fail
    have hN2 : NB ((w.alloc (.cells #[.int .i64 a.sign, .slice oa (Bg.ds a.natAbs).length ca] 61)).alloc (.cells #[.int .i64 a.sign, .slice oa (Bg.ds a.natAbs).length ca] 61)) (w.heap.size + 1) (.int .i64 a.sign) (.slice oa (Bg.ds a.natAbs).length ca) := heap2 _ _ _
    refine ret_box rfl rfl rfl hN2 ⟨0, ?_, oa, ca, ?_, ?_, ?_, ?_⟩
    · have : N = 0 := by have := HN.out; have := H0.out; omega
      rw [this]
      exact ⟨by decide, by decide⟩
    · rw [H0.out]; rfl
    · exact ⟨few_lt (by decide), by rw [show ((0 : Nat) : Int).natAbs = 0 by rfl, Bg.ds_zero]; exact IntAt.nil _ _⟩
    · exact ((Below.refl _ w).alloc (Nat.le_refl _) _).alloc (by simp) _
    · exact fun h => absurd rfl h
  · have ds : (a.sign == 0) = false := beq_eq_false_iff_ne.2 (fun e => h0 (Int.sign_eq_zero_iff_zero.1 e))
    have hcn := fun (W : World) (hB : Below w.heap.size w W) => count_c oa ca a.natAbs W (hw.below hB) (ha.at_.mono hB) (by have := ha.few.len; omega)
    have hfa := ha.few
    obtain ⟨cnt, hcnt⟩ : ∃ c, Lib.nDigits a.natAbs = c := ⟨_, rfl⟩
    rw [hcnt] at hcn
    have hc400 : cnt ≤ 400 := by rw [← hcnt]; exact hfa
    obtain ⟨ten, h10, hsm⟩ : ∃ ten : Int, ten = 10 ∧ ∀ W, Calls Tryz.prog 86 #[.int .i64 10] W (RetNum ten W) := ⟨10, rfl, fun W => small_c 10 (by decide) (by decide) W⟩
    obtain ⟨two, h2, hsm2⟩ : ∃ two : Int, two = 2 ∧ ∀ W, Calls Tryz.prog 86 #[.int .i64 2] W (RetNum two W) := ⟨2, rfl, fun W => small_c 2 (by decide) (by decide) W⟩
    have htwo : two ≠ 0 := by omega
    obtain ⟨x0, hx0⟩ : ∃ x0, ten ^ ((cnt + 1) / 2) = x0 := ⟨_, rfl⟩
    have hfx : Few x0 := by rw [← hx0, h10]; exact few_pow (by omega)
    have hpw := fun (o : Option Addr) (c : Nat) (W : World) (hB : Below w.heap.size w W) (hn : NumAt W o ten) => power_c ten o c ((cnt + 1) / 2) (by omega) W (hw.below hB) hn
    rw [hx0] at hpw
    unfold numV at hpw
    rw [show (((cnt + 1) / 2 : Nat) : Int) = ((cnt : Int) + 1) / 2 by omega] at hpw
    have hwt : IntKind.i64.wrap (((cnt : Int) + 1).tdiv 2) = ((cnt : Int) + 1) / 2 := by
      rw [Int.tdiv_eq_ediv_of_nonneg (by omega)]
      exact IntWalk.i64_in _ (by omega)
    rw [← hwt] at hpw
    clear hwt
    have hw1 : IntKind.i64.wrap ((cnt : Int) + 1) = (cnt : Int) + 1 := IntWalk.i64_in _ (by omega)
    have hc0 : (0 : Int) ≤ (cnt : Int) + 1 := by omega
    have hc1 : (cnt : Int) + 1 ≤ 401 := by omega
    have HSm := Lib.hid hsm
    have HSm2 := Lib.hid hsm2
    have HCn := Lib.hid hcn
    have HPw := Lib.hid hpw
    have HFx := Lib.hid hfx
    have HWd := Lib.hid hw
    have HFar := Lib.hid hold
    have HBa := Lib.hid ba
    have HBad := Lib.hid hbad
    have HX0 := Lib.hid hx0
    have H10 := Lib.hid h10
    have HT2 := Lib.hid h2
    have HCt := Lib.hid hcnt
    have HN := Lib.hid hN
    have H0 := Lib.hid h0
    have HFa := Lib.hid hfa
    have HQt := Lib.hid (fun (x : Int) (ox : Option Addr) (cx : Nat) (hx : x ≠ 0) (W : World) (hB : Below w.heap.size w W) (hA : NumAt W oa a) (hX : NumAt W ox x) => quotient_c a x hx oa ox ca cx W (hw.below hB) hA hX)
    have HS0 := Lib.hid (S3.mk (W := World.drew _) hA0.drew hR0.drew hA0.drew hb0.drew)
    have HA0 := Lib.hid hA0.drew
    have HR0 := Lib.hid hR0.drew
    have Hb0 := Lib.hid hb0.drew
    have Ha0 := Lib.hid (ha.mono hb0.drew)
    clear hA0 hR0 hb0 ha h0 hN hold ba hbad hw hcn hcnt hsm hsm2 hpw hfx h10 h2 hx0 hfa
    unfold numV
    go_enter Tryz.func70, Tryz.ntmps70
    go_upto_region 3 with fail
    go_cut [3] from 9 to 16 (fun p3 wx => ∃ (B3 : Nat) (o2 : Option Addr) (c2 : Nat), p3 = .pointer (some ⟨B3, 0, none⟩) ∧ Hid (NB wx B3 (.int .i64 x0.sign) (.slice o2 (Bg.ds x0.natAbs).length c2)) ∧ Hid (NB wx w.heap.size (.int .i64 a.sign) (.slice oa (Bg.ds a.natAbs).length ca)) ∧ Hid (NB wx (w.heap.size + 1) (.int .i64 0) (.slice none 0 0)) ∧ Hid (NumAt wx oa a) ∧ Hid (NumAt wx o2 x0) ∧ Hid (Below w.heap.size w wx) ∧ Hid (w.heap.size < B3 ∧ w.heap.size + 1 < B3 ∧ w.heap.size < B3) ∧ Hid (∀ b, o2 = some ⟨b, 0, none⟩ → w.heap.size + 1 < b))
    case first =>
      refine wp_region_held_drew (S := fun W => W.cell? ⟨w.heap.size, 0, none⟩ = some (.int .i64 a.sign) ∧ W.cell? ⟨w.heap.size, 1, none⟩ = some (.slice oa (Bg.ds a.natAbs).length ca) ∧ W.cell? ⟨w.heap.size + 1, 0, none⟩ = some (.int .i64 0) ∧ W.cell? ⟨w.heap.size + 1, 1, none⟩ = some (.slice none 0 0) ∧ W.cell? ⟨w.heap.size, 0, none⟩ = some (.int .i64 a.sign) ∧ W.cell? ⟨w.heap.size, 1, none⟩ = some (.slice oa (Bg.ds a.natAbs).length ca) ∧ Below w.heap.size w W ∧ w.heap.size < W.heap.size ∧ w.heap.size + 1 < W.heap.size ∧ w.heap.size < W.heap.size) (by kernel_rfl) HS0.out (fun _ => ?_)
      have hS_0 := HS0.out
      have hA_0 := HA0.out
      have hR_0 := HR0.out
      have hV_0 := Hb0.out
      have nA_0 := Ha0.out
      refine wpAnyH_take (i := 1) (v := ?hlv1) rfl (by kernel_rfl) (by kernel_rfl) (by kernel_rfl) (fun _ _ _ h => h) (Or.inl ⟨by rfl, ?hly1⟩) (by assumption) ?hlr1
      case hly1 => (intro w hSw; (try dsimp only at hSw); go_simp; (try with_reducible rfl))
      (try simp only [Act.put, List.setIfInBounds_toArray, List.set_cons_zero, List.set_cons_succ])
      refine wpAnyH_take (i := 2) (v := ?hlv2) rfl (by kernel_rfl) (by kernel_rfl) (by kernel_rfl) (fun _ _ _ h => h) (Or.inl ⟨by rfl, ?hly2⟩) (by assumption) ?hlr2
      case hly2 => (intro w hSw; (try dsimp only at hSw); go_simp; (try with_reducible rfl))
      (try simp only [Act.put, List.setIfInBounds_toArray, List.set_cons_zero, List.set_cons_succ])
      generalize World.drew _ = V0 at *
      refine wpAnyH_ready (rs := [0, 7]) (by kernel_rfl) (by simp) ?_
      refine AllReadyH.one rfl ?_ ?_
      · intro K hK
        go_simp
        refine (HSm.out V0).mono ?_
        rintro e V1 ⟨o1, c1, rfl, n1_1, hbn, hw_n1⟩
        unfold numV
        have fr_n1 : ∀ b, o1 = some ⟨b, 0, none⟩ → w.heap.size + 1 < b := fun b e => by have := hw_n1 b e; have := hS_0.2.2.2.2.2.2.2; omega
        clear hw_n1
        have hA_1 := hA_0.below hbn hA_0.lt
        have hR_1 := hR_0.below hbn hR_0.lt
        have nA_1 := nA_0.mono hbn
        have hV_1 := hV_0.trans (hbn.mono hV_0.size)
        have hS_1 := S3.kept hS_0 hV_0.size hbn
        refine hK.out _ _ hS_1 (fun _ => ?_)
        clear hK K hbn hV_0 hS_0 hA_0 hR_0 nA_0
        refine wpAnyH_ready (rs := [3, 7]) (by kernel_rfl) (by simp) ?_
        refine AllReadyH.one rfl ?_ ?_
        · intro K hK
          go_simp
          refine (HCn.out V1 hV_1).mono ?_
          rintro e V2 ⟨rfl, hbn⟩
          have hA_2 := hA_1.below hbn hA_1.lt
          have hR_2 := hR_1.below hbn hR_1.lt
          have nA_2 := nA_1.mono hbn
          have n1_2 := n1_1.mono hbn
          have hV_2 := hV_1.trans (hbn.mono hV_1.size)
          have hS_2 := S3.kept hS_1 hV_1.size hbn
          refine hK.out _ _ hS_2 (fun _ => ?_)
          clear hK K hbn hV_1 hS_1 hA_1 hR_1 nA_1 n1_1
          refine wpAnyH_take (i := 4) (v := ?hlv3) rfl (by kernel_rfl) (by kernel_rfl) (by kernel_rfl) (fun _ _ _ h => h) (Or.inl ⟨by rfl, ?hly3⟩) (by assumption) ?hlr3
          case hly3 => (intro w hSw; (try dsimp only at hSw); go_simp; (try with_reducible rfl))
          (try simp only [Act.put, List.setIfInBounds_toArray, List.set_cons_zero, List.set_cons_succ])
          refine wpAnyH_take (i := 5) (v := ?hlv4) rfl (by kernel_rfl) (by kernel_rfl) (by kernel_rfl) (fun _ _ _ h => h) (Or.inl ⟨by rfl, ?hly4⟩) (by assumption) ?hlr4
          case hly4 => (intro w hSw; (try dsimp only at hSw); go_simp; (try with_reducible rfl))
          (try simp only [Act.put, List.setIfInBounds_toArray, List.set_cons_zero, List.set_cons_succ])
          refine wpAnyH_ready (rs := [6, 7]) (by kernel_rfl) (by simp) ?_
          refine AllReadyH.one rfl ?_ ?_
          · intro K hK
            go_simp
            have hpw := HPw.out o1 c1 V2 hV_2 n1_2
            refine hpw.mono ?_
            rintro e V3 hz
            clear hpw
            obtain ⟨o2, c2, rfl, n2_3, hbn, hw_n2⟩ := hz.1 HFx.out
            clear hz
            unfold numV
            have fr_n2 : ∀ b, o2 = some ⟨b, 0, none⟩ → w.heap.size + 1 < b := fun b e => by have := hw_n2 b e; have := hS_2.2.2.2.2.2.2.2; omega
            clear hw_n2
            have hA_3 := hA_2.below hbn hA_2.lt
            have hR_3 := hR_2.below hbn hR_2.lt
            have nA_3 := nA_2.mono hbn
            have n1_3 := n1_2.mono hbn
            have hV_3 := hV_2.trans (hbn.mono hV_2.size)
            have hS_3 := S3.kept hS_2 hV_2.size hbn
            refine hK.out _ _ hS_3 (fun _ => ?_)
            clear hK K hbn hV_2 hS_2 hA_2 hR_2 nA_2 n1_2
            refine wpAnyH_ready (rs := [7]) (by kernel_rfl) (by simp) ?_
            refine AllReadyH.one rfl ?_ AllReadyH.nil
            intro K hK
            go_simp
            have hbn : Below V3.heap.size V3 (V3.alloc (.cells #[.int .i64 0, .slice none 0 0] 61)) := (Below.refl _ V3).alloc (Nat.le_refl _) _
            have hNew_4 := NB.new V3 (.int .i64 0) (.slice none 0 0)
            obtain ⟨B3, hB3⟩ : ∃ B, V3.heap.size = B := ⟨_, rfl⟩
            have hgB3 := hS_3.2.2.2.2.2.2.2
            rw [hB3] at hgB3
            have ap_nA : a ≠ 0 → ∀ b, oa = some ⟨b, 0, none⟩ → b ≠ B3 := fun h0 b e => by have := nA_3.old h0 b e; omega
            have ap_n1 : ten ≠ 0 → ∀ b, o1 = some ⟨b, 0, none⟩ → b ≠ B3 := fun h0 b e => by have := n1_3.old h0 b e; omega
            have ap_n2 : x0 ≠ 0 → ∀ b, o2 = some ⟨b, 0, none⟩ → b ≠ B3 := fun h0 b e => by have := n2_3.old h0 b e; omega
            have hA_4 := hA_3.below hbn hA_3.lt
            have hR_4 := hR_3.below hbn hR_3.lt
            have nA_4 := nA_3.mono hbn
            have n1_4 := n1_3.mono hbn
            have n2_4 := n2_3.mono hbn
            have hV_4 := hV_3.trans (hbn.mono hV_3.size)
            have hS_4 := S3.kept hS_3 hV_3.size hbn
            refine hK.out _ _ hS_4 (fun _ => ?_)
            clear hK K hbn hV_3 hS_3 hA_3 hR_3 nA_3 n1_3 n2_3
            generalize V3.alloc (.cells #[.int .i64 0, .slice none 0 0] 61) = V4 at *
            rw [hB3] at hNew_4 ⊢
            clear hB3
            have c0 := hNew_4.c0
            have c1 := hNew_4.c1
            have f0 := hNew_4.f0
            have f1 := hNew_4.f1
            refine wpAnyH_ready (rs := [8]) (by kernel_rfl) (by simp) ?_
            refine AllReadyH.one rfl ?_ AllReadyH.nil
            intro K hK
            go_simp
            have hS_5 := S3.put hS_4 B3 (by omega) (by omega) (by omega) (by omega) (.int .i64 x0.sign) (.slice o2 (Bg.ds x0.natAbs).length c2)
            refine hK.out _ _ hS_5 (fun _ => ?_)
            clear hK K
            refine wpAnyH_done (by kernel_rfl) ?_ _
            have G1 := Lib.hid (hNew_4.put (.int .i64 x0.sign) (.slice o2 (Bg.ds x0.natAbs).length c2))
            have G2 := Lib.hid (hA_4.others B3 (by omega) (.int .i64 x0.sign) (.slice o2 (Bg.ds x0.natAbs).length c2))
            have G3 := Lib.hid (hR_4.others B3 (by omega) (.int .i64 x0.sign) (.slice o2 (Bg.ds x0.natAbs).length c2))
            have G4 := Lib.hid (nA_4.put' B3 ap_nA (.int .i64 x0.sign) (.slice o2 (Bg.ds x0.natAbs).length c2))
            have G5 := Lib.hid (n2_4.put' B3 ap_n2 (.int .i64 x0.sign) (.slice o2 (Bg.ds x0.natAbs).length c2))
            have G6 := Lib.hid (below_put hV_4 (by omega : w.heap.size ≤ B3) (.int .i64 x0.sign) (.slice o2 (Bg.ds x0.natAbs).length c2))
            have G7 := Lib.hid hgB3
            have G8 := Lib.hid fr_n2
            clear c0 c1 f0 f1
            go_wp2_with fail
            go_meet
            exact ⟨B3, o2, c2, rfl, G1, G2, G3, G4, G5, G6, G7, G8⟩
          refine AllReadyH.one rfl ?_ ?_
          · intro K hK
            go_simp
            have hbn : Below V2.heap.size V2 (V2.alloc (.cells #[.int .i64 0, .slice none 0 0] 61)) := (Below.refl _ V2).alloc (Nat.le_refl _) _
            have hNew_3 := NB.new V2 (.int .i64 0) (.slice none 0 0)
            obtain ⟨B3, hB3⟩ : ∃ B, V2.heap.size = B := ⟨_, rfl⟩
            have hgB3 := hS_2.2.2.2.2.2.2.2
            rw [hB3] at hgB3
            have ap_nA : a ≠ 0 → ∀ b, oa = some ⟨b, 0, none⟩ → b ≠ B3 := fun h0 b e => by have := nA_2.old h0 b e; omega
            have ap_n1 : ten ≠ 0 → ∀ b, o1 = some ⟨b, 0, none⟩ → b ≠ B3 := fun h0 b e => by have := n1_2.old h0 b e; omega
            have hA_3 := hA_2.below hbn hA_2.lt
            have hR_3 := hR_2.below hbn hR_2.lt
            have nA_3 := nA_2.mono hbn
            have n1_3 := n1_2.mono hbn
            have hV_3 := hV_2.trans (hbn.mono hV_2.size)
            have hS_3 := S3.kept hS_2 hV_2.size hbn
            refine hK.out _ _ hS_3 (fun _ => ?_)
            clear hK K hbn hV_2 hS_2 hA_2 hR_2 nA_2 n1_2
            generalize V2.alloc (.cells #[.int .i64 0, .slice none 0 0] 61) = V3 at *
            rw [hB3] at hNew_3 ⊢
            clear hB3
            refine wpAnyH_ready (rs := [6]) (by kernel_rfl) (by simp) ?_
            refine AllReadyH.one rfl ?_ AllReadyH.nil
            intro K hK
            go_simp
            have hpw := HPw.out o1 c1 V3 hV_3 n1_3
            refine hpw.mono ?_
            rintro e V4 hz
            clear hpw
            obtain ⟨o2, c2, rfl, n2_4, hbn, hw_n2⟩ := hz.1 HFx.out
            clear hz
            unfold numV
            have fr_n2 : ∀ b, o2 = some ⟨b, 0, none⟩ → w.heap.size + 1 < b := fun b e => by have := hw_n2 b e; have := hS_3.2.2.2.2.2.2.2; omega
            have ap_n2 : x0 ≠ 0 → ∀ b, o2 = some ⟨b, 0, none⟩ → b ≠ B3 := fun _ b e => by have := hw_n2 b e; have := hNew_3.lt; omega
            clear hw_n2
            have hA_4 := hA_3.below hbn hA_3.lt
            have hR_4 := hR_3.below hbn hR_3.lt
            have nA_4 := nA_3.mono hbn
            have n1_4 := n1_3.mono hbn
            have hNew_4 := hNew_3.below hbn hNew_3.lt
            have hV_4 := hV_3.trans (hbn.mono hV_3.size)
            have hS_4 := S3.kept hS_3 hV_3.size hbn
            refine hK.out _ _ hS_4 (fun _ => ?_)
            clear hK K hbn hV_3 hS_3 hA_3 hR_3 nA_3 n1_3 hNew_3
            have c0 := hNew_4.c0
            have c1 := hNew_4.c1
            have f0 := hNew_4.f0
            have f1 := hNew_4.f1
            refine wpAnyH_ready (rs := [8]) (by kernel_rfl) (by simp) ?_
            refine AllReadyH.one rfl ?_ AllReadyH.nil
            intro K hK
            go_simp
            have hS_5 := S3.put hS_4 B3 (by omega) (by omega) (by omega) (by omega) (.int .i64 x0.sign) (.slice o2 (Bg.ds x0.natAbs).length c2)
            refine hK.out _ _ hS_5 (fun _ => ?_)
            clear hK K
            refine wpAnyH_done (by kernel_rfl) ?_ _
            have G1 := Lib.hid (hNew_4.put (.int .i64 x0.sign) (.slice o2 (Bg.ds x0.natAbs).length c2))
            have G2 := Lib.hid (hA_4.others B3 (by omega) (.int .i64 x0.sign) (.slice o2 (Bg.ds x0.natAbs).length c2))
            have G3 := Lib.hid (hR_4.others B3 (by omega) (.int .i64 x0.sign) (.slice o2 (Bg.ds x0.natAbs).length c2))
            have G4 := Lib.hid (nA_4.put' B3 ap_nA (.int .i64 x0.sign) (.slice o2 (Bg.ds x0.natAbs).length c2))
            have G5 := Lib.hid (n2_4.put' B3 ap_n2 (.int .i64 x0.sign) (.slice o2 (Bg.ds x0.natAbs).length c2))
            have G6 := Lib.hid (below_put hV_4 (by omega : w.heap.size ≤ B3) (.int .i64 x0.sign) (.slice o2 (Bg.ds x0.natAbs).length c2))
            have G7 := Lib.hid hgB3
            have G8 := Lib.hid fr_n2
            clear c0 c1 f0 f1
            go_wp2_with fail
            go_meet
            exact ⟨B3, o2, c2, rfl, G1, G2, G3, G4, G5, G6, G7, G8⟩
          exact AllReadyH.nil
        refine AllReadyH.one rfl ?_ ?_
        · intro K hK
          go_simp
          have hbn : Below V1.heap.size V1 (V1.alloc (.cells #[.int .i64 0, .slice none 0 0] 61)) := (Below.refl _ V1).alloc (Nat.le_refl _) _
          have hNew_2 := NB.new V1 (.int .i64 0) (.slice none 0 0)
          obtain ⟨B3, hB3⟩ : ∃ B, V1.heap.size = B := ⟨_, rfl⟩
          have hgB3 := hS_1.2.2.2.2.2.2.2
          rw [hB3] at hgB3
          have ap_nA : a ≠ 0 → ∀ b, oa = some ⟨b, 0, none⟩ → b ≠ B3 := fun h0 b e => by have := nA_1.old h0 b e; omega
          have ap_n1 : ten ≠ 0 → ∀ b, o1 = some ⟨b, 0, none⟩ → b ≠ B3 := fun h0 b e => by have := n1_1.old h0 b e; omega
          have hA_2 := hA_1.below hbn hA_1.lt
          have hR_2 := hR_1.below hbn hR_1.lt
          have nA_2 := nA_1.mono hbn
          have n1_2 := n1_1.mono hbn
          have hV_2 := hV_1.trans (hbn.mono hV_1.size)
          have hS_2 := S3.kept hS_1 hV_1.size hbn
          refine hK.out _ _ hS_2 (fun _ => ?_)
          clear hK K hbn hV_1 hS_1 hA_1 hR_1 nA_1 n1_1
          generalize V1.alloc (.cells #[.int .i64 0, .slice none 0 0] 61) = V2 at *
          rw [hB3] at hNew_2 ⊢
          clear hB3
          refine wpAnyH_ready (rs := [3]) (by kernel_rfl) (by simp) ?_
          refine AllReadyH.one rfl ?_ AllReadyH.nil
          intro K hK
          go_simp
          refine (HCn.out V2 hV_2).mono ?_
          rintro e V3 ⟨rfl, hbn⟩
          have hA_3 := hA_2.below hbn hA_2.lt
          have hR_3 := hR_2.below hbn hR_2.lt
          have nA_3 := nA_2.mono hbn
          have n1_3 := n1_2.mono hbn
          have hNew_3 := hNew_2.below hbn hNew_2.lt
          have hV_3 := hV_2.trans (hbn.mono hV_2.size)
          have hS_3 := S3.kept hS_2 hV_2.size hbn
          refine hK.out _ _ hS_3 (fun _ => ?_)
          clear hK K hbn hV_2 hS_2 hA_2 hR_2 nA_2 n1_2 hNew_2
          refine wpAnyH_take (i := 4) (v := ?hlv5) rfl (by kernel_rfl) (by kernel_rfl) (by kernel_rfl) (fun _ _ _ h => h) (Or.inl ⟨by rfl, ?hly5⟩) (by assumption) ?hlr5
          case hly5 => (intro w hSw; (try dsimp only at hSw); go_simp; (try with_reducible rfl))
          (try simp only [Act.put, List.setIfInBounds_toArray, List.set_cons_zero, List.set_cons_succ])
          refine wpAnyH_take (i := 5) (v := ?hlv6) rfl (by kernel_rfl) (by kernel_rfl) (by kernel_rfl) (fun _ _ _ h => h) (Or.inl ⟨by rfl, ?hly6⟩) (by assumption) ?hlr6
          case hly6 => (intro w hSw; (try dsimp only at hSw); go_simp; (try with_reducible rfl))
          (try simp only [Act.put, List.setIfInBounds_toArray, List.set_cons_zero, List.set_cons_succ])
          refine wpAnyH_ready (rs := [6]) (by kernel_rfl) (by simp) ?_
          refine AllReadyH.one rfl ?_ AllReadyH.nil
          intro K hK
          go_simp
          have hpw := HPw.out o1 c1 V3 hV_3 n1_3
          refine hpw.mono ?_
          rintro e V4 hz
          clear hpw
          obtain ⟨o2, c2, rfl, n2_4, hbn, hw_n2⟩ := hz.1 HFx.out
          clear hz
          unfold numV
          have fr_n2 : ∀ b, o2 = some ⟨b, 0, none⟩ → w.heap.size + 1 < b := fun b e => by have := hw_n2 b e; have := hS_3.2.2.2.2.2.2.2; omega
          have ap_n2 : x0 ≠ 0 → ∀ b, o2 = some ⟨b, 0, none⟩ → b ≠ B3 := fun _ b e => by have := hw_n2 b e; have := hNew_3.lt; omega
          clear hw_n2
          have hA_4 := hA_3.below hbn hA_3.lt
          have hR_4 := hR_3.below hbn hR_3.lt
          have nA_4 := nA_3.mono hbn
          have n1_4 := n1_3.mono hbn
          have hNew_4 := hNew_3.below hbn hNew_3.lt
          have hV_4 := hV_3.trans (hbn.mono hV_3.size)
          have hS_4 := S3.kept hS_3 hV_3.size hbn
          refine hK.out _ _ hS_4 (fun _ => ?_)
          clear hK K hbn hV_3 hS_3 hA_3 hR_3 nA_3 n1_3 hNew_3
          have c0 := hNew_4.c0
          have c1 := hNew_4.c1
          have f0 := hNew_4.f0
          have f1 := hNew_4.f1
          refine wpAnyH_ready (rs := [8]) (by kernel_rfl) (by simp) ?_
          refine AllReadyH.one rfl ?_ AllReadyH.nil
          intro K hK
          go_simp
          have hS_5 := S3.put hS_4 B3 (by omega) (by omega) (by omega) (by omega) (.int .i64 x0.sign) (.slice o2 (Bg.ds x0.natAbs).length c2)
          refine hK.out _ _ hS_5 (fun _ => ?_)
          clear hK K
          refine wpAnyH_done (by kernel_rfl) ?_ _
          have G1 := Lib.hid (hNew_4.put (.int .i64 x0.sign) (.slice o2 (Bg.ds x0.natAbs).length c2))
          have G2 := Lib.hid (hA_4.others B3 (by omega) (.int .i64 x0.sign) (.slice o2 (Bg.ds x0.natAbs).length c2))
          have G3 := Lib.hid (hR_4.others B3 (by omega) (.int .i64 x0.sign) (.slice o2 (Bg.ds x0.natAbs).length c2))
          have G4 := Lib.hid (nA_4.put' B3 ap_nA (.int .i64 x0.sign) (.slice o2 (Bg.ds x0.natAbs).length c2))
          have G5 := Lib.hid (n2_4.put' B3 ap_n2 (.int .i64 x0.sign) (.slice o2 (Bg.ds x0.natAbs).length c2))
          have G6 := Lib.hid (below_put hV_4 (by omega : w.heap.size ≤ B3) (.int .i64 x0.sign) (.slice o2 (Bg.ds x0.natAbs).length c2))
          have G7 := Lib.hid hgB3
          have G8 := Lib.hid fr_n2
          clear c0 c1 f0 f1
          go_wp2_with fail
          go_meet
          exact ⟨B3, o2, c2, rfl, G1, G2, G3, G4, G5, G6, G7, G8⟩
        exact AllReadyH.nil
      refine AllReadyH.one rfl ?_ ?_
      · intro K hK
        go_simp
        have hbn : Below V0.heap.size V0 (V0.alloc (.cells #[.int .i64 0, .slice none 0 0] 61)) := (Below.refl _ V0).alloc (Nat.le_refl _) _
        have hNew_1 := NB.new V0 (.int .i64 0) (.slice none 0 0)
        obtain ⟨B3, hB3⟩ : ∃ B, V0.heap.size = B := ⟨_, rfl⟩
        have hgB3 := hS_0.2.2.2.2.2.2.2
        rw [hB3] at hgB3
        have ap_nA : a ≠ 0 → ∀ b, oa = some ⟨b, 0, none⟩ → b ≠ B3 := fun h0 b e => by have := nA_0.old h0 b e; omega
        have hA_1 := hA_0.below hbn hA_0.lt
        have hR_1 := hR_0.below hbn hR_0.lt
        have nA_1 := nA_0.mono hbn
        have hV_1 := hV_0.trans (hbn.mono hV_0.size)
        have hS_1 := S3.kept hS_0 hV_0.size hbn
        refine hK.out _ _ hS_1 (fun _ => ?_)
        clear hK K hbn hV_0 hS_0 hA_0 hR_0 nA_0
        generalize V0.alloc (.cells #[.int .i64 0, .slice none 0 0] 61) = V1 at *
        rw [hB3] at hNew_1 ⊢
        clear hB3
        refine wpAnyH_ready (rs := [0]) (by kernel_rfl) (by simp) ?_
        refine AllReadyH.one rfl ?_ AllReadyH.nil
        intro K hK
        go_simp
        refine (HSm.out V1).mono ?_
        rintro e V2 ⟨o1, c1, rfl, n1_2, hbn, hw_n1⟩
        unfold numV
        have fr_n1 : ∀ b, o1 = some ⟨b, 0, none⟩ → w.heap.size + 1 < b := fun b e => by have := hw_n1 b e; have := hS_1.2.2.2.2.2.2.2; omega
        have ap_n1 : ten ≠ 0 → ∀ b, o1 = some ⟨b, 0, none⟩ → b ≠ B3 := fun _ b e => by have := hw_n1 b e; have := hNew_1.lt; omega
        clear hw_n1
        have hA_2 := hA_1.below hbn hA_1.lt
        have hR_2 := hR_1.below hbn hR_1.lt
        have nA_2 := nA_1.mono hbn
        have hNew_2 := hNew_1.below hbn hNew_1.lt
        have hV_2 := hV_1.trans (hbn.mono hV_1.size)
        have hS_2 := S3.kept hS_1 hV_1.size hbn
        refine hK.out _ _ hS_2 (fun _ => ?_)
        clear hK K hbn hV_1 hS_1 hA_1 hR_1 nA_1 hNew_1
        refine wpAnyH_ready (rs := [3]) (by kernel_rfl) (by simp) ?_
        refine AllReadyH.one rfl ?_ AllReadyH.nil
        intro K hK
        go_simp
        refine (HCn.out V2 hV_2).mono ?_
        rintro e V3 ⟨rfl, hbn⟩
        have hA_3 := hA_2.below hbn hA_2.lt
        have hR_3 := hR_2.below hbn hR_2.lt
        have nA_3 := nA_2.mono hbn
        have hNew_3 := hNew_2.below hbn hNew_2.lt
        have n1_3 := n1_2.mono hbn
        have hV_3 := hV_2.trans (hbn.mono hV_2.size)
        have hS_3 := S3.kept hS_2 hV_2.size hbn
        refine hK.out _ _ hS_3 (fun _ => ?_)
        clear hK K hbn hV_2 hS_2 hA_2 hR_2 nA_2 hNew_2 n1_2
        refine wpAnyH_take (i := 4) (v := ?hlv7) rfl (by kernel_rfl) (by kernel_rfl) (by kernel_rfl) (fun _ _ _ h => h) (Or.inl ⟨by rfl, ?hly7⟩) (by assumption) ?hlr7
        case hly7 => (intro w hSw; (try dsimp only at hSw); go_simp; (try with_reducible rfl))
        (try simp only [Act.put, List.setIfInBounds_toArray, List.set_cons_zero, List.set_cons_succ])
        refine wpAnyH_take (i := 5) (v := ?hlv8) rfl (by kernel_rfl) (by kernel_rfl) (by kernel_rfl) (fun _ _ _ h => h) (Or.inl ⟨by rfl, ?hly8⟩) (by assumption) ?hlr8
        case hly8 => (intro w hSw; (try dsimp only at hSw); go_simp; (try with_reducible rfl))
        (try simp only [Act.put, List.setIfInBounds_toArray, List.set_cons_zero, List.set_cons_succ])
        refine wpAnyH_ready (rs := [6]) (by kernel_rfl) (by simp) ?_
        refine AllReadyH.one rfl ?_ AllReadyH.nil
        intro K hK
        go_simp
        have hpw := HPw.out o1 c1 V3 hV_3 n1_3
        refine hpw.mono ?_
        rintro e V4 hz
        clear hpw
        obtain ⟨o2, c2, rfl, n2_4, hbn, hw_n2⟩ := hz.1 HFx.out
        clear hz
        unfold numV
        have fr_n2 : ∀ b, o2 = some ⟨b, 0, none⟩ → w.heap.size + 1 < b := fun b e => by have := hw_n2 b e; have := hS_3.2.2.2.2.2.2.2; omega
        have ap_n2 : x0 ≠ 0 → ∀ b, o2 = some ⟨b, 0, none⟩ → b ≠ B3 := fun _ b e => by have := hw_n2 b e; have := hNew_3.lt; omega
        clear hw_n2
        have hA_4 := hA_3.below hbn hA_3.lt
        have hR_4 := hR_3.below hbn hR_3.lt
        have nA_4 := nA_3.mono hbn
        have hNew_4 := hNew_3.below hbn hNew_3.lt
        have n1_4 := n1_3.mono hbn
        have hV_4 := hV_3.trans (hbn.mono hV_3.size)
        have hS_4 := S3.kept hS_3 hV_3.size hbn
        refine hK.out _ _ hS_4 (fun _ => ?_)
        clear hK K hbn hV_3 hS_3 hA_3 hR_3 nA_3 hNew_3 n1_3
        have c0 := hNew_4.c0
        have c1 := hNew_4.c1
        have f0 := hNew_4.f0
        have f1 := hNew_4.f1
        refine wpAnyH_ready (rs := [8]) (by kernel_rfl) (by simp) ?_
        refine AllReadyH.one rfl ?_ AllReadyH.nil
        intro K hK
        go_simp
        have hS_5 := S3.put hS_4 B3 (by omega) (by omega) (by omega) (by omega) (.int .i64 x0.sign) (.slice o2 (Bg.ds x0.natAbs).length c2)
        refine hK.out _ _ hS_5 (fun _ => ?_)
        clear hK K
        refine wpAnyH_done (by kernel_rfl) ?_ _
        have G1 := Lib.hid (hNew_4.put (.int .i64 x0.sign) (.slice o2 (Bg.ds x0.natAbs).length c2))
        have G2 := Lib.hid (hA_4.others B3 (by omega) (.int .i64 x0.sign) (.slice o2 (Bg.ds x0.natAbs).length c2))
        have G3 := Lib.hid (hR_4.others B3 (by omega) (.int .i64 x0.sign) (.slice o2 (Bg.ds x0.natAbs).length c2))
        have G4 := Lib.hid (nA_4.put' B3 ap_nA (.int .i64 x0.sign) (.slice o2 (Bg.ds x0.natAbs).length c2))
        have G5 := Lib.hid (n2_4.put' B3 ap_n2 (.int .i64 x0.sign) (.slice o2 (Bg.ds x0.natAbs).length c2))
        have G6 := Lib.hid (below_put hV_4 (by omega : w.heap.size ≤ B3) (.int .i64 x0.sign) (.slice o2 (Bg.ds x0.natAbs).length c2))
        have G7 := Lib.hid hgB3
        have G8 := Lib.hid fr_n2
        clear c0 c1 f0 f1
        go_wp2_with fail
        go_meet
        exact ⟨B3, o2, c2, rfl, G1, G2, G3, G4, G5, G6, G7, G8⟩
      exact AllReadyH.nil
    case rest =>
      obtain ⟨B3, o2, c2, rfl, G1, G2, G3, G4, G5, G6, G7, G8⟩ := hcut
      have hlB := HA0.out.lt
      go_wp2_with fail
      go_loopg [] (10 ^ ((cnt + 1) / 2)) (fun g wr => ∃ (xn : Nat) (ox : Option Addr) (cx : Nat), Hid (xn = g) ∧ Hid (0 < xn ∧ xn ≤ 10 ^ ((cnt + 1) / 2) ∧ N < (xn + 1) * (xn + 1)) ∧ Hid (NB wr B3 (.int .i64 (xn : Int).sign) (.slice ox (Bg.ds (xn : Int).natAbs).length cx)) ∧ Hid (NB wr w.heap.size (.int .i64 a.sign) (.slice oa (Bg.ds a.natAbs).length ca)) ∧ Hid (NB wr (w.heap.size + 1) (.int .i64 0) (.slice none 0 0)) ∧ Hid (NumAt wr oa a) ∧ Hid (NumAt wr ox (xn : Int)) ∧ Hid (Below w.heap.size w wr) ∧ Hid (∀ b, ox = some ⟨b, 0, none⟩ → w.heap.size + 1 < b))
      case atStart =>
        have hx0 : x0 = ((10 ^ ((cnt + 1) / 2) : Nat) : Int) := by rw [← HX0.out, H10.out]; simp
        rw [hx0] at G1 G5
        refine ⟨10 ^ ((cnt + 1) / 2), o2, c2, Lib.hid rfl, Lib.hid ⟨Nat.pow_pos (by decide), Nat.le_refl _, ?_⟩, G1, G2, G3, G4, G5, G6, G8⟩
        have := Bg.root_start N
        rwa [show Lib.nDigits N = cnt by rw [← HCt.out, HN.out, Int.natAbs_natCast]] at this
      case round =>
        clear G1 G2 G3 G4 G5 G6 G8 HS0 HA0 HR0 Hb0 Ha0
        obtain ⟨xn, ox, cx, HGk, HX, X1, X2, X3, X4, X5, X6, X7⟩ := hrel
        obtain ⟨x, hx⟩ : ∃ x : Int, (xn : Int) = x := ⟨_, rfl⟩
        rw [hx] at X1 X5
        have hx0 : x ≠ 0 := by have := HX.out.1; omega
        have hfd : a.fdiv x = ((N / xn : Nat) : Int) := by
          rw [Int.fdiv_eq_ediv_of_nonneg _ (by omega), HN.out, ← hx, Int.natCast_ediv]
        have hNx : N / xn ≤ xn + 2 := by
          have h1 := HX.out.2.2
          have h2 : N < xn * (xn + 3) := by
            have : (xn + 1) * (xn + 1) = xn * (xn + 2) + 1 := by rw [Nat.add_mul, Nat.mul_add, Nat.mul_add, Nat.mul_add]; omega
            have h3 : xn * (xn + 3) = xn * (xn + 2) + xn := by rw [Nat.mul_add, Nat.mul_add]; omega
            have := HX.out.1
            omega
          have := Nat.div_lt_of_lt_mul h2
          omega
        have hfs : Few (x + a.fdiv x) := by
          rw [hfd, ← hx]
          refine few_of_le (b := 10 ^ 300) ?_ (few_lt (Nat.pow_lt_pow_right (by decide) (by decide)))
          have h1 := HX.out.2.1
          have h2 : 10 ^ ((cnt + 1) / 2) ≤ 10 ^ 200 := Nat.pow_le_pow_right (by decide) (by omega)
          have h3 : (10 : Nat) ^ 200 * 10 ≤ 10 ^ 300 := by rw [← Nat.pow_succ]; exact Nat.pow_le_pow_right (by decide) (by decide)
          have h4 : 1 ≤ 10 ^ 200 := Nat.pow_pos (by decide)
          generalize (10 : Nat) ^ 200 = A at *
          generalize (10 : Nat) ^ 300 = B at *
          generalize 10 ^ ((cnt + 1) / 2) = C at *
          generalize N / xn = D at *
          omega
        have hyy : (x + a.fdiv x).fdiv two = (((xn + N / xn) / 2 : Nat) : Int) := by
          rw [HT2.out, Int.fdiv_eq_ediv_of_nonneg _ (by omega), hfd, ← hx]
          omega
        have HFs := Lib.hid hfs
        have HYy := Lib.hid hyy
        have HXx := Lib.hid hx
        have HS0 := Lib.hid (S3.mk (W := wr.drew) X2.out.drew X3.out.drew X1.out.drew X6.out.drew)
        have HMv : Below wr.heap.size wr wr.drew := (Below.refl _ wr).drew
        clear hfd hNx hfs hyy hx
        obtain ⟨hg1, hg2, -⟩ := G7.out
        go_upto_region 4 with fail
        go_cut [4] from 16 to 28 (fun p4 wx => ∃ (B4 : Nat) (o4 : Option Addr) (c4 : Nat), p4 = .pointer (some ⟨B4, 0, none⟩) ∧ Hid (NB wx B4 (.int .i64 ((x + a.fdiv x).fdiv two).sign) (.slice o4 (Bg.ds ((x + a.fdiv x).fdiv two).natAbs).length c4)) ∧ Hid (NB wx w.heap.size (.int .i64 a.sign) (.slice oa (Bg.ds a.natAbs).length ca)) ∧ Hid (NB wx (w.heap.size + 1) (.int .i64 0) (.slice none 0 0)) ∧ Hid (NB wx B3 (.int .i64 x.sign) (.slice ox (Bg.ds x.natAbs).length cx)) ∧ Hid (NumAt wx oa a) ∧ Hid (NumAt wx ox x) ∧ Hid (NumAt wx o4 ((x + a.fdiv x).fdiv two)) ∧ Hid (Below w.heap.size w wx) ∧ Hid (w.heap.size < B4 ∧ w.heap.size + 1 < B4 ∧ B3 < B4) ∧ Hid (∀ b, o4 = some ⟨b, 0, none⟩ → w.heap.size + 1 < b) ∧ Hid (∀ b, o4 = some ⟨b, 0, none⟩ → B3 < b))
        case first =>
          refine wp_region_held_drew (S := fun W => W.cell? ⟨w.heap.size, 0, none⟩ = some (.int .i64 a.sign) ∧ W.cell? ⟨w.heap.size, 1, none⟩ = some (.slice oa (Bg.ds a.natAbs).length ca) ∧ W.cell? ⟨w.heap.size + 1, 0, none⟩ = some (.int .i64 0) ∧ W.cell? ⟨w.heap.size + 1, 1, none⟩ = some (.slice none 0 0) ∧ W.cell? ⟨B3, 0, none⟩ = some (.int .i64 x.sign) ∧ W.cell? ⟨B3, 1, none⟩ = some (.slice ox (Bg.ds x.natAbs).length cx) ∧ Below w.heap.size w W ∧ w.heap.size < W.heap.size ∧ w.heap.size + 1 < W.heap.size ∧ B3 < W.heap.size) (by kernel_rfl) HS0.out (fun _ => ?_)
          have hS_0 := HS0.out
          have hA_0 := X2.out.drew
          have hR_0 := X3.out.drew
          have hX_0 := X1.out.drew
          have hV_0 := X6.out.drew
          have nA_0 := X4.out.mono HMv
          have nX_0 := X5.out.mono HMv
          refine wpAnyH_take (i := 0) (v := ?hlv9) rfl (by kernel_rfl) (by kernel_rfl) (by kernel_rfl) (fun _ _ _ h => h) (Or.inl ⟨by rfl, ?hly9⟩) (by assumption) ?hlr9
          case hly9 => (intro w hSw; (try dsimp only at hSw); go_simp; (try with_reducible rfl))
          (try simp only [Act.put, List.setIfInBounds_toArray, List.set_cons_zero, List.set_cons_succ])
          refine wpAnyH_take (i := 1) (v := ?hlv10) rfl (by kernel_rfl) (by kernel_rfl) (by kernel_rfl) (fun _ _ _ h => h) (Or.inl ⟨by rfl, ?hly10⟩) (by assumption) ?hlr10
          case hly10 => (intro w hSw; (try dsimp only at hSw); go_simp; (try with_reducible rfl))
          (try simp only [Act.put, List.setIfInBounds_toArray, List.set_cons_zero, List.set_cons_succ])
          refine wpAnyH_take (i := 2) (v := ?hlv11) rfl (by kernel_rfl) (by kernel_rfl) (by kernel_rfl) (fun _ _ _ h => h) (Or.inl ⟨by rfl, ?hly11⟩) (by assumption) ?hlr11
          case hly11 => (intro w hSw; (try dsimp only at hSw); go_simp; (try with_reducible rfl))
          (try simp only [Act.put, List.setIfInBounds_toArray, List.set_cons_zero, List.set_cons_succ])
          clear HS0 X1 X2 X3 X4 X5 X6
          generalize wr.drew = V0 at *
          refine wpAnyH_ready (rs := [3, 7]) (by kernel_rfl) (by simp) ?_
          refine AllReadyH.one rfl ?_ ?_
          · intro K hK
            go_simp
            have hq := HQt.out x ox cx hx0 V0 hV_0 nA_0 nX_0
            unfold numV at hq
            refine hq.mono ?_
            clear hq
            rintro e V1 ⟨o1, c1, rfl, n1_1, hbn, hw_n1⟩
            unfold numV
            have fr_n1 : ∀ b, o1 = some ⟨b, 0, none⟩ → w.heap.size + 1 < b := fun b e => by have := hw_n1 b e; have := hS_0.2.2.2.2.2.2.2; omega
            clear hw_n1
            have hA_1 := hA_0.below hbn hA_0.lt
            have hR_1 := hR_0.below hbn hR_0.lt
            have hX_1 := hX_0.below hbn hX_0.lt
            have nA_1 := nA_0.mono hbn
            have nX_1 := nX_0.mono hbn
            have hV_1 := hV_0.trans (hbn.mono hV_0.size)
            have hS_1 := S3.kept hS_0 hV_0.size hbn
            refine hK.out _ _ hS_1 (fun _ => ?_)
            clear hK K hbn hV_0 hS_0 hA_0 hR_0 hX_0 nA_0 nX_0
            refine wpAnyH_ready (rs := [4, 7]) (by kernel_rfl) (by simp) ?_
            refine AllReadyH.one rfl ?_ ?_
            · intro K hK
              go_simp
              have hp := plus_c x (a.fdiv x) ox o1 cx c1 V1 (HWd.out.below hV_1) nX_1 n1_1
              unfold numV at hp
              refine hp.mono ?_
              clear hp
              rintro e V2 hz
              obtain ⟨o2, c2, rfl, n2_2, hbn, hw_n2⟩ := hz.1 HFs.out
              clear hz
              unfold numV
              have fr_n2 : ∀ b, o2 = some ⟨b, 0, none⟩ → w.heap.size + 1 < b := fun b e => by have := hw_n2 b e; have := hS_1.2.2.2.2.2.2.2; omega
              clear hw_n2
              have hA_2 := hA_1.below hbn hA_1.lt
              have hR_2 := hR_1.below hbn hR_1.lt
              have hX_2 := hX_1.below hbn hX_1.lt
              have nA_2 := nA_1.mono hbn
              have nX_2 := nX_1.mono hbn
              have n1_2 := n1_1.mono hbn
              have hV_2 := hV_1.trans (hbn.mono hV_1.size)
              have hS_2 := S3.kept hS_1 hV_1.size hbn
              refine hK.out _ _ hS_2 (fun _ => ?_)
              clear hK K hbn hV_1 hS_1 hA_1 hR_1 hX_1 nA_1 nX_1 n1_1
              refine wpAnyH_ready (rs := [5, 7]) (by kernel_rfl) (by simp) ?_
              refine AllReadyH.one rfl ?_ ?_
              · intro K hK
                go_simp
                refine (HSm2.out V2).mono ?_
                rintro e V3 ⟨o3, c3, rfl, n3_3, hbn, hw_n3⟩
                unfold numV
                have fr_n3 : ∀ b, o3 = some ⟨b, 0, none⟩ → w.heap.size + 1 < b := fun b e => by have := hw_n3 b e; have := hS_2.2.2.2.2.2.2.2; omega
                clear hw_n3
                have hA_3 := hA_2.below hbn hA_2.lt
                have hR_3 := hR_2.below hbn hR_2.lt
                have hX_3 := hX_2.below hbn hX_2.lt
                have nA_3 := nA_2.mono hbn
                have nX_3 := nX_2.mono hbn
                have n1_3 := n1_2.mono hbn
                have n2_3 := n2_2.mono hbn
                have hV_3 := hV_2.trans (hbn.mono hV_2.size)
                have hS_3 := S3.kept hS_2 hV_2.size hbn
                refine hK.out _ _ hS_3 (fun _ => ?_)
                clear hK K hbn hV_2 hS_2 hA_2 hR_2 hX_2 nA_2 nX_2 n1_2 n2_2
                refine wpAnyH_ready (rs := [6, 7]) (by kernel_rfl) (by simp) ?_
                refine AllReadyH.one rfl ?_ ?_
                · intro K hK
                  go_simp
                  have hq := quotient_c (x + a.fdiv x) two htwo o2 o3 c2 c3 V3 (HWd.out.below hV_3) n2_3 n3_3
                  unfold numV at hq
                  refine hq.mono ?_
                  clear hq
                  rintro e V4 ⟨o4, c4, rfl, n4_4, hbn, hw_n4⟩
                  have fr4 : ∀ b, o4 = some ⟨b, 0, none⟩ → B3 < b := fun b e => by have := hw_n4 b e; have := hS_3.2.2.2.2.2.2.2; omega
                  unfold numV
                  have fr_n4 : ∀ b, o4 = some ⟨b, 0, none⟩ → w.heap.size + 1 < b := fun b e => by have := hw_n4 b e; have := hS_3.2.2.2.2.2.2.2; omega
                  clear hw_n4
                  have hA_4 := hA_3.below hbn hA_3.lt
                  have hR_4 := hR_3.below hbn hR_3.lt
                  have hX_4 := hX_3.below hbn hX_3.lt
                  have nA_4 := nA_3.mono hbn
                  have nX_4 := nX_3.mono hbn
                  have n1_4 := n1_3.mono hbn
                  have n2_4 := n2_3.mono hbn
                  have n3_4 := n3_3.mono hbn
                  have hV_4 := hV_3.trans (hbn.mono hV_3.size)
                  have hS_4 := S3.kept hS_3 hV_3.size hbn
                  refine hK.out _ _ hS_4 (fun _ => ?_)
                  clear hK K hbn hV_3 hS_3 hA_3 hR_3 hX_3 nA_3 nX_3 n1_3 n2_3 n3_3
                  refine wpAnyH_ready (rs := [7]) (by kernel_rfl) (by simp) ?_
                  refine AllReadyH.one rfl ?_ AllReadyH.nil
                  intro K hK
                  go_simp
                  have hbn : Below V4.heap.size V4 (V4.alloc (.cells #[.int .i64 0, .slice none 0 0] 61)) := (Below.refl _ V4).alloc (Nat.le_refl _) _
                  have hNew_5 := NB.new V4 (.int .i64 0) (.slice none 0 0)
                  obtain ⟨B4, hB4⟩ : ∃ B, V4.heap.size = B := ⟨_, rfl⟩
                  have hgB4 := hS_4.2.2.2.2.2.2.2
                  rw [hB4] at hgB4
                  have ap_nA : a ≠ 0 → ∀ b, oa = some ⟨b, 0, none⟩ → b ≠ B4 := fun h0 b e => by have := nA_4.old h0 b e; omega
                  have ap_nX : x ≠ 0 → ∀ b, ox = some ⟨b, 0, none⟩ → b ≠ B4 := fun h0 b e => by have := nX_4.old h0 b e; omega
                  have ap_n1 : (a.fdiv x) ≠ 0 → ∀ b, o1 = some ⟨b, 0, none⟩ → b ≠ B4 := fun h0 b e => by have := n1_4.old h0 b e; omega
                  have ap_n2 : (x + a.fdiv x) ≠ 0 → ∀ b, o2 = some ⟨b, 0, none⟩ → b ≠ B4 := fun h0 b e => by have := n2_4.old h0 b e; omega
                  have ap_n3 : two ≠ 0 → ∀ b, o3 = some ⟨b, 0, none⟩ → b ≠ B4 := fun h0 b e => by have := n3_4.old h0 b e; omega
                  have ap_n4 : ((x + a.fdiv x).fdiv two) ≠ 0 → ∀ b, o4 = some ⟨b, 0, none⟩ → b ≠ B4 := fun h0 b e => by have := n4_4.old h0 b e; omega
                  have hA_5 := hA_4.below hbn hA_4.lt
                  have hR_5 := hR_4.below hbn hR_4.lt
                  have hX_5 := hX_4.below hbn hX_4.lt
                  have nA_5 := nA_4.mono hbn
                  have nX_5 := nX_4.mono hbn
                  have n1_5 := n1_4.mono hbn
                  have n2_5 := n2_4.mono hbn
                  have n3_5 := n3_4.mono hbn
                  have n4_5 := n4_4.mono hbn
                  have hV_5 := hV_4.trans (hbn.mono hV_4.size)
                  have hS_5 := S3.kept hS_4 hV_4.size hbn
                  refine hK.out _ _ hS_5 (fun _ => ?_)
                  clear hK K hbn hV_4 hS_4 hA_4 hR_4 hX_4 nA_4 nX_4 n1_4 n2_4 n3_4 n4_4
                  generalize V4.alloc (.cells #[.int .i64 0, .slice none 0 0] 61) = V5 at *
                  rw [hB4] at hNew_5 ⊢
                  clear hB4
                  have c0 := hNew_5.c0
                  have c1 := hNew_5.c1
                  have f0 := hNew_5.f0
                  have f1 := hNew_5.f1
                  refine wpAnyH_ready (rs := [8]) (by kernel_rfl) (by simp) ?_
                  refine AllReadyH.one rfl ?_ AllReadyH.nil
                  intro K hK
                  go_simp
                  have hS_6 := S3.put hS_5 B4 (by omega) (by omega) (by omega) (by omega) (.int .i64 ((x + a.fdiv x).fdiv two).sign) (.slice o4 (Bg.ds ((x + a.fdiv x).fdiv two).natAbs).length c4)
                  refine hK.out _ _ hS_6 (fun _ => ?_)
                  clear hK K
                  refine wpAnyH_done (by kernel_rfl) ?_ _
                  have G1 := Lib.hid (hNew_5.put (.int .i64 ((x + a.fdiv x).fdiv two).sign) (.slice o4 (Bg.ds ((x + a.fdiv x).fdiv two).natAbs).length c4))
                  have G2 := Lib.hid (hA_5.others B4 (by omega) (.int .i64 ((x + a.fdiv x).fdiv two).sign) (.slice o4 (Bg.ds ((x + a.fdiv x).fdiv two).natAbs).length c4))
                  have G3 := Lib.hid (hR_5.others B4 (by omega) (.int .i64 ((x + a.fdiv x).fdiv two).sign) (.slice o4 (Bg.ds ((x + a.fdiv x).fdiv two).natAbs).length c4))
                  have G3b := Lib.hid (hX_5.others B4 (by omega) (.int .i64 ((x + a.fdiv x).fdiv two).sign) (.slice o4 (Bg.ds ((x + a.fdiv x).fdiv two).natAbs).length c4))
                  have G4 := Lib.hid (nA_5.put' B4 ap_nA (.int .i64 ((x + a.fdiv x).fdiv two).sign) (.slice o4 (Bg.ds ((x + a.fdiv x).fdiv two).natAbs).length c4))
                  have G4b := Lib.hid (nX_5.put' B4 ap_nX (.int .i64 ((x + a.fdiv x).fdiv two).sign) (.slice o4 (Bg.ds ((x + a.fdiv x).fdiv two).natAbs).length c4))
                  have G5 := Lib.hid (n4_5.put' B4 ap_n4 (.int .i64 ((x + a.fdiv x).fdiv two).sign) (.slice o4 (Bg.ds ((x + a.fdiv x).fdiv two).natAbs).length c4))
                  have G6 := Lib.hid (below_put hV_5 (by omega : w.heap.size ≤ B4) (.int .i64 ((x + a.fdiv x).fdiv two).sign) (.slice o4 (Bg.ds ((x + a.fdiv x).fdiv two).natAbs).length c4))
                  have G7 := Lib.hid hgB4
                  have G8 := Lib.hid fr_n4
                  have G9 := Lib.hid (fr4 : ∀ b, o4 = some ⟨b, 0, none⟩ → B3 < b)
                  clear c0 c1 f0 f1
                  go_wp2_with fail
                  go_meet
                  exact ⟨B4, o4, c4, rfl, G1, G2, G3, G3b, G4, G4b, G5, G6, G7, G8, G9⟩
                refine AllReadyH.one rfl ?_ ?_
                · intro K hK
                  go_simp
                  have hbn : Below V3.heap.size V3 (V3.alloc (.cells #[.int .i64 0, .slice none 0 0] 61)) := (Below.refl _ V3).alloc (Nat.le_refl _) _
                  have hNew_4 := NB.new V3 (.int .i64 0) (.slice none 0 0)
                  obtain ⟨B4, hB4⟩ : ∃ B, V3.heap.size = B := ⟨_, rfl⟩
                  have hgB4 := hS_3.2.2.2.2.2.2.2
                  rw [hB4] at hgB4
                  have ap_nA : a ≠ 0 → ∀ b, oa = some ⟨b, 0, none⟩ → b ≠ B4 := fun h0 b e => by have := nA_3.old h0 b e; omega
                  have ap_nX : x ≠ 0 → ∀ b, ox = some ⟨b, 0, none⟩ → b ≠ B4 := fun h0 b e => by have := nX_3.old h0 b e; omega
                  have ap_n1 : (a.fdiv x) ≠ 0 → ∀ b, o1 = some ⟨b, 0, none⟩ → b ≠ B4 := fun h0 b e => by have := n1_3.old h0 b e; omega
                  have ap_n2 : (x + a.fdiv x) ≠ 0 → ∀ b, o2 = some ⟨b, 0, none⟩ → b ≠ B4 := fun h0 b e => by have := n2_3.old h0 b e; omega
                  have ap_n3 : two ≠ 0 → ∀ b, o3 = some ⟨b, 0, none⟩ → b ≠ B4 := fun h0 b e => by have := n3_3.old h0 b e; omega
                  have hA_4 := hA_3.below hbn hA_3.lt
                  have hR_4 := hR_3.below hbn hR_3.lt
                  have hX_4 := hX_3.below hbn hX_3.lt
                  have nA_4 := nA_3.mono hbn
                  have nX_4 := nX_3.mono hbn
                  have n1_4 := n1_3.mono hbn
                  have n2_4 := n2_3.mono hbn
                  have n3_4 := n3_3.mono hbn
                  have hV_4 := hV_3.trans (hbn.mono hV_3.size)
                  have hS_4 := S3.kept hS_3 hV_3.size hbn
                  refine hK.out _ _ hS_4 (fun _ => ?_)
                  clear hK K hbn hV_3 hS_3 hA_3 hR_3 hX_3 nA_3 nX_3 n1_3 n2_3 n3_3
                  generalize V3.alloc (.cells #[.int .i64 0, .slice none 0 0] 61) = V4 at *
                  rw [hB4] at hNew_4 ⊢
                  clear hB4
                  refine wpAnyH_ready (rs := [6]) (by kernel_rfl) (by simp) ?_
                  refine AllReadyH.one rfl ?_ AllReadyH.nil
                  intro K hK
                  go_simp
                  have hq := quotient_c (x + a.fdiv x) two htwo o2 o3 c2 c3 V4 (HWd.out.below hV_4) n2_4 n3_4
                  unfold numV at hq
                  refine hq.mono ?_
                  clear hq
                  rintro e V5 ⟨o4, c4, rfl, n4_5, hbn, hw_n4⟩
                  have fr4 : ∀ b, o4 = some ⟨b, 0, none⟩ → B3 < b := fun b e => by have := hw_n4 b e; have := hS_4.2.2.2.2.2.2.2; omega
                  unfold numV
                  have fr_n4 : ∀ b, o4 = some ⟨b, 0, none⟩ → w.heap.size + 1 < b := fun b e => by have := hw_n4 b e; have := hS_4.2.2.2.2.2.2.2; omega
                  have ap_n4 : ((x + a.fdiv x).fdiv two) ≠ 0 → ∀ b, o4 = some ⟨b, 0, none⟩ → b ≠ B4 := fun _ b e => by have := hw_n4 b e; have := hNew_4.lt; omega
                  clear hw_n4
                  have hA_5 := hA_4.below hbn hA_4.lt
                  have hR_5 := hR_4.below hbn hR_4.lt
                  have hX_5 := hX_4.below hbn hX_4.lt
                  have nA_5 := nA_4.mono hbn
                  have nX_5 := nX_4.mono hbn
                  have n1_5 := n1_4.mono hbn
                  have n2_5 := n2_4.mono hbn
                  have n3_5 := n3_4.mono hbn
                  have hNew_5 := hNew_4.below hbn hNew_4.lt
                  have hV_5 := hV_4.trans (hbn.mono hV_4.size)
                  have hS_5 := S3.kept hS_4 hV_4.size hbn
                  refine hK.out _ _ hS_5 (fun _ => ?_)
                  clear hK K hbn hV_4 hS_4 hA_4 hR_4 hX_4 nA_4 nX_4 n1_4 n2_4 n3_4 hNew_4
                  have c0 := hNew_5.c0
                  have c1 := hNew_5.c1
                  have f0 := hNew_5.f0
                  have f1 := hNew_5.f1
                  refine wpAnyH_ready (rs := [8]) (by kernel_rfl) (by simp) ?_
                  refine AllReadyH.one rfl ?_ AllReadyH.nil
                  intro K hK
                  go_simp
                  have hS_6 := S3.put hS_5 B4 (by omega) (by omega) (by omega) (by omega) (.int .i64 ((x + a.fdiv x).fdiv two).sign) (.slice o4 (Bg.ds ((x + a.fdiv x).fdiv two).natAbs).length c4)
                  refine hK.out _ _ hS_6 (fun _ => ?_)
                  clear hK K
                  refine wpAnyH_done (by kernel_rfl) ?_ _
                  have G1 := Lib.hid (hNew_5.put (.int .i64 ((x + a.fdiv x).fdiv two).sign) (.slice o4 (Bg.ds ((x + a.fdiv x).fdiv two).natAbs).length c4))
                  have G2 := Lib.hid (hA_5.others B4 (by omega) (.int .i64 ((x + a.fdiv x).fdiv two).sign) (.slice o4 (Bg.ds ((x + a.fdiv x).fdiv two).natAbs).length c4))
                  have G3 := Lib.hid (hR_5.others B4 (by omega) (.int .i64 ((x + a.fdiv x).fdiv two).sign) (.slice o4 (Bg.ds ((x + a.fdiv x).fdiv two).natAbs).length c4))
                  have G3b := Lib.hid (hX_5.others B4 (by omega) (.int .i64 ((x + a.fdiv x).fdiv two).sign) (.slice o4 (Bg.ds ((x + a.fdiv x).fdiv two).natAbs).length c4))
                  have G4 := Lib.hid (nA_5.put' B4 ap_nA (.int .i64 ((x + a.fdiv x).fdiv two).sign) (.slice o4 (Bg.ds ((x + a.fdiv x).fdiv two).natAbs).length c4))
                  have G4b := Lib.hid (nX_5.put' B4 ap_nX (.int .i64 ((x + a.fdiv x).fdiv two).sign) (.slice o4 (Bg.ds ((x + a.fdiv x).fdiv two).natAbs).length c4))
                  have G5 := Lib.hid (n4_5.put' B4 ap_n4 (.int .i64 ((x + a.fdiv x).fdiv two).sign) (.slice o4 (Bg.ds ((x + a.fdiv x).fdiv two).natAbs).length c4))
                  have G6 := Lib.hid (below_put hV_5 (by omega : w.heap.size ≤ B4) (.int .i64 ((x + a.fdiv x).fdiv two).sign) (.slice o4 (Bg.ds ((x + a.fdiv x).fdiv two).natAbs).length c4))
                  have G7 := Lib.hid hgB4
                  have G8 := Lib.hid fr_n4
                  have G9 := Lib.hid (fr4 : ∀ b, o4 = some ⟨b, 0, none⟩ → B3 < b)
                  clear c0 c1 f0 f1
                  go_wp2_with fail
                  go_meet
                  exact ⟨B4, o4, c4, rfl, G1, G2, G3, G3b, G4, G4b, G5, G6, G7, G8, G9⟩
                exact AllReadyH.nil
              refine AllReadyH.one rfl ?_ ?_
              · intro K hK
                go_simp
                have hbn : Below V2.heap.size V2 (V2.alloc (.cells #[.int .i64 0, .slice none 0 0] 61)) := (Below.refl _ V2).alloc (Nat.le_refl _) _
                have hNew_3 := NB.new V2 (.int .i64 0) (.slice none 0 0)
                obtain ⟨B4, hB4⟩ : ∃ B, V2.heap.size = B := ⟨_, rfl⟩
                have hgB4 := hS_2.2.2.2.2.2.2.2
                rw [hB4] at hgB4
                have ap_nA : a ≠ 0 → ∀ b, oa = some ⟨b, 0, none⟩ → b ≠ B4 := fun h0 b e => by have := nA_2.old h0 b e; omega
                have ap_nX : x ≠ 0 → ∀ b, ox = some ⟨b, 0, none⟩ → b ≠ B4 := fun h0 b e => by have := nX_2.old h0 b e; omega
                have ap_n1 : (a.fdiv x) ≠ 0 → ∀ b, o1 = some ⟨b, 0, none⟩ → b ≠ B4 := fun h0 b e => by have := n1_2.old h0 b e; omega
                have ap_n2 : (x + a.fdiv x) ≠ 0 → ∀ b, o2 = some ⟨b, 0, none⟩ → b ≠ B4 := fun h0 b e => by have := n2_2.old h0 b e; omega
                have hA_3 := hA_2.below hbn hA_2.lt
                have hR_3 := hR_2.below hbn hR_2.lt
                have hX_3 := hX_2.below hbn hX_2.lt
                have nA_3 := nA_2.mono hbn
                have nX_3 := nX_2.mono hbn
                have n1_3 := n1_2.mono hbn
                have n2_3 := n2_2.mono hbn
                have hV_3 := hV_2.trans (hbn.mono hV_2.size)
                have hS_3 := S3.kept hS_2 hV_2.size hbn
                refine hK.out _ _ hS_3 (fun _ => ?_)
                clear hK K hbn hV_2 hS_2 hA_2 hR_2 hX_2 nA_2 nX_2 n1_2 n2_2
                generalize V2.alloc (.cells #[.int .i64 0, .slice none 0 0] 61) = V3 at *
                rw [hB4] at hNew_3 ⊢
                clear hB4
                refine wpAnyH_ready (rs := [5]) (by kernel_rfl) (by simp) ?_
                refine AllReadyH.one rfl ?_ AllReadyH.nil
                intro K hK
                go_simp
                refine (HSm2.out V3).mono ?_
                rintro e V4 ⟨o3, c3, rfl, n3_4, hbn, hw_n3⟩
                unfold numV
                have fr_n3 : ∀ b, o3 = some ⟨b, 0, none⟩ → w.heap.size + 1 < b := fun b e => by have := hw_n3 b e; have := hS_3.2.2.2.2.2.2.2; omega
                have ap_n3 : two ≠ 0 → ∀ b, o3 = some ⟨b, 0, none⟩ → b ≠ B4 := fun _ b e => by have := hw_n3 b e; have := hNew_3.lt; omega
                clear hw_n3
                have hA_4 := hA_3.below hbn hA_3.lt
                have hR_4 := hR_3.below hbn hR_3.lt
                have hX_4 := hX_3.below hbn hX_3.lt
                have nA_4 := nA_3.mono hbn
                have nX_4 := nX_3.mono hbn
                have n1_4 := n1_3.mono hbn
                have n2_4 := n2_3.mono hbn
                have hNew_4 := hNew_3.below hbn hNew_3.lt
                have hV_4 := hV_3.trans (hbn.mono hV_3.size)
                have hS_4 := S3.kept hS_3 hV_3.size hbn
                refine hK.out _ _ hS_4 (fun _ => ?_)
                clear hK K hbn hV_3 hS_3 hA_3 hR_3 hX_3 nA_3 nX_3 n1_3 n2_3 hNew_3
                refine wpAnyH_ready (rs := [6]) (by kernel_rfl) (by simp) ?_
                refine AllReadyH.one rfl ?_ AllReadyH.nil
                intro K hK
                go_simp
                have hq := quotient_c (x + a.fdiv x) two htwo o2 o3 c2 c3 V4 (HWd.out.below hV_4) n2_4 n3_4
                unfold numV at hq
                refine hq.mono ?_
                clear hq
                rintro e V5 ⟨o4, c4, rfl, n4_5, hbn, hw_n4⟩
                have fr4 : ∀ b, o4 = some ⟨b, 0, none⟩ → B3 < b := fun b e => by have := hw_n4 b e; have := hS_4.2.2.2.2.2.2.2; omega
                unfold numV
                have fr_n4 : ∀ b, o4 = some ⟨b, 0, none⟩ → w.heap.size + 1 < b := fun b e => by have := hw_n4 b e; have := hS_4.2.2.2.2.2.2.2; omega
                have ap_n4 : ((x + a.fdiv x).fdiv two) ≠ 0 → ∀ b, o4 = some ⟨b, 0, none⟩ → b ≠ B4 := fun _ b e => by have := hw_n4 b e; have := hNew_4.lt; omega
                clear hw_n4
                have hA_5 := hA_4.below hbn hA_4.lt
                have hR_5 := hR_4.below hbn hR_4.lt
                have hX_5 := hX_4.below hbn hX_4.lt
                have nA_5 := nA_4.mono hbn
                have nX_5 := nX_4.mono hbn
                have n1_5 := n1_4.mono hbn
                have n2_5 := n2_4.mono hbn
                have hNew_5 := hNew_4.below hbn hNew_4.lt
                have n3_5 := n3_4.mono hbn
                have hV_5 := hV_4.trans (hbn.mono hV_4.size)
                have hS_5 := S3.kept hS_4 hV_4.size hbn
                refine hK.out _ _ hS_5 (fun _ => ?_)
                clear hK K hbn hV_4 hS_4 hA_4 hR_4 hX_4 nA_4 nX_4 n1_4 n2_4 hNew_4 n3_4
                have c0 := hNew_5.c0
                have c1 := hNew_5.c1
                have f0 := hNew_5.f0
                have f1 := hNew_5.f1
                refine wpAnyH_ready (rs := [8]) (by kernel_rfl) (by simp) ?_
                refine AllReadyH.one rfl ?_ AllReadyH.nil
                intro K hK
                go_simp
                have hS_6 := S3.put hS_5 B4 (by omega) (by omega) (by omega) (by omega) (.int .i64 ((x + a.fdiv x).fdiv two).sign) (.slice o4 (Bg.ds ((x + a.fdiv x).fdiv two).natAbs).length c4)
                refine hK.out _ _ hS_6 (fun _ => ?_)
                clear hK K
                refine wpAnyH_done (by kernel_rfl) ?_ _
                have G1 := Lib.hid (hNew_5.put (.int .i64 ((x + a.fdiv x).fdiv two).sign) (.slice o4 (Bg.ds ((x + a.fdiv x).fdiv two).natAbs).length c4))
                have G2 := Lib.hid (hA_5.others B4 (by omega) (.int .i64 ((x + a.fdiv x).fdiv two).sign) (.slice o4 (Bg.ds ((x + a.fdiv x).fdiv two).natAbs).length c4))
                have G3 := Lib.hid (hR_5.others B4 (by omega) (.int .i64 ((x + a.fdiv x).fdiv two).sign) (.slice o4 (Bg.ds ((x + a.fdiv x).fdiv two).natAbs).length c4))
                have G3b := Lib.hid (hX_5.others B4 (by omega) (.int .i64 ((x + a.fdiv x).fdiv two).sign) (.slice o4 (Bg.ds ((x + a.fdiv x).fdiv two).natAbs).length c4))
                have G4 := Lib.hid (nA_5.put' B4 ap_nA (.int .i64 ((x + a.fdiv x).fdiv two).sign) (.slice o4 (Bg.ds ((x + a.fdiv x).fdiv two).natAbs).length c4))
                have G4b := Lib.hid (nX_5.put' B4 ap_nX (.int .i64 ((x + a.fdiv x).fdiv two).sign) (.slice o4 (Bg.ds ((x + a.fdiv x).fdiv two).natAbs).length c4))
                have G5 := Lib.hid (n4_5.put' B4 ap_n4 (.int .i64 ((x + a.fdiv x).fdiv two).sign) (.slice o4 (Bg.ds ((x + a.fdiv x).fdiv two).natAbs).length c4))
                have G6 := Lib.hid (below_put hV_5 (by omega : w.heap.size ≤ B4) (.int .i64 ((x + a.fdiv x).fdiv two).sign) (.slice o4 (Bg.ds ((x + a.fdiv x).fdiv two).natAbs).length c4))
                have G7 := Lib.hid hgB4
                have G8 := Lib.hid fr_n4
                have G9 := Lib.hid (fr4 : ∀ b, o4 = some ⟨b, 0, none⟩ → B3 < b)
                clear c0 c1 f0 f1
                go_wp2_with fail
                go_meet
                exact ⟨B4, o4, c4, rfl, G1, G2, G3, G3b, G4, G4b, G5, G6, G7, G8, G9⟩
              exact AllReadyH.nil
            refine AllReadyH.one rfl ?_ ?_
            · intro K hK
              go_simp
              have hbn : Below V1.heap.size V1 (V1.alloc (.cells #[.int .i64 0, .slice none 0 0] 61)) := (Below.refl _ V1).alloc (Nat.le_refl _) _
              have hNew_2 := NB.new V1 (.int .i64 0) (.slice none 0 0)
              obtain ⟨B4, hB4⟩ : ∃ B, V1.heap.size = B := ⟨_, rfl⟩
              have hgB4 := hS_1.2.2.2.2.2.2.2
              rw [hB4] at hgB4
              have ap_nA : a ≠ 0 → ∀ b, oa = some ⟨b, 0, none⟩ → b ≠ B4 := fun h0 b e => by have := nA_1.old h0 b e; omega
              have ap_nX : x ≠ 0 → ∀ b, ox = some ⟨b, 0, none⟩ → b ≠ B4 := fun h0 b e => by have := nX_1.old h0 b e; omega
              have ap_n1 : (a.fdiv x) ≠ 0 → ∀ b, o1 = some ⟨b, 0, none⟩ → b ≠ B4 := fun h0 b e => by have := n1_1.old h0 b e; omega
              have hA_2 := hA_1.below hbn hA_1.lt
              have hR_2 := hR_1.below hbn hR_1.lt
              have hX_2 := hX_1.below hbn hX_1.lt
              have nA_2 := nA_1.mono hbn
              have nX_2 := nX_1.mono hbn
              have n1_2 := n1_1.mono hbn
              have hV_2 := hV_1.trans (hbn.mono hV_1.size)
              have hS_2 := S3.kept hS_1 hV_1.size hbn
              refine hK.out _ _ hS_2 (fun _ => ?_)
              clear hK K hbn hV_1 hS_1 hA_1 hR_1 hX_1 nA_1 nX_1 n1_1
              generalize V1.alloc (.cells #[.int .i64 0, .slice none 0 0] 61) = V2 at *
              rw [hB4] at hNew_2 ⊢
              clear hB4
              refine wpAnyH_ready (rs := [4]) (by kernel_rfl) (by simp) ?_
              refine AllReadyH.one rfl ?_ AllReadyH.nil
              intro K hK
              go_simp
              have hp := plus_c x (a.fdiv x) ox o1 cx c1 V2 (HWd.out.below hV_2) nX_2 n1_2
              unfold numV at hp
              refine hp.mono ?_
              clear hp
              rintro e V3 hz
              obtain ⟨o2, c2, rfl, n2_3, hbn, hw_n2⟩ := hz.1 HFs.out
              clear hz
              unfold numV
              have fr_n2 : ∀ b, o2 = some ⟨b, 0, none⟩ → w.heap.size + 1 < b := fun b e => by have := hw_n2 b e; have := hS_2.2.2.2.2.2.2.2; omega
              have ap_n2 : (x + a.fdiv x) ≠ 0 → ∀ b, o2 = some ⟨b, 0, none⟩ → b ≠ B4 := fun _ b e => by have := hw_n2 b e; have := hNew_2.lt; omega
              clear hw_n2
              have hA_3 := hA_2.below hbn hA_2.lt
              have hR_3 := hR_2.below hbn hR_2.lt
              have hX_3 := hX_2.below hbn hX_2.lt
              have nA_3 := nA_2.mono hbn
              have nX_3 := nX_2.mono hbn
              have n1_3 := n1_2.mono hbn
              have hNew_3 := hNew_2.below hbn hNew_2.lt
              have hV_3 := hV_2.trans (hbn.mono hV_2.size)
              have hS_3 := S3.kept hS_2 hV_2.size hbn
              refine hK.out _ _ hS_3 (fun _ => ?_)
              clear hK K hbn hV_2 hS_2 hA_2 hR_2 hX_2 nA_2 nX_2 n1_2 hNew_2
              refine wpAnyH_ready (rs := [5]) (by kernel_rfl) (by simp) ?_
              refine AllReadyH.one rfl ?_ AllReadyH.nil
              intro K hK
              go_simp
              refine (HSm2.out V3).mono ?_
              rintro e V4 ⟨o3, c3, rfl, n3_4, hbn, hw_n3⟩
              unfold numV
              have fr_n3 : ∀ b, o3 = some ⟨b, 0, none⟩ → w.heap.size + 1 < b := fun b e => by have := hw_n3 b e; have := hS_3.2.2.2.2.2.2.2; omega
              have ap_n3 : two ≠ 0 → ∀ b, o3 = some ⟨b, 0, none⟩ → b ≠ B4 := fun _ b e => by have := hw_n3 b e; have := hNew_3.lt; omega
              clear hw_n3
              have hA_4 := hA_3.below hbn hA_3.lt
              have hR_4 := hR_3.below hbn hR_3.lt
              have hX_4 := hX_3.below hbn hX_3.lt
              have nA_4 := nA_3.mono hbn
              have nX_4 := nX_3.mono hbn
              have n1_4 := n1_3.mono hbn
              have hNew_4 := hNew_3.below hbn hNew_3.lt
              have n2_4 := n2_3.mono hbn
              have hV_4 := hV_3.trans (hbn.mono hV_3.size)
              have hS_4 := S3.kept hS_3 hV_3.size hbn
              refine hK.out _ _ hS_4 (fun _ => ?_)
              clear hK K hbn hV_3 hS_3 hA_3 hR_3 hX_3 nA_3 nX_3 n1_3 hNew_3 n2_3
              refine wpAnyH_ready (rs := [6]) (by kernel_rfl) (by simp) ?_
              refine AllReadyH.one rfl ?_ AllReadyH.nil
              intro K hK
              go_simp
              have hq := quotient_c (x + a.fdiv x) two htwo o2 o3 c2 c3 V4 (HWd.out.below hV_4) n2_4 n3_4
              unfold numV at hq
              refine hq.mono ?_
              clear hq
              rintro e V5 ⟨o4, c4, rfl, n4_5, hbn, hw_n4⟩
              have fr4 : ∀ b, o4 = some ⟨b, 0, none⟩ → B3 < b := fun b e => by have := hw_n4 b e; have := hS_4.2.2.2.2.2.2.2; omega
              unfold numV
              have fr_n4 : ∀ b, o4 = some ⟨b, 0, none⟩ → w.heap.size + 1 < b := fun b e => by have := hw_n4 b e; have := hS_4.2.2.2.2.2.2.2; omega
              have ap_n4 : ((x + a.fdiv x).fdiv two) ≠ 0 → ∀ b, o4 = some ⟨b, 0, none⟩ → b ≠ B4 := fun _ b e => by have := hw_n4 b e; have := hNew_4.lt; omega
              clear hw_n4
              have hA_5 := hA_4.below hbn hA_4.lt
              have hR_5 := hR_4.below hbn hR_4.lt
              have hX_5 := hX_4.below hbn hX_4.lt
              have nA_5 := nA_4.mono hbn
              have nX_5 := nX_4.mono hbn
              have n1_5 := n1_4.mono hbn
              have hNew_5 := hNew_4.below hbn hNew_4.lt
              have n2_5 := n2_4.mono hbn
              have n3_5 := n3_4.mono hbn
              have hV_5 := hV_4.trans (hbn.mono hV_4.size)
              have hS_5 := S3.kept hS_4 hV_4.size hbn
              refine hK.out _ _ hS_5 (fun _ => ?_)
              clear hK K hbn hV_4 hS_4 hA_4 hR_4 hX_4 nA_4 nX_4 n1_4 hNew_4 n2_4 n3_4
              have c0 := hNew_5.c0
              have c1 := hNew_5.c1
              have f0 := hNew_5.f0
              have f1 := hNew_5.f1
              refine wpAnyH_ready (rs := [8]) (by kernel_rfl) (by simp) ?_
              refine AllReadyH.one rfl ?_ AllReadyH.nil
              intro K hK
              go_simp
              have hS_6 := S3.put hS_5 B4 (by omega) (by omega) (by omega) (by omega) (.int .i64 ((x + a.fdiv x).fdiv two).sign) (.slice o4 (Bg.ds ((x + a.fdiv x).fdiv two).natAbs).length c4)
              refine hK.out _ _ hS_6 (fun _ => ?_)
              clear hK K
              refine wpAnyH_done (by kernel_rfl) ?_ _
              have G1 := Lib.hid (hNew_5.put (.int .i64 ((x + a.fdiv x).fdiv two).sign) (.slice o4 (Bg.ds ((x + a.fdiv x).fdiv two).natAbs).length c4))
              have G2 := Lib.hid (hA_5.others B4 (by omega) (.int .i64 ((x + a.fdiv x).fdiv two).sign) (.slice o4 (Bg.ds ((x + a.fdiv x).fdiv two).natAbs).length c4))
              have G3 := Lib.hid (hR_5.others B4 (by omega) (.int .i64 ((x + a.fdiv x).fdiv two).sign) (.slice o4 (Bg.ds ((x + a.fdiv x).fdiv two).natAbs).length c4))
              have G3b := Lib.hid (hX_5.others B4 (by omega) (.int .i64 ((x + a.fdiv x).fdiv two).sign) (.slice o4 (Bg.ds ((x + a.fdiv x).fdiv two).natAbs).length c4))
              have G4 := Lib.hid (nA_5.put' B4 ap_nA (.int .i64 ((x + a.fdiv x).fdiv two).sign) (.slice o4 (Bg.ds ((x + a.fdiv x).fdiv two).natAbs).length c4))
              have G4b := Lib.hid (nX_5.put' B4 ap_nX (.int .i64 ((x + a.fdiv x).fdiv two).sign) (.slice o4 (Bg.ds ((x + a.fdiv x).fdiv two).natAbs).length c4))
              have G5 := Lib.hid (n4_5.put' B4 ap_n4 (.int .i64 ((x + a.fdiv x).fdiv two).sign) (.slice o4 (Bg.ds ((x + a.fdiv x).fdiv two).natAbs).length c4))
              have G6 := Lib.hid (below_put hV_5 (by omega : w.heap.size ≤ B4) (.int .i64 ((x + a.fdiv x).fdiv two).sign) (.slice o4 (Bg.ds ((x + a.fdiv x).fdiv two).natAbs).length c4))
              have G7 := Lib.hid hgB4
              have G8 := Lib.hid fr_n4
              have G9 := Lib.hid (fr4 : ∀ b, o4 = some ⟨b, 0, none⟩ → B3 < b)
              clear c0 c1 f0 f1
              go_wp2_with fail
              go_meet
              exact ⟨B4, o4, c4, rfl, G1, G2, G3, G3b, G4, G4b, G5, G6, G7, G8, G9⟩
            exact AllReadyH.nil
          refine AllReadyH.one rfl ?_ ?_
          · intro K hK
            go_simp
            have hbn : Below V0.heap.size V0 (V0.alloc (.cells #[.int .i64 0, .slice none 0 0] 61)) := (Below.refl _ V0).alloc (Nat.le_refl _) _
            have hNew_1 := NB.new V0 (.int .i64 0) (.slice none 0 0)
            obtain ⟨B4, hB4⟩ : ∃ B, V0.heap.size = B := ⟨_, rfl⟩
            have hgB4 := hS_0.2.2.2.2.2.2.2
            rw [hB4] at hgB4
            have ap_nA : a ≠ 0 → ∀ b, oa = some ⟨b, 0, none⟩ → b ≠ B4 := fun h0 b e => by have := nA_0.old h0 b e; omega
            have ap_nX : x ≠ 0 → ∀ b, ox = some ⟨b, 0, none⟩ → b ≠ B4 := fun h0 b e => by have := nX_0.old h0 b e; omega
            have hA_1 := hA_0.below hbn hA_0.lt
            have hR_1 := hR_0.below hbn hR_0.lt
            have hX_1 := hX_0.below hbn hX_0.lt
            have nA_1 := nA_0.mono hbn
            have nX_1 := nX_0.mono hbn
            have hV_1 := hV_0.trans (hbn.mono hV_0.size)
            have hS_1 := S3.kept hS_0 hV_0.size hbn
            refine hK.out _ _ hS_1 (fun _ => ?_)
            clear hK K hbn hV_0 hS_0 hA_0 hR_0 hX_0 nA_0 nX_0
            generalize V0.alloc (.cells #[.int .i64 0, .slice none 0 0] 61) = V1 at *
            rw [hB4] at hNew_1 ⊢
            clear hB4
            refine wpAnyH_ready (rs := [3]) (by kernel_rfl) (by simp) ?_
            refine AllReadyH.one rfl ?_ AllReadyH.nil
            intro K hK
            go_simp
            have hq := HQt.out x ox cx hx0 V1 hV_1 nA_1 nX_1
            unfold numV at hq
            refine hq.mono ?_
            clear hq
            rintro e V2 ⟨o1, c1, rfl, n1_2, hbn, hw_n1⟩
            unfold numV
            have fr_n1 : ∀ b, o1 = some ⟨b, 0, none⟩ → w.heap.size + 1 < b := fun b e => by have := hw_n1 b e; have := hS_1.2.2.2.2.2.2.2; omega
            have ap_n1 : (a.fdiv x) ≠ 0 → ∀ b, o1 = some ⟨b, 0, none⟩ → b ≠ B4 := fun _ b e => by have := hw_n1 b e; have := hNew_1.lt; omega
            clear hw_n1
            have hA_2 := hA_1.below hbn hA_1.lt
            have hR_2 := hR_1.below hbn hR_1.lt
            have hX_2 := hX_1.below hbn hX_1.lt
            have nA_2 := nA_1.mono hbn
            have nX_2 := nX_1.mono hbn
            have hNew_2 := hNew_1.below hbn hNew_1.lt
            have hV_2 := hV_1.trans (hbn.mono hV_1.size)
            have hS_2 := S3.kept hS_1 hV_1.size hbn
            refine hK.out _ _ hS_2 (fun _ => ?_)
            clear hK K hbn hV_1 hS_1 hA_1 hR_1 hX_1 nA_1 nX_1 hNew_1
            refine wpAnyH_ready (rs := [4]) (by kernel_rfl) (by simp) ?_
            refine AllReadyH.one rfl ?_ AllReadyH.nil
            intro K hK
            go_simp
            have hp := plus_c x (a.fdiv x) ox o1 cx c1 V2 (HWd.out.below hV_2) nX_2 n1_2
            unfold numV at hp
            refine hp.mono ?_
            clear hp
            rintro e V3 hz
            obtain ⟨o2, c2, rfl, n2_3, hbn, hw_n2⟩ := hz.1 HFs.out
            clear hz
            unfold numV
            have fr_n2 : ∀ b, o2 = some ⟨b, 0, none⟩ → w.heap.size + 1 < b := fun b e => by have := hw_n2 b e; have := hS_2.2.2.2.2.2.2.2; omega
            have ap_n2 : (x + a.fdiv x) ≠ 0 → ∀ b, o2 = some ⟨b, 0, none⟩ → b ≠ B4 := fun _ b e => by have := hw_n2 b e; have := hNew_2.lt; omega
            clear hw_n2
            have hA_3 := hA_2.below hbn hA_2.lt
            have hR_3 := hR_2.below hbn hR_2.lt
            have hX_3 := hX_2.below hbn hX_2.lt
            have nA_3 := nA_2.mono hbn
            have nX_3 := nX_2.mono hbn
            have hNew_3 := hNew_2.below hbn hNew_2.lt
            have n1_3 := n1_2.mono hbn
            have hV_3 := hV_2.trans (hbn.mono hV_2.size)
            have hS_3 := S3.kept hS_2 hV_2.size hbn
            refine hK.out _ _ hS_3 (fun _ => ?_)
            clear hK K hbn hV_2 hS_2 hA_2 hR_2 hX_2 nA_2 nX_2 hNew_2 n1_2
            refine wpAnyH_ready (rs := [5]) (by kernel_rfl) (by simp) ?_
            refine AllReadyH.one rfl ?_ AllReadyH.nil
            intro K hK
            go_simp
            refine (HSm2.out V3).mono ?_
            rintro e V4 ⟨o3, c3, rfl, n3_4, hbn, hw_n3⟩
            unfold numV
            have fr_n3 : ∀ b, o3 = some ⟨b, 0, none⟩ → w.heap.size + 1 < b := fun b e => by have := hw_n3 b e; have := hS_3.2.2.2.2.2.2.2; omega
            have ap_n3 : two ≠ 0 → ∀ b, o3 = some ⟨b, 0, none⟩ → b ≠ B4 := fun _ b e => by have := hw_n3 b e; have := hNew_3.lt; omega
            clear hw_n3
            have hA_4 := hA_3.below hbn hA_3.lt
            have hR_4 := hR_3.below hbn hR_3.lt
            have hX_4 := hX_3.below hbn hX_3.lt
            have nA_4 := nA_3.mono hbn
            have nX_4 := nX_3.mono hbn
            have hNew_4 := hNew_3.below hbn hNew_3.lt
            have n1_4 := n1_3.mono hbn
            have n2_4 := n2_3.mono hbn
            have hV_4 := hV_3.trans (hbn.mono hV_3.size)
            have hS_4 := S3.kept hS_3 hV_3.size hbn
            refine hK.out _ _ hS_4 (fun _ => ?_)
            clear hK K hbn hV_3 hS_3 hA_3 hR_3 hX_3 nA_3 nX_3 hNew_3 n1_3 n2_3
            refine wpAnyH_ready (rs := [6]) (by kernel_rfl) (by simp) ?_
            refine AllReadyH.one rfl ?_ AllReadyH.nil
            intro K hK
            go_simp
            have hq := quotient_c (x + a.fdiv x) two htwo o2 o3 c2 c3 V4 (HWd.out.below hV_4) n2_4 n3_4
            unfold numV at hq
            refine hq.mono ?_
            clear hq
            rintro e V5 ⟨o4, c4, rfl, n4_5, hbn, hw_n4⟩
            have fr4 : ∀ b, o4 = some ⟨b, 0, none⟩ → B3 < b := fun b e => by have := hw_n4 b e; have := hS_4.2.2.2.2.2.2.2; omega
            unfold numV
            have fr_n4 : ∀ b, o4 = some ⟨b, 0, none⟩ → w.heap.size + 1 < b := fun b e => by have := hw_n4 b e; have := hS_4.2.2.2.2.2.2.2; omega
            have ap_n4 : ((x + a.fdiv x).fdiv two) ≠ 0 → ∀ b, o4 = some ⟨b, 0, none⟩ → b ≠ B4 := fun _ b e => by have := hw_n4 b e; have := hNew_4.lt; omega
            clear hw_n4
            have hA_5 := hA_4.below hbn hA_4.lt
            have hR_5 := hR_4.below hbn hR_4.lt
            have hX_5 := hX_4.below hbn hX_4.lt
            have nA_5 := nA_4.mono hbn
            have nX_5 := nX_4.mono hbn
            have hNew_5 := hNew_4.below hbn hNew_4.lt
            have n1_5 := n1_4.mono hbn
            have n2_5 := n2_4.mono hbn
            have n3_5 := n3_4.mono hbn
            have hV_5 := hV_4.trans (hbn.mono hV_4.size)
            have hS_5 := S3.kept hS_4 hV_4.size hbn
            refine hK.out _ _ hS_5 (fun _ => ?_)
            clear hK K hbn hV_4 hS_4 hA_4 hR_4 hX_4 nA_4 nX_4 hNew_4 n1_4 n2_4 n3_4
            have c0 := hNew_5.c0
            have c1 := hNew_5.c1
            have f0 := hNew_5.f0
            have f1 := hNew_5.f1
            refine wpAnyH_ready (rs := [8]) (by kernel_rfl) (by simp) ?_
            refine AllReadyH.one rfl ?_ AllReadyH.nil
            intro K hK
            go_simp
            have hS_6 := S3.put hS_5 B4 (by omega) (by omega) (by omega) (by omega) (.int .i64 ((x + a.fdiv x).fdiv two).sign) (.slice o4 (Bg.ds ((x + a.fdiv x).fdiv two).natAbs).length c4)
            refine hK.out _ _ hS_6 (fun _ => ?_)
            clear hK K
            refine wpAnyH_done (by kernel_rfl) ?_ _
            have G1 := Lib.hid (hNew_5.put (.int .i64 ((x + a.fdiv x).fdiv two).sign) (.slice o4 (Bg.ds ((x + a.fdiv x).fdiv two).natAbs).length c4))
            have G2 := Lib.hid (hA_5.others B4 (by omega) (.int .i64 ((x + a.fdiv x).fdiv two).sign) (.slice o4 (Bg.ds ((x + a.fdiv x).fdiv two).natAbs).length c4))
            have G3 := Lib.hid (hR_5.others B4 (by omega) (.int .i64 ((x + a.fdiv x).fdiv two).sign) (.slice o4 (Bg.ds ((x + a.fdiv x).fdiv two).natAbs).length c4))
            have G3b := Lib.hid (hX_5.others B4 (by omega) (.int .i64 ((x + a.fdiv x).fdiv two).sign) (.slice o4 (Bg.ds ((x + a.fdiv x).fdiv two).natAbs).length c4))
            have G4 := Lib.hid (nA_5.put' B4 ap_nA (.int .i64 ((x + a.fdiv x).fdiv two).sign) (.slice o4 (Bg.ds ((x + a.fdiv x).fdiv two).natAbs).length c4))
            have G4b := Lib.hid (nX_5.put' B4 ap_nX (.int .i64 ((x + a.fdiv x).fdiv two).sign) (.slice o4 (Bg.ds ((x + a.fdiv x).fdiv two).natAbs).length c4))
            have G5 := Lib.hid (n4_5.put' B4 ap_n4 (.int .i64 ((x + a.fdiv x).fdiv two).sign) (.slice o4 (Bg.ds ((x + a.fdiv x).fdiv two).natAbs).length c4))
            have G6 := Lib.hid (below_put hV_5 (by omega : w.heap.size ≤ B4) (.int .i64 ((x + a.fdiv x).fdiv two).sign) (.slice o4 (Bg.ds ((x + a.fdiv x).fdiv two).natAbs).length c4))
            have G7 := Lib.hid hgB4
            have G8 := Lib.hid fr_n4
            have G9 := Lib.hid (fr4 : ∀ b, o4 = some ⟨b, 0, none⟩ → B3 < b)
            clear c0 c1 f0 f1
            go_wp2_with fail
            go_meet
            exact ⟨B4, o4, c4, rfl, G1, G2, G3, G3b, G4, G4b, G5, G6, G7, G8, G9⟩
          exact AllReadyH.nil
        case rest =>
          obtain ⟨B4, o4, c4, rfl, G1, G2, G3, G3b, G4, G4b, G5, G6, G9, G10, G11⟩ := hcut
          have g1 := G1.out
          have g5 := G5.out
          rw [HYy.out] at g1 g5
          obtain ⟨yn, hyn⟩ : ∃ yn, (xn + N / xn) / 2 = yn := ⟨_, rfl⟩
          rw [hyn] at g1 g5
          obtain ⟨y, hy⟩ : ∃ y : Int, (yn : Int) = y := ⟨_, rfl⟩
          rw [hy] at g1 g5
          have G1 := Lib.hid g1
          have G5 := Lib.hid g5
          have HYn := Lib.hid hyn
          have HY2 := Lib.hid hy
          have hls := less_c y x o4 ox c4 cx wc g5 G4b.out
          unfold numV at hls
          have HLs := Lib.hid hls
          have c0 := G1.out.c0
          have c1 := G1.out.c1
          have c2' := G3b.out.c0
          have c3 := G3b.out.c1
          clear g1 g5 hyn hy hls HMv hx0
          by_cases hlt : y < x
          · rw [decide_eq_true hlt] at HLs
            have HLt := Lib.hid hlt
            clear hlt
            go_wp2_with fail
            refine HLs.out.mono ?_
            rintro e w7 ⟨rfl, hb7⟩
            have hX7 := G3b.out.below hb7 G3b.out.lt
            have hY7 := G1.out.below hb7 G1.out.lt
            have hz7 := G3b.out.lt
            clear c0 c1 c2' c3
            have c0 := hY7.c0
            have c1 := hY7.c1
            have c2' := hX7.c0
            have c3 := hX7.c1
            have f2 := hX7.f0
            have f3 := hX7.f1
            have K1 := Lib.hid (G2.out.below hb7 G2.out.lt)
            have K2 := Lib.hid (G3.out.below hb7 G3.out.lt)
            have K3 := Lib.hid hX7
            have K4 := Lib.hid (G4.out.mono hb7)
            have K5 := Lib.hid (G5.out.mono hb7)
            have K6 := Lib.hid (G6.out.trans (hb7.mono G6.out.size))
            clear hX7 hY7 hb7
            go_wp2_with fail
            have hX1 := HX.out
            have hgk := HGk.out
            have hyx : yn < xn := by have := HLt.out; have := HXx.out; have := HY2.out; omega
            have hnew := Bg.newton N xn hX1.1
            rw [HYn.out] at hnew
            have hyp : 0 < yn := Bg.newton_pos N yn (by have := HN.out; have := H0.out; have : a ≠ 0 := H0.out; omega) hnew
            go_roundg yn
            case rel =>
              refine ⟨yn, o4, c4, Lib.hid rfl, Lib.hid ⟨hyp, by omega, hnew⟩, ?_, ?_, ?_, ?_, ?_, ?_, G10⟩
              · rw [HY2.out]; exact Lib.hid (K3.out.put _ _)
              · exact Lib.hid (K1.out.others B3 (by omega) _ _)
              · exact Lib.hid (K2.out.others B3 (by omega) _ _)
              · exact Lib.hid (K4.out.put' B3 (fun h0 b e => by have := HFar.out h0 b e; omega) _ _)
              · rw [HY2.out]; exact Lib.hid (K5.out.put' B3 (fun _ b e => by have := G11.out b e; omega) _ _)
              · exact Lib.hid (below_put K6.out (by omega) _ _)
            case measure => omega
          · rw [decide_eq_false hlt] at HLs
            have HLt := Lib.hid hlt
            clear hlt
            go_wp2_with fail
            refine HLs.out.mono ?_
            rintro e w7 ⟨rfl, hb7⟩
            have hX7 := G3b.out.below hb7 G3b.out.lt
            have hR7 := G3.out.below hb7 G3.out.lt
            clear c0 c1 c2' c3
            have c2' := hX7.c0
            have c3 := hX7.c1
            have c0 := hR7.c0
            have c1 := hR7.c1
            have f0 := hR7.f0
            have f1 := hR7.f1
            have K2 := Lib.hid hR7
            have K5 := Lib.hid (G4b.out.mono hb7)
            have K6 := Lib.hid (G6.out.trans (hb7.mono G6.out.size))
            clear hX7 hR7 hb7
            go_wp2_with fail
            refine ret_box rfl rfl rfl (K2.out.put (.int .i64 x.sign) (.slice ox (Bg.ds x.natAbs).length cx)) ⟨xn, ⟨?_, HX.out.2.2⟩, ox, cx, ?_, ?_, below_put K6.out (by omega) _ _, ?_⟩
            · refine Bg.newton_end N xn HX.out.1 ?_
              rw [HYn.out]
              have := HLt.out; have := HXx.out; have := HY2.out
              omega
            · rw [HXx.out]; rfl
            · rw [HXx.out]
              exact K5.out.put' _ (fun _ b e => by have := X7.out b e; omega) _ _
            · exact fun _ b e hb => by have := X7.out b e; have := HBad.out b hb; omega
end Go.Proofs.YthbfbpbppjkoeaaGreatDoor
