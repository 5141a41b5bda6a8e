/- The walk of BigRoots of package proteuslaw03, case by case. Conditions: those in the statements. -/
import Derived.Test.YthbfbpbppjkoeaaGreatDoorBigLb
import Derived.Test.YthbfbpbppjkoeaaGreatDoorBigRo
namespace Go.Proofs.YthbfbpbppjkoeaaGreatDoor
open Go.RowKit Go.Shelf
set_option exponentiation.threshold 500
set_option maxRecDepth 100000
set_option linter.unusedSimpArgs false
set_option linter.unusedVariables false
attribute [local irreducible] wpQuiet

theorem sq_nonneg (x : Int) : 0 ≤ x * x := by
  rcases Int.le_total 0 x with h | h
  · exact Int.mul_nonneg h h
  · rw [← Int.neg_mul_neg]; exact Int.mul_nonneg (by omega) (by omega)
theorem isRoot_ex (n : Nat) : ∃ r, Bg.IsRoot n r := by
  induction n with
  | zero => exact ⟨0, by decide, by decide⟩
  | succ n ih =>
    obtain ⟨r, h1, h2⟩ := ih
    by_cases h : n + 1 < (r + 1) * (r + 1)
    · exact ⟨r, by omega, h⟩
    · refine ⟨r + 1, by omega, ?_⟩
      have e : (r + 1 + 1) * (r + 1 + 1) = (r + 1) * (r + 1) + 2 * r + 3 := by
        rw [Nat.add_mul, Nat.mul_add, Nat.add_mul, Nat.mul_add]; omega
      omega
theorem isRoot_sq (x : Int) : Bg.IsRoot (x * x).natAbs x.natAbs := by
  rw [Int.natAbs_mul]
  refine ⟨Nat.le_refl _, ?_⟩
  rw [Nat.add_mul, Nat.mul_add]; omega
theorem few_of_root {N r : Nat} (h : Few (N : Int)) (hr : Bg.IsRoot N r) : Few (r : Int) := few_le (b := ((r : Int) + 1)) (by omega) (few_root h hr)
theorem few_sq_root {N r : Nat} (h : Few (N : Int)) (hr : Bg.IsRoot N r) : Few ((r : Int) * (r : Int)) := by
  refine few_le (b := (N : Int)) ?_ h
  rw [Int.natAbs_mul, Int.natAbs_natCast, Int.natAbs_natCast]; exact hr.1
theorem root_under {x : Int} {r : Nat} (h0 : 0 ≤ x) (hr : Bg.IsRoot x.natAbs r) : ¬ x < (r : Int) * (r : Int) := by
  have h1 : ((r * r : Nat) : Int) ≤ ((x.natAbs : Nat) : Int) := Int.ofNat_le.2 hr.1
  rw [Int.natCast_mul] at h1
  omega
theorem root_over {x : Int} {r : Nat} (h0 : 0 ≤ x) (hr : Bg.IsRoot x.natAbs r) : x < ((r : Int) + 1) * ((r : Int) + 1) := by
  have h1 : ((x.natAbs : Nat) : Int) < (((r + 1) * (r + 1) : Nat) : Int) := Int.ofNat_lt.2 hr.2
  rw [Int.natCast_mul] at h1
  have e : ((r + 1 : Nat) : Int) = (r : Int) + 1 := by omega
  rw [e] at h1
  omega
theorem not_num : ∀ z, ¬ IsNum 0 0 [] z := fun z hz => by
  rcases hz.cells with ⟨_, h, _⟩ | ⟨_, h, _⟩ <;> cases h
theorem Ans.none {A B z : Int} {S : List UInt8} (h : Ans A B S 2 z) : A = 0 ∧ B = 0 ∧ S = [] := by
  rcases h with ⟨h, _⟩ | ⟨_, h1, h2, h3, _⟩
  · cases h
  · exact ⟨h1, h2, h3⟩

set_option maxHeartbeats 4000000 in
theorem roots_long (K N : Int) (T : List UInt8) (hx : ¬ T.length ≤ 800) (w : World) (hw : Wd w) :
    Calls Tryz.prog 12 #[valV K N T] w fun e w' => e = .returned (.bool true) ∧ Below w.heap.size w w' := by
  have H_0 := Lib.hid (Below.refl w.heap.size w)
  unfold valV
  go_enter Tryz.func12, Tryz.ntmps12
  have hb : Below (w).heap.size (w) ((w).alloc (.cells #[.int .i64 K, .int .i64 N, .string ⟨T.toArray⟩] 23)) := (Below.refl _ (w)).alloc (Nat.le_refl _) _
  have Bnew := VB.new (w) (.int .i64 K) (.int .i64 N) (.string ⟨T.toArray⟩)
  try simp only [World.size_alloc] at Bnew
  have H_1 := Lib.hid (H_0.out.trans (hb.mono H_0.out.size))
  clear hb H_0
  have Bx_1 := Lib.hid Bnew
  clear Bnew
  go_wp2_with fail
  have hc := awake_c ((w).alloc (.cells #[.int .i64 K, .int .i64 N, .string ⟨T.toArray⟩] 23)) (hw.below H_1.out)
  unfold valV at hc
  refine hc.mono ?_
  rintro e u1 ⟨rfl, hb⟩
  clear hc
  have Bx_2 := Lib.hid (Bx_1.out.below hb Bx_1.out.lt)
  have H_2 := Lib.hid (H_1.out.trans (hb.mono H_1.out.size))
  clear hb H_1 Bx_1
  have qx0 := Bx_2.out.c0
  have qx1 := Bx_2.out.c1
  have qx2 := Bx_2.out.c2
  go_wp2_with fail
  clear qx0 qx1 qx2
  have hc := short_not K N T hx (u1)
  unfold valV at hc
  refine hc.mono ?_
  rintro e u2 ⟨rfl, hb⟩
  clear hc
  have Bx_3 := Lib.hid (Bx_2.out.below hb Bx_2.out.lt)
  have H_3 := Lib.hid (H_2.out.trans (hb.mono H_2.out.size))
  clear hb H_2 Bx_2
  go_wp2_with fail
  go_ret
  exact ⟨rfl, H_3.out⟩

set_option maxHeartbeats 4000000 in
theorem roots_no (K N : Int) (T : List UInt8) (hx : T.length ≤ 800) (h : ∀ z, ¬ IsNum K N T z) (hN : In64Z N) (w : World) (hw : Wd w) :
    Calls Tryz.prog 12 #[valV K N T] w fun e w' => e = .returned (.bool true) ∧ Below w.heap.size w w' := by
  have H_0 := Lib.hid (Below.refl w.heap.size w)
  unfold valV
  go_enter Tryz.func12, Tryz.ntmps12
  have hb : Below (w).heap.size (w) ((w).alloc (.cells #[.int .i64 K, .int .i64 N, .string ⟨T.toArray⟩] 23)) := (Below.refl _ (w)).alloc (Nat.le_refl _) _
  have Bnew := VB.new (w) (.int .i64 K) (.int .i64 N) (.string ⟨T.toArray⟩)
  try simp only [World.size_alloc] at Bnew
  have H_1 := Lib.hid (H_0.out.trans (hb.mono H_0.out.size))
  clear hb H_0
  have Bx_1 := Lib.hid Bnew
  clear Bnew
  go_wp2_with fail
  have hc := awake_c ((w).alloc (.cells #[.int .i64 K, .int .i64 N, .string ⟨T.toArray⟩] 23)) (hw.below H_1.out)
  unfold valV at hc
  refine hc.mono ?_
  rintro e u1 ⟨rfl, hb⟩
  clear hc
  have Bx_2 := Lib.hid (Bx_1.out.below hb Bx_1.out.lt)
  have H_2 := Lib.hid (H_1.out.trans (hb.mono H_1.out.size))
  clear hb H_1 Bx_1
  have qx0 := Bx_2.out.c0
  have qx1 := Bx_2.out.c1
  have qx2 := Bx_2.out.c2
  go_wp2_with fail
  clear qx0 qx1 qx2
  have hc := short_yes K N T hx (u1)
  unfold valV at hc
  refine hc.mono ?_
  rintro e u2 ⟨rfl, hb⟩
  clear hc
  have Bx_3 := Lib.hid (Bx_2.out.below hb Bx_2.out.lt)
  have H_3 := Lib.hid (H_2.out.trans (hb.mono H_2.out.size))
  clear hb H_2 Bx_2
  have qx0 := Bx_3.out.c0
  have qx1 := Bx_3.out.c1
  have qx2 := Bx_3.out.c2
  go_wp2_with fail
  clear qx0 qx1 qx2
  have hc := Root_no K N T h hN (u2) (hw.below H_3.out)
  unfold valV at hc
  refine hc.mono ?_
  rintro e u3 ⟨rfl, hb⟩
  clear hc
  have Bx_4 := Lib.hid (Bx_3.out.below hb Bx_3.out.lt)
  have H_4 := Lib.hid (H_3.out.trans (hb.mono H_3.out.size))
  clear hb H_3 Bx_3
  have hb : Below (u3).heap.size (u3) ((u3).alloc (.cells #[.int .i64 0, .int .i64 0, .string ⟨#[]⟩] 23)) := (Below.refl _ (u3)).alloc (Nat.le_refl _) _
  have Bnew := VB.new (u3) (.int .i64 0) (.int .i64 0) (.string ⟨#[]⟩)
  try simp only [World.size_alloc] at Bnew
  have Bx_5 := Lib.hid (Bx_4.out.below hb Bx_4.out.lt)
  have H_5 := Lib.hid (H_4.out.trans (hb.mono H_4.out.size))
  clear hb H_4 Bx_4
  have Br_5 := Lib.hid Bnew
  clear Bnew
  have qx0 := Bx_5.out.c0
  have qx1 := Bx_5.out.c1
  have qx2 := Bx_5.out.c2
  go_wp2_with fail
  clear qx0 qx1 qx2
  have hc := Mul_no K N K N T T (.inl h) hN hN ((u3).alloc (.cells #[.int .i64 0, .int .i64 0, .string ⟨#[]⟩] 23)) (hw.below H_5.out)
  unfold valV at hc
  refine hc.mono ?_
  rintro e u4 ⟨rfl, hb⟩
  clear hc
  have Bx_6 := Lib.hid (Bx_5.out.below hb Bx_5.out.lt)
  have Br_6 := Lib.hid (Br_5.out.below hb Br_5.out.lt)
  have H_6 := Lib.hid (H_5.out.trans (hb.mono H_5.out.size))
  clear hb H_5 Bx_5 Br_5
  have hb : Below (u4).heap.size (u4) ((u4).alloc (.cells #[.int .i64 0, .int .i64 0, .string ⟨#[]⟩] 23)) := (Below.refl _ (u4)).alloc (Nat.le_refl _) _
  have Bnew := VB.new (u4) (.int .i64 0) (.int .i64 0) (.string ⟨#[]⟩)
  try simp only [World.size_alloc] at Bnew
  have Bx_7 := Lib.hid (Bx_6.out.below hb Bx_6.out.lt)
  have Br_7 := Lib.hid (Br_6.out.below hb Br_6.out.lt)
  have H_7 := Lib.hid (H_6.out.trans (hb.mono H_6.out.size))
  clear hb H_6 Bx_6 Br_6
  have Bm_7 := Lib.hid Bnew
  clear Bnew
  go_wp2_with fail
  go_ret
  exact ⟨rfl, H_7.out⟩

set_option maxHeartbeats 8000000 in
theorem roots_pos (K N : Int) (T : List UInt8) (x : Int) (h : IsNum K N T x) (h0 : 0 ≤ x) (w : World) (hw : Wd w) :
    Calls Tryz.prog 12 #[valV K N T] w fun e w' => e = .returned (.bool true) ∧ Below w.heap.size w w' := by
  obtain ⟨r, hr⟩ := isRoot_ex x.natAbs
  have hfx : Few (x.natAbs : Int) := by have := h.1; unfold Few at *; rwa [Int.natAbs_natCast]
  obtain ⟨R0, R1, R2, hR⟩ := isNum_few (few_of_root hfx hr)
  obtain ⟨A0, A1, A2, hA⟩ := isNum_few (few_sq_root hfx hr)
  obtain ⟨S0, S1, S2, hS⟩ := isNum_few (few_root hfx hr)
  obtain ⟨B0, B1, B2, H, hB⟩ := ans_ex (((r : Int) + 1) * ((r : Int) + 1))
  obtain ⟨M0, M1, M2, G, hM⟩ := ans_ex (x * x)
  have HB := Lib.hid hB
  have HM := Lib.hid hM
  have HR := Lib.hid hr
  clear hB hM hr
  have hlx : T.length ≤ 800 := by have := h.len; omega
  have H_0 := Lib.hid (Below.refl w.heap.size w)
  unfold valV
  go_enter Tryz.func12, Tryz.ntmps12
  have hb : Below (w).heap.size (w) ((w).alloc (.cells #[.int .i64 K, .int .i64 N, .string ⟨T.toArray⟩] 23)) := (Below.refl _ (w)).alloc (Nat.le_refl _) _
  have Bnew := VB.new (w) (.int .i64 K) (.int .i64 N) (.string ⟨T.toArray⟩)
  try simp only [World.size_alloc] at Bnew
  have H_1 := Lib.hid (H_0.out.trans (hb.mono H_0.out.size))
  clear hb H_0
  have Bx_1 := Lib.hid Bnew
  clear Bnew
  go_wp2_with fail
  have hc := awake_c ((w).alloc (.cells #[.int .i64 K, .int .i64 N, .string ⟨T.toArray⟩] 23)) (hw.below H_1.out)
  unfold valV at hc
  refine hc.mono ?_
  rintro e u1 ⟨rfl, hb⟩
  clear hc
  have Bx_2 := Lib.hid (Bx_1.out.below hb Bx_1.out.lt)
  have H_2 := Lib.hid (H_1.out.trans (hb.mono H_1.out.size))
  clear hb H_1 Bx_1
  have qx0 := Bx_2.out.c0
  have qx1 := Bx_2.out.c1
  have qx2 := Bx_2.out.c2
  go_wp2_with fail
  clear qx0 qx1 qx2
  have hc := short_yes K N T hlx (u1)
  unfold valV at hc
  refine hc.mono ?_
  rintro e u2 ⟨rfl, hb⟩
  clear hc
  have Bx_3 := Lib.hid (Bx_2.out.below hb Bx_2.out.lt)
  have H_3 := Lib.hid (H_2.out.trans (hb.mono H_2.out.size))
  clear hb H_2 Bx_2
  have qx0 := Bx_3.out.c0
  have qx1 := Bx_3.out.c1
  have qx2 := Bx_3.out.c2
  go_wp2_with fail
  clear qx0 qx1 qx2
  have hc := Root_num h r h0 HR.out hR (u2) (hw.below H_3.out)
  unfold valV at hc
  refine hc.mono ?_
  rintro e u3 ⟨rfl, hb⟩
  clear hc
  have Bx_4 := Lib.hid (Bx_3.out.below hb Bx_3.out.lt)
  have H_4 := Lib.hid (H_3.out.trans (hb.mono H_3.out.size))
  clear hb H_3 Bx_3
  have hb : Below (u3).heap.size (u3) ((u3).alloc (.cells #[.int .i64 R0, .int .i64 R1, .string ⟨R2.toArray⟩] 23)) := (Below.refl _ (u3)).alloc (Nat.le_refl _) _
  have Bnew := VB.new (u3) (.int .i64 R0) (.int .i64 R1) (.string ⟨R2.toArray⟩)
  try simp only [World.size_alloc] at Bnew
  have Bx_5 := Lib.hid (Bx_4.out.below hb Bx_4.out.lt)
  have H_5 := Lib.hid (H_4.out.trans (hb.mono H_4.out.size))
  clear hb H_4 Bx_4
  have Br_5 := Lib.hid Bnew
  clear Bnew
  have qr0 := Br_5.out.c0
  have qr1 := Br_5.out.c1
  have qr2 := Br_5.out.c2
  go_wp2_with fail
  clear qr0 qr1 qr2
  have hc := Mul_num hR hR rfl hA ((u3).alloc (.cells #[.int .i64 R0, .int .i64 R1, .string ⟨R2.toArray⟩] 23)) (hw.below H_5.out)
  unfold valV at hc
  refine hc.mono ?_
  rintro e u4 ⟨rfl, hb⟩
  clear hc
  have Bx_6 := Lib.hid (Bx_5.out.below hb Bx_5.out.lt)
  have Br_6 := Lib.hid (Br_5.out.below hb Br_5.out.lt)
  have H_6 := Lib.hid (H_5.out.trans (hb.mono H_5.out.size))
  clear hb H_5 Bx_5 Br_5
  have hb : Below (u4).heap.size (u4) ((u4).alloc (.cells #[.int .i64 A0, .int .i64 A1, .string ⟨A2.toArray⟩] 23)) := (Below.refl _ (u4)).alloc (Nat.le_refl _) _
  have Bnew := VB.new (u4) (.int .i64 A0) (.int .i64 A1) (.string ⟨A2.toArray⟩)
  try simp only [World.size_alloc] at Bnew
  have Bx_7 := Lib.hid (Bx_6.out.below hb Bx_6.out.lt)
  have Br_7 := Lib.hid (Br_6.out.below hb Br_6.out.lt)
  have H_7 := Lib.hid (H_6.out.trans (hb.mono H_6.out.size))
  clear hb H_6 Bx_6 Br_6
  have Ba_7 := Lib.hid Bnew
  clear Bnew
  have HU := hw.below H_7.out
  go_upto_region 7 with fail
  go_cut [8, 9] from 38 to 44 (fun p8 p9 wx => ∃ (C : Nat) (U' : World), U' = wx ∧ p8 = .pointer (some ⟨C, 0, none⟩) ∧ p9 = .int .i64 0 ∧ Hid (VB wx C (.int .i64 S0) (.int .i64 S1) (.string ⟨S2.toArray⟩)) ∧ Hid (Below ((u4).alloc (.cells #[.int .i64 A0, .int .i64 A1, .string ⟨A2.toArray⟩] 23)).heap.size ((u4).alloc (.cells #[.int .i64 A0, .int .i64 A1, .string ⟨A2.toArray⟩] 23)) wx))
  case first =>
    have v0 := Br_7.out.c0
    have v1 := Br_7.out.c1
    have v2 := Br_7.out.c2
    have hS0 := SV.mk (W := World.drew _) (VB.drew Br_7.out) ((Below.refl ((u4).alloc (.cells #[.int .i64 A0, .int .i64 A1, .string ⟨A2.toArray⟩] 23)).heap.size ((u4).alloc (.cells #[.int .i64 A0, .int .i64 A1, .string ⟨A2.toArray⟩] 23))).drew)
    have hH0 := (Below.refl ((u4).alloc (.cells #[.int .i64 A0, .int .i64 A1, .string ⟨A2.toArray⟩] 23)).heap.size ((u4).alloc (.cells #[.int .i64 A0, .int .i64 A1, .string ⟨A2.toArray⟩] 23))).drew
    refine wp_region_held_drew (by kernel_rfl) hS0 (fun _ => ?_)
    refine wpAnyH_take (i := 0) (v := ?hlv1) rfl (by kernel_rfl) (by kernel_rfl) (by kernel_rfl) (fun _ _ _ h => h) (Or.inl ⟨by rfl, ?hly1⟩) (by assumption) ?hlr1
    case hly1 => (intro w hSw; (try unfold SV at hSw); (try dsimp only at hSw); go_simp; (try with_reducible rfl))
    (try simp only [Act.put, List.setIfInBounds_toArray, List.set_cons_zero, List.set_cons_succ])
    generalize World.drew _ = V0 at *
    refine wpAnyH_ready (rs := [1, 6]) (by kernel_rfl) (by simp) ?_
    refine AllReadyH.one rfl ?_ ?_
    · skip
      intro K hK
      go_simp
      have hc := number_c 1 V0
      simp only [valV] at hc
      refine hc.mono ?_
      rintro e V1 ⟨rfl, hbn⟩
      clear hc
      have hH1 := hH0.trans (hbn.mono hH0.size)
      have hS1 := SV.kept hS0 hH0.size hbn
      refine hK.out _ _ hS1 (fun _ => ?_)
      clear hK K hbn hH0 hS0
      refine wpAnyH_ready (rs := [2, 6]) (by kernel_rfl) (by simp) ?_
      refine AllReadyH.one rfl ?_ ?_
      · skip
        intro K hK
        go_simp
        have hc := Add_num hR isNum_one rfl hS V1 (HU.below hH1)
        simp only [valV] at hc
        refine hc.mono ?_
        rintro e V2 ⟨rfl, hbn⟩
        clear hc
        have hH2 := hH1.trans (hbn.mono hH1.size)
        have hS2 := SV.kept hS1 hH1.size hbn
        refine hK.out _ _ hS2 (fun _ => ?_)
        clear hK K hbn hH1 hS1
        refine wpAnyH_take (i := 3) (v := ?hlv2) rfl (by kernel_rfl) (by kernel_rfl) (by kernel_rfl) (fun _ _ _ h => h) (Or.inl ⟨by rfl, ?hly2⟩) (by assumption) ?hlr2
        case hly2 => (intro w hSw; (try unfold SV at hSw); (try dsimp only at hSw); go_simp; (try with_reducible rfl))
        (try simp only [Act.put, List.setIfInBounds_toArray, List.set_cons_zero, List.set_cons_succ])
        refine wpAnyH_take (i := 4) (v := ?hlv3) rfl (by kernel_rfl) (by kernel_rfl) (by kernel_rfl) (fun _ _ _ h => h) (Or.inl ⟨by rfl, ?hly3⟩) (by assumption) ?hlr3
        case hly3 => (intro w hSw; (try unfold SV at hSw); (try dsimp only at hSw); go_simp; (try with_reducible rfl))
        (try simp only [Act.put, List.setIfInBounds_toArray, List.set_cons_zero, List.set_cons_succ])
        refine wpAnyH_take (i := 5) (v := ?hlv4) rfl (by kernel_rfl) (by kernel_rfl) (by kernel_rfl) (fun _ _ _ h => h) (Or.inl ⟨by rfl, ?hly4⟩) (by assumption) ?hlr4
        case hly4 => (intro w hSw; (try unfold SV at hSw); (try dsimp only at hSw); go_simp; (try with_reducible rfl))
        (try simp only [Act.put, List.setIfInBounds_toArray, List.set_cons_zero, List.set_cons_succ])
        refine wpAnyH_ready (rs := [6]) (by kernel_rfl) (by simp) ?_
        refine AllReadyH.one rfl ?_ AllReadyH.nil
        intro K hK
        go_simp
        have hbn : Below V2.heap.size V2 (V2.alloc (.cells #[.int .i64 0, .int .i64 0, .string ⟨#[]⟩] 23)) := (Below.refl _ V2).alloc (Nat.le_refl _) _
        have hC3 := VB.new V2 (.int .i64 0) (.int .i64 0) (.string ⟨#[]⟩)
        obtain ⟨C, hCe⟩ : ∃ C, V2.heap.size = C := ⟨_, rfl⟩
        have hCw : ((u4).alloc (.cells #[.int .i64 A0, .int .i64 A1, .string ⟨A2.toArray⟩] 23)).heap.size ≤ C := by rw [← hCe]; exact hH2.size
        have hH3 := hH2.trans (hbn.mono hH2.size)
        have hS3 := SV.kept hS2 hH2.size hbn
        refine hK.out _ _ hS3 (fun _ => ?_)
        clear hK K hbn hH2 hS2
        generalize V2.alloc (.cells #[.int .i64 0, .int .i64 0, .string ⟨#[]⟩] 23) = V3 at *
        rw [hCe] at hC3 ⊢
        clear hCe
        have c0 := hC3.c0
        have c1 := hC3.c1
        have c2 := hC3.c2
        have f0 := hC3.fz 0
        have f1 := hC3.fz 1
        have f2 := hC3.fz 2
        have hlt := Br_7.out.lt
        refine wpAnyH_ready (rs := [7]) (by kernel_rfl) (by simp) ?_
        refine AllReadyH.one rfl ?_ AllReadyH.nil
        intro K hK
        go_simp
        have hSp := SV.put hS3 C (by omega) hCw (.int .i64 S0) (.int .i64 S1) (.string ⟨S2.toArray⟩)
        refine hK.out _ _ hSp (fun _ => ?_)
        clear hK K
        refine wpAnyH_ready (rs := [8]) (by kernel_rfl) (by simp) ?_
        refine AllReadyH.one rfl ?_ AllReadyH.nil
        intro K hK
        go_simp
        refine hK.out _ _ hSp (fun _ => ?_)
        clear hK K
        refine wpAnyH_done (by kernel_rfl) ?_ _
        (try simp only [Act.put, List.setIfInBounds_toArray, List.set_cons_zero, List.set_cons_succ])
        have G2 := Lib.hid hC3
        have G3 := Lib.hid hH3
        clear hS3 hSp hC3 hH3 c0 c1 c2 f0 f1 f2
        go_wp2_with fail
        go_meet
        exact ⟨C, _, rfl, by first | rfl | simp [Act.put], by first | rfl | simp [Act.put, go_sem], Lib.hid (G2.out.put _ _ _), Lib.hid (below_put3 G3.out hCw _ _ _)⟩
      refine AllReadyH.one rfl ?_ ?_
      · skip
        intro K hK
        go_simp
        have hbn : Below V1.heap.size V1 (V1.alloc (.cells #[.int .i64 0, .int .i64 0, .string ⟨#[]⟩] 23)) := (Below.refl _ V1).alloc (Nat.le_refl _) _
        have hC2 := VB.new V1 (.int .i64 0) (.int .i64 0) (.string ⟨#[]⟩)
        obtain ⟨C, hCe⟩ : ∃ C, V1.heap.size = C := ⟨_, rfl⟩
        have hCw : ((u4).alloc (.cells #[.int .i64 A0, .int .i64 A1, .string ⟨A2.toArray⟩] 23)).heap.size ≤ C := by rw [← hCe]; exact hH1.size
        have hH2 := hH1.trans (hbn.mono hH1.size)
        have hS2 := SV.kept hS1 hH1.size hbn
        refine hK.out _ _ hS2 (fun _ => ?_)
        clear hK K hbn hH1 hS1
        generalize V1.alloc (.cells #[.int .i64 0, .int .i64 0, .string ⟨#[]⟩] 23) = V2 at *
        rw [hCe] at hC2 ⊢
        clear hCe
        refine wpAnyH_ready (rs := [2]) (by kernel_rfl) (by simp) ?_
        refine AllReadyH.one rfl ?_ AllReadyH.nil
        intro K hK
        go_simp
        have hc := Add_num hR isNum_one rfl hS V2 (HU.below hH2)
        simp only [valV] at hc
        refine hc.mono ?_
        rintro e V3 ⟨rfl, hbn⟩
        clear hc
        have hC3 := hC2.below hbn hC2.lt
        have hH3 := hH2.trans (hbn.mono hH2.size)
        have hS3 := SV.kept hS2 hH2.size hbn
        refine hK.out _ _ hS3 (fun _ => ?_)
        clear hK K hbn hH2 hS2 hC2
        refine wpAnyH_take (i := 3) (v := ?hlv5) rfl (by kernel_rfl) (by kernel_rfl) (by kernel_rfl) (fun _ _ _ h => h) (Or.inl ⟨by rfl, ?hly5⟩) (by assumption) ?hlr5
        case hly5 => (intro w hSw; (try unfold SV at hSw); (try dsimp only at hSw); go_simp; (try with_reducible rfl))
        (try simp only [Act.put, List.setIfInBounds_toArray, List.set_cons_zero, List.set_cons_succ])
        refine wpAnyH_take (i := 4) (v := ?hlv6) rfl (by kernel_rfl) (by kernel_rfl) (by kernel_rfl) (fun _ _ _ h => h) (Or.inl ⟨by rfl, ?hly6⟩) (by assumption) ?hlr6
        case hly6 => (intro w hSw; (try unfold SV at hSw); (try dsimp only at hSw); go_simp; (try with_reducible rfl))
        (try simp only [Act.put, List.setIfInBounds_toArray, List.set_cons_zero, List.set_cons_succ])
        refine wpAnyH_take (i := 5) (v := ?hlv7) rfl (by kernel_rfl) (by kernel_rfl) (by kernel_rfl) (fun _ _ _ h => h) (Or.inl ⟨by rfl, ?hly7⟩) (by assumption) ?hlr7
        case hly7 => (intro w hSw; (try unfold SV at hSw); (try dsimp only at hSw); go_simp; (try with_reducible rfl))
        (try simp only [Act.put, List.setIfInBounds_toArray, List.set_cons_zero, List.set_cons_succ])
        have c0 := hC3.c0
        have c1 := hC3.c1
        have c2 := hC3.c2
        have f0 := hC3.fz 0
        have f1 := hC3.fz 1
        have f2 := hC3.fz 2
        have hlt := Br_7.out.lt
        refine wpAnyH_ready (rs := [7]) (by kernel_rfl) (by simp) ?_
        refine AllReadyH.one rfl ?_ AllReadyH.nil
        intro K hK
        go_simp
        have hSp := SV.put hS3 C (by omega) hCw (.int .i64 S0) (.int .i64 S1) (.string ⟨S2.toArray⟩)
        refine hK.out _ _ hSp (fun _ => ?_)
        clear hK K
        refine wpAnyH_ready (rs := [8]) (by kernel_rfl) (by simp) ?_
        refine AllReadyH.one rfl ?_ AllReadyH.nil
        intro K hK
        go_simp
        refine hK.out _ _ hSp (fun _ => ?_)
        clear hK K
        refine wpAnyH_done (by kernel_rfl) ?_ _
        (try simp only [Act.put, List.setIfInBounds_toArray, List.set_cons_zero, List.set_cons_succ])
        have G2 := Lib.hid hC3
        have G3 := Lib.hid hH3
        clear hS3 hSp hC3 hH3 c0 c1 c2 f0 f1 f2
        go_wp2_with fail
        go_meet
        exact ⟨C, _, rfl, by first | rfl | simp [Act.put], by first | rfl | simp [Act.put, go_sem], Lib.hid (G2.out.put _ _ _), Lib.hid (below_put3 G3.out hCw _ _ _)⟩
      exact AllReadyH.nil
    refine AllReadyH.one rfl ?_ ?_
    · skip
      intro K hK
      go_simp
      have hbn : Below V0.heap.size V0 (V0.alloc (.cells #[.int .i64 0, .int .i64 0, .string ⟨#[]⟩] 23)) := (Below.refl _ V0).alloc (Nat.le_refl _) _
      have hC1 := VB.new V0 (.int .i64 0) (.int .i64 0) (.string ⟨#[]⟩)
      obtain ⟨C, hCe⟩ : ∃ C, V0.heap.size = C := ⟨_, rfl⟩
      have hCw : ((u4).alloc (.cells #[.int .i64 A0, .int .i64 A1, .string ⟨A2.toArray⟩] 23)).heap.size ≤ C := by rw [← hCe]; exact hH0.size
      have hH1 := hH0.trans (hbn.mono hH0.size)
      have hS1 := SV.kept hS0 hH0.size hbn
      refine hK.out _ _ hS1 (fun _ => ?_)
      clear hK K hbn hH0 hS0
      generalize V0.alloc (.cells #[.int .i64 0, .int .i64 0, .string ⟨#[]⟩] 23) = V1 at *
      rw [hCe] at hC1 ⊢
      clear hCe
      refine wpAnyH_ready (rs := [1]) (by kernel_rfl) (by simp) ?_
      refine AllReadyH.one rfl ?_ AllReadyH.nil
      intro K hK
      go_simp
      have hc := number_c 1 V1
      simp only [valV] at hc
      refine hc.mono ?_
      rintro e V2 ⟨rfl, hbn⟩
      clear hc
      have hC2 := hC1.below hbn hC1.lt
      have hH2 := hH1.trans (hbn.mono hH1.size)
      have hS2 := SV.kept hS1 hH1.size hbn
      refine hK.out _ _ hS2 (fun _ => ?_)
      clear hK K hbn hH1 hS1 hC1
      refine wpAnyH_ready (rs := [2]) (by kernel_rfl) (by simp) ?_
      refine AllReadyH.one rfl ?_ AllReadyH.nil
      intro K hK
      go_simp
      have hc := Add_num hR isNum_one rfl hS V2 (HU.below hH2)
      simp only [valV] at hc
      refine hc.mono ?_
      rintro e V3 ⟨rfl, hbn⟩
      clear hc
      have hC3 := hC2.below hbn hC2.lt
      have hH3 := hH2.trans (hbn.mono hH2.size)
      have hS3 := SV.kept hS2 hH2.size hbn
      refine hK.out _ _ hS3 (fun _ => ?_)
      clear hK K hbn hH2 hS2 hC2
      refine wpAnyH_take (i := 3) (v := ?hlv8) rfl (by kernel_rfl) (by kernel_rfl) (by kernel_rfl) (fun _ _ _ h => h) (Or.inl ⟨by rfl, ?hly8⟩) (by assumption) ?hlr8
      case hly8 => (intro w hSw; (try unfold SV at hSw); (try dsimp only at hSw); go_simp; (try with_reducible rfl))
      (try simp only [Act.put, List.setIfInBounds_toArray, List.set_cons_zero, List.set_cons_succ])
      refine wpAnyH_take (i := 4) (v := ?hlv9) rfl (by kernel_rfl) (by kernel_rfl) (by kernel_rfl) (fun _ _ _ h => h) (Or.inl ⟨by rfl, ?hly9⟩) (by assumption) ?hlr9
      case hly9 => (intro w hSw; (try unfold SV at hSw); (try dsimp only at hSw); go_simp; (try with_reducible rfl))
      (try simp only [Act.put, List.setIfInBounds_toArray, List.set_cons_zero, List.set_cons_succ])
      refine wpAnyH_take (i := 5) (v := ?hlv10) rfl (by kernel_rfl) (by kernel_rfl) (by kernel_rfl) (fun _ _ _ h => h) (Or.inl ⟨by rfl, ?hly10⟩) (by assumption) ?hlr10
      case hly10 => (intro w hSw; (try unfold SV at hSw); (try dsimp only at hSw); go_simp; (try with_reducible rfl))
      (try simp only [Act.put, List.setIfInBounds_toArray, List.set_cons_zero, List.set_cons_succ])
      have c0 := hC3.c0
      have c1 := hC3.c1
      have c2 := hC3.c2
      have f0 := hC3.fz 0
      have f1 := hC3.fz 1
      have f2 := hC3.fz 2
      have hlt := Br_7.out.lt
      refine wpAnyH_ready (rs := [7]) (by kernel_rfl) (by simp) ?_
      refine AllReadyH.one rfl ?_ AllReadyH.nil
      intro K hK
      go_simp
      have hSp := SV.put hS3 C (by omega) hCw (.int .i64 S0) (.int .i64 S1) (.string ⟨S2.toArray⟩)
      refine hK.out _ _ hSp (fun _ => ?_)
      clear hK K
      refine wpAnyH_ready (rs := [8]) (by kernel_rfl) (by simp) ?_
      refine AllReadyH.one rfl ?_ AllReadyH.nil
      intro K hK
      go_simp
      refine hK.out _ _ hSp (fun _ => ?_)
      clear hK K
      refine wpAnyH_done (by kernel_rfl) ?_ _
      (try simp only [Act.put, List.setIfInBounds_toArray, List.set_cons_zero, List.set_cons_succ])
      have G2 := Lib.hid hC3
      have G3 := Lib.hid hH3
      clear hS3 hSp hC3 hH3 c0 c1 c2 f0 f1 f2
      go_wp2_with fail
      go_meet
      exact ⟨C, _, rfl, by first | rfl | simp [Act.put], by first | rfl | simp [Act.put, go_sem], Lib.hid (G2.out.put _ _ _), Lib.hid (below_put3 G3.out hCw _ _ _)⟩
    exact AllReadyH.nil
  case rest =>
    obtain ⟨C5, u5, rfl, rfl, rfl, Bnew, hbn⟩ := hcut
    have hb := hbn.out
    clear hbn HU
    have Bx_8 := Lib.hid (Bx_7.out.below hb Bx_7.out.lt)
    have Br_8 := Lib.hid (Br_7.out.below hb Br_7.out.lt)
    have Ba_8 := Lib.hid (Ba_7.out.below hb Ba_7.out.lt)
    have H_8 := Lib.hid (H_7.out.trans (hb.mono H_7.out.size))
    clear hb H_7 Bx_7 Br_7 Ba_7
    have Bs_8 := Lib.hid Bnew.out
    clear Bnew
    have qs0 := Bs_8.out.c0
    have qs1 := Bs_8.out.c1
    have qs2 := Bs_8.out.c2
    go_wp2_with fail
    clear qs0 qs1 qs2
    have hc := Mul_any hS hS HB.out rfl (u5) (hw.below H_8.out)
    unfold valV at hc
    refine hc.mono ?_
    rintro e u6 ⟨rfl, hb⟩
    clear hc
    have Bx_9 := Lib.hid (Bx_8.out.below hb Bx_8.out.lt)
    have Br_9 := Lib.hid (Br_8.out.below hb Br_8.out.lt)
    have Ba_9 := Lib.hid (Ba_8.out.below hb Ba_8.out.lt)
    have Bs_9 := Lib.hid (Bs_8.out.below hb Bs_8.out.lt)
    have H_9 := Lib.hid (H_8.out.trans (hb.mono H_8.out.size))
    clear hb H_8 Bx_8 Br_8 Ba_8 Bs_8
    have hb : Below (u6).heap.size (u6) ((u6).alloc (.cells #[.int .i64 B0, .int .i64 B1, .string ⟨B2.toArray⟩] 23)) := (Below.refl _ (u6)).alloc (Nat.le_refl _) _
    have Bnew := VB.new (u6) (.int .i64 B0) (.int .i64 B1) (.string ⟨B2.toArray⟩)
    try simp only [World.size_alloc] at Bnew
    have Bx_10 := Lib.hid (Bx_9.out.below hb Bx_9.out.lt)
    have Br_10 := Lib.hid (Br_9.out.below hb Br_9.out.lt)
    have Ba_10 := Lib.hid (Ba_9.out.below hb Ba_9.out.lt)
    have Bs_10 := Lib.hid (Bs_9.out.below hb Bs_9.out.lt)
    have H_10 := Lib.hid (H_9.out.trans (hb.mono H_9.out.size))
    clear hb H_9 Bx_9 Br_9 Ba_9 Bs_9
    have Bb_10 := Lib.hid Bnew
    clear Bnew
    have qx0 := Bx_10.out.c0
    have qx1 := Bx_10.out.c1
    have qx2 := Bx_10.out.c2
    have qa0 := Ba_10.out.c0
    have qa1 := Ba_10.out.c1
    have qa2 := Ba_10.out.c2
    go_wp2_with fail
    clear qx0 qx1 qx2 qa0 qa1 qa2
    have hc := Less_num h hA false (decide_eq_false (root_under h0 HR.out)) ((u6).alloc (.cells #[.int .i64 B0, .int .i64 B1, .string ⟨B2.toArray⟩] 23)) (hw.below H_10.out)
    unfold valV at hc
    refine hc.mono ?_
    rintro e u7 ⟨rfl, hb⟩
    clear hc
    have Bx_11 := Lib.hid (Bx_10.out.below hb Bx_10.out.lt)
    have Br_11 := Lib.hid (Br_10.out.below hb Br_10.out.lt)
    have Ba_11 := Lib.hid (Ba_10.out.below hb Ba_10.out.lt)
    have Bs_11 := Lib.hid (Bs_10.out.below hb Bs_10.out.lt)
    have Bb_11 := Lib.hid (Bb_10.out.below hb Bb_10.out.lt)
    have H_11 := Lib.hid (H_10.out.trans (hb.mono H_10.out.size))
    clear hb H_10 Bx_10 Br_10 Ba_10 Bs_10 Bb_10
    rcases HB.out.two with rfl | rfl
    · have qx0 := Bx_11.out.c0
      have qx1 := Bx_11.out.c1
      have qx2 := Bx_11.out.c2
      have qb0 := Bb_11.out.c0
      have qb1 := Bb_11.out.c1
      have qb2 := Bb_11.out.c2
      go_wp2_with fail
      clear qx0 qx1 qx2 qb0 qb1 qb2
      have hc := Less_num h HB.out.ok true (decide_eq_true (root_over h0 HR.out)) (u7) (hw.below H_11.out)
      unfold valV at hc
      refine hc.mono ?_
      rintro e u8 ⟨rfl, hb⟩
      clear hc
      have Bx_12 := Lib.hid (Bx_11.out.below hb Bx_11.out.lt)
      have Br_12 := Lib.hid (Br_11.out.below hb Br_11.out.lt)
      have Ba_12 := Lib.hid (Ba_11.out.below hb Ba_11.out.lt)
      have Bs_12 := Lib.hid (Bs_11.out.below hb Bs_11.out.lt)
      have Bb_12 := Lib.hid (Bb_11.out.below hb Bb_11.out.lt)
      have H_12 := Lib.hid (H_11.out.trans (hb.mono H_11.out.size))
      clear hb H_11 Bx_11 Br_11 Ba_11 Bs_11 Bb_11
      have qx0 := Bx_12.out.c0
      have qx1 := Bx_12.out.c1
      have qx2 := Bx_12.out.c2
      go_wp2_with fail
      clear qx0 qx1 qx2
      have hc := Mul_any h h HM.out rfl (u8) (hw.below H_12.out)
      unfold valV at hc
      refine hc.mono ?_
      rintro e u9 ⟨rfl, hb⟩
      clear hc
      have Bx_13 := Lib.hid (Bx_12.out.below hb Bx_12.out.lt)
      have Br_13 := Lib.hid (Br_12.out.below hb Br_12.out.lt)
      have Ba_13 := Lib.hid (Ba_12.out.below hb Ba_12.out.lt)
      have Bs_13 := Lib.hid (Bs_12.out.below hb Bs_12.out.lt)
      have Bb_13 := Lib.hid (Bb_12.out.below hb Bb_12.out.lt)
      have H_13 := Lib.hid (H_12.out.trans (hb.mono H_12.out.size))
      clear hb H_12 Bx_12 Br_12 Ba_12 Bs_12 Bb_12
      have hb : Below (u9).heap.size (u9) ((u9).alloc (.cells #[.int .i64 M0, .int .i64 M1, .string ⟨M2.toArray⟩] 23)) := (Below.refl _ (u9)).alloc (Nat.le_refl _) _
      have Bnew := VB.new (u9) (.int .i64 M0) (.int .i64 M1) (.string ⟨M2.toArray⟩)
      try simp only [World.size_alloc] at Bnew
      have Bx_14 := Lib.hid (Bx_13.out.below hb Bx_13.out.lt)
      have Br_14 := Lib.hid (Br_13.out.below hb Br_13.out.lt)
      have Ba_14 := Lib.hid (Ba_13.out.below hb Ba_13.out.lt)
      have Bs_14 := Lib.hid (Bs_13.out.below hb Bs_13.out.lt)
      have Bb_14 := Lib.hid (Bb_13.out.below hb Bb_13.out.lt)
      have H_14 := Lib.hid (H_13.out.trans (hb.mono H_13.out.size))
      clear hb H_13 Bx_13 Br_13 Ba_13 Bs_13 Bb_13
      have Bm_14 := Lib.hid Bnew
      clear Bnew
      rcases HM.out.two with rfl | rfl
      · have qm0 := Bm_14.out.c0
        have qm1 := Bm_14.out.c1
        have qm2 := Bm_14.out.c2
        go_wp2_with fail
        clear qm0 qm1 qm2
        have hc := Root_num HM.out.ok x.natAbs (Int.mul_nonneg h0 h0) (isRoot_sq x) (by rw [show ((x.natAbs : Nat) : Int) = x by omega]; exact h) ((u9).alloc (.cells #[.int .i64 M0, .int .i64 M1, .string ⟨M2.toArray⟩] 23)) (hw.below H_14.out)
        unfold valV at hc
        refine hc.mono ?_
        rintro e u10 ⟨rfl, hb⟩
        clear hc
        have Bx_15 := Lib.hid (Bx_14.out.below hb Bx_14.out.lt)
        have Br_15 := Lib.hid (Br_14.out.below hb Br_14.out.lt)
        have Ba_15 := Lib.hid (Ba_14.out.below hb Ba_14.out.lt)
        have Bs_15 := Lib.hid (Bs_14.out.below hb Bs_14.out.lt)
        have Bb_15 := Lib.hid (Bb_14.out.below hb Bb_14.out.lt)
        have Bm_15 := Lib.hid (Bm_14.out.below hb Bm_14.out.lt)
        have H_15 := Lib.hid (H_14.out.trans (hb.mono H_14.out.size))
        clear hb H_14 Bx_14 Br_14 Ba_14 Bs_14 Bb_14 Bm_14
        have hb : Below (u10).heap.size (u10) ((u10).alloc (.cells #[.int .i64 K, .int .i64 N, .string ⟨T.toArray⟩] 23)) := (Below.refl _ (u10)).alloc (Nat.le_refl _) _
        have Bnew := VB.new (u10) (.int .i64 K) (.int .i64 N) (.string ⟨T.toArray⟩)
        try simp only [World.size_alloc] at Bnew
        have Bx_16 := Lib.hid (Bx_15.out.below hb Bx_15.out.lt)
        have Br_16 := Lib.hid (Br_15.out.below hb Br_15.out.lt)
        have Ba_16 := Lib.hid (Ba_15.out.below hb Ba_15.out.lt)
        have Bs_16 := Lib.hid (Bs_15.out.below hb Bs_15.out.lt)
        have Bb_16 := Lib.hid (Bb_15.out.below hb Bb_15.out.lt)
        have Bm_16 := Lib.hid (Bm_15.out.below hb Bm_15.out.lt)
        have H_16 := Lib.hid (H_15.out.trans (hb.mono H_15.out.size))
        clear hb H_15 Bx_15 Br_15 Ba_15 Bs_15 Bb_15 Bm_15
        have Bq_16 := Lib.hid Bnew
        clear Bnew
        have qx0 := Bx_16.out.c0
        have qx1 := Bx_16.out.c1
        have qx2 := Bx_16.out.c2
        go_wp2_with fail
        clear qx0 qx1 qx2
        have hc := negative_num h false (decide_eq_false (by omega)) ((u10).alloc (.cells #[.int .i64 K, .int .i64 N, .string ⟨T.toArray⟩] 23))
        unfold valV at hc
        refine hc.mono ?_
        rintro e u11 ⟨rfl, hb⟩
        clear hc
        have Bx_17 := Lib.hid (Bx_16.out.below hb Bx_16.out.lt)
        have Br_17 := Lib.hid (Br_16.out.below hb Br_16.out.lt)
        have Ba_17 := Lib.hid (Ba_16.out.below hb Ba_16.out.lt)
        have Bs_17 := Lib.hid (Bs_16.out.below hb Bs_16.out.lt)
        have Bb_17 := Lib.hid (Bb_16.out.below hb Bb_16.out.lt)
        have Bm_17 := Lib.hid (Bm_16.out.below hb Bm_16.out.lt)
        have Bq_17 := Lib.hid (Bq_16.out.below hb Bq_16.out.lt)
        have H_17 := Lib.hid (H_16.out.trans (hb.mono H_16.out.size))
        clear hb H_16 Bx_16 Br_16 Ba_16 Bs_16 Bb_16 Bm_16 Bq_16
        have qq0 := Bq_17.out.c0
        have qq1 := Bq_17.out.c1
        have qq2 := Bq_17.out.c2
        have qx0 := Bx_17.out.c0
        have qx1 := Bx_17.out.c1
        have qx2 := Bx_17.out.c2
        go_wp2_with fail
        go_ret
        exact ⟨rfl, H_17.out⟩
      · go_wp2_with fail
        go_ret
        exact ⟨rfl, H_14.out⟩
    · obtain ⟨rfl, rfl, rfl⟩ := HB.out.none
      have qx0 := Bx_11.out.c0
      have qx1 := Bx_11.out.c1
      have qx2 := Bx_11.out.c2
      have qb0 := Bb_11.out.c0
      have qb1 := Bb_11.out.c1
      have qb2 := Bb_11.out.c2
      go_wp2_with fail
      clear qx0 qx1 qx2 qb0 qb1 qb2
      have hc := Less_no K N 0 0 T [] (.inr not_num) h.in64 (in64 (by decide) (by decide)) (u7) (hw.below H_11.out)
      unfold valV at hc
      refine hc.mono ?_
      rintro e u8 ⟨rfl, hb⟩
      clear hc
      have Bx_12 := Lib.hid (Bx_11.out.below hb Bx_11.out.lt)
      have Br_12 := Lib.hid (Br_11.out.below hb Br_11.out.lt)
      have Ba_12 := Lib.hid (Ba_11.out.below hb Ba_11.out.lt)
      have Bs_12 := Lib.hid (Bs_11.out.below hb Bs_11.out.lt)
      have Bb_12 := Lib.hid (Bb_11.out.below hb Bb_11.out.lt)
      have H_12 := Lib.hid (H_11.out.trans (hb.mono H_11.out.size))
      clear hb H_11 Bx_11 Br_11 Ba_11 Bs_11 Bb_11
      have qx0 := Bx_12.out.c0
      have qx1 := Bx_12.out.c1
      have qx2 := Bx_12.out.c2
      go_wp2_with fail
      clear qx0 qx1 qx2
      have hc := Mul_any h h HM.out rfl (u8) (hw.below H_12.out)
      unfold valV at hc
      refine hc.mono ?_
      rintro e u9 ⟨rfl, hb⟩
      clear hc
      have Bx_13 := Lib.hid (Bx_12.out.below hb Bx_12.out.lt)
      have Br_13 := Lib.hid (Br_12.out.below hb Br_12.out.lt)
      have Ba_13 := Lib.hid (Ba_12.out.below hb Ba_12.out.lt)
      have Bs_13 := Lib.hid (Bs_12.out.below hb Bs_12.out.lt)
      have Bb_13 := Lib.hid (Bb_12.out.below hb Bb_12.out.lt)
      have H_13 := Lib.hid (H_12.out.trans (hb.mono H_12.out.size))
      clear hb H_12 Bx_12 Br_12 Ba_12 Bs_12 Bb_12
      have hb : Below (u9).heap.size (u9) ((u9).alloc (.cells #[.int .i64 M0, .int .i64 M1, .string ⟨M2.toArray⟩] 23)) := (Below.refl _ (u9)).alloc (Nat.le_refl _) _
      have Bnew := VB.new (u9) (.int .i64 M0) (.int .i64 M1) (.string ⟨M2.toArray⟩)
      try simp only [World.size_alloc] at Bnew
      have Bx_14 := Lib.hid (Bx_13.out.below hb Bx_13.out.lt)
      have Br_14 := Lib.hid (Br_13.out.below hb Br_13.out.lt)
      have Ba_14 := Lib.hid (Ba_13.out.below hb Ba_13.out.lt)
      have Bs_14 := Lib.hid (Bs_13.out.below hb Bs_13.out.lt)
      have Bb_14 := Lib.hid (Bb_13.out.below hb Bb_13.out.lt)
      have H_14 := Lib.hid (H_13.out.trans (hb.mono H_13.out.size))
      clear hb H_13 Bx_13 Br_13 Ba_13 Bs_13 Bb_13
      have Bm_14 := Lib.hid Bnew
      clear Bnew
      rcases HM.out.two with rfl | rfl
      · have qm0 := Bm_14.out.c0
        have qm1 := Bm_14.out.c1
        have qm2 := Bm_14.out.c2
        go_wp2_with fail
        clear qm0 qm1 qm2
        have hc := Root_num HM.out.ok x.natAbs (Int.mul_nonneg h0 h0) (isRoot_sq x) (by rw [show ((x.natAbs : Nat) : Int) = x by omega]; exact h) ((u9).alloc (.cells #[.int .i64 M0, .int .i64 M1, .string ⟨M2.toArray⟩] 23)) (hw.below H_14.out)
        unfold valV at hc
        refine hc.mono ?_
        rintro e u10 ⟨rfl, hb⟩
        clear hc
        have Bx_15 := Lib.hid (Bx_14.out.below hb Bx_14.out.lt)
        have Br_15 := Lib.hid (Br_14.out.below hb Br_14.out.lt)
        have Ba_15 := Lib.hid (Ba_14.out.below hb Ba_14.out.lt)
        have Bs_15 := Lib.hid (Bs_14.out.below hb Bs_14.out.lt)
        have Bb_15 := Lib.hid (Bb_14.out.below hb Bb_14.out.lt)
        have Bm_15 := Lib.hid (Bm_14.out.below hb Bm_14.out.lt)
        have H_15 := Lib.hid (H_14.out.trans (hb.mono H_14.out.size))
        clear hb H_14 Bx_14 Br_14 Ba_14 Bs_14 Bb_14 Bm_14
        have hb : Below (u10).heap.size (u10) ((u10).alloc (.cells #[.int .i64 K, .int .i64 N, .string ⟨T.toArray⟩] 23)) := (Below.refl _ (u10)).alloc (Nat.le_refl _) _
        have Bnew := VB.new (u10) (.int .i64 K) (.int .i64 N) (.string ⟨T.toArray⟩)
        try simp only [World.size_alloc] at Bnew
        have Bx_16 := Lib.hid (Bx_15.out.below hb Bx_15.out.lt)
        have Br_16 := Lib.hid (Br_15.out.below hb Br_15.out.lt)
        have Ba_16 := Lib.hid (Ba_15.out.below hb Ba_15.out.lt)
        have Bs_16 := Lib.hid (Bs_15.out.below hb Bs_15.out.lt)
        have Bb_16 := Lib.hid (Bb_15.out.below hb Bb_15.out.lt)
        have Bm_16 := Lib.hid (Bm_15.out.below hb Bm_15.out.lt)
        have H_16 := Lib.hid (H_15.out.trans (hb.mono H_15.out.size))
        clear hb H_15 Bx_15 Br_15 Ba_15 Bs_15 Bb_15 Bm_15
        have Bq_16 := Lib.hid Bnew
        clear Bnew
        have qx0 := Bx_16.out.c0
        have qx1 := Bx_16.out.c1
        have qx2 := Bx_16.out.c2
        go_wp2_with fail
        clear qx0 qx1 qx2
        have hc := negative_num h false (decide_eq_false (by omega)) ((u10).alloc (.cells #[.int .i64 K, .int .i64 N, .string ⟨T.toArray⟩] 23))
        unfold valV at hc
        refine hc.mono ?_
        rintro e u11 ⟨rfl, hb⟩
        clear hc
        have Bx_17 := Lib.hid (Bx_16.out.below hb Bx_16.out.lt)
        have Br_17 := Lib.hid (Br_16.out.below hb Br_16.out.lt)
        have Ba_17 := Lib.hid (Ba_16.out.below hb Ba_16.out.lt)
        have Bs_17 := Lib.hid (Bs_16.out.below hb Bs_16.out.lt)
        have Bb_17 := Lib.hid (Bb_16.out.below hb Bb_16.out.lt)
        have Bm_17 := Lib.hid (Bm_16.out.below hb Bm_16.out.lt)
        have Bq_17 := Lib.hid (Bq_16.out.below hb Bq_16.out.lt)
        have H_17 := Lib.hid (H_16.out.trans (hb.mono H_16.out.size))
        clear hb H_16 Bx_16 Br_16 Ba_16 Bs_16 Bb_16 Bm_16 Bq_16
        have qq0 := Bq_17.out.c0
        have qq1 := Bq_17.out.c1
        have qq2 := Bq_17.out.c2
        have qx0 := Bx_17.out.c0
        have qx1 := Bx_17.out.c1
        have qx2 := Bx_17.out.c2
        go_wp2_with fail
        go_ret
        exact ⟨rfl, H_17.out⟩
      · go_wp2_with fail
        go_ret
        exact ⟨rfl, H_14.out⟩

set_option maxHeartbeats 8000000 in
theorem roots_neg (K N : Int) (T : List UInt8) (x : Int) (h : IsNum K N T x) (h0 : x < 0) (w : World) (hw : Wd w) :
    Calls Tryz.prog 12 #[valV K N T] w fun e w' => e = .returned (.bool true) ∧ Below w.heap.size w w' := by
  obtain ⟨M0, M1, M2, G, hM⟩ := ans_ex (x * x)
  have HM := Lib.hid hM
  clear hM
  have hlx : T.length ≤ 800 := by have := h.len; omega
  obtain ⟨S0, S1, S2, hS⟩ := isNum_few (z := ((x.natAbs : Nat) : Int)) (by have := h.1; unfold Few at *; rwa [Int.natAbs_natCast])
  have H_0 := Lib.hid (Below.refl w.heap.size w)
  unfold valV
  go_enter Tryz.func12, Tryz.ntmps12
  have hb : Below (w).heap.size (w) ((w).alloc (.cells #[.int .i64 K, .int .i64 N, .string ⟨T.toArray⟩] 23)) := (Below.refl _ (w)).alloc (Nat.le_refl _) _
  have Bnew := VB.new (w) (.int .i64 K) (.int .i64 N) (.string ⟨T.toArray⟩)
  try simp only [World.size_alloc] at Bnew
  have H_1 := Lib.hid (H_0.out.trans (hb.mono H_0.out.size))
  clear hb H_0
  have Bx_1 := Lib.hid Bnew
  clear Bnew
  go_wp2_with fail
  have hc := awake_c ((w).alloc (.cells #[.int .i64 K, .int .i64 N, .string ⟨T.toArray⟩] 23)) (hw.below H_1.out)
  unfold valV at hc
  refine hc.mono ?_
  rintro e u1 ⟨rfl, hb⟩
  clear hc
  have Bx_2 := Lib.hid (Bx_1.out.below hb Bx_1.out.lt)
  have H_2 := Lib.hid (H_1.out.trans (hb.mono H_1.out.size))
  clear hb H_1 Bx_1
  have qx0 := Bx_2.out.c0
  have qx1 := Bx_2.out.c1
  have qx2 := Bx_2.out.c2
  go_wp2_with fail
  clear qx0 qx1 qx2
  have hc := short_yes K N T hlx (u1)
  unfold valV at hc
  refine hc.mono ?_
  rintro e u2 ⟨rfl, hb⟩
  clear hc
  have Bx_3 := Lib.hid (Bx_2.out.below hb Bx_2.out.lt)
  have H_3 := Lib.hid (H_2.out.trans (hb.mono H_2.out.size))
  clear hb H_2 Bx_2
  have qx0 := Bx_3.out.c0
  have qx1 := Bx_3.out.c1
  have qx2 := Bx_3.out.c2
  go_wp2_with fail
  clear qx0 qx1 qx2
  have hc := Root_neg K N x T h h0 (u2) (hw.below H_3.out)
  unfold valV at hc
  refine hc.mono ?_
  rintro e u3 ⟨rfl, hb⟩
  clear hc
  have Bx_4 := Lib.hid (Bx_3.out.below hb Bx_3.out.lt)
  have H_4 := Lib.hid (H_3.out.trans (hb.mono H_3.out.size))
  clear hb H_3 Bx_3
  have hb : Below (u3).heap.size (u3) ((u3).alloc (.cells #[.int .i64 0, .int .i64 0, .string ⟨#[]⟩] 23)) := (Below.refl _ (u3)).alloc (Nat.le_refl _) _
  have Bnew := VB.new (u3) (.int .i64 0) (.int .i64 0) (.string ⟨#[]⟩)
  try simp only [World.size_alloc] at Bnew
  have Bx_5 := Lib.hid (Bx_4.out.below hb Bx_4.out.lt)
  have H_5 := Lib.hid (H_4.out.trans (hb.mono H_4.out.size))
  clear hb H_4 Bx_4
  have Br_5 := Lib.hid Bnew
  clear Bnew
  have qx0 := Bx_5.out.c0
  have qx1 := Bx_5.out.c1
  have qx2 := Bx_5.out.c2
  go_wp2_with fail
  clear qx0 qx1 qx2
  have hc := negative_num h true (decide_eq_true h0) ((u3).alloc (.cells #[.int .i64 0, .int .i64 0, .string ⟨#[]⟩] 23))
  unfold valV at hc
  refine hc.mono ?_
  rintro e u4 ⟨rfl, hb⟩
  clear hc
  have Bx_6 := Lib.hid (Bx_5.out.below hb Bx_5.out.lt)
  have Br_6 := Lib.hid (Br_5.out.below hb Br_5.out.lt)
  have H_6 := Lib.hid (H_5.out.trans (hb.mono H_5.out.size))
  clear hb H_5 Bx_5 Br_5
  have qx0 := Bx_6.out.c0
  have qx1 := Bx_6.out.c1
  have qx2 := Bx_6.out.c2
  go_wp2_with fail
  clear qx0 qx1 qx2
  have hc := Mul_any h h HM.out rfl (u4) (hw.below H_6.out)
  unfold valV at hc
  refine hc.mono ?_
  rintro e u5 ⟨rfl, hb⟩
  clear hc
  have Bx_7 := Lib.hid (Bx_6.out.below hb Bx_6.out.lt)
  have Br_7 := Lib.hid (Br_6.out.below hb Br_6.out.lt)
  have H_7 := Lib.hid (H_6.out.trans (hb.mono H_6.out.size))
  clear hb H_6 Bx_6 Br_6
  have hb : Below (u5).heap.size (u5) ((u5).alloc (.cells #[.int .i64 M0, .int .i64 M1, .string ⟨M2.toArray⟩] 23)) := (Below.refl _ (u5)).alloc (Nat.le_refl _) _
  have Bnew := VB.new (u5) (.int .i64 M0) (.int .i64 M1) (.string ⟨M2.toArray⟩)
  try simp only [World.size_alloc] at Bnew
  have Bx_8 := Lib.hid (Bx_7.out.below hb Bx_7.out.lt)
  have Br_8 := Lib.hid (Br_7.out.below hb Br_7.out.lt)
  have H_8 := Lib.hid (H_7.out.trans (hb.mono H_7.out.size))
  clear hb H_7 Bx_7 Br_7
  have Bm_8 := Lib.hid Bnew
  clear Bnew
  rcases HM.out.two with rfl | rfl
  · have qm0 := Bm_8.out.c0
    have qm1 := Bm_8.out.c1
    have qm2 := Bm_8.out.c2
    go_wp2_with fail
    clear qm0 qm1 qm2
    have hc := Root_num HM.out.ok x.natAbs (sq_nonneg x) (isRoot_sq x) hS ((u5).alloc (.cells #[.int .i64 M0, .int .i64 M1, .string ⟨M2.toArray⟩] 23)) (hw.below H_8.out)
    unfold valV at hc
    refine hc.mono ?_
    rintro e u6 ⟨rfl, hb⟩
    clear hc
    have Bx_9 := Lib.hid (Bx_8.out.below hb Bx_8.out.lt)
    have Br_9 := Lib.hid (Br_8.out.below hb Br_8.out.lt)
    have Bm_9 := Lib.hid (Bm_8.out.below hb Bm_8.out.lt)
    have H_9 := Lib.hid (H_8.out.trans (hb.mono H_8.out.size))
    clear hb H_8 Bx_8 Br_8 Bm_8
    have hb : Below (u6).heap.size (u6) ((u6).alloc (.cells #[.int .i64 S0, .int .i64 S1, .string ⟨S2.toArray⟩] 23)) := (Below.refl _ (u6)).alloc (Nat.le_refl _) _
    have Hxq := Lib.hid (show w.heap.size < (u6).heap.size from Bx_9.out.lt)
    have Bnew := VB.new (u6) (.int .i64 S0) (.int .i64 S1) (.string ⟨S2.toArray⟩)
    try simp only [World.size_alloc] at Bnew
    have Bx_10 := Lib.hid (Bx_9.out.below hb Bx_9.out.lt)
    have Br_10 := Lib.hid (Br_9.out.below hb Br_9.out.lt)
    have Bm_10 := Lib.hid (Bm_9.out.below hb Bm_9.out.lt)
    have H_10 := Lib.hid (H_9.out.trans (hb.mono H_9.out.size))
    clear hb H_9 Bx_9 Br_9 Bm_9
    have Bq_10 := Lib.hid Bnew
    clear Bnew
    have qx0 := Bx_10.out.c0
    have qx1 := Bx_10.out.c1
    have qx2 := Bx_10.out.c2
    go_wp2_with fail
    clear qx0 qx1 qx2
    have hc := negative_num h true (decide_eq_true h0) ((u6).alloc (.cells #[.int .i64 S0, .int .i64 S1, .string ⟨S2.toArray⟩] 23))
    unfold valV at hc
    refine hc.mono ?_
    rintro e u7 ⟨rfl, hb⟩
    clear hc
    have Bx_11 := Lib.hid (Bx_10.out.below hb Bx_10.out.lt)
    have Br_11 := Lib.hid (Br_10.out.below hb Br_10.out.lt)
    have Bm_11 := Lib.hid (Bm_10.out.below hb Bm_10.out.lt)
    have Bq_11 := Lib.hid (Bq_10.out.below hb Bq_10.out.lt)
    have H_11 := Lib.hid (H_10.out.trans (hb.mono H_10.out.size))
    clear hb H_10 Bx_10 Br_10 Bm_10 Bq_10
    have HU := Lib.hid (hw.below H_11.out)
    go_upto_region 20 with fail
    go_cut [17] from 122 to 128 (fun p17 wx => ∃ (U' : World), U' = wx ∧ p17 = .int .i64 0 ∧ Hid (VB wx (w.heap.size) (.int .i64 S0) (.int .i64 S1) (.string ⟨S2.toArray⟩)) ∧ Hid (VB wx ((u6).heap.size) (.int .i64 S0) (.int .i64 S1) (.string ⟨S2.toArray⟩)) ∧ Hid (Below w.heap.size w wx))
    case first =>
      have qx0 := Bx_11.out.c0
      have qx1 := Bx_11.out.c1
      have qx2 := Bx_11.out.c2
      go_region_with (first | (go_at_call 43; have hc := number_c 0 (World.drew (u7)); simp only [valV] at hc; refine hc.mono ?_; clear hc; rintro e V1 ⟨rfl, hbA⟩; have hD1 := ((Below.refl _ (u7)).drew).trans hbA; have g1 := Bx_11.out.below hD1 Bx_11.out.lt; have HD1 := Lib.hid hD1; have k0 := g1.c0; have k1 := g1.c1; have k2 := g1.c2; clear g1 hbA hD1) | (go_at_call 27; have hc := Sub_num isNum_zero h (show 0 - x = ((x.natAbs : Nat) : Int) by omega) hS V1 (HU.out.below HD1.out); simp only [valV] at hc; refine hc.mono ?_; clear hc; rintro e V2 ⟨rfl, hbB⟩; have hD2 := HD1.out.trans (hbB.mono HD1.out.size); have g1 := Bx_11.out.below hD2 Bx_11.out.lt; have HD2 := Lib.hid hD2; have HX := Lib.hid g1; have k0 := g1.c0; have k1 := g1.c1; have k2 := g1.c2; have f0 := g1.fz 0; have f1 := g1.fz 1; have f2 := g1.fz 2; clear g1 hbB hD2))
      all_goals
        go_wp2_with fail
        go_meet
        have hlt := (H_11.out.trans (HD2.out.mono H_11.out.size))
        have hq := Bq_11.out.below HD2.out Bq_11.out.lt
        have hxq : w.heap.size ≠ (u6).heap.size := by have := Hxq.out; omega
        exact ⟨_, rfl, by first | rfl | simp [Act.put, go_sem], Lib.hid (HX.out.put _ _ _), Lib.hid (((hq.other ⟨w.heap.size, 0, none⟩ hxq _).other ⟨w.heap.size, 1, none⟩ hxq _).other ⟨w.heap.size, 2, none⟩ hxq _), Lib.hid (below_put3 hlt (Nat.le_refl _) _ _ _)⟩
    case rest =>
      obtain ⟨u8, rfl, rfl, Bx_12, Bq_12, H_12⟩ := hcut
      have qq0 := Bq_12.out.c0
      have qq1 := Bq_12.out.c1
      have qq2 := Bq_12.out.c2
      have qx0 := Bx_12.out.c0
      have qx1 := Bx_12.out.c1
      have qx2 := Bx_12.out.c2
      go_wp2_with fail
      go_ret
      exact ⟨rfl, H_12.out⟩
  · go_wp2_with fail
    go_ret
    exact ⟨rfl, H_8.out⟩

theorem roots_c (K N : Int) (T : List UInt8) (hN : In64Z N) (w : World) (hw : Wd w) :
    Calls Tryz.prog 12 #[valV K N T] w fun e w' => e = .returned (.bool true) ∧ Below w.heap.size w w' := by
  by_cases hx : T.length ≤ 800
  · by_cases h1 : ∃ z, IsNum K N T z
    · obtain ⟨x, h1⟩ := h1
      by_cases h0 : 0 ≤ x
      · exact roots_pos K N T x h1 h0 w hw
      · exact roots_neg K N T x h1 (by omega) w hw
    · exact roots_no K N T hx (fun z hz => h1 ⟨z, hz⟩) hN w hw
  · exact roots_long K N T hx w hw
end Go.Proofs.YthbfbpbppjkoeaaGreatDoor
