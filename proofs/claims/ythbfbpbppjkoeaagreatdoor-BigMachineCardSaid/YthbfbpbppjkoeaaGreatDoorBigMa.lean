/- The walk of BigMachine of package proteuslaw03, case by case. Conditions: those in the statements. -/
import Derived.Test.YthbfbpbppjkoeaaGreatDoorBigLb
namespace Go.Proofs.YthbfbpbppjkoeaaGreatDoor
open Go.RowKit Go.Shelf
set_option exponentiation.threshold 500
set_option maxRecDepth 100000
set_option linter.unusedSimpArgs false
set_option linter.unusedVariables false
attribute [local irreducible] wpQuiet

theorem few_sum {x y : Int} (hx : In64Z x) (hy : In64Z y) : Few (x + y) := few_20 (by unfold In64Z at *; omega)
theorem few_dif {x y : Int} (hx : In64Z x) (hy : In64Z y) : Few (x - y) := few_20 (by unfold In64Z at *; omega)
theorem few_pro {x y : Int} (hx : In64Z x) (hy : In64Z y) : Few (x * y) := by
  rw [few_iff, Int.natAbs_mul]
  have e : (10 : Nat) ^ 19 = 10000000000000000000 := by decide
  have h1 : x.natAbs ≤ 10 ^ 19 := by unfold In64Z at *; omega
  have h2 : y.natAbs ≤ 10 ^ 19 := by unfold In64Z at *; omega
  refine Nat.lt_of_le_of_lt (Nat.mul_le_mul h1 h2) ?_
  rw [← Nat.pow_add]
  exact Nat.pow_lt_pow_right (by decide) (by decide)
/-- The cells of a result: the machine's own, or none of its. -/
theorem mach_cells {z A B s : Int} {S : List UInt8} {i : Bool} (h : IsNum A B S z) (hs : wrap64 z = s) (hi : decide (¬ In64Z z) = i) :
    (A = 1 ∧ B = z ∧ S = [] ∧ s = z ∧ i = false) ∨ (A = 2 ∧ B = 0 ∧ i = true) := by
  rcases h.cells with ⟨h0, h1, h2, h3⟩ | ⟨h0, h1, h2, h3⟩
  · refine .inl ⟨h1, h2, h3, ?_, by rw [← hi]; exact decide_eq_false (fun e => e h0)⟩
    unfold In64Z at h0; unfold wrap64 at hs; omega
  · exact .inr ⟨h1, h2, by rw [← hi]; exact decide_eq_true h0⟩
theorem sum_cases {x y s : Int} {i : Bool} (hx : In64Z x) (hy : In64Z y) (hs : wrap64 (x + y) = s) (hi : decide (¬ In64Z (x + y)) = i) :
    (decide (0 < x) = true ∧ decide (0 < y) = true ∧ decide (s < 0) = true ∧ i = true) ∨
    (decide (0 < x) = true ∧ decide (0 < y) = true ∧ decide (s < 0) = false ∧ decide (x < 0) = false ∧ i = false) ∨
    (decide (0 < x) = true ∧ decide (0 < y) = false ∧ decide (x < 0) = false ∧ i = false) ∨
    (decide (0 < x) = false ∧ decide (x < 0) = true ∧ decide (y < 0) = true ∧ decide (0 ≤ s) = true ∧ i = true) ∨
    (decide (0 < x) = false ∧ decide (x < 0) = true ∧ decide (y < 0) = true ∧ decide (0 ≤ s) = false ∧ i = false) ∨
    (decide (0 < x) = false ∧ decide (x < 0) = true ∧ decide (y < 0) = false ∧ i = false) ∨
    (decide (0 < x) = false ∧ decide (x < 0) = false ∧ i = false) := by
  subst hi
  unfold In64Z wrap64 at *
  simp only [decide_eq_true_eq, decide_eq_false_iff_not]
  omega
theorem dif_cases {x y d : Int} {j : Bool} (hx : In64Z x) (hy : In64Z y) (hd : wrap64 (x - y) = d) (hj : decide (¬ In64Z (x - y)) = j) :
    (decide (x < 0) = true ∧ decide (y < 0) = false ∧ decide (d < 0) = true ∧ j = false) ∨
    (decide (x < 0) = true ∧ decide (y < 0) = false ∧ decide (d < 0) = false ∧ j = true) ∨
    (decide (x < 0) = false ∧ decide (y < 0) = true ∧ decide (d < 0) = false ∧ j = false) ∨
    (decide (x < 0) = false ∧ decide (y < 0) = true ∧ decide (d < 0) = true ∧ j = true) ∨
    (decide (x < 0) = true ∧ decide (y < 0) = true ∧ j = false) ∨
    (decide (x < 0) = false ∧ decide (y < 0) = false ∧ j = false) := by
  subst hj
  unfold In64Z wrap64 at *
  simp only [decide_eq_true_eq, decide_eq_false_iff_not]
  omega
/-- A quotient that is the factor: then nothing was lost, unless it is the one case of -1. -/
theorem quo_back {x y p q : Int} (hx : In64Z x) (hy : In64Z y) (h0 : x ≠ 0) (hp : wrap64 (x * y) = p) (hq : wrap64 (p.tdiv x) = q) :
    (In64Z (x * y) → q = y) ∧ (q = y → ¬ In64Z (x * y) → x = -1 ∧ y = -9223372036854775808) := by
  have hr := Int.mul_tdiv_add_tmod p x
  have hrl : (p.tmod x).natAbs < x.natAbs := by rw [Int.natAbs_tmod]; exact Nat.mod_lt _ (by omega)
  have hpi : In64Z p := by rw [← hp]; unfold In64Z wrap64; omega
  constructor
  · intro hi
    have : p = x * y := by rw [← hp]; unfold In64Z at hi; unfold wrap64; omega
    rw [this, Int.mul_tdiv_cancel_left y h0] at hq
    rw [← hq]; unfold In64Z at hy; unfold wrap64; omega
  · intro hqy hni
    by_cases h1 : x = -1
    · subst h1
      unfold In64Z wrap64 at *
      omega
    · exfalso
      by_cases h2 : x = 1
      · subst h2; rw [Int.one_mul] at hni; exact hni hy
      · have hbig : 2 ≤ x.natAbs := by omega
        have hql : (p.tdiv x).natAbs ≤ p.natAbs / 2 := by
          rw [Int.natAbs_tdiv]
          exact Nat.div_le_div_left hbig (by decide)
        have hq2 : p.tdiv x = q := by
          rw [← hq]; unfold In64Z at hpi; unfold wrap64; omega
        rw [hq2, hqy] at hr
        unfold In64Z wrap64 at *
        omega
theorem pro_cases {x y p : Int} {k : Bool} (hx : In64Z x) (hy : In64Z y) (hp : wrap64 (x * y) = p) (hk : decide (¬ In64Z (x * y)) = k) :
    ((x != 0) = false ∧ k = false) ∨
    ((x != 0) = true ∧ x ≠ 0 ∧ ∃ q, wrap64 (p.tdiv x) = q ∧ (q != y) = true ∧ k = true) ∨
    ((x != 0) = true ∧ x ≠ 0 ∧ ∃ q, wrap64 (p.tdiv x) = q ∧ (q != y) = false ∧ (x == -1) = true ∧ (y == -9223372036854775808) = true ∧ k = true) ∨
    ((x != 0) = true ∧ x ≠ 0 ∧ ∃ q, wrap64 (p.tdiv x) = q ∧ (q != y) = false ∧ (x == -1) = true ∧ (y == -9223372036854775808) = false ∧ k = false) ∨
    ((x != 0) = true ∧ x ≠ 0 ∧ ∃ q, wrap64 (p.tdiv x) = q ∧ (q != y) = false ∧ (x == -1) = false ∧ k = false) := by
  subst hk
  by_cases h0 : x = 0
  · left
    subst h0
    refine ⟨rfl, decide_eq_false (fun e => e ?_)⟩
    rw [Int.zero_mul]; exact ⟨by decide, by decide⟩
  · have hx0 : (x != 0) = true := by rw [bne_iff_ne]; exact h0
    obtain ⟨h1, h2⟩ := quo_back hx hy h0 hp rfl
    right
    by_cases hq : wrap64 (p.tdiv x) = y
    · have hq' : (wrap64 (p.tdiv x) != y) = false := by rw [hq]; simp
      by_cases hi : In64Z (x * y)
      · by_cases hm : x = -1
        · refine .inr (.inr (.inl ⟨hx0, h0, _, rfl, hq', beq_iff_eq.2 hm, ?_, decide_eq_false (fun e => e hi)⟩))
          rw [beq_eq_false_iff_ne]
          rintro rfl
          subst hm
          exact absurd hi.2 (by decide)
        · exact .inr (.inr (.inr ⟨hx0, h0, _, rfl, hq', beq_eq_false_iff_ne.2 hm, decide_eq_false (fun e => e hi)⟩))
      · obtain ⟨a, b⟩ := h2 hq hi
        exact .inr (.inl ⟨hx0, h0, _, rfl, hq', beq_iff_eq.2 a, beq_iff_eq.2 b, decide_eq_true hi⟩)
    · exact .inl ⟨hx0, h0, _, rfl, by rw [bne_iff_ne]; exact hq, decide_eq_true (fun hi => hq (h1 hi))⟩
set_option maxHeartbeats 4000000 in
theorem mach_c (x y : Int) (hx : In64Z x) (hy : In64Z y) (w : World) (hw : Wd w) :
    Calls Tryz.prog 13 #[.int .i64 x, .int .i64 y] w fun e w' => e = .returned (.bool true) ∧ Below w.heap.size w w' := by
  obtain ⟨A0, A1, A2, ha⟩ := isNum_few (few_sum hx hy)
  obtain ⟨B0, B1, B2, hb⟩ := isNum_few (few_dif hx hy)
  obtain ⟨C0, C1, C2, hc⟩ := isNum_few (few_pro hx hy)
  have hX := isNum_int hx
  have hY := isNum_int hy
  obtain ⟨s, hs⟩ : ∃ s, wrap64 (x + y) = s := ⟨_, rfl⟩
  obtain ⟨d, hd⟩ : ∃ d, wrap64 (x - y) = d := ⟨_, rfl⟩
  obtain ⟨p, hp⟩ : ∃ p, wrap64 (x * y) = p := ⟨_, rfl⟩
  obtain ⟨i, hi⟩ : ∃ i, decide (¬ In64Z (x + y)) = i := ⟨_, rfl⟩
  obtain ⟨j, hj⟩ : ∃ j, decide (¬ In64Z (x - y)) = j := ⟨_, rfl⟩
  obtain ⟨k, hk⟩ : ∃ k, decide (¬ In64Z (x * y)) = k := ⟨_, rfl⟩
  have HS := Lib.hid hs
  have HD := Lib.hid hd
  have HP := Lib.hid hp
  have HI := Lib.hid hi
  have HJ := Lib.hid hj
  have HK := Lib.hid hk
  have HSC := Lib.hid (sum_cases hx hy hs hi)
  have HDC := Lib.hid (dif_cases hx hy hd hj)
  have HPC := Lib.hid (pro_cases hx hy hp hk)
  have HA := Lib.hid (mach_cells ha hs hi)
  have HB := Lib.hid (mach_cells hb hd hj)
  have HC := Lib.hid (mach_cells hc hp hk)
  clear hi hj hk hs hd hp
  have H_0 := Lib.hid (Below.refl w.heap.size w)
  try unfold valV
  go_enter Tryz.func13, Tryz.ntmps13
  go_wp2_with fail
  have hc := awake_c (w) (hw.below H_0.out)
  unfold valV at hc
  refine hc.mono ?_
  rintro e u1 ⟨rfl, hb⟩
  clear hc
  have H_1 := Lib.hid (H_0.out.trans (hb.mono H_0.out.size))
  clear hb H_0
  go_wp2_with fail
  have hc := number_c x (u1)
  unfold valV at hc
  refine hc.mono ?_
  rintro e u2 ⟨rfl, hb⟩
  clear hc
  have H_2 := Lib.hid (H_1.out.trans (hb.mono H_1.out.size))
  clear hb H_1
  go_wp2_with fail
  have hc := number_c y (u2)
  unfold valV at hc
  refine hc.mono ?_
  rintro e u3 ⟨rfl, hb⟩
  clear hc
  have H_3 := Lib.hid (H_2.out.trans (hb.mono H_2.out.size))
  clear hb H_2
  go_wp2_with fail
  have hc := Add_num hX hY rfl ha (u3) (hw.below H_3.out)
  unfold valV at hc
  refine hc.mono ?_
  rintro e u4 ⟨rfl, hb⟩
  clear hc
  have H_4 := Lib.hid (H_3.out.trans (hb.mono H_3.out.size))
  clear hb H_3
  have hb : Below (u4).heap.size (u4) ((u4).alloc (.cells #[.int .i64 A0, .int .i64 A1, .string ⟨A2.toArray⟩] 23)) := (Below.refl _ (u4)).alloc (Nat.le_refl _) _
  have Bnew := VB.new (u4) (.int .i64 A0) (.int .i64 A1) (.string ⟨A2.toArray⟩)
  try simp only [World.size_alloc] at Bnew
  have H_5 := Lib.hid (H_4.out.trans (hb.mono H_4.out.size))
  clear hb H_4
  have Ba_5 := Lib.hid Bnew
  clear Bnew
  go_wp2_with fail
  have hc := number_c x ((u4).alloc (.cells #[.int .i64 A0, .int .i64 A1, .string ⟨A2.toArray⟩] 23))
  unfold valV at hc
  refine hc.mono ?_
  rintro e u5 ⟨rfl, hb⟩
  clear hc
  have Ba_6 := Lib.hid (Ba_5.out.below hb Ba_5.out.lt)
  have H_6 := Lib.hid (H_5.out.trans (hb.mono H_5.out.size))
  clear hb H_5 Ba_5
  go_wp2_with fail
  have hc := number_c y (u5)
  unfold valV at hc
  refine hc.mono ?_
  rintro e u6 ⟨rfl, hb⟩
  clear hc
  have Ba_7 := Lib.hid (Ba_6.out.below hb Ba_6.out.lt)
  have H_7 := Lib.hid (H_6.out.trans (hb.mono H_6.out.size))
  clear hb H_6 Ba_6
  go_wp2_with fail
  have hc := Sub_num hX hY rfl hb (u6) (hw.below H_7.out)
  unfold valV at hc
  refine hc.mono ?_
  rintro e u7 ⟨rfl, hb⟩
  clear hc
  have Ba_8 := Lib.hid (Ba_7.out.below hb Ba_7.out.lt)
  have H_8 := Lib.hid (H_7.out.trans (hb.mono H_7.out.size))
  clear hb H_7 Ba_7
  have hb : Below (u7).heap.size (u7) ((u7).alloc (.cells #[.int .i64 B0, .int .i64 B1, .string ⟨B2.toArray⟩] 23)) := (Below.refl _ (u7)).alloc (Nat.le_refl _) _
  have Bnew := VB.new (u7) (.int .i64 B0) (.int .i64 B1) (.string ⟨B2.toArray⟩)
  try simp only [World.size_alloc] at Bnew
  have Ba_9 := Lib.hid (Ba_8.out.below hb Ba_8.out.lt)
  have H_9 := Lib.hid (H_8.out.trans (hb.mono H_8.out.size))
  clear hb H_8 Ba_8
  have Bb_9 := Lib.hid Bnew
  clear Bnew
  go_wp2_with fail
  have hc := number_c x ((u7).alloc (.cells #[.int .i64 B0, .int .i64 B1, .string ⟨B2.toArray⟩] 23))
  unfold valV at hc
  refine hc.mono ?_
  rintro e u8 ⟨rfl, hb⟩
  clear hc
  have Ba_10 := Lib.hid (Ba_9.out.below hb Ba_9.out.lt)
  have Bb_10 := Lib.hid (Bb_9.out.below hb Bb_9.out.lt)
  have H_10 := Lib.hid (H_9.out.trans (hb.mono H_9.out.size))
  clear hb H_9 Ba_9 Bb_9
  go_wp2_with fail
  have hc := number_c y (u8)
  unfold valV at hc
  refine hc.mono ?_
  rintro e u9 ⟨rfl, hb⟩
  clear hc
  have Ba_11 := Lib.hid (Ba_10.out.below hb Ba_10.out.lt)
  have Bb_11 := Lib.hid (Bb_10.out.below hb Bb_10.out.lt)
  have H_11 := Lib.hid (H_10.out.trans (hb.mono H_10.out.size))
  clear hb H_10 Ba_10 Bb_10
  go_wp2_with fail
  have hc := Mul_num hX hY rfl hc (u9) (hw.below H_11.out)
  unfold valV at hc
  refine hc.mono ?_
  rintro e u10 ⟨rfl, hb⟩
  clear hc
  have Ba_12 := Lib.hid (Ba_11.out.below hb Ba_11.out.lt)
  have Bb_12 := Lib.hid (Bb_11.out.below hb Bb_11.out.lt)
  have H_12 := Lib.hid (H_11.out.trans (hb.mono H_11.out.size))
  clear hb H_11 Ba_11 Bb_11
  have hb : Below (u10).heap.size (u10) ((u10).alloc (.cells #[.int .i64 C0, .int .i64 C1, .string ⟨C2.toArray⟩] 23)) := (Below.refl _ (u10)).alloc (Nat.le_refl _) _
  have Bnew := VB.new (u10) (.int .i64 C0) (.int .i64 C1) (.string ⟨C2.toArray⟩)
  try simp only [World.size_alloc] at Bnew
  have Ba_13 := Lib.hid (Ba_12.out.below hb Ba_12.out.lt)
  have Bb_13 := Lib.hid (Bb_12.out.below hb Bb_12.out.lt)
  have H_13 := Lib.hid (H_12.out.trans (hb.mono H_12.out.size))
  clear hb H_12 Ba_12 Bb_12
  have Bc_13 := Lib.hid Bnew
  clear Bnew
  go_upto_region 8 with fail
  simp only [HS.out]
  go_cut [13] from 54 to 76 (fun p13 wx => p13 = .bool i ∧ (u10).alloc (.cells #[.int .i64 C0, .int .i64 C1, .string ⟨C2.toArray⟩] 23) = wx)
  case first =>
    rcases HSC.out with ⟨e1, e2, e3, rfl⟩ | ⟨e1, e2, e3, e4, rfl⟩ | ⟨e1, e2, e4, rfl⟩ | ⟨e1, e4, e5, e6, rfl⟩ | ⟨e1, e4, e5, e6, rfl⟩ | ⟨e1, e4, e5, rfl⟩ | ⟨e1, e4, rfl⟩
    all_goals (go_wp2_with fail; go_meet; exact ⟨rfl, rfl⟩)
  case rest =>
    obtain ⟨rfl, rfl⟩ := hcut
    go_upto_region 9 with fail
    go_cut [88] from 76 to 89 (fun p88 wx => ∃ (U' : World), U' = wx ∧ p88 = .bool false ∧ Hid (Below ((u10).alloc (.cells #[.int .i64 C0, .int .i64 C1, .string ⟨C2.toArray⟩] 23)).heap.size ((u10).alloc (.cells #[.int .i64 C0, .int .i64 C1, .string ⟨C2.toArray⟩] 23)) wx))
    case first =>
      rcases HA.out with ⟨rfl, rfl, rfl, rfl, rfl⟩ | ⟨rfl, rfl, rfl⟩
      · refine region_grown (by kernel_rfl) ?_
        apply quiet_wanted
        · go_simp
        · intro W hW; unfold Oper.quietAt; go_simp; (try exact ⟨rfl, rfl⟩); (try rfl)
        (try simp only [Act.put, List.setIfInBounds_toArray, List.set_cons_zero, List.set_cons_succ])
        apply quiet_wanted
        · go_simp
        · intro W hW; have hV := Ba_13.out.below hW Ba_13.out.lt; have c0 := hV.c0; have c1 := hV.c1; have c2 := hV.c2; clear hV; unfold Oper.quietAt; go_simp; (try exact ⟨rfl, rfl⟩); (try rfl)
        (try simp only [Act.put, List.setIfInBounds_toArray, List.set_cons_zero, List.set_cons_succ])
        apply quiet_wanted
        · go_simp
        · intro W hW; unfold Oper.quietAt; go_simp; (try exact ⟨rfl, rfl⟩); (try rfl)
        (try simp only [Act.put, List.setIfInBounds_toArray, List.set_cons_zero, List.set_cons_succ])
        apply quiet_wanted
        · go_simp
        · intro W hW; unfold Oper.quietAt; go_simp; have hc := number_c (x + y) W; unfold valV at hc; exact hc.mono fun e w' hr => ⟨hr.1, Grown.trans hW hr.2⟩
        (try simp only [Act.put, List.setIfInBounds_toArray, List.set_cons_zero, List.set_cons_succ])
        apply quiet_wanted
        · go_simp
        · intro W hW; unfold Oper.quietAt; go_simp; (try exact ⟨rfl, rfl⟩); (try rfl)
        (try simp only [Act.put, List.setIfInBounds_toArray, List.set_cons_zero, List.set_cons_succ])
        apply quiet_wanted
        · go_simp
        · intro W hW; unfold Oper.quietAt; go_simp; (try exact ⟨rfl, rfl⟩); (try rfl)
        (try simp only [Act.put, List.setIfInBounds_toArray, List.set_cons_zero, List.set_cons_succ])
        apply quiet_wanted
        · go_simp
        · intro W hW; unfold Oper.quietAt; go_simp; (try exact ⟨rfl, rfl⟩); (try rfl)
        (try simp only [Act.put, List.setIfInBounds_toArray, List.set_cons_zero, List.set_cons_succ])
        apply quiet_wanted
        · go_simp
        · intro W hW; unfold Oper.quietAt; go_simp; (try exact ⟨rfl, rfl⟩); (try rfl)
        (try simp only [Act.put, List.setIfInBounds_toArray, List.set_cons_zero, List.set_cons_succ])
        apply quiet_wanted
        · go_simp
        · intro W hW; unfold Oper.quietAt; go_simp; (try exact ⟨rfl, rfl⟩); (try rfl)
        (try simp only [Act.put, List.setIfInBounds_toArray, List.set_cons_zero, List.set_cons_succ])
        apply quiet_wanted
        · go_simp
        · intro W hW; have hV := Ba_13.out.below hW Ba_13.out.lt; have c0 := hV.c0; have c1 := hV.c1; have c2 := hV.c2; clear hV; unfold Oper.quietAt; go_simp; (try exact ⟨rfl, rfl⟩); (try rfl)
        (try simp only [Act.put, List.setIfInBounds_toArray, List.set_cons_zero, List.set_cons_succ])
        apply quiet_wanted
        · go_simp
        · intro W hW; unfold Oper.quietAt; go_simp; (try exact ⟨rfl, rfl⟩); (try rfl)
        (try simp only [Act.put, List.setIfInBounds_toArray, List.set_cons_zero, List.set_cons_succ])
        apply quiet_wanted
        · go_simp
        · intro W hW; unfold Oper.quietAt; go_simp; (try exact ⟨rfl, rfl⟩); (try rfl)
        (try simp only [Act.put, List.setIfInBounds_toArray, List.set_cons_zero, List.set_cons_succ])
        apply quiet_wanted
        · go_simp
        · intro W hW; unfold Oper.quietAt; go_simp; (try exact ⟨rfl, rfl⟩); (try rfl)
        (try simp only [Act.put, List.setIfInBounds_toArray, List.set_cons_zero, List.set_cons_succ])
        refine wpQuiet_nil ?_
        intro u11 hb
        unfold Grown at hb
        have HG := Lib.hid hb
        have Ba_14 := Lib.hid (Ba_13.out.below hb Ba_13.out.lt)
        have Bb_14 := Lib.hid (Bb_13.out.below hb Bb_13.out.lt)
        have Bc_14 := Lib.hid (Bc_13.out.below hb Bc_13.out.lt)
        have H_14 := Lib.hid (H_13.out.trans (hb.mono H_13.out.size))
        clear hb H_13 Ba_13 Bb_13 Bc_13
        go_wp2_with fail
        go_meet
        exact ⟨_, rfl, rfl, HG⟩
      · refine region_grown (by kernel_rfl) ?_
        apply quiet_wanted
        · go_simp
        · intro W hW; unfold Oper.quietAt; go_simp; (try exact ⟨rfl, rfl⟩); (try rfl)
        (try simp only [Act.put, List.setIfInBounds_toArray, List.set_cons_zero, List.set_cons_succ])
        apply quiet_wanted
        · go_simp
        · intro W hW; have hV := Ba_13.out.below hW Ba_13.out.lt; have c0 := hV.c0; have c1 := hV.c1; have c2 := hV.c2; clear hV; unfold Oper.quietAt; go_simp; (try exact ⟨rfl, rfl⟩); (try rfl)
        (try simp only [Act.put, List.setIfInBounds_toArray, List.set_cons_zero, List.set_cons_succ])
        apply quiet_wanted
        · go_simp
        · intro W hW; unfold Oper.quietAt; go_simp; (try exact ⟨rfl, rfl⟩); (try rfl)
        (try simp only [Act.put, List.setIfInBounds_toArray, List.set_cons_zero, List.set_cons_succ])
        apply quiet_wanted
        · go_simp
        · intro W hW; unfold Oper.quietAt; go_simp; have hc := number_c s W; unfold valV at hc; exact hc.mono fun e w' hr => ⟨hr.1, Grown.trans hW hr.2⟩
        (try simp only [Act.put, List.setIfInBounds_toArray, List.set_cons_zero, List.set_cons_succ])
        apply quiet_wanted
        · go_simp
        · intro W hW; unfold Oper.quietAt; go_simp; (try exact ⟨rfl, rfl⟩); (try rfl)
        (try simp only [Act.put, List.setIfInBounds_toArray, List.set_cons_zero, List.set_cons_succ])
        apply quiet_wanted
        · go_simp
        · intro W hW; unfold Oper.quietAt; go_simp; (try exact ⟨rfl, rfl⟩); (try rfl)
        (try simp only [Act.put, List.setIfInBounds_toArray, List.set_cons_zero, List.set_cons_succ])
        apply quiet_wanted
        · go_simp
        · intro W hW; unfold Oper.quietAt; go_simp; (try exact ⟨rfl, rfl⟩); (try rfl)
        (try simp only [Act.put, List.setIfInBounds_toArray, List.set_cons_zero, List.set_cons_succ])
        apply quiet_wanted
        · go_simp
        · intro W hW; unfold Oper.quietAt; go_simp; (try exact ⟨rfl, rfl⟩); (try rfl)
        (try simp only [Act.put, List.setIfInBounds_toArray, List.set_cons_zero, List.set_cons_succ])
        apply quiet_wanted
        · go_simp
        · intro W hW; unfold Oper.quietAt; go_simp; (try exact ⟨rfl, rfl⟩); (try rfl)
        (try simp only [Act.put, List.setIfInBounds_toArray, List.set_cons_zero, List.set_cons_succ])
        apply quiet_wanted
        · go_simp
        · intro W hW; have hV := Ba_13.out.below hW Ba_13.out.lt; have c0 := hV.c0; have c1 := hV.c1; have c2 := hV.c2; clear hV; unfold Oper.quietAt; go_simp; (try exact ⟨rfl, rfl⟩); (try rfl)
        (try simp only [Act.put, List.setIfInBounds_toArray, List.set_cons_zero, List.set_cons_succ])
        apply quiet_wanted
        · go_simp
        · intro W hW; unfold Oper.quietAt; go_simp; (try exact ⟨rfl, rfl⟩); (try rfl)
        (try simp only [Act.put, List.setIfInBounds_toArray, List.set_cons_zero, List.set_cons_succ])
        apply quiet_wanted
        · go_simp
        · intro W hW; unfold Oper.quietAt; go_simp; (try exact ⟨rfl, rfl⟩); (try rfl)
        (try simp only [Act.put, List.setIfInBounds_toArray, List.set_cons_zero, List.set_cons_succ])
        apply quiet_wanted
        · go_simp
        · intro W hW; unfold Oper.quietAt; go_simp; (try exact ⟨rfl, rfl⟩); (try rfl)
        (try simp only [Act.put, List.setIfInBounds_toArray, List.set_cons_zero, List.set_cons_succ])
        refine wpQuiet_nil ?_
        intro u11 hb
        unfold Grown at hb
        have HG := Lib.hid hb
        have Ba_14 := Lib.hid (Ba_13.out.below hb Ba_13.out.lt)
        have Bb_14 := Lib.hid (Bb_13.out.below hb Bb_13.out.lt)
        have Bc_14 := Lib.hid (Bc_13.out.below hb Bc_13.out.lt)
        have H_14 := Lib.hid (H_13.out.trans (hb.mono H_13.out.size))
        clear hb H_13 Ba_13 Bb_13 Bc_13
        go_wp2_with fail
        go_meet
        exact ⟨_, rfl, rfl, HG⟩
    case rest =>
      obtain ⟨u60, rfl, rfl, hbn⟩ := hcut
      have hb9 := hbn.out
      clear hbn
      have Ba_14 := Lib.hid (Ba_13.out.below hb9 Ba_13.out.lt)
      have Bb_14 := Lib.hid (Bb_13.out.below hb9 Bb_13.out.lt)
      have Bc_14 := Lib.hid (Bc_13.out.below hb9 Bc_13.out.lt)
      have H_14 := Lib.hid (H_13.out.trans (hb9.mono H_13.out.size))
      clear hb9 H_13 Ba_13 Bb_13 Bc_13
      go_upto_region 12 with fail
      simp only [HD.out]
      go_cut [13] from 92 to 104 (fun p13 wx => p13 = .bool j ∧ u60 = wx)
      case first =>
        rcases HDC.out with ⟨e1, e2, e3, rfl⟩ | ⟨e1, e2, e3, rfl⟩ | ⟨e1, e2, e3, rfl⟩ | ⟨e1, e2, e3, rfl⟩ | ⟨e1, e2, rfl⟩ | ⟨e1, e2, rfl⟩
        all_goals (go_wp2_with fail; go_meet; exact ⟨rfl, rfl⟩)
      case rest =>
        obtain ⟨rfl, rfl⟩ := hcut
        go_upto_region 13 with fail
        go_cut [116] from 104 to 117 (fun p116 wx => ∃ (U' : World), U' = wx ∧ p116 = .bool false ∧ Hid (Below (u60).heap.size (u60) wx))
        case first =>
          rcases HB.out with ⟨rfl, rfl, rfl, rfl, rfl⟩ | ⟨rfl, rfl, rfl⟩
          · refine region_grown (by kernel_rfl) ?_
            apply quiet_wanted
            · go_simp
            · intro W hW; unfold Oper.quietAt; go_simp; (try exact ⟨rfl, rfl⟩); (try rfl)
            (try simp only [Act.put, List.setIfInBounds_toArray, List.set_cons_zero, List.set_cons_succ])
            apply quiet_wanted
            · go_simp
            · intro W hW; have hV := Bb_14.out.below hW Bb_14.out.lt; have c0 := hV.c0; have c1 := hV.c1; have c2 := hV.c2; clear hV; unfold Oper.quietAt; go_simp; (try exact ⟨rfl, rfl⟩); (try rfl)
            (try simp only [Act.put, List.setIfInBounds_toArray, List.set_cons_zero, List.set_cons_succ])
            apply quiet_wanted
            · go_simp
            · intro W hW; unfold Oper.quietAt; go_simp; (try exact ⟨rfl, rfl⟩); (try rfl)
            (try simp only [Act.put, List.setIfInBounds_toArray, List.set_cons_zero, List.set_cons_succ])
            apply quiet_wanted
            · go_simp
            · intro W hW; unfold Oper.quietAt; go_simp; have hc := number_c (x - y) W; unfold valV at hc; exact hc.mono fun e w' hr => ⟨hr.1, Grown.trans hW hr.2⟩
            (try simp only [Act.put, List.setIfInBounds_toArray, List.set_cons_zero, List.set_cons_succ])
            apply quiet_wanted
            · go_simp
            · intro W hW; unfold Oper.quietAt; go_simp; (try exact ⟨rfl, rfl⟩); (try rfl)
            (try simp only [Act.put, List.setIfInBounds_toArray, List.set_cons_zero, List.set_cons_succ])
            apply quiet_wanted
            · go_simp
            · intro W hW; unfold Oper.quietAt; go_simp; (try exact ⟨rfl, rfl⟩); (try rfl)
            (try simp only [Act.put, List.setIfInBounds_toArray, List.set_cons_zero, List.set_cons_succ])
            apply quiet_wanted
            · go_simp
            · intro W hW; unfold Oper.quietAt; go_simp; (try exact ⟨rfl, rfl⟩); (try rfl)
            (try simp only [Act.put, List.setIfInBounds_toArray, List.set_cons_zero, List.set_cons_succ])
            apply quiet_wanted
            · go_simp
            · intro W hW; unfold Oper.quietAt; go_simp; (try exact ⟨rfl, rfl⟩); (try rfl)
            (try simp only [Act.put, List.setIfInBounds_toArray, List.set_cons_zero, List.set_cons_succ])
            apply quiet_wanted
            · go_simp
            · intro W hW; unfold Oper.quietAt; go_simp; (try exact ⟨rfl, rfl⟩); (try rfl)
            (try simp only [Act.put, List.setIfInBounds_toArray, List.set_cons_zero, List.set_cons_succ])
            apply quiet_wanted
            · go_simp
            · intro W hW; have hV := Bb_14.out.below hW Bb_14.out.lt; have c0 := hV.c0; have c1 := hV.c1; have c2 := hV.c2; clear hV; unfold Oper.quietAt; go_simp; (try exact ⟨rfl, rfl⟩); (try rfl)
            (try simp only [Act.put, List.setIfInBounds_toArray, List.set_cons_zero, List.set_cons_succ])
            apply quiet_wanted
            · go_simp
            · intro W hW; unfold Oper.quietAt; go_simp; (try exact ⟨rfl, rfl⟩); (try rfl)
            (try simp only [Act.put, List.setIfInBounds_toArray, List.set_cons_zero, List.set_cons_succ])
            apply quiet_wanted
            · go_simp
            · intro W hW; unfold Oper.quietAt; go_simp; (try exact ⟨rfl, rfl⟩); (try rfl)
            (try simp only [Act.put, List.setIfInBounds_toArray, List.set_cons_zero, List.set_cons_succ])
            apply quiet_wanted
            · go_simp
            · intro W hW; unfold Oper.quietAt; go_simp; (try exact ⟨rfl, rfl⟩); (try rfl)
            (try simp only [Act.put, List.setIfInBounds_toArray, List.set_cons_zero, List.set_cons_succ])
            refine wpQuiet_nil ?_
            intro u61 hb
            unfold Grown at hb
            have HG := Lib.hid hb
            have Ba_15 := Lib.hid (Ba_14.out.below hb Ba_14.out.lt)
            have Bb_15 := Lib.hid (Bb_14.out.below hb Bb_14.out.lt)
            have Bc_15 := Lib.hid (Bc_14.out.below hb Bc_14.out.lt)
            have H_15 := Lib.hid (H_14.out.trans (hb.mono H_14.out.size))
            clear hb H_14 Ba_14 Bb_14 Bc_14
            go_wp2_with fail
            go_meet
            exact ⟨_, rfl, rfl, HG⟩
          · refine region_grown (by kernel_rfl) ?_
            apply quiet_wanted
            · go_simp
            · intro W hW; unfold Oper.quietAt; go_simp; (try exact ⟨rfl, rfl⟩); (try rfl)
            (try simp only [Act.put, List.setIfInBounds_toArray, List.set_cons_zero, List.set_cons_succ])
            apply quiet_wanted
            · go_simp
            · intro W hW; have hV := Bb_14.out.below hW Bb_14.out.lt; have c0 := hV.c0; have c1 := hV.c1; have c2 := hV.c2; clear hV; unfold Oper.quietAt; go_simp; (try exact ⟨rfl, rfl⟩); (try rfl)
            (try simp only [Act.put, List.setIfInBounds_toArray, List.set_cons_zero, List.set_cons_succ])
            apply quiet_wanted
            · go_simp
            · intro W hW; unfold Oper.quietAt; go_simp; (try exact ⟨rfl, rfl⟩); (try rfl)
            (try simp only [Act.put, List.setIfInBounds_toArray, List.set_cons_zero, List.set_cons_succ])
            apply quiet_wanted
            · go_simp
            · intro W hW; unfold Oper.quietAt; go_simp; have hc := number_c d W; unfold valV at hc; exact hc.mono fun e w' hr => ⟨hr.1, Grown.trans hW hr.2⟩
            (try simp only [Act.put, List.setIfInBounds_toArray, List.set_cons_zero, List.set_cons_succ])
            apply quiet_wanted
            · go_simp
            · intro W hW; unfold Oper.quietAt; go_simp; (try exact ⟨rfl, rfl⟩); (try rfl)
            (try simp only [Act.put, List.setIfInBounds_toArray, List.set_cons_zero, List.set_cons_succ])
            apply quiet_wanted
            · go_simp
            · intro W hW; unfold Oper.quietAt; go_simp; (try exact ⟨rfl, rfl⟩); (try rfl)
            (try simp only [Act.put, List.setIfInBounds_toArray, List.set_cons_zero, List.set_cons_succ])
            apply quiet_wanted
            · go_simp
            · intro W hW; unfold Oper.quietAt; go_simp; (try exact ⟨rfl, rfl⟩); (try rfl)
            (try simp only [Act.put, List.setIfInBounds_toArray, List.set_cons_zero, List.set_cons_succ])
            apply quiet_wanted
            · go_simp
            · intro W hW; unfold Oper.quietAt; go_simp; (try exact ⟨rfl, rfl⟩); (try rfl)
            (try simp only [Act.put, List.setIfInBounds_toArray, List.set_cons_zero, List.set_cons_succ])
            apply quiet_wanted
            · go_simp
            · intro W hW; unfold Oper.quietAt; go_simp; (try exact ⟨rfl, rfl⟩); (try rfl)
            (try simp only [Act.put, List.setIfInBounds_toArray, List.set_cons_zero, List.set_cons_succ])
            apply quiet_wanted
            · go_simp
            · intro W hW; have hV := Bb_14.out.below hW Bb_14.out.lt; have c0 := hV.c0; have c1 := hV.c1; have c2 := hV.c2; clear hV; unfold Oper.quietAt; go_simp; (try exact ⟨rfl, rfl⟩); (try rfl)
            (try simp only [Act.put, List.setIfInBounds_toArray, List.set_cons_zero, List.set_cons_succ])
            apply quiet_wanted
            · go_simp
            · intro W hW; unfold Oper.quietAt; go_simp; (try exact ⟨rfl, rfl⟩); (try rfl)
            (try simp only [Act.put, List.setIfInBounds_toArray, List.set_cons_zero, List.set_cons_succ])
            apply quiet_wanted
            · go_simp
            · intro W hW; unfold Oper.quietAt; go_simp; (try exact ⟨rfl, rfl⟩); (try rfl)
            (try simp only [Act.put, List.setIfInBounds_toArray, List.set_cons_zero, List.set_cons_succ])
            apply quiet_wanted
            · go_simp
            · intro W hW; unfold Oper.quietAt; go_simp; (try exact ⟨rfl, rfl⟩); (try rfl)
            (try simp only [Act.put, List.setIfInBounds_toArray, List.set_cons_zero, List.set_cons_succ])
            refine wpQuiet_nil ?_
            intro u61 hb
            unfold Grown at hb
            have HG := Lib.hid hb
            have Ba_15 := Lib.hid (Ba_14.out.below hb Ba_14.out.lt)
            have Bb_15 := Lib.hid (Bb_14.out.below hb Bb_14.out.lt)
            have Bc_15 := Lib.hid (Bc_14.out.below hb Bc_14.out.lt)
            have H_15 := Lib.hid (H_14.out.trans (hb.mono H_14.out.size))
            clear hb H_14 Ba_14 Bb_14 Bc_14
            go_wp2_with fail
            go_meet
            exact ⟨_, rfl, rfl, HG⟩
        case rest =>
          obtain ⟨u110, rfl, rfl, hbn⟩ := hcut
          have hb9 := hbn.out
          clear hbn
          have Ba_15 := Lib.hid (Ba_14.out.below hb9 Ba_14.out.lt)
          have Bb_15 := Lib.hid (Bb_14.out.below hb9 Bb_14.out.lt)
          have Bc_15 := Lib.hid (Bc_14.out.below hb9 Bc_14.out.lt)
          have H_15 := Lib.hid (H_14.out.trans (hb9.mono H_14.out.size))
          clear hb9 H_14 Ba_14 Bb_14 Bc_14
          go_upto_region 16 with fail
          simp only [HP.out]
          go_cut [13] from 120 to 137 (fun p13 wx => p13 = .bool k ∧ u110 = wx)
          case first =>
            rcases HPC.out with ⟨e1, rfl⟩ | ⟨e1, e2, q, e3, e4, rfl⟩ | ⟨e1, e2, q, e3, e4, e5, e6, rfl⟩ | ⟨e1, e2, q, e3, e4, e5, e6, rfl⟩ | ⟨e1, e2, q, e3, e4, e5, rfl⟩
            all_goals (go_wp2_with fail; go_meet; exact ⟨rfl, rfl⟩)
          case rest =>
            obtain ⟨rfl, rfl⟩ := hcut
            go_upto_region 17 with fail
            rcases HC.out with ⟨rfl, rfl, rfl, rfl, rfl⟩ | ⟨rfl, rfl, rfl⟩
            · refine region_grown (by kernel_rfl) ?_
              apply quiet_wanted
              · go_simp
              · intro W hW; unfold Oper.quietAt; go_simp; (try exact ⟨rfl, rfl⟩); (try rfl)
              (try simp only [Act.put, List.setIfInBounds_toArray, List.set_cons_zero, List.set_cons_succ])
              apply quiet_wanted
              · go_simp
              · intro W hW; unfold Oper.quietAt; go_simp; (try exact ⟨rfl, rfl⟩); (try rfl)
              (try simp only [Act.put, List.setIfInBounds_toArray, List.set_cons_zero, List.set_cons_succ])
              apply quiet_wanted
              · go_simp
              · intro W hW; unfold Oper.quietAt; go_simp; (try exact ⟨rfl, rfl⟩); (try rfl)
              (try simp only [Act.put, List.setIfInBounds_toArray, List.set_cons_zero, List.set_cons_succ])
              apply quiet_wanted
              · go_simp
              · intro W hW; have hV := Bc_15.out.below hW Bc_15.out.lt; have c0 := hV.c0; have c1 := hV.c1; have c2 := hV.c2; clear hV; unfold Oper.quietAt; go_simp; (try exact ⟨rfl, rfl⟩); (try rfl)
              (try simp only [Act.put, List.setIfInBounds_toArray, List.set_cons_zero, List.set_cons_succ])
              apply quiet_wanted
              · go_simp
              · intro W hW; unfold Oper.quietAt; go_simp; (try exact ⟨rfl, rfl⟩); (try rfl)
              (try simp only [Act.put, List.setIfInBounds_toArray, List.set_cons_zero, List.set_cons_succ])
              apply quiet_wanted
              · go_simp
              · intro W hW; unfold Oper.quietAt; go_simp; have hc := number_c (x * y) W; unfold valV at hc; exact hc.mono fun e w' hr => ⟨hr.1, Grown.trans hW hr.2⟩
              (try simp only [Act.put, List.setIfInBounds_toArray, List.set_cons_zero, List.set_cons_succ])
              apply quiet_wanted
              · go_simp
              · intro W hW; unfold Oper.quietAt; go_simp; (try exact ⟨rfl, rfl⟩); (try rfl)
              (try simp only [Act.put, List.setIfInBounds_toArray, List.set_cons_zero, List.set_cons_succ])
              apply quiet_wanted
              · go_simp
              · intro W hW; unfold Oper.quietAt; go_simp; (try exact ⟨rfl, rfl⟩); (try rfl)
              (try simp only [Act.put, List.setIfInBounds_toArray, List.set_cons_zero, List.set_cons_succ])
              apply quiet_wanted
              · go_simp
              · intro W hW; unfold Oper.quietAt; go_simp; (try exact ⟨rfl, rfl⟩); (try rfl)
              (try simp only [Act.put, List.setIfInBounds_toArray, List.set_cons_zero, List.set_cons_succ])
              apply quiet_wanted
              · go_simp
              · intro W hW; unfold Oper.quietAt; go_simp; (try exact ⟨rfl, rfl⟩); (try rfl)
              (try simp only [Act.put, List.setIfInBounds_toArray, List.set_cons_zero, List.set_cons_succ])
              apply quiet_wanted
              · go_simp
              · intro W hW; unfold Oper.quietAt; go_simp; (try exact ⟨rfl, rfl⟩); (try rfl)
              (try simp only [Act.put, List.setIfInBounds_toArray, List.set_cons_zero, List.set_cons_succ])
              apply quiet_wanted
              · go_simp
              · intro W hW; unfold Oper.quietAt; go_simp; (try exact ⟨rfl, rfl⟩); (try rfl)
              (try simp only [Act.put, List.setIfInBounds_toArray, List.set_cons_zero, List.set_cons_succ])
              apply quiet_wanted
              · go_simp
              · intro W hW; have hV := Bc_15.out.below hW Bc_15.out.lt; have c0 := hV.c0; have c1 := hV.c1; have c2 := hV.c2; clear hV; unfold Oper.quietAt; go_simp; (try exact ⟨rfl, rfl⟩); (try rfl)
              (try simp only [Act.put, List.setIfInBounds_toArray, List.set_cons_zero, List.set_cons_succ])
              apply quiet_wanted
              · go_simp
              · intro W hW; unfold Oper.quietAt; go_simp; (try exact ⟨rfl, rfl⟩); (try rfl)
              (try simp only [Act.put, List.setIfInBounds_toArray, List.set_cons_zero, List.set_cons_succ])
              apply quiet_wanted
              · go_simp
              · intro W hW; unfold Oper.quietAt; go_simp; (try exact ⟨rfl, rfl⟩); (try rfl)
              (try simp only [Act.put, List.setIfInBounds_toArray, List.set_cons_zero, List.set_cons_succ])
              apply quiet_wanted
              · go_simp
              · intro W hW; unfold Oper.quietAt; go_simp; (try exact ⟨rfl, rfl⟩); (try rfl)
              (try simp only [Act.put, List.setIfInBounds_toArray, List.set_cons_zero, List.set_cons_succ])
              apply quiet_wanted
              · go_simp
              · intro W hW; unfold Oper.quietAt; go_simp; (try exact ⟨rfl, rfl⟩); (try rfl)
              (try simp only [Act.put, List.setIfInBounds_toArray, List.set_cons_zero, List.set_cons_succ])
              refine wpQuiet_nil ?_
              intro u111 hb
              unfold Grown at hb
              have Ba_16 := Lib.hid (Ba_15.out.below hb Ba_15.out.lt)
              have Bb_16 := Lib.hid (Bb_15.out.below hb Bb_15.out.lt)
              have Bc_16 := Lib.hid (Bc_15.out.below hb Bc_15.out.lt)
              have H_16 := Lib.hid (H_15.out.trans (hb.mono H_15.out.size))
              clear hb H_15 Ba_15 Bb_15 Bc_15
              go_wp2_with fail
              go_ret
              exact ⟨rfl, H_16.out⟩
            · refine region_grown (by kernel_rfl) ?_
              apply quiet_wanted
              · go_simp
              · intro W hW; unfold Oper.quietAt; go_simp; (try exact ⟨rfl, rfl⟩); (try rfl)
              (try simp only [Act.put, List.setIfInBounds_toArray, List.set_cons_zero, List.set_cons_succ])
              apply quiet_wanted
              · go_simp
              · intro W hW; unfold Oper.quietAt; go_simp; (try exact ⟨rfl, rfl⟩); (try rfl)
              (try simp only [Act.put, List.setIfInBounds_toArray, List.set_cons_zero, List.set_cons_succ])
              apply quiet_wanted
              · go_simp
              · intro W hW; unfold Oper.quietAt; go_simp; (try exact ⟨rfl, rfl⟩); (try rfl)
              (try simp only [Act.put, List.setIfInBounds_toArray, List.set_cons_zero, List.set_cons_succ])
              apply quiet_wanted
              · go_simp
              · intro W hW; have hV := Bc_15.out.below hW Bc_15.out.lt; have c0 := hV.c0; have c1 := hV.c1; have c2 := hV.c2; clear hV; unfold Oper.quietAt; go_simp; (try exact ⟨rfl, rfl⟩); (try rfl)
              (try simp only [Act.put, List.setIfInBounds_toArray, List.set_cons_zero, List.set_cons_succ])
              apply quiet_wanted
              · go_simp
              · intro W hW; unfold Oper.quietAt; go_simp; (try exact ⟨rfl, rfl⟩); (try rfl)
              (try simp only [Act.put, List.setIfInBounds_toArray, List.set_cons_zero, List.set_cons_succ])
              apply quiet_wanted
              · go_simp
              · intro W hW; unfold Oper.quietAt; go_simp; have hc := number_c p W; unfold valV at hc; exact hc.mono fun e w' hr => ⟨hr.1, Grown.trans hW hr.2⟩
              (try simp only [Act.put, List.setIfInBounds_toArray, List.set_cons_zero, List.set_cons_succ])
              apply quiet_wanted
              · go_simp
              · intro W hW; unfold Oper.quietAt; go_simp; (try exact ⟨rfl, rfl⟩); (try rfl)
              (try simp only [Act.put, List.setIfInBounds_toArray, List.set_cons_zero, List.set_cons_succ])
              apply quiet_wanted
              · go_simp
              · intro W hW; unfold Oper.quietAt; go_simp; (try exact ⟨rfl, rfl⟩); (try rfl)
              (try simp only [Act.put, List.setIfInBounds_toArray, List.set_cons_zero, List.set_cons_succ])
              apply quiet_wanted
              · go_simp
              · intro W hW; unfold Oper.quietAt; go_simp; (try exact ⟨rfl, rfl⟩); (try rfl)
              (try simp only [Act.put, List.setIfInBounds_toArray, List.set_cons_zero, List.set_cons_succ])
              apply quiet_wanted
              · go_simp
              · intro W hW; unfold Oper.quietAt; go_simp; (try exact ⟨rfl, rfl⟩); (try rfl)
              (try simp only [Act.put, List.setIfInBounds_toArray, List.set_cons_zero, List.set_cons_succ])
              apply quiet_wanted
              · go_simp
              · intro W hW; unfold Oper.quietAt; go_simp; (try exact ⟨rfl, rfl⟩); (try rfl)
              (try simp only [Act.put, List.setIfInBounds_toArray, List.set_cons_zero, List.set_cons_succ])
              apply quiet_wanted
              · go_simp
              · intro W hW; unfold Oper.quietAt; go_simp; (try exact ⟨rfl, rfl⟩); (try rfl)
              (try simp only [Act.put, List.setIfInBounds_toArray, List.set_cons_zero, List.set_cons_succ])
              apply quiet_wanted
              · go_simp
              · intro W hW; have hV := Bc_15.out.below hW Bc_15.out.lt; have c0 := hV.c0; have c1 := hV.c1; have c2 := hV.c2; clear hV; unfold Oper.quietAt; go_simp; (try exact ⟨rfl, rfl⟩); (try rfl)
              (try simp only [Act.put, List.setIfInBounds_toArray, List.set_cons_zero, List.set_cons_succ])
              apply quiet_wanted
              · go_simp
              · intro W hW; unfold Oper.quietAt; go_simp; (try exact ⟨rfl, rfl⟩); (try rfl)
              (try simp only [Act.put, List.setIfInBounds_toArray, List.set_cons_zero, List.set_cons_succ])
              apply quiet_wanted
              · go_simp
              · intro W hW; unfold Oper.quietAt; go_simp; (try exact ⟨rfl, rfl⟩); (try rfl)
              (try simp only [Act.put, List.setIfInBounds_toArray, List.set_cons_zero, List.set_cons_succ])
              apply quiet_wanted
              · go_simp
              · intro W hW; unfold Oper.quietAt; go_simp; (try exact ⟨rfl, rfl⟩); (try rfl)
              (try simp only [Act.put, List.setIfInBounds_toArray, List.set_cons_zero, List.set_cons_succ])
              apply quiet_wanted
              · go_simp
              · intro W hW; unfold Oper.quietAt; go_simp; (try exact ⟨rfl, rfl⟩); (try rfl)
              (try simp only [Act.put, List.setIfInBounds_toArray, List.set_cons_zero, List.set_cons_succ])
              refine wpQuiet_nil ?_
              intro u111 hb
              unfold Grown at hb
              have Ba_16 := Lib.hid (Ba_15.out.below hb Ba_15.out.lt)
              have Bb_16 := Lib.hid (Bb_15.out.below hb Bb_15.out.lt)
              have Bc_16 := Lib.hid (Bc_15.out.below hb Bc_15.out.lt)
              have H_16 := Lib.hid (H_15.out.trans (hb.mono H_15.out.size))
              clear hb H_15 Ba_15 Bb_15 Bc_15
              go_wp2_with fail
              go_ret
              exact ⟨rfl, H_16.out⟩
end Go.Proofs.YthbfbpbppjkoeaaGreatDoor
