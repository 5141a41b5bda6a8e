/- Contract of divided of package big. Conditions: those in the statements. -/
import Derived.Test.YthbfbpbppjkoeaaGreatDoorBigS
import Derived.Test.YthbfbpbppjkoeaaGreatDoorBigK
namespace Go.Proofs.YthbfbpbppjkoeaaGreatDoor
open Go.RowKit Go.Shelf
set_option linter.unusedSimpArgs false
set_option exponentiation.threshold 500
set_option maxRecDepth 100000

/-- Two numbers are returned. -/
def RetNums (x y : Int) (w : World) (e : Ending) (w' : World) : Prop := ∃ o1 c1 o2 c2, e = .returned (.tuple #[numV x o1 c1, numV y o2 c2]) ∧ NumAt w' o1 x ∧ NumAt w' o2 y ∧ Below w.heap.size w w' ∧ New w o1 ∧ New w o2
theorem quo_abs (a b : Int) (hb : b ≠ 0) : (a.sign * b.sign * ((a.natAbs / b.natAbs : Nat) : Int)).natAbs = a.natAbs / b.natAbs := by
  rw [Int.natAbs_mul, Int.natAbs_mul, Int.natAbs_sign, Int.natAbs_sign, if_neg hb]
  by_cases h : a = 0
  · subst h; simp
  · rw [if_neg h, Int.natAbs_natCast]; omega
theorem rest_abs (a b : Int) : (a.sign * ((a.natAbs % b.natAbs : Nat) : Int)).natAbs = a.natAbs % b.natAbs := by
  rw [Int.natAbs_mul, Int.natAbs_sign]
  by_cases h : a = 0
  · subst h; simp
  · rw [if_neg h, Int.natAbs_natCast]; omega
theorem sign_of_mul {s : Int} {n : Nat} (h : s * (n : Int) ≠ 0) (hs : -1 ≤ s ∧ s ≤ 1) : s = (s * (n : Int)).sign := by
  have hn : n ≠ 0 := fun e => h (by rw [e]; simp)
  rw [Int.sign_mul, Int.sign_eq_one_of_pos (by omega : (0:Int) < n), Int.mul_one]
  rcases (by omega : s = -1 ∨ s = 0 ∨ s = 1) with rfl | rfl | rfl <;> rfl

set_option maxHeartbeats 8000000 in
theorem divided_c (a b : Int) (hb0 : b ≠ 0) (oa ob : Option Addr) (ca cb : Nat) (w : World) (hw : Wd w) (ha : NumAt w oa a) (hb : NumAt w ob b) :
    Calls Tryz.prog 111 #[numV a oa ca, numV b ob cb] w (RetNums (a.fdiv b) (a.fmod b) w) := by
  have hla := ha.few.len
  have hlb := hb.few.len
  have hov := fun (W : World) (hB : Below w.heap.size w W) => over_c oa ob ca cb a.natAbs b.natAbs W (ha.at_.mono hB) (hb.at_.mono hB) (by omega) (by omega) (by omega)
  have hsa := Int.sign_trichotomy a
  have hsab := Int.sign_trichotomy (a * b)
  rw [← times_sign] at hsab
  obtain ⟨q, hq⟩ : ∃ q, a.sign * b.sign * ((a.natAbs / b.natAbs : Nat) : Int) = q := ⟨_, rfl⟩
  obtain ⟨r, hr⟩ : ∃ r, a.sign * ((a.natAbs % b.natAbs : Nat) : Int) = r := ⟨_, rfl⟩
  have hqa := quo_abs a b hb0
  have hra := rest_abs a b
  rw [hq] at hqa
  rw [hr] at hra
  have hfq : Few q := by unfold Few; rw [hqa]; exact few_of_le (Nat.div_le_self _ _) ha.few
  have hfr : Few r := by unfold Few; rw [hra]; exact few_of_le (Nat.mod_le _ _) ha.few
  have hsq := fun (o : Option Addr) (c : Nat) (W : World) (hw : Wd W) (h : IntAt W o (Bg.ds q.natAbs)) => signed_c (a.sign * b.sign) q (fun h0 => by rw [← hq] at h0 ⊢; exact sign_of_mul h0 (by omega)) o c W hw h (by have := hfq.len; omega)
  have hsr := fun (o : Option Addr) (c : Nat) (W : World) (hw : Wd W) (h : IntAt W o (Bg.ds r.natAbs)) => signed_c a.sign r (fun h0 => by rw [← hr] at h0 ⊢; exact sign_of_mul h0 (by omega)) o c W hw h (by have := hfr.len; omega)
  have hfl := Bg.floor_eq a b hb0
  rw [hr, hq] at hfl
  rw [← hqa, ← hra] at hov
  have hwr : IntKind.i64.wrap (a.sign * b.sign) = a.sign * b.sign := IntWalk.i64_in _ (by omega)
  have hwr2 : IntKind.i64.wrap (r.sign * b.sign) = r.sign * b.sign := IntWalk.i64_in _ (by have := Int.sign_trichotomy (r * b); rw [times_sign]; omega)
  have hfdr : Few (a.fmod b) := by
    unfold Few
    refine few_of_le (b := b.natAbs) ?_ hb.few
    have := Bg.fmod_range a hb0
    omega
  have hfdq : Few (a.fdiv b) := by
    split at hfl
    · rename_i hneg
      unfold Few
      refine few_of_le (b := a.natAbs) ?_ ha.few
      have hr0 : r.natAbs ≠ 0 := fun e => by
        have : r = 0 := by omega
        rw [this] at hneg; simp at hneg
      rw [hra] at hr0
      have h1 := Nat.mod_lt a.natAbs (by omega : 0 < b.natAbs)
      have h2 := Nat.div_add_mod a.natAbs b.natAbs
      have h3 : 2 * (a.natAbs / b.natAbs) ≤ b.natAbs * (a.natAbs / b.natAbs) := Nat.mul_le_mul_right _ (by omega)
      rw [hfl.1]
      omega
    · rw [hfl.1]; exact hfq
  have HFdq := Lib.hid hfdq
  have HFdr := Lib.hid hfdr
  clear hfdq hfdr
  have hAt := hb
  unfold numV
  have HOv := Lib.hid hov
  have HSq := Lib.hid hsq
  have HSr := Lib.hid hsr
  have HWd := Lib.hid hw
  have HFl := Lib.hid hfl
  have HFq := Lib.hid hfq
  have HFr := Lib.hid hfr
  have HAt := Lib.hid hAt
  have HB := Lib.hid (fun (o : Option Addr) (c : Nat) (W : World) (hB : Below w.heap.size w W) (hr : NumAt W o r) => plus_c r b o ob c cb W (hw.below hB) hr (hb.mono hB))
  clear hov hsq hsr hw hfl hqa hra hq hr hla hlb hb hb0 ha hsa hsab hfq hfr hAt
  generalize a.fdiv b = dq at *
  generalize a.fmod b = dr at *
  generalize hgsa : a.sign = sa at *
  generalize hgsb : b.sign = sb at *
  generalize (Bg.ds a.natAbs).length = la at *
  generalize hglb : (Bg.ds b.natAbs).length = lb at *
  go_enter Tryz.func111, Tryz.ntmps111
  go_wp2_with fail
  obtain ⟨hA0, hB0, hC0, hD0, hb0⟩ := boxes4 w (.int .i64 sa) (.slice oa la ca) (.int .i64 sb) (.slice ob lb cb) (.int .i64 0) (.slice none 0 0) (.int .i64 0) (.slice none 0 0)
  refine (HOv.out _ hb0).mono ?_
  rintro e w2 ⟨oq, cq, or, cr, rfl, hiq, hir, hb2, hfq, hfr⟩
  have hlt := hD0.lt
  have hS0 := SM.mk (W := w2.drew) (hA0.below hb2 hA0.lt).drew (hB0.below hb2 hB0.lt).drew (hb0.trans (hb2.mono hb0.size)).drew
  have HB1 := Lib.hid (hB0.below hb2 hB0.lt)
  have HC1 := Lib.hid (hC0.below hb2 hC0.lt)
  have HD1 := Lib.hid (hD0.below hb2 hD0.lt)
  have HS0 := Lib.hid hS0
  have HIq := Lib.hid hiq
  have HIr := Lib.hid hir
  have HB2 := Lib.hid (hb0.trans (hb2.mono hb0.size))
  have HAq := Lib.hid (show ∀ b, oq = some ⟨b, 0, none⟩ → w.heap.size + 4 ≤ b from fun b e => by have := hfq b e; simp at this; omega)
  have HAr := Lib.hid (show ∀ b, or = some ⟨b, 0, none⟩ → w.heap.size + 4 ≤ b from fun b e => by have := hfr b e; simp at this; omega)
  clear hA0 hB0 hC0 hD0 hb0 hS0 hiq hir hb2 hfq hfr hlt
  have hsz2 := HB2.out.size
  have hlt2 := HD1.out.lt
  go_upto_region 2 with fail
  go_cut [8, 9] from 18 to 29 (fun p8 p9 wx => ∃ B8 B9 : Nat, p8 = .pointer (some ⟨B8, 0, none⟩) ∧ p9 = .pointer (some ⟨B9, 0, none⟩) ∧ Hid (NB wx B8 (.int .i64 q.sign) (.slice oq (Bg.ds q.natAbs).length cq)) ∧ Hid (NB wx B9 (.int .i64 r.sign) (.slice or (Bg.ds r.natAbs).length cr)) ∧ Hid (Below w2.heap.size w2 wx) ∧ Hid (w2.heap.size ≤ B8 ∧ w2.heap.size ≤ B9))
  case first =>
    refine wp_region_held_drew (S := fun W => W.cell? ⟨w.heap.size, 0, none⟩ = some (.int .i64 sa) ∧ W.cell? ⟨w.heap.size, 1, none⟩ = some (.slice oa la ca) ∧ W.cell? ⟨w.heap.size + 1, 0, none⟩ = some (.int .i64 sb) ∧ W.cell? ⟨w.heap.size + 1, 1, none⟩ = some (.slice ob lb cb) ∧ Below w.heap.size w W ∧ w.heap.size + 2 ≤ W.heap.size) (by kernel_rfl) HS0.out (fun _ => ?_)
    have hS0 := HS0.out
    have hV0 : Below w2.heap.size w2 w2.drew := (Below.refl _ w2).drew
    refine wpAnyH_take (i := 0) (v := ?hlv1) rfl (by kernel_rfl) (by kernel_rfl) (by kernel_rfl) (fun _ _ _ h => h) (Or.inl ⟨by rfl, ?hly1⟩) (by assumption) ?hlr1
    case hly1 => (intro w hSw; (try dsimp only at hSw); go_simp; (try with_reducible rfl))
    (try simp only [Act.put, List.setIfInBounds_toArray, List.set_cons_zero, List.set_cons_succ])
    refine wpAnyH_take (i := 1) (v := ?hlv2) rfl (by kernel_rfl) (by kernel_rfl) (by kernel_rfl) (fun _ _ _ h => h) (Or.inl ⟨by rfl, ?hly2⟩) (by assumption) ?hlr2
    case hly2 => (intro w hSw; (try dsimp only at hSw); go_simp; (try with_reducible rfl))
    (try simp only [Act.put, List.setIfInBounds_toArray, List.set_cons_zero, List.set_cons_succ])
    refine wpAnyH_take (i := 2) (v := ?hlv3) rfl (by kernel_rfl) (by kernel_rfl) (by kernel_rfl) (fun _ _ _ h => h) (Or.inl ⟨by rfl, ?hly3⟩) (by assumption) ?hlr3
    case hly3 => (intro w hSw; (try dsimp only at hSw); go_simp; (try with_reducible rfl))
    (try simp only [Act.put, List.setIfInBounds_toArray, List.set_cons_zero, List.set_cons_succ])
    refine wpAnyH_take (i := 3) (v := ?hlv4) rfl (by kernel_rfl) (by kernel_rfl) (by kernel_rfl) (fun _ _ _ h => h) (Or.inl ⟨by rfl, ?hly4⟩) (by assumption) ?hlr4
    case hly4 => (intro w hSw; (try dsimp only at hSw); go_simp; (try with_reducible rfl))
    (try simp only [Act.put, List.setIfInBounds_toArray, List.set_cons_zero, List.set_cons_succ])
    refine wpAnyH_take (i := 4) (v := ?hlv5) rfl (by kernel_rfl) (by kernel_rfl) (by kernel_rfl) (fun _ _ _ h => h) (Or.inl ⟨by rfl, ?hly5⟩) (by assumption) ?hlr5
    case hly5 => (intro w hSw; (try dsimp only at hSw); go_simp; (try with_reducible rfl))
    (try simp only [Act.put, List.setIfInBounds_toArray, List.set_cons_zero, List.set_cons_succ])
    refine wpAnyH_take (i := 5) (v := ?hlv6) rfl (by kernel_rfl) (by kernel_rfl) (by kernel_rfl) (fun _ _ _ h => h) (Or.inl ⟨by rfl, ?hly6⟩) (by assumption) ?hlr6
    case hly6 => (intro w hSw; (try dsimp only at hSw); go_simp; (try with_reducible rfl))
    (try simp only [Act.put, List.setIfInBounds_toArray, List.set_cons_zero, List.set_cons_succ])
    refine wpAnyH_take (i := 7) (v := ?hlv7) rfl (by kernel_rfl) (by kernel_rfl) (by kernel_rfl) (fun _ _ _ h => h) (Or.inl ⟨by rfl, ?hly7⟩) (by assumption) ?hlr7
    case hly7 => (intro w hSw; (try dsimp only at hSw); go_simp; (try with_reducible rfl))
    (try simp only [Act.put, List.setIfInBounds_toArray, List.set_cons_zero, List.set_cons_succ])
    refine wpAnyH_take (i := 8) (v := ?hlv8) rfl (by kernel_rfl) (by kernel_rfl) (by kernel_rfl) (fun _ _ _ h => h) (Or.inl ⟨by rfl, ?hly8⟩) (by assumption) ?hlr8
    case hly8 => (intro w hSw; (try dsimp only at hSw); go_simp; (try with_reducible rfl))
    (try simp only [Act.put, List.setIfInBounds_toArray, List.set_cons_zero, List.set_cons_succ])
    refine wpAnyH_take (i := 9) (v := ?hlv9) rfl (by kernel_rfl) (by kernel_rfl) (by kernel_rfl) (fun _ _ _ h => h) (Or.inl ⟨by rfl, ?hly9⟩) (by assumption) ?hlr9
    case hly9 => (intro w hSw; (try dsimp only at hSw); go_simp; (try with_reducible rfl))
    (try simp only [Act.put, List.setIfInBounds_toArray, List.set_cons_zero, List.set_cons_succ])
    generalize w2.drew = V0 at *
    refine wpAnyH_ready (rs := [6, 11, 12]) (by kernel_rfl) (by simp) ?_
    refine AllReadyH.one rfl ?_ ?_
    · intro K hK
      go_simp
      refine (HSq.out oq cq V0 (HWd.out.below (HB2.out.trans (hV0.mono HB2.out.size))) (HIq.out.mono hV0)).mono ?_
      rintro e V1 hz
      obtain ⟨rfl, hbn⟩ := hz.1 HFq.out
      clear hz
      unfold numV
      have hV1 := hV0.trans (hbn.mono hV0.size)
      have hS1 := SM.kept (Nat.le_refl _) hS0 hbn
      refine hK.out _ _ hS1 (fun _ => ?_)
      clear hK K hbn hV0 hS0
      refine wpAnyH_ready (rs := [10, 11, 12]) (by kernel_rfl) (by simp) ?_
      refine AllReadyH.one rfl ?_ ?_
      · intro K hK
        go_simp
        refine (HSr.out or cr V1 (HWd.out.below (HB2.out.trans (hV1.mono HB2.out.size))) (HIr.out.mono hV1)).mono ?_
        rintro e V2 hz
        obtain ⟨rfl, hbn⟩ := hz.1 HFr.out
        clear hz
        unfold numV
        have hV2 := hV1.trans (hbn.mono hV1.size)
        have hS2 := SM.kept (Nat.le_refl _) hS1 hbn
        refine hK.out _ _ hS2 (fun _ => ?_)
        clear hK K hbn hV1 hS1
        refine wpAnyH_ready (rs := [11, 12]) (by kernel_rfl) (by simp) ?_
        refine AllReadyH.one rfl ?_ ?_
        · intro K hK
          go_simp
          have hbn : Below V2.heap.size V2 (V2.alloc (.cells #[.int .i64 0, .slice none 0 0] 61)) := (Below.refl _ V2).alloc (Nat.le_refl _) _
          have h8_3 := NB.new V2 (.int .i64 0) (.slice none 0 0)
          obtain ⟨B8, hB8⟩ : ∃ B, V2.heap.size = B := ⟨_, rfl⟩
          have hg8 : w2.heap.size ≤ B8 := by rw [← hB8]; exact hV2.size
          have hV3 := hV2.trans (hbn.mono hV2.size)
          have hS3 := SM.kept (Nat.le_refl _) hS2 hbn
          refine hK.out _ _ hS3 (fun _ => ?_)
          clear hK K hbn hV2 hS2
          generalize V2.alloc (.cells #[.int .i64 0, .slice none 0 0] 61) = V3 at *
          rw [hB8] at h8_3 ⊢
          clear hB8
          refine wpAnyH_ready (rs := [12]) (by kernel_rfl) (by simp) ?_
          refine AllReadyH.one rfl ?_ AllReadyH.nil
          intro K hK
          go_simp
          have hbn : Below V3.heap.size V3 (V3.alloc (.cells #[.int .i64 0, .slice none 0 0] 61)) := (Below.refl _ V3).alloc (Nat.le_refl _) _
          have h9_4 := NB.new V3 (.int .i64 0) (.slice none 0 0)
          obtain ⟨B9, hB9⟩ : ∃ B, V3.heap.size = B := ⟨_, rfl⟩
          have hg9 : w2.heap.size ≤ B9 := by rw [← hB9]; exact hV3.size
          have hne : B8 ≠ B9 := by have := h8_3.lt; omega
          have h8_4 := h8_3.below hbn h8_3.lt
          have hV4 := hV3.trans (hbn.mono hV3.size)
          have hS4 := SM.kept (Nat.le_refl _) hS3 hbn
          refine hK.out _ _ hS4 (fun _ => ?_)
          clear hK K hbn hV3 hS3 h8_3
          generalize V3.alloc (.cells #[.int .i64 0, .slice none 0 0] 61) = V4 at *
          rw [hB9] at h9_4 ⊢
          clear hB9
          have c0 := h8_4.c0
          have c1 := h8_4.c1
          have f0 := h8_4.f0
          have f1 := h8_4.f1
          refine wpAnyH_ready (rs := [13]) (by kernel_rfl) (by simp) ?_
          refine AllReadyH.one rfl ?_ AllReadyH.nil
          intro K hK
          go_simp
          have hS5 := SM.put hS4 B8 (by omega) (by omega) (by omega) (.int .i64 q.sign) (.slice oq (Bg.ds q.natAbs).length cq)
          have h8_5 := h8_4.put (.int .i64 q.sign) (.slice oq (Bg.ds q.natAbs).length cq)
          have h9_5 := h9_4.others B8 (by omega) (.int .i64 q.sign) (.slice oq (Bg.ds q.natAbs).length cq)
          have hV5 := below_put hV4 hg8 (.int .i64 q.sign) (.slice oq (Bg.ds q.natAbs).length cq)
          refine hK.out _ _ hS5 (fun _ => ?_)
          clear hK K c0 c1 f0 f1 hS4 h8_4 h9_4 hV4
          generalize (V4.setCell ⟨B8, 0, none⟩ (.int .i64 q.sign)).setCell ⟨B8, 1, none⟩ (.slice oq (Bg.ds q.natAbs).length cq) = V5 at *
          have c0 := h9_5.c0
          have c1 := h9_5.c1
          have f0 := h9_5.f0
          have f1 := h9_5.f1
          refine wpAnyH_ready (rs := [14]) (by kernel_rfl) (by simp) ?_
          refine AllReadyH.one rfl ?_ AllReadyH.nil
          intro K hK
          go_simp
          have hS6 := SM.put hS5 B9 (by omega) (by omega) (by omega) (.int .i64 r.sign) (.slice or (Bg.ds r.natAbs).length cr)
          have h9_6 := h9_5.put (.int .i64 r.sign) (.slice or (Bg.ds r.natAbs).length cr)
          have h8_6 := h8_5.others B9 (by omega) (.int .i64 r.sign) (.slice or (Bg.ds r.natAbs).length cr)
          have hV6 := below_put hV5 hg9 (.int .i64 r.sign) (.slice or (Bg.ds r.natAbs).length cr)
          refine hK.out _ _ hS6 (fun _ => ?_)
          clear hK K c0 c1 f0 f1 hS5 h8_5 h9_5 hV5
          generalize (V5.setCell ⟨B9, 0, none⟩ (.int .i64 r.sign)).setCell ⟨B9, 1, none⟩ (.slice or (Bg.ds r.natAbs).length cr) = V6 at *
          refine wpAnyH_done (by kernel_rfl) ?_ _
          have H8 := Lib.hid h8_6
          have H9 := Lib.hid h9_6
          have HV := Lib.hid hV6
          clear h8_6 h9_6 hV6 hS6
          go_wp2_with fail
          go_meet
          exact ⟨B8, B9, rfl, rfl, H8, H9, HV, Lib.hid ⟨hg8, hg9⟩⟩
        refine AllReadyH.one rfl ?_ ?_
        · intro K hK
          go_simp
          have hbn : Below V2.heap.size V2 (V2.alloc (.cells #[.int .i64 0, .slice none 0 0] 61)) := (Below.refl _ V2).alloc (Nat.le_refl _) _
          have h9_3 := NB.new V2 (.int .i64 0) (.slice none 0 0)
          obtain ⟨B9, hB9⟩ : ∃ B, V2.heap.size = B := ⟨_, rfl⟩
          have hg9 : w2.heap.size ≤ B9 := by rw [← hB9]; exact hV2.size
          have hV3 := hV2.trans (hbn.mono hV2.size)
          have hS3 := SM.kept (Nat.le_refl _) hS2 hbn
          refine hK.out _ _ hS3 (fun _ => ?_)
          clear hK K hbn hV2 hS2
          generalize V2.alloc (.cells #[.int .i64 0, .slice none 0 0] 61) = V3 at *
          rw [hB9] at h9_3 ⊢
          clear hB9
          refine wpAnyH_ready (rs := [11]) (by kernel_rfl) (by simp) ?_
          refine AllReadyH.one rfl ?_ AllReadyH.nil
          intro K hK
          go_simp
          have hbn : Below V3.heap.size V3 (V3.alloc (.cells #[.int .i64 0, .slice none 0 0] 61)) := (Below.refl _ V3).alloc (Nat.le_refl _) _
          have h8_4 := NB.new V3 (.int .i64 0) (.slice none 0 0)
          obtain ⟨B8, hB8⟩ : ∃ B, V3.heap.size = B := ⟨_, rfl⟩
          have hg8 : w2.heap.size ≤ B8 := by rw [← hB8]; exact hV3.size
          have hne : B9 ≠ B8 := by have := h9_3.lt; omega
          have h9_4 := h9_3.below hbn h9_3.lt
          have hV4 := hV3.trans (hbn.mono hV3.size)
          have hS4 := SM.kept (Nat.le_refl _) hS3 hbn
          refine hK.out _ _ hS4 (fun _ => ?_)
          clear hK K hbn hV3 hS3 h9_3
          generalize V3.alloc (.cells #[.int .i64 0, .slice none 0 0] 61) = V4 at *
          rw [hB8] at h8_4 ⊢
          clear hB8
          have c0 := h8_4.c0
          have c1 := h8_4.c1
          have f0 := h8_4.f0
          have f1 := h8_4.f1
          refine wpAnyH_ready (rs := [13]) (by kernel_rfl) (by simp) ?_
          refine AllReadyH.one rfl ?_ AllReadyH.nil
          intro K hK
          go_simp
          have hS5 := SM.put hS4 B8 (by omega) (by omega) (by omega) (.int .i64 q.sign) (.slice oq (Bg.ds q.natAbs).length cq)
          have h8_5 := h8_4.put (.int .i64 q.sign) (.slice oq (Bg.ds q.natAbs).length cq)
          have h9_5 := h9_4.others B8 (by omega) (.int .i64 q.sign) (.slice oq (Bg.ds q.natAbs).length cq)
          have hV5 := below_put hV4 hg8 (.int .i64 q.sign) (.slice oq (Bg.ds q.natAbs).length cq)
          refine hK.out _ _ hS5 (fun _ => ?_)
          clear hK K c0 c1 f0 f1 hS4 h8_4 h9_4 hV4
          generalize (V4.setCell ⟨B8, 0, none⟩ (.int .i64 q.sign)).setCell ⟨B8, 1, none⟩ (.slice oq (Bg.ds q.natAbs).length cq) = V5 at *
          have c0 := h9_5.c0
          have c1 := h9_5.c1
          have f0 := h9_5.f0
          have f1 := h9_5.f1
          refine wpAnyH_ready (rs := [14]) (by kernel_rfl) (by simp) ?_
          refine AllReadyH.one rfl ?_ AllReadyH.nil
          intro K hK
          go_simp
          have hS6 := SM.put hS5 B9 (by omega) (by omega) (by omega) (.int .i64 r.sign) (.slice or (Bg.ds r.natAbs).length cr)
          have h9_6 := h9_5.put (.int .i64 r.sign) (.slice or (Bg.ds r.natAbs).length cr)
          have h8_6 := h8_5.others B9 (by omega) (.int .i64 r.sign) (.slice or (Bg.ds r.natAbs).length cr)
          have hV6 := below_put hV5 hg9 (.int .i64 r.sign) (.slice or (Bg.ds r.natAbs).length cr)
          refine hK.out _ _ hS6 (fun _ => ?_)
          clear hK K c0 c1 f0 f1 hS5 h8_5 h9_5 hV5
          generalize (V5.setCell ⟨B9, 0, none⟩ (.int .i64 r.sign)).setCell ⟨B9, 1, none⟩ (.slice or (Bg.ds r.natAbs).length cr) = V6 at *
          refine wpAnyH_done (by kernel_rfl) ?_ _
          have H8 := Lib.hid h8_6
          have H9 := Lib.hid h9_6
          have HV := Lib.hid hV6
          clear h8_6 h9_6 hV6 hS6
          go_wp2_with fail
          go_meet
          exact ⟨B8, B9, rfl, rfl, H8, H9, HV, Lib.hid ⟨hg8, hg9⟩⟩
        exact AllReadyH.nil
      refine AllReadyH.one rfl ?_ ?_
      · intro K hK
        go_simp
        have hbn : Below V1.heap.size V1 (V1.alloc (.cells #[.int .i64 0, .slice none 0 0] 61)) := (Below.refl _ V1).alloc (Nat.le_refl _) _
        have h8_2 := NB.new V1 (.int .i64 0) (.slice none 0 0)
        obtain ⟨B8, hB8⟩ : ∃ B, V1.heap.size = B := ⟨_, rfl⟩
        have hg8 : w2.heap.size ≤ B8 := by rw [← hB8]; exact hV1.size
        have hV2 := hV1.trans (hbn.mono hV1.size)
        have hS2 := SM.kept (Nat.le_refl _) hS1 hbn
        refine hK.out _ _ hS2 (fun _ => ?_)
        clear hK K hbn hV1 hS1
        generalize V1.alloc (.cells #[.int .i64 0, .slice none 0 0] 61) = V2 at *
        rw [hB8] at h8_2 ⊢
        clear hB8
        refine wpAnyH_ready (rs := [10, 12]) (by kernel_rfl) (by simp) ?_
        refine AllReadyH.one rfl ?_ ?_
        · intro K hK
          go_simp
          refine (HSr.out or cr V2 (HWd.out.below (HB2.out.trans (hV2.mono HB2.out.size))) (HIr.out.mono hV2)).mono ?_
          rintro e V3 hz
          obtain ⟨rfl, hbn⟩ := hz.1 HFr.out
          clear hz
          unfold numV
          have h8_3 := h8_2.below hbn h8_2.lt
          have hV3 := hV2.trans (hbn.mono hV2.size)
          have hS3 := SM.kept (Nat.le_refl _) hS2 hbn
          refine hK.out _ _ hS3 (fun _ => ?_)
          clear hK K hbn hV2 hS2 h8_2
          refine wpAnyH_ready (rs := [12]) (by kernel_rfl) (by simp) ?_
          refine AllReadyH.one rfl ?_ AllReadyH.nil
          intro K hK
          go_simp
          have hbn : Below V3.heap.size V3 (V3.alloc (.cells #[.int .i64 0, .slice none 0 0] 61)) := (Below.refl _ V3).alloc (Nat.le_refl _) _
          have h9_4 := NB.new V3 (.int .i64 0) (.slice none 0 0)
          obtain ⟨B9, hB9⟩ : ∃ B, V3.heap.size = B := ⟨_, rfl⟩
          have hg9 : w2.heap.size ≤ B9 := by rw [← hB9]; exact hV3.size
          have hne : B8 ≠ B9 := by have := h8_3.lt; omega
          have h8_4 := h8_3.below hbn h8_3.lt
          have hV4 := hV3.trans (hbn.mono hV3.size)
          have hS4 := SM.kept (Nat.le_refl _) hS3 hbn
          refine hK.out _ _ hS4 (fun _ => ?_)
          clear hK K hbn hV3 hS3 h8_3
          generalize V3.alloc (.cells #[.int .i64 0, .slice none 0 0] 61) = V4 at *
          rw [hB9] at h9_4 ⊢
          clear hB9
          have c0 := h8_4.c0
          have c1 := h8_4.c1
          have f0 := h8_4.f0
          have f1 := h8_4.f1
          refine wpAnyH_ready (rs := [13]) (by kernel_rfl) (by simp) ?_
          refine AllReadyH.one rfl ?_ AllReadyH.nil
          intro K hK
          go_simp
          have hS5 := SM.put hS4 B8 (by omega) (by omega) (by omega) (.int .i64 q.sign) (.slice oq (Bg.ds q.natAbs).length cq)
          have h8_5 := h8_4.put (.int .i64 q.sign) (.slice oq (Bg.ds q.natAbs).length cq)
          have h9_5 := h9_4.others B8 (by omega) (.int .i64 q.sign) (.slice oq (Bg.ds q.natAbs).length cq)
          have hV5 := below_put hV4 hg8 (.int .i64 q.sign) (.slice oq (Bg.ds q.natAbs).length cq)
          refine hK.out _ _ hS5 (fun _ => ?_)
          clear hK K c0 c1 f0 f1 hS4 h8_4 h9_4 hV4
          generalize (V4.setCell ⟨B8, 0, none⟩ (.int .i64 q.sign)).setCell ⟨B8, 1, none⟩ (.slice oq (Bg.ds q.natAbs).length cq) = V5 at *
          have c0 := h9_5.c0
          have c1 := h9_5.c1
          have f0 := h9_5.f0
          have f1 := h9_5.f1
          refine wpAnyH_ready (rs := [14]) (by kernel_rfl) (by simp) ?_
          refine AllReadyH.one rfl ?_ AllReadyH.nil
          intro K hK
          go_simp
          have hS6 := SM.put hS5 B9 (by omega) (by omega) (by omega) (.int .i64 r.sign) (.slice or (Bg.ds r.natAbs).length cr)
          have h9_6 := h9_5.put (.int .i64 r.sign) (.slice or (Bg.ds r.natAbs).length cr)
          have h8_6 := h8_5.others B9 (by omega) (.int .i64 r.sign) (.slice or (Bg.ds r.natAbs).length cr)
          have hV6 := below_put hV5 hg9 (.int .i64 r.sign) (.slice or (Bg.ds r.natAbs).length cr)
          refine hK.out _ _ hS6 (fun _ => ?_)
          clear hK K c0 c1 f0 f1 hS5 h8_5 h9_5 hV5
          generalize (V5.setCell ⟨B9, 0, none⟩ (.int .i64 r.sign)).setCell ⟨B9, 1, none⟩ (.slice or (Bg.ds r.natAbs).length cr) = V6 at *
          refine wpAnyH_done (by kernel_rfl) ?_ _
          have H8 := Lib.hid h8_6
          have H9 := Lib.hid h9_6
          have HV := Lib.hid hV6
          clear h8_6 h9_6 hV6 hS6
          go_wp2_with fail
          go_meet
          exact ⟨B8, B9, rfl, rfl, H8, H9, HV, Lib.hid ⟨hg8, hg9⟩⟩
        refine AllReadyH.one rfl ?_ ?_
        · intro K hK
          go_simp
          have hbn : Below V2.heap.size V2 (V2.alloc (.cells #[.int .i64 0, .slice none 0 0] 61)) := (Below.refl _ V2).alloc (Nat.le_refl _) _
          have h9_3 := NB.new V2 (.int .i64 0) (.slice none 0 0)
          obtain ⟨B9, hB9⟩ : ∃ B, V2.heap.size = B := ⟨_, rfl⟩
          have hg9 : w2.heap.size ≤ B9 := by rw [← hB9]; exact hV2.size
          have hne : B8 ≠ B9 := by have := h8_2.lt; omega
          have h8_3 := h8_2.below hbn h8_2.lt
          have hV3 := hV2.trans (hbn.mono hV2.size)
          have hS3 := SM.kept (Nat.le_refl _) hS2 hbn
          refine hK.out _ _ hS3 (fun _ => ?_)
          clear hK K hbn hV2 hS2 h8_2
          generalize V2.alloc (.cells #[.int .i64 0, .slice none 0 0] 61) = V3 at *
          rw [hB9] at h9_3 ⊢
          clear hB9
          refine wpAnyH_ready (rs := [10]) (by kernel_rfl) (by simp) ?_
          refine AllReadyH.one rfl ?_ AllReadyH.nil
          intro K hK
          go_simp
          refine (HSr.out or cr V3 (HWd.out.below (HB2.out.trans (hV3.mono HB2.out.size))) (HIr.out.mono hV3)).mono ?_
          rintro e V4 hz
          obtain ⟨rfl, hbn⟩ := hz.1 HFr.out
          clear hz
          unfold numV
          have h8_4 := h8_3.below hbn h8_3.lt
          have h9_4 := h9_3.below hbn h9_3.lt
          have hV4 := hV3.trans (hbn.mono hV3.size)
          have hS4 := SM.kept (Nat.le_refl _) hS3 hbn
          refine hK.out _ _ hS4 (fun _ => ?_)
          clear hK K hbn hV3 hS3 h8_3 h9_3
          have c0 := h8_4.c0
          have c1 := h8_4.c1
          have f0 := h8_4.f0
          have f1 := h8_4.f1
          refine wpAnyH_ready (rs := [13]) (by kernel_rfl) (by simp) ?_
          refine AllReadyH.one rfl ?_ AllReadyH.nil
          intro K hK
          go_simp
          have hS5 := SM.put hS4 B8 (by omega) (by omega) (by omega) (.int .i64 q.sign) (.slice oq (Bg.ds q.natAbs).length cq)
          have h8_5 := h8_4.put (.int .i64 q.sign) (.slice oq (Bg.ds q.natAbs).length cq)
          have h9_5 := h9_4.others B8 (by omega) (.int .i64 q.sign) (.slice oq (Bg.ds q.natAbs).length cq)
          have hV5 := below_put hV4 hg8 (.int .i64 q.sign) (.slice oq (Bg.ds q.natAbs).length cq)
          refine hK.out _ _ hS5 (fun _ => ?_)
          clear hK K c0 c1 f0 f1 hS4 h8_4 h9_4 hV4
          generalize (V4.setCell ⟨B8, 0, none⟩ (.int .i64 q.sign)).setCell ⟨B8, 1, none⟩ (.slice oq (Bg.ds q.natAbs).length cq) = V5 at *
          have c0 := h9_5.c0
          have c1 := h9_5.c1
          have f0 := h9_5.f0
          have f1 := h9_5.f1
          refine wpAnyH_ready (rs := [14]) (by kernel_rfl) (by simp) ?_
          refine AllReadyH.one rfl ?_ AllReadyH.nil
          intro K hK
          go_simp
          have hS6 := SM.put hS5 B9 (by omega) (by omega) (by omega) (.int .i64 r.sign) (.slice or (Bg.ds r.natAbs).length cr)
          have h9_6 := h9_5.put (.int .i64 r.sign) (.slice or (Bg.ds r.natAbs).length cr)
          have h8_6 := h8_5.others B9 (by omega) (.int .i64 r.sign) (.slice or (Bg.ds r.natAbs).length cr)
          have hV6 := below_put hV5 hg9 (.int .i64 r.sign) (.slice or (Bg.ds r.natAbs).length cr)
          refine hK.out _ _ hS6 (fun _ => ?_)
          clear hK K c0 c1 f0 f1 hS5 h8_5 h9_5 hV5
          generalize (V5.setCell ⟨B9, 0, none⟩ (.int .i64 r.sign)).setCell ⟨B9, 1, none⟩ (.slice or (Bg.ds r.natAbs).length cr) = V6 at *
          refine wpAnyH_done (by kernel_rfl) ?_ _
          have H8 := Lib.hid h8_6
          have H9 := Lib.hid h9_6
          have HV := Lib.hid hV6
          clear h8_6 h9_6 hV6 hS6
          go_wp2_with fail
          go_meet
          exact ⟨B8, B9, rfl, rfl, H8, H9, HV, Lib.hid ⟨hg8, hg9⟩⟩
        exact AllReadyH.nil
      refine AllReadyH.one rfl ?_ ?_
      · intro K hK
        go_simp
        have hbn : Below V1.heap.size V1 (V1.alloc (.cells #[.int .i64 0, .slice none 0 0] 61)) := (Below.refl _ V1).alloc (Nat.le_refl _) _
        have h9_2 := NB.new V1 (.int .i64 0) (.slice none 0 0)
        obtain ⟨B9, hB9⟩ : ∃ B, V1.heap.size = B := ⟨_, rfl⟩
        have hg9 : w2.heap.size ≤ B9 := by rw [← hB9]; exact hV1.size
        have hV2 := hV1.trans (hbn.mono hV1.size)
        have hS2 := SM.kept (Nat.le_refl _) hS1 hbn
        refine hK.out _ _ hS2 (fun _ => ?_)
        clear hK K hbn hV1 hS1
        generalize V1.alloc (.cells #[.int .i64 0, .slice none 0 0] 61) = V2 at *
        rw [hB9] at h9_2 ⊢
        clear hB9
        refine wpAnyH_ready (rs := [10, 11]) (by kernel_rfl) (by simp) ?_
        refine AllReadyH.one rfl ?_ ?_
        · intro K hK
          go_simp
          refine (HSr.out or cr V2 (HWd.out.below (HB2.out.trans (hV2.mono HB2.out.size))) (HIr.out.mono hV2)).mono ?_
          rintro e V3 hz
          obtain ⟨rfl, hbn⟩ := hz.1 HFr.out
          clear hz
          unfold numV
          have h9_3 := h9_2.below hbn h9_2.lt
          have hV3 := hV2.trans (hbn.mono hV2.size)
          have hS3 := SM.kept (Nat.le_refl _) hS2 hbn
          refine hK.out _ _ hS3 (fun _ => ?_)
          clear hK K hbn hV2 hS2 h9_2
          refine wpAnyH_ready (rs := [11]) (by kernel_rfl) (by simp) ?_
          refine AllReadyH.one rfl ?_ AllReadyH.nil
          intro K hK
          go_simp
          have hbn : Below V3.heap.size V3 (V3.alloc (.cells #[.int .i64 0, .slice none 0 0] 61)) := (Below.refl _ V3).alloc (Nat.le_refl _) _
          have h8_4 := NB.new V3 (.int .i64 0) (.slice none 0 0)
          obtain ⟨B8, hB8⟩ : ∃ B, V3.heap.size = B := ⟨_, rfl⟩
          have hg8 : w2.heap.size ≤ B8 := by rw [← hB8]; exact hV3.size
          have hne : B9 ≠ B8 := by have := h9_3.lt; omega
          have h9_4 := h9_3.below hbn h9_3.lt
          have hV4 := hV3.trans (hbn.mono hV3.size)
          have hS4 := SM.kept (Nat.le_refl _) hS3 hbn
          refine hK.out _ _ hS4 (fun _ => ?_)
          clear hK K hbn hV3 hS3 h9_3
          generalize V3.alloc (.cells #[.int .i64 0, .slice none 0 0] 61) = V4 at *
          rw [hB8] at h8_4 ⊢
          clear hB8
          have c0 := h8_4.c0
          have c1 := h8_4.c1
          have f0 := h8_4.f0
          have f1 := h8_4.f1
          refine wpAnyH_ready (rs := [13]) (by kernel_rfl) (by simp) ?_
          refine AllReadyH.one rfl ?_ AllReadyH.nil
          intro K hK
          go_simp
          have hS5 := SM.put hS4 B8 (by omega) (by omega) (by omega) (.int .i64 q.sign) (.slice oq (Bg.ds q.natAbs).length cq)
          have h8_5 := h8_4.put (.int .i64 q.sign) (.slice oq (Bg.ds q.natAbs).length cq)
          have h9_5 := h9_4.others B8 (by omega) (.int .i64 q.sign) (.slice oq (Bg.ds q.natAbs).length cq)
          have hV5 := below_put hV4 hg8 (.int .i64 q.sign) (.slice oq (Bg.ds q.natAbs).length cq)
          refine hK.out _ _ hS5 (fun _ => ?_)
          clear hK K c0 c1 f0 f1 hS4 h8_4 h9_4 hV4
          generalize (V4.setCell ⟨B8, 0, none⟩ (.int .i64 q.sign)).setCell ⟨B8, 1, none⟩ (.slice oq (Bg.ds q.natAbs).length cq) = V5 at *
          have c0 := h9_5.c0
          have c1 := h9_5.c1
          have f0 := h9_5.f0
          have f1 := h9_5.f1
          refine wpAnyH_ready (rs := [14]) (by kernel_rfl) (by simp) ?_
          refine AllReadyH.one rfl ?_ AllReadyH.nil
          intro K hK
          go_simp
          have hS6 := SM.put hS5 B9 (by omega) (by omega) (by omega) (.int .i64 r.sign) (.slice or (Bg.ds r.natAbs).length cr)
          have h9_6 := h9_5.put (.int .i64 r.sign) (.slice or (Bg.ds r.natAbs).length cr)
          have h8_6 := h8_5.others B9 (by omega) (.int .i64 r.sign) (.slice or (Bg.ds r.natAbs).length cr)
          have hV6 := below_put hV5 hg9 (.int .i64 r.sign) (.slice or (Bg.ds r.natAbs).length cr)
          refine hK.out _ _ hS6 (fun _ => ?_)
          clear hK K c0 c1 f0 f1 hS5 h8_5 h9_5 hV5
          generalize (V5.setCell ⟨B9, 0, none⟩ (.int .i64 r.sign)).setCell ⟨B9, 1, none⟩ (.slice or (Bg.ds r.natAbs).length cr) = V6 at *
          refine wpAnyH_done (by kernel_rfl) ?_ _
          have H8 := Lib.hid h8_6
          have H9 := Lib.hid h9_6
          have HV := Lib.hid hV6
          clear h8_6 h9_6 hV6 hS6
          go_wp2_with fail
          go_meet
          exact ⟨B8, B9, rfl, rfl, H8, H9, HV, Lib.hid ⟨hg8, hg9⟩⟩
        refine AllReadyH.one rfl ?_ ?_
        · intro K hK
          go_simp
          have hbn : Below V2.heap.size V2 (V2.alloc (.cells #[.int .i64 0, .slice none 0 0] 61)) := (Below.refl _ V2).alloc (Nat.le_refl _) _
          have h8_3 := NB.new V2 (.int .i64 0) (.slice none 0 0)
          obtain ⟨B8, hB8⟩ : ∃ B, V2.heap.size = B := ⟨_, rfl⟩
          have hg8 : w2.heap.size ≤ B8 := by rw [← hB8]; exact hV2.size
          have hne : B9 ≠ B8 := by have := h9_2.lt; omega
          have h9_3 := h9_2.below hbn h9_2.lt
          have hV3 := hV2.trans (hbn.mono hV2.size)
          have hS3 := SM.kept (Nat.le_refl _) hS2 hbn
          refine hK.out _ _ hS3 (fun _ => ?_)
          clear hK K hbn hV2 hS2 h9_2
          generalize V2.alloc (.cells #[.int .i64 0, .slice none 0 0] 61) = V3 at *
          rw [hB8] at h8_3 ⊢
          clear hB8
          refine wpAnyH_ready (rs := [10]) (by kernel_rfl) (by simp) ?_
          refine AllReadyH.one rfl ?_ AllReadyH.nil
          intro K hK
          go_simp
          refine (HSr.out or cr V3 (HWd.out.below (HB2.out.trans (hV3.mono HB2.out.size))) (HIr.out.mono hV3)).mono ?_
          rintro e V4 hz
          obtain ⟨rfl, hbn⟩ := hz.1 HFr.out
          clear hz
          unfold numV
          have h8_4 := h8_3.below hbn h8_3.lt
          have h9_4 := h9_3.below hbn h9_3.lt
          have hV4 := hV3.trans (hbn.mono hV3.size)
          have hS4 := SM.kept (Nat.le_refl _) hS3 hbn
          refine hK.out _ _ hS4 (fun _ => ?_)
          clear hK K hbn hV3 hS3 h8_3 h9_3
          have c0 := h8_4.c0
          have c1 := h8_4.c1
          have f0 := h8_4.f0
          have f1 := h8_4.f1
          refine wpAnyH_ready (rs := [13]) (by kernel_rfl) (by simp) ?_
          refine AllReadyH.one rfl ?_ AllReadyH.nil
          intro K hK
          go_simp
          have hS5 := SM.put hS4 B8 (by omega) (by omega) (by omega) (.int .i64 q.sign) (.slice oq (Bg.ds q.natAbs).length cq)
          have h8_5 := h8_4.put (.int .i64 q.sign) (.slice oq (Bg.ds q.natAbs).length cq)
          have h9_5 := h9_4.others B8 (by omega) (.int .i64 q.sign) (.slice oq (Bg.ds q.natAbs).length cq)
          have hV5 := below_put hV4 hg8 (.int .i64 q.sign) (.slice oq (Bg.ds q.natAbs).length cq)
          refine hK.out _ _ hS5 (fun _ => ?_)
          clear hK K c0 c1 f0 f1 hS4 h8_4 h9_4 hV4
          generalize (V4.setCell ⟨B8, 0, none⟩ (.int .i64 q.sign)).setCell ⟨B8, 1, none⟩ (.slice oq (Bg.ds q.natAbs).length cq) = V5 at *
          have c0 := h9_5.c0
          have c1 := h9_5.c1
          have f0 := h9_5.f0
          have f1 := h9_5.f1
          refine wpAnyH_ready (rs := [14]) (by kernel_rfl) (by simp) ?_
          refine AllReadyH.one rfl ?_ AllReadyH.nil
          intro K hK
          go_simp
          have hS6 := SM.put hS5 B9 (by omega) (by omega) (by omega) (.int .i64 r.sign) (.slice or (Bg.ds r.natAbs).length cr)
          have h9_6 := h9_5.put (.int .i64 r.sign) (.slice or (Bg.ds r.natAbs).length cr)
          have h8_6 := h8_5.others B9 (by omega) (.int .i64 r.sign) (.slice or (Bg.ds r.natAbs).length cr)
          have hV6 := below_put hV5 hg9 (.int .i64 r.sign) (.slice or (Bg.ds r.natAbs).length cr)
          refine hK.out _ _ hS6 (fun _ => ?_)
          clear hK K c0 c1 f0 f1 hS5 h8_5 h9_5 hV5
          generalize (V5.setCell ⟨B9, 0, none⟩ (.int .i64 r.sign)).setCell ⟨B9, 1, none⟩ (.slice or (Bg.ds r.natAbs).length cr) = V6 at *
          refine wpAnyH_done (by kernel_rfl) ?_ _
          have H8 := Lib.hid h8_6
          have H9 := Lib.hid h9_6
          have HV := Lib.hid hV6
          clear h8_6 h9_6 hV6 hS6
          go_wp2_with fail
          go_meet
          exact ⟨B8, B9, rfl, rfl, H8, H9, HV, Lib.hid ⟨hg8, hg9⟩⟩
        exact AllReadyH.nil
      exact AllReadyH.nil
    refine AllReadyH.one rfl ?_ ?_
    · intro K hK
      go_simp
      have hbn : Below V0.heap.size V0 (V0.alloc (.cells #[.int .i64 0, .slice none 0 0] 61)) := (Below.refl _ V0).alloc (Nat.le_refl _) _
      have h8_1 := NB.new V0 (.int .i64 0) (.slice none 0 0)
      obtain ⟨B8, hB8⟩ : ∃ B, V0.heap.size = B := ⟨_, rfl⟩
      have hg8 : w2.heap.size ≤ B8 := by rw [← hB8]; exact hV0.size
      have hV1 := hV0.trans (hbn.mono hV0.size)
      have hS1 := SM.kept (Nat.le_refl _) hS0 hbn
      refine hK.out _ _ hS1 (fun _ => ?_)
      clear hK K hbn hV0 hS0
      generalize V0.alloc (.cells #[.int .i64 0, .slice none 0 0] 61) = V1 at *
      rw [hB8] at h8_1 ⊢
      clear hB8
      refine wpAnyH_ready (rs := [6, 12]) (by kernel_rfl) (by simp) ?_
      refine AllReadyH.one rfl ?_ ?_
      · intro K hK
        go_simp
        refine (HSq.out oq cq V1 (HWd.out.below (HB2.out.trans (hV1.mono HB2.out.size))) (HIq.out.mono hV1)).mono ?_
        rintro e V2 hz
        obtain ⟨rfl, hbn⟩ := hz.1 HFq.out
        clear hz
        unfold numV
        have h8_2 := h8_1.below hbn h8_1.lt
        have hV2 := hV1.trans (hbn.mono hV1.size)
        have hS2 := SM.kept (Nat.le_refl _) hS1 hbn
        refine hK.out _ _ hS2 (fun _ => ?_)
        clear hK K hbn hV1 hS1 h8_1
        refine wpAnyH_ready (rs := [10, 12]) (by kernel_rfl) (by simp) ?_
        refine AllReadyH.one rfl ?_ ?_
        · intro K hK
          go_simp
          refine (HSr.out or cr V2 (HWd.out.below (HB2.out.trans (hV2.mono HB2.out.size))) (HIr.out.mono hV2)).mono ?_
          rintro e V3 hz
          obtain ⟨rfl, hbn⟩ := hz.1 HFr.out
          clear hz
          unfold numV
          have h8_3 := h8_2.below hbn h8_2.lt
          have hV3 := hV2.trans (hbn.mono hV2.size)
          have hS3 := SM.kept (Nat.le_refl _) hS2 hbn
          refine hK.out _ _ hS3 (fun _ => ?_)
          clear hK K hbn hV2 hS2 h8_2
          refine wpAnyH_ready (rs := [12]) (by kernel_rfl) (by simp) ?_
          refine AllReadyH.one rfl ?_ AllReadyH.nil
          intro K hK
          go_simp
          have hbn : Below V3.heap.size V3 (V3.alloc (.cells #[.int .i64 0, .slice none 0 0] 61)) := (Below.refl _ V3).alloc (Nat.le_refl _) _
          have h9_4 := NB.new V3 (.int .i64 0) (.slice none 0 0)
          obtain ⟨B9, hB9⟩ : ∃ B, V3.heap.size = B := ⟨_, rfl⟩
          have hg9 : w2.heap.size ≤ B9 := by rw [← hB9]; exact hV3.size
          have hne : B8 ≠ B9 := by have := h8_3.lt; omega
          have h8_4 := h8_3.below hbn h8_3.lt
          have hV4 := hV3.trans (hbn.mono hV3.size)
          have hS4 := SM.kept (Nat.le_refl _) hS3 hbn
          refine hK.out _ _ hS4 (fun _ => ?_)
          clear hK K hbn hV3 hS3 h8_3
          generalize V3.alloc (.cells #[.int .i64 0, .slice none 0 0] 61) = V4 at *
          rw [hB9] at h9_4 ⊢
          clear hB9
          have c0 := h8_4.c0
          have c1 := h8_4.c1
          have f0 := h8_4.f0
          have f1 := h8_4.f1
          refine wpAnyH_ready (rs := [13]) (by kernel_rfl) (by simp) ?_
          refine AllReadyH.one rfl ?_ AllReadyH.nil
          intro K hK
          go_simp
          have hS5 := SM.put hS4 B8 (by omega) (by omega) (by omega) (.int .i64 q.sign) (.slice oq (Bg.ds q.natAbs).length cq)
          have h8_5 := h8_4.put (.int .i64 q.sign) (.slice oq (Bg.ds q.natAbs).length cq)
          have h9_5 := h9_4.others B8 (by omega) (.int .i64 q.sign) (.slice oq (Bg.ds q.natAbs).length cq)
          have hV5 := below_put hV4 hg8 (.int .i64 q.sign) (.slice oq (Bg.ds q.natAbs).length cq)
          refine hK.out _ _ hS5 (fun _ => ?_)
          clear hK K c0 c1 f0 f1 hS4 h8_4 h9_4 hV4
          generalize (V4.setCell ⟨B8, 0, none⟩ (.int .i64 q.sign)).setCell ⟨B8, 1, none⟩ (.slice oq (Bg.ds q.natAbs).length cq) = V5 at *
          have c0 := h9_5.c0
          have c1 := h9_5.c1
          have f0 := h9_5.f0
          have f1 := h9_5.f1
          refine wpAnyH_ready (rs := [14]) (by kernel_rfl) (by simp) ?_
          refine AllReadyH.one rfl ?_ AllReadyH.nil
          intro K hK
          go_simp
          have hS6 := SM.put hS5 B9 (by omega) (by omega) (by omega) (.int .i64 r.sign) (.slice or (Bg.ds r.natAbs).length cr)
          have h9_6 := h9_5.put (.int .i64 r.sign) (.slice or (Bg.ds r.natAbs).length cr)
          have h8_6 := h8_5.others B9 (by omega) (.int .i64 r.sign) (.slice or (Bg.ds r.natAbs).length cr)
          have hV6 := below_put hV5 hg9 (.int .i64 r.sign) (.slice or (Bg.ds r.natAbs).length cr)
          refine hK.out _ _ hS6 (fun _ => ?_)
          clear hK K c0 c1 f0 f1 hS5 h8_5 h9_5 hV5
          generalize (V5.setCell ⟨B9, 0, none⟩ (.int .i64 r.sign)).setCell ⟨B9, 1, none⟩ (.slice or (Bg.ds r.natAbs).length cr) = V6 at *
          refine wpAnyH_done (by kernel_rfl) ?_ _
          have H8 := Lib.hid h8_6
          have H9 := Lib.hid h9_6
          have HV := Lib.hid hV6
          clear h8_6 h9_6 hV6 hS6
          go_wp2_with fail
          go_meet
          exact ⟨B8, B9, rfl, rfl, H8, H9, HV, Lib.hid ⟨hg8, hg9⟩⟩
        refine AllReadyH.one rfl ?_ ?_
        · intro K hK
          go_simp
          have hbn : Below V2.heap.size V2 (V2.alloc (.cells #[.int .i64 0, .slice none 0 0] 61)) := (Below.refl _ V2).alloc (Nat.le_refl _) _
          have h9_3 := NB.new V2 (.int .i64 0) (.slice none 0 0)
          obtain ⟨B9, hB9⟩ : ∃ B, V2.heap.size = B := ⟨_, rfl⟩
          have hg9 : w2.heap.size ≤ B9 := by rw [← hB9]; exact hV2.size
          have hne : B8 ≠ B9 := by have := h8_2.lt; omega
          have h8_3 := h8_2.below hbn h8_2.lt
          have hV3 := hV2.trans (hbn.mono hV2.size)
          have hS3 := SM.kept (Nat.le_refl _) hS2 hbn
          refine hK.out _ _ hS3 (fun _ => ?_)
          clear hK K hbn hV2 hS2 h8_2
          generalize V2.alloc (.cells #[.int .i64 0, .slice none 0 0] 61) = V3 at *
          rw [hB9] at h9_3 ⊢
          clear hB9
          refine wpAnyH_ready (rs := [10]) (by kernel_rfl) (by simp) ?_
          refine AllReadyH.one rfl ?_ AllReadyH.nil
          intro K hK
          go_simp
          refine (HSr.out or cr V3 (HWd.out.below (HB2.out.trans (hV3.mono HB2.out.size))) (HIr.out.mono hV3)).mono ?_
          rintro e V4 hz
          obtain ⟨rfl, hbn⟩ := hz.1 HFr.out
          clear hz
          unfold numV
          have h8_4 := h8_3.below hbn h8_3.lt
          have h9_4 := h9_3.below hbn h9_3.lt
          have hV4 := hV3.trans (hbn.mono hV3.size)
          have hS4 := SM.kept (Nat.le_refl _) hS3 hbn
          refine hK.out _ _ hS4 (fun _ => ?_)
          clear hK K hbn hV3 hS3 h8_3 h9_3
          have c0 := h8_4.c0
          have c1 := h8_4.c1
          have f0 := h8_4.f0
          have f1 := h8_4.f1
          refine wpAnyH_ready (rs := [13]) (by kernel_rfl) (by simp) ?_
          refine AllReadyH.one rfl ?_ AllReadyH.nil
          intro K hK
          go_simp
          have hS5 := SM.put hS4 B8 (by omega) (by omega) (by omega) (.int .i64 q.sign) (.slice oq (Bg.ds q.natAbs).length cq)
          have h8_5 := h8_4.put (.int .i64 q.sign) (.slice oq (Bg.ds q.natAbs).length cq)
          have h9_5 := h9_4.others B8 (by omega) (.int .i64 q.sign) (.slice oq (Bg.ds q.natAbs).length cq)
          have hV5 := below_put hV4 hg8 (.int .i64 q.sign) (.slice oq (Bg.ds q.natAbs).length cq)
          refine hK.out _ _ hS5 (fun _ => ?_)
          clear hK K c0 c1 f0 f1 hS4 h8_4 h9_4 hV4
          generalize (V4.setCell ⟨B8, 0, none⟩ (.int .i64 q.sign)).setCell ⟨B8, 1, none⟩ (.slice oq (Bg.ds q.natAbs).length cq) = V5 at *
          have c0 := h9_5.c0
          have c1 := h9_5.c1
          have f0 := h9_5.f0
          have f1 := h9_5.f1
          refine wpAnyH_ready (rs := [14]) (by kernel_rfl) (by simp) ?_
          refine AllReadyH.one rfl ?_ AllReadyH.nil
          intro K hK
          go_simp
          have hS6 := SM.put hS5 B9 (by omega) (by omega) (by omega) (.int .i64 r.sign) (.slice or (Bg.ds r.natAbs).length cr)
          have h9_6 := h9_5.put (.int .i64 r.sign) (.slice or (Bg.ds r.natAbs).length cr)
          have h8_6 := h8_5.others B9 (by omega) (.int .i64 r.sign) (.slice or (Bg.ds r.natAbs).length cr)
          have hV6 := below_put hV5 hg9 (.int .i64 r.sign) (.slice or (Bg.ds r.natAbs).length cr)
          refine hK.out _ _ hS6 (fun _ => ?_)
          clear hK K c0 c1 f0 f1 hS5 h8_5 h9_5 hV5
          generalize (V5.setCell ⟨B9, 0, none⟩ (.int .i64 r.sign)).setCell ⟨B9, 1, none⟩ (.slice or (Bg.ds r.natAbs).length cr) = V6 at *
          refine wpAnyH_done (by kernel_rfl) ?_ _
          have H8 := Lib.hid h8_6
          have H9 := Lib.hid h9_6
          have HV := Lib.hid hV6
          clear h8_6 h9_6 hV6 hS6
          go_wp2_with fail
          go_meet
          exact ⟨B8, B9, rfl, rfl, H8, H9, HV, Lib.hid ⟨hg8, hg9⟩⟩
        exact AllReadyH.nil
      refine AllReadyH.one rfl ?_ ?_
      · intro K hK
        go_simp
        have hbn : Below V1.heap.size V1 (V1.alloc (.cells #[.int .i64 0, .slice none 0 0] 61)) := (Below.refl _ V1).alloc (Nat.le_refl _) _
        have h9_2 := NB.new V1 (.int .i64 0) (.slice none 0 0)
        obtain ⟨B9, hB9⟩ : ∃ B, V1.heap.size = B := ⟨_, rfl⟩
        have hg9 : w2.heap.size ≤ B9 := by rw [← hB9]; exact hV1.size
        have hne : B8 ≠ B9 := by have := h8_1.lt; omega
        have h8_2 := h8_1.below hbn h8_1.lt
        have hV2 := hV1.trans (hbn.mono hV1.size)
        have hS2 := SM.kept (Nat.le_refl _) hS1 hbn
        refine hK.out _ _ hS2 (fun _ => ?_)
        clear hK K hbn hV1 hS1 h8_1
        generalize V1.alloc (.cells #[.int .i64 0, .slice none 0 0] 61) = V2 at *
        rw [hB9] at h9_2 ⊢
        clear hB9
        refine wpAnyH_ready (rs := [6]) (by kernel_rfl) (by simp) ?_
        refine AllReadyH.one rfl ?_ AllReadyH.nil
        intro K hK
        go_simp
        refine (HSq.out oq cq V2 (HWd.out.below (HB2.out.trans (hV2.mono HB2.out.size))) (HIq.out.mono hV2)).mono ?_
        rintro e V3 hz
        obtain ⟨rfl, hbn⟩ := hz.1 HFq.out
        clear hz
        unfold numV
        have h8_3 := h8_2.below hbn h8_2.lt
        have h9_3 := h9_2.below hbn h9_2.lt
        have hV3 := hV2.trans (hbn.mono hV2.size)
        have hS3 := SM.kept (Nat.le_refl _) hS2 hbn
        refine hK.out _ _ hS3 (fun _ => ?_)
        clear hK K hbn hV2 hS2 h8_2 h9_2
        refine wpAnyH_ready (rs := [10]) (by kernel_rfl) (by simp) ?_
        refine AllReadyH.one rfl ?_ AllReadyH.nil
        intro K hK
        go_simp
        refine (HSr.out or cr V3 (HWd.out.below (HB2.out.trans (hV3.mono HB2.out.size))) (HIr.out.mono hV3)).mono ?_
        rintro e V4 hz
        obtain ⟨rfl, hbn⟩ := hz.1 HFr.out
        clear hz
        unfold numV
        have h8_4 := h8_3.below hbn h8_3.lt
        have h9_4 := h9_3.below hbn h9_3.lt
        have hV4 := hV3.trans (hbn.mono hV3.size)
        have hS4 := SM.kept (Nat.le_refl _) hS3 hbn
        refine hK.out _ _ hS4 (fun _ => ?_)
        clear hK K hbn hV3 hS3 h8_3 h9_3
        have c0 := h8_4.c0
        have c1 := h8_4.c1
        have f0 := h8_4.f0
        have f1 := h8_4.f1
        refine wpAnyH_ready (rs := [13]) (by kernel_rfl) (by simp) ?_
        refine AllReadyH.one rfl ?_ AllReadyH.nil
        intro K hK
        go_simp
        have hS5 := SM.put hS4 B8 (by omega) (by omega) (by omega) (.int .i64 q.sign) (.slice oq (Bg.ds q.natAbs).length cq)
        have h8_5 := h8_4.put (.int .i64 q.sign) (.slice oq (Bg.ds q.natAbs).length cq)
        have h9_5 := h9_4.others B8 (by omega) (.int .i64 q.sign) (.slice oq (Bg.ds q.natAbs).length cq)
        have hV5 := below_put hV4 hg8 (.int .i64 q.sign) (.slice oq (Bg.ds q.natAbs).length cq)
        refine hK.out _ _ hS5 (fun _ => ?_)
        clear hK K c0 c1 f0 f1 hS4 h8_4 h9_4 hV4
        generalize (V4.setCell ⟨B8, 0, none⟩ (.int .i64 q.sign)).setCell ⟨B8, 1, none⟩ (.slice oq (Bg.ds q.natAbs).length cq) = V5 at *
        have c0 := h9_5.c0
        have c1 := h9_5.c1
        have f0 := h9_5.f0
        have f1 := h9_5.f1
        refine wpAnyH_ready (rs := [14]) (by kernel_rfl) (by simp) ?_
        refine AllReadyH.one rfl ?_ AllReadyH.nil
        intro K hK
        go_simp
        have hS6 := SM.put hS5 B9 (by omega) (by omega) (by omega) (.int .i64 r.sign) (.slice or (Bg.ds r.natAbs).length cr)
        have h9_6 := h9_5.put (.int .i64 r.sign) (.slice or (Bg.ds r.natAbs).length cr)
        have h8_6 := h8_5.others B9 (by omega) (.int .i64 r.sign) (.slice or (Bg.ds r.natAbs).length cr)
        have hV6 := below_put hV5 hg9 (.int .i64 r.sign) (.slice or (Bg.ds r.natAbs).length cr)
        refine hK.out _ _ hS6 (fun _ => ?_)
        clear hK K c0 c1 f0 f1 hS5 h8_5 h9_5 hV5
        generalize (V5.setCell ⟨B9, 0, none⟩ (.int .i64 r.sign)).setCell ⟨B9, 1, none⟩ (.slice or (Bg.ds r.natAbs).length cr) = V6 at *
        refine wpAnyH_done (by kernel_rfl) ?_ _
        have H8 := Lib.hid h8_6
        have H9 := Lib.hid h9_6
        have HV := Lib.hid hV6
        clear h8_6 h9_6 hV6 hS6
        go_wp2_with fail
        go_meet
        exact ⟨B8, B9, rfl, rfl, H8, H9, HV, Lib.hid ⟨hg8, hg9⟩⟩
      exact AllReadyH.nil
    refine AllReadyH.one rfl ?_ ?_
    · intro K hK
      go_simp
      have hbn : Below V0.heap.size V0 (V0.alloc (.cells #[.int .i64 0, .slice none 0 0] 61)) := (Below.refl _ V0).alloc (Nat.le_refl _) _
      have h9_1 := NB.new V0 (.int .i64 0) (.slice none 0 0)
      obtain ⟨B9, hB9⟩ : ∃ B, V0.heap.size = B := ⟨_, rfl⟩
      have hg9 : w2.heap.size ≤ B9 := by rw [← hB9]; exact hV0.size
      have hV1 := hV0.trans (hbn.mono hV0.size)
      have hS1 := SM.kept (Nat.le_refl _) hS0 hbn
      refine hK.out _ _ hS1 (fun _ => ?_)
      clear hK K hbn hV0 hS0
      generalize V0.alloc (.cells #[.int .i64 0, .slice none 0 0] 61) = V1 at *
      rw [hB9] at h9_1 ⊢
      clear hB9
      refine wpAnyH_ready (rs := [6, 11]) (by kernel_rfl) (by simp) ?_
      refine AllReadyH.one rfl ?_ ?_
      · intro K hK
        go_simp
        refine (HSq.out oq cq V1 (HWd.out.below (HB2.out.trans (hV1.mono HB2.out.size))) (HIq.out.mono hV1)).mono ?_
        rintro e V2 hz
        obtain ⟨rfl, hbn⟩ := hz.1 HFq.out
        clear hz
        unfold numV
        have h9_2 := h9_1.below hbn h9_1.lt
        have hV2 := hV1.trans (hbn.mono hV1.size)
        have hS2 := SM.kept (Nat.le_refl _) hS1 hbn
        refine hK.out _ _ hS2 (fun _ => ?_)
        clear hK K hbn hV1 hS1 h9_1
        refine wpAnyH_ready (rs := [10, 11]) (by kernel_rfl) (by simp) ?_
        refine AllReadyH.one rfl ?_ ?_
        · intro K hK
          go_simp
          refine (HSr.out or cr V2 (HWd.out.below (HB2.out.trans (hV2.mono HB2.out.size))) (HIr.out.mono hV2)).mono ?_
          rintro e V3 hz
          obtain ⟨rfl, hbn⟩ := hz.1 HFr.out
          clear hz
          unfold numV
          have h9_3 := h9_2.below hbn h9_2.lt
          have hV3 := hV2.trans (hbn.mono hV2.size)
          have hS3 := SM.kept (Nat.le_refl _) hS2 hbn
          refine hK.out _ _ hS3 (fun _ => ?_)
          clear hK K hbn hV2 hS2 h9_2
          refine wpAnyH_ready (rs := [11]) (by kernel_rfl) (by simp) ?_
          refine AllReadyH.one rfl ?_ AllReadyH.nil
          intro K hK
          go_simp
          have hbn : Below V3.heap.size V3 (V3.alloc (.cells #[.int .i64 0, .slice none 0 0] 61)) := (Below.refl _ V3).alloc (Nat.le_refl _) _
          have h8_4 := NB.new V3 (.int .i64 0) (.slice none 0 0)
          obtain ⟨B8, hB8⟩ : ∃ B, V3.heap.size = B := ⟨_, rfl⟩
          have hg8 : w2.heap.size ≤ B8 := by rw [← hB8]; exact hV3.size
          have hne : B9 ≠ B8 := by have := h9_3.lt; omega
          have h9_4 := h9_3.below hbn h9_3.lt
          have hV4 := hV3.trans (hbn.mono hV3.size)
          have hS4 := SM.kept (Nat.le_refl _) hS3 hbn
          refine hK.out _ _ hS4 (fun _ => ?_)
          clear hK K hbn hV3 hS3 h9_3
          generalize V3.alloc (.cells #[.int .i64 0, .slice none 0 0] 61) = V4 at *
          rw [hB8] at h8_4 ⊢
          clear hB8
          have c0 := h8_4.c0
          have c1 := h8_4.c1
          have f0 := h8_4.f0
          have f1 := h8_4.f1
          refine wpAnyH_ready (rs := [13]) (by kernel_rfl) (by simp) ?_
          refine AllReadyH.one rfl ?_ AllReadyH.nil
          intro K hK
          go_simp
          have hS5 := SM.put hS4 B8 (by omega) (by omega) (by omega) (.int .i64 q.sign) (.slice oq (Bg.ds q.natAbs).length cq)
          have h8_5 := h8_4.put (.int .i64 q.sign) (.slice oq (Bg.ds q.natAbs).length cq)
          have h9_5 := h9_4.others B8 (by omega) (.int .i64 q.sign) (.slice oq (Bg.ds q.natAbs).length cq)
          have hV5 := below_put hV4 hg8 (.int .i64 q.sign) (.slice oq (Bg.ds q.natAbs).length cq)
          refine hK.out _ _ hS5 (fun _ => ?_)
          clear hK K c0 c1 f0 f1 hS4 h8_4 h9_4 hV4
          generalize (V4.setCell ⟨B8, 0, none⟩ (.int .i64 q.sign)).setCell ⟨B8, 1, none⟩ (.slice oq (Bg.ds q.natAbs).length cq) = V5 at *
          have c0 := h9_5.c0
          have c1 := h9_5.c1
          have f0 := h9_5.f0
          have f1 := h9_5.f1
          refine wpAnyH_ready (rs := [14]) (by kernel_rfl) (by simp) ?_
          refine AllReadyH.one rfl ?_ AllReadyH.nil
          intro K hK
          go_simp
          have hS6 := SM.put hS5 B9 (by omega) (by omega) (by omega) (.int .i64 r.sign) (.slice or (Bg.ds r.natAbs).length cr)
          have h9_6 := h9_5.put (.int .i64 r.sign) (.slice or (Bg.ds r.natAbs).length cr)
          have h8_6 := h8_5.others B9 (by omega) (.int .i64 r.sign) (.slice or (Bg.ds r.natAbs).length cr)
          have hV6 := below_put hV5 hg9 (.int .i64 r.sign) (.slice or (Bg.ds r.natAbs).length cr)
          refine hK.out _ _ hS6 (fun _ => ?_)
          clear hK K c0 c1 f0 f1 hS5 h8_5 h9_5 hV5
          generalize (V5.setCell ⟨B9, 0, none⟩ (.int .i64 r.sign)).setCell ⟨B9, 1, none⟩ (.slice or (Bg.ds r.natAbs).length cr) = V6 at *
          refine wpAnyH_done (by kernel_rfl) ?_ _
          have H8 := Lib.hid h8_6
          have H9 := Lib.hid h9_6
          have HV := Lib.hid hV6
          clear h8_6 h9_6 hV6 hS6
          go_wp2_with fail
          go_meet
          exact ⟨B8, B9, rfl, rfl, H8, H9, HV, Lib.hid ⟨hg8, hg9⟩⟩
        refine AllReadyH.one rfl ?_ ?_
        · intro K hK
          go_simp
          have hbn : Below V2.heap.size V2 (V2.alloc (.cells #[.int .i64 0, .slice none 0 0] 61)) := (Below.refl _ V2).alloc (Nat.le_refl _) _
          have h8_3 := NB.new V2 (.int .i64 0) (.slice none 0 0)
          obtain ⟨B8, hB8⟩ : ∃ B, V2.heap.size = B := ⟨_, rfl⟩
          have hg8 : w2.heap.size ≤ B8 := by rw [← hB8]; exact hV2.size
          have hne : B9 ≠ B8 := by have := h9_2.lt; omega
          have h9_3 := h9_2.below hbn h9_2.lt
          have hV3 := hV2.trans (hbn.mono hV2.size)
          have hS3 := SM.kept (Nat.le_refl _) hS2 hbn
          refine hK.out _ _ hS3 (fun _ => ?_)
          clear hK K hbn hV2 hS2 h9_2
          generalize V2.alloc (.cells #[.int .i64 0, .slice none 0 0] 61) = V3 at *
          rw [hB8] at h8_3 ⊢
          clear hB8
          refine wpAnyH_ready (rs := [10]) (by kernel_rfl) (by simp) ?_
          refine AllReadyH.one rfl ?_ AllReadyH.nil
          intro K hK
          go_simp
          refine (HSr.out or cr V3 (HWd.out.below (HB2.out.trans (hV3.mono HB2.out.size))) (HIr.out.mono hV3)).mono ?_
          rintro e V4 hz
          obtain ⟨rfl, hbn⟩ := hz.1 HFr.out
          clear hz
          unfold numV
          have h8_4 := h8_3.below hbn h8_3.lt
          have h9_4 := h9_3.below hbn h9_3.lt
          have hV4 := hV3.trans (hbn.mono hV3.size)
          have hS4 := SM.kept (Nat.le_refl _) hS3 hbn
          refine hK.out _ _ hS4 (fun _ => ?_)
          clear hK K hbn hV3 hS3 h8_3 h9_3
          have c0 := h8_4.c0
          have c1 := h8_4.c1
          have f0 := h8_4.f0
          have f1 := h8_4.f1
          refine wpAnyH_ready (rs := [13]) (by kernel_rfl) (by simp) ?_
          refine AllReadyH.one rfl ?_ AllReadyH.nil
          intro K hK
          go_simp
          have hS5 := SM.put hS4 B8 (by omega) (by omega) (by omega) (.int .i64 q.sign) (.slice oq (Bg.ds q.natAbs).length cq)
          have h8_5 := h8_4.put (.int .i64 q.sign) (.slice oq (Bg.ds q.natAbs).length cq)
          have h9_5 := h9_4.others B8 (by omega) (.int .i64 q.sign) (.slice oq (Bg.ds q.natAbs).length cq)
          have hV5 := below_put hV4 hg8 (.int .i64 q.sign) (.slice oq (Bg.ds q.natAbs).length cq)
          refine hK.out _ _ hS5 (fun _ => ?_)
          clear hK K c0 c1 f0 f1 hS4 h8_4 h9_4 hV4
          generalize (V4.setCell ⟨B8, 0, none⟩ (.int .i64 q.sign)).setCell ⟨B8, 1, none⟩ (.slice oq (Bg.ds q.natAbs).length cq) = V5 at *
          have c0 := h9_5.c0
          have c1 := h9_5.c1
          have f0 := h9_5.f0
          have f1 := h9_5.f1
          refine wpAnyH_ready (rs := [14]) (by kernel_rfl) (by simp) ?_
          refine AllReadyH.one rfl ?_ AllReadyH.nil
          intro K hK
          go_simp
          have hS6 := SM.put hS5 B9 (by omega) (by omega) (by omega) (.int .i64 r.sign) (.slice or (Bg.ds r.natAbs).length cr)
          have h9_6 := h9_5.put (.int .i64 r.sign) (.slice or (Bg.ds r.natAbs).length cr)
          have h8_6 := h8_5.others B9 (by omega) (.int .i64 r.sign) (.slice or (Bg.ds r.natAbs).length cr)
          have hV6 := below_put hV5 hg9 (.int .i64 r.sign) (.slice or (Bg.ds r.natAbs).length cr)
          refine hK.out _ _ hS6 (fun _ => ?_)
          clear hK K c0 c1 f0 f1 hS5 h8_5 h9_5 hV5
          generalize (V5.setCell ⟨B9, 0, none⟩ (.int .i64 r.sign)).setCell ⟨B9, 1, none⟩ (.slice or (Bg.ds r.natAbs).length cr) = V6 at *
          refine wpAnyH_done (by kernel_rfl) ?_ _
          have H8 := Lib.hid h8_6
          have H9 := Lib.hid h9_6
          have HV := Lib.hid hV6
          clear h8_6 h9_6 hV6 hS6
          go_wp2_with fail
          go_meet
          exact ⟨B8, B9, rfl, rfl, H8, H9, HV, Lib.hid ⟨hg8, hg9⟩⟩
        exact AllReadyH.nil
      refine AllReadyH.one rfl ?_ ?_
      · intro K hK
        go_simp
        have hbn : Below V1.heap.size V1 (V1.alloc (.cells #[.int .i64 0, .slice none 0 0] 61)) := (Below.refl _ V1).alloc (Nat.le_refl _) _
        have h8_2 := NB.new V1 (.int .i64 0) (.slice none 0 0)
        obtain ⟨B8, hB8⟩ : ∃ B, V1.heap.size = B := ⟨_, rfl⟩
        have hg8 : w2.heap.size ≤ B8 := by rw [← hB8]; exact hV1.size
        have hne : B9 ≠ B8 := by have := h9_1.lt; omega
        have h9_2 := h9_1.below hbn h9_1.lt
        have hV2 := hV1.trans (hbn.mono hV1.size)
        have hS2 := SM.kept (Nat.le_refl _) hS1 hbn
        refine hK.out _ _ hS2 (fun _ => ?_)
        clear hK K hbn hV1 hS1 h9_1
        generalize V1.alloc (.cells #[.int .i64 0, .slice none 0 0] 61) = V2 at *
        rw [hB8] at h8_2 ⊢
        clear hB8
        refine wpAnyH_ready (rs := [6]) (by kernel_rfl) (by simp) ?_
        refine AllReadyH.one rfl ?_ AllReadyH.nil
        intro K hK
        go_simp
        refine (HSq.out oq cq V2 (HWd.out.below (HB2.out.trans (hV2.mono HB2.out.size))) (HIq.out.mono hV2)).mono ?_
        rintro e V3 hz
        obtain ⟨rfl, hbn⟩ := hz.1 HFq.out
        clear hz
        unfold numV
        have h8_3 := h8_2.below hbn h8_2.lt
        have h9_3 := h9_2.below hbn h9_2.lt
        have hV3 := hV2.trans (hbn.mono hV2.size)
        have hS3 := SM.kept (Nat.le_refl _) hS2 hbn
        refine hK.out _ _ hS3 (fun _ => ?_)
        clear hK K hbn hV2 hS2 h8_2 h9_2
        refine wpAnyH_ready (rs := [10]) (by kernel_rfl) (by simp) ?_
        refine AllReadyH.one rfl ?_ AllReadyH.nil
        intro K hK
        go_simp
        refine (HSr.out or cr V3 (HWd.out.below (HB2.out.trans (hV3.mono HB2.out.size))) (HIr.out.mono hV3)).mono ?_
        rintro e V4 hz
        obtain ⟨rfl, hbn⟩ := hz.1 HFr.out
        clear hz
        unfold numV
        have h8_4 := h8_3.below hbn h8_3.lt
        have h9_4 := h9_3.below hbn h9_3.lt
        have hV4 := hV3.trans (hbn.mono hV3.size)
        have hS4 := SM.kept (Nat.le_refl _) hS3 hbn
        refine hK.out _ _ hS4 (fun _ => ?_)
        clear hK K hbn hV3 hS3 h8_3 h9_3
        have c0 := h8_4.c0
        have c1 := h8_4.c1
        have f0 := h8_4.f0
        have f1 := h8_4.f1
        refine wpAnyH_ready (rs := [13]) (by kernel_rfl) (by simp) ?_
        refine AllReadyH.one rfl ?_ AllReadyH.nil
        intro K hK
        go_simp
        have hS5 := SM.put hS4 B8 (by omega) (by omega) (by omega) (.int .i64 q.sign) (.slice oq (Bg.ds q.natAbs).length cq)
        have h8_5 := h8_4.put (.int .i64 q.sign) (.slice oq (Bg.ds q.natAbs).length cq)
        have h9_5 := h9_4.others B8 (by omega) (.int .i64 q.sign) (.slice oq (Bg.ds q.natAbs).length cq)
        have hV5 := below_put hV4 hg8 (.int .i64 q.sign) (.slice oq (Bg.ds q.natAbs).length cq)
        refine hK.out _ _ hS5 (fun _ => ?_)
        clear hK K c0 c1 f0 f1 hS4 h8_4 h9_4 hV4
        generalize (V4.setCell ⟨B8, 0, none⟩ (.int .i64 q.sign)).setCell ⟨B8, 1, none⟩ (.slice oq (Bg.ds q.natAbs).length cq) = V5 at *
        have c0 := h9_5.c0
        have c1 := h9_5.c1
        have f0 := h9_5.f0
        have f1 := h9_5.f1
        refine wpAnyH_ready (rs := [14]) (by kernel_rfl) (by simp) ?_
        refine AllReadyH.one rfl ?_ AllReadyH.nil
        intro K hK
        go_simp
        have hS6 := SM.put hS5 B9 (by omega) (by omega) (by omega) (.int .i64 r.sign) (.slice or (Bg.ds r.natAbs).length cr)
        have h9_6 := h9_5.put (.int .i64 r.sign) (.slice or (Bg.ds r.natAbs).length cr)
        have h8_6 := h8_5.others B9 (by omega) (.int .i64 r.sign) (.slice or (Bg.ds r.natAbs).length cr)
        have hV6 := below_put hV5 hg9 (.int .i64 r.sign) (.slice or (Bg.ds r.natAbs).length cr)
        refine hK.out _ _ hS6 (fun _ => ?_)
        clear hK K c0 c1 f0 f1 hS5 h8_5 h9_5 hV5
        generalize (V5.setCell ⟨B9, 0, none⟩ (.int .i64 r.sign)).setCell ⟨B9, 1, none⟩ (.slice or (Bg.ds r.natAbs).length cr) = V6 at *
        refine wpAnyH_done (by kernel_rfl) ?_ _
        have H8 := Lib.hid h8_6
        have H9 := Lib.hid h9_6
        have HV := Lib.hid hV6
        clear h8_6 h9_6 hV6 hS6
        go_wp2_with fail
        go_meet
        exact ⟨B8, B9, rfl, rfl, H8, H9, HV, Lib.hid ⟨hg8, hg9⟩⟩
      exact AllReadyH.nil
    exact AllReadyH.nil
  case rest =>
    obtain ⟨B8, B9, rfl, rfl, H8, H9, HV, HG⟩ := hcut
    have hB1 := HB1.out.below HV.out (by have := HB1.out.lt; omega)
    have hC1 := HC1.out.below HV.out (by have := HC1.out.lt; omega)
    have hD1 := HD1.out.below HV.out hlt2
    have hVb := HB2.out.trans (HV.out.mono hsz2)
    have hVz := hVb.size
    have r0 := H8.out.c0
    have r1 := H8.out.c1
    have r2 := H9.out.c0
    have r3 := H9.out.c1
    have b0 := hB1.c0
    have b1 := hB1.c1
    have d0 := hC1.c0
    have d1 := hC1.c1
    have d2 := hC1.f0
    have d3 := hC1.f1
    have e0 := hD1.c0
    have e1 := hD1.c1
    have e2 := hD1.f0
    have e3 := hD1.f1
    obtain ⟨hg8, hg9⟩ := HG.out
    have HCc := Lib.hid hC1
    have HDd := Lib.hid hD1
    have HBb := Lib.hid hB1
    have HVb := Lib.hid hVb
    clear hB1 hC1 hD1 hVb
    by_cases hneg : r.sign * sb < 0
    · have dn : decide (r.sign * sb < 0) = true := decide_eq_true hneg
      have hfl := HFl.out
      rw [if_pos hneg] at hfl
      obtain ⟨hdq, hdr⟩ := hfl
      clear hneg
      obtain ⟨one, h1, hsm⟩ : ∃ one : Int, one = 1 ∧ ∀ W, Calls Tryz.prog 86 #[.int .i64 1] W (RetNum one W) := ⟨1, rfl, fun W => small_c 1 (by decide) (by decide) W⟩
      rw [← h1] at hdq
      have HFdq2 := HFdq.out
      have HFdr2 := HFdr.out
      rw [hdq] at HFdq2
      rw [hdr] at HFdr2
      have HFdq2 := Lib.hid HFdq2
      have HFdr2 := Lib.hid HFdr2
      have HDq := Lib.hid hdq
      have HDr := Lib.hid hdr
      clear hdq hdr
      have HSm := Lib.hid hsm
      clear h1 hsm
      have hS0 := S3.mk (W := wc.drew) H8.out.drew H9.out.drew HBb.out.drew HVb.out.drew
      have HC0 := Lib.hid HCc.out.drew
      have HD0 := Lib.hid HDd.out.drew
      have HV0 := Lib.hid HVb.out.drew
      have HQ0 := Lib.hid (HIq.out.mono (HV.out.drew))
      have HR0 := Lib.hid (HIr.out.mono (HV.out.drew))
      have hz0 : w.heap.size + 3 < wc.drew.heap.size := HDd.out.lt
      clear r0 r1 r2 r3 b0 b1 d0 d1 d2 d3 e0 e1 e2 e3
      have hf1 := H8.out.c0
      have hf2 := H9.out.c0
      have hf3 := HBb.out.c0
      go_wp2_with fail
      clear hf1 hf2 hf3
      refine wp_region_held_drew (S := fun W => W.cell? ⟨B8, 0, none⟩ = some (.int .i64 q.sign) ∧ W.cell? ⟨B8, 1, none⟩ = some (.slice oq (Bg.ds q.natAbs).length cq) ∧ W.cell? ⟨B9, 0, none⟩ = some (.int .i64 r.sign) ∧ W.cell? ⟨B9, 1, none⟩ = some (.slice or (Bg.ds r.natAbs).length cr) ∧ W.cell? ⟨w.heap.size + 1, 0, none⟩ = some (.int .i64 sb) ∧ W.cell? ⟨w.heap.size + 1, 1, none⟩ = some (.slice ob lb cb) ∧ Below w.heap.size w W ∧ B8 < W.heap.size ∧ B9 < W.heap.size ∧ w.heap.size + 1 < W.heap.size) (by kernel_rfl) hS0 (fun _ => ?_)
      refine wpAnyH_take (i := 0) (v := ?hlv10) rfl (by kernel_rfl) (by kernel_rfl) (by kernel_rfl) (fun _ _ _ h => h) (Or.inl ⟨by rfl, ?hly10⟩) (by assumption) ?hlr10
      case hly10 => (intro w hSw; (try dsimp only at hSw); go_simp; (try with_reducible rfl))
      (try simp only [Act.put, List.setIfInBounds_toArray, List.set_cons_zero, List.set_cons_succ])
      refine wpAnyH_take (i := 3) (v := ?hlv11) rfl (by kernel_rfl) (by kernel_rfl) (by kernel_rfl) (fun _ _ _ h => h) (Or.inl ⟨by rfl, ?hly11⟩) (by assumption) ?hlr11
      case hly11 => (intro w hSw; (try dsimp only at hSw); go_simp; (try with_reducible rfl))
      (try simp only [Act.put, List.setIfInBounds_toArray, List.set_cons_zero, List.set_cons_succ])
      refine wpAnyH_take (i := 4) (v := ?hlv12) rfl (by kernel_rfl) (by kernel_rfl) (by kernel_rfl) (fun _ _ _ h => h) (Or.inl ⟨by rfl, ?hly12⟩) (by assumption) ?hlr12
      case hly12 => (intro w hSw; (try dsimp only at hSw); go_simp; (try with_reducible rfl))
      (try simp only [Act.put, List.setIfInBounds_toArray, List.set_cons_zero, List.set_cons_succ])
      generalize wc.drew = V0 at *
      refine wpAnyH_ready (rs := [1]) (by kernel_rfl) (by simp) ?_
      refine AllReadyH.one rfl ?_ AllReadyH.nil
      intro K hK
      go_simp
      refine (HSm.out V0).mono ?_
      rintro e V1 ⟨o1, c1, rfl, hn1, hb1, hw1⟩
      have hS1 := S3.kept hS0 (by omega) hb1
      have HC1 := Lib.hid (HC0.out.below hb1 HC0.out.lt)
      have HD1 := Lib.hid (HD0.out.below hb1 HD0.out.lt)
      have HV1 := Lib.hid (HV0.out.trans (hb1.mono HV0.out.size))
      have HQ1 := Lib.hid (HQ0.out.mono hb1)
      have HR1 := Lib.hid (HR0.out.mono hb1)
      have hz1 : w.heap.size + 3 < V1.heap.size := HD1.out.lt
      unfold numV
      refine hK.out _ _ hS1 (fun _ => ?_)
      clear hK K hb1 hS0
      refine wpAnyH_ready (rs := [2]) (by kernel_rfl) (by simp) ?_
      refine AllReadyH.one rfl ?_ AllReadyH.nil
      intro K hK
      go_simp
      have hm := minus_c q one oq o1 cq c1 V1 (HWd.out.below HV1.out) ⟨HFq.out, HQ1.out⟩ hn1
      unfold numV at hm
      refine hm.mono ?_
      rintro e V2 hz
      clear hm
      obtain ⟨o2, c2, rfl, hn2, hb2, hw2⟩ := hz.1 HFdq2.out
      clear hz
      have hS2 := S3.kept hS1 (by omega) hb2
      have HC2 := Lib.hid (HC1.out.below hb2 HC1.out.lt)
      have HD2 := Lib.hid (HD1.out.below hb2 HD1.out.lt)
      have HV2 := Lib.hid (HV1.out.trans (hb2.mono HV1.out.size))
      have HR2 := Lib.hid (HR1.out.mono hb2)
      have hz2 : w.heap.size + 3 < V2.heap.size := HD2.out.lt
      have HX2 := Lib.hid (show ∀ b, o2 = some ⟨b, 0, none⟩ → w.heap.size + 3 < b from fun b e => by have := hw2 b e; omega)
      unfold numV
      refine hK.out _ _ hS2 (fun _ => ?_)
      clear hK K hS1 hw2
      refine wpAnyH_ready (rs := [5]) (by kernel_rfl) (by simp) ?_
      refine AllReadyH.one rfl ?_ AllReadyH.nil
      intro K hK
      go_simp
      have hm := HB.out or cr V2 HV2.out ⟨HFr.out, HR2.out⟩
      unfold numV at hm
      rw [hgsb, hglb] at hm
      refine hm.mono ?_
      rintro e V3 hz
      clear hm
      obtain ⟨o3, c3, rfl, hn3, hb3, hw3⟩ := hz.1 HFdr2.out
      clear hz
      have hS3 := S3.kept hS2 (by omega) hb3
      have hC3 := HC2.out.below hb3 HC2.out.lt
      have hD3 := HD2.out.below hb3 HD2.out.lt
      have HV3 := Lib.hid (HV2.out.trans (hb3.mono HV2.out.size))
      have HN2 := Lib.hid (hn2.mono hb3)
      have HN3 := Lib.hid hn3
      have HX3 := Lib.hid (show ∀ b, o3 = some ⟨b, 0, none⟩ → w.heap.size + 3 < b from fun b e => by have := hw3 b e; omega)
      unfold numV
      refine hK.out _ _ hS3 (fun _ => ?_)
      have d0 := hC3.c0
      have d1 := hC3.c1
      have d2 := hC3.f0
      have d3 := hC3.f1
      have e0 := hD3.c0
      have e1 := hD3.c1
      have e2 := hD3.f0
      have e3 := hD3.f1
      have HC3 := Lib.hid hC3
      have HD3 := Lib.hid hD3
      clear hK K hS2 hw3 hC3 hD3 hb3 hb2 hn2 hn3
      refine wpAnyH_ready (rs := [6]) (by kernel_rfl) (by simp) ?_
      refine AllReadyH.one rfl ?_ AllReadyH.nil
      intro K hK
      go_simp
      have hS4 := S3.put hS3 (w.heap.size + 1 + 1) (by omega) (by omega) (by omega) (by omega) (.int .i64 (q - one).sign) (.slice o2 (Bg.ds (q - one).natAbs).length c2)
      refine hK.out _ _ hS4 (fun _ => ?_)
      clear hK K
      refine wpAnyH_ready (rs := [7]) (by kernel_rfl) (by simp) ?_
      refine AllReadyH.one rfl ?_ AllReadyH.nil
      intro K hK
      go_simp
      refine hK.out _ _ (S3.put hS4 (w.heap.size + 1 + 1 + 1) (by omega) (by omega) (by omega) (by omega) (.int .i64 (r + b).sign) (.slice o3 (Bg.ds (r + b).natAbs).length c3)) (fun _ => ?_)
      clear hK K hS3 hS4
      refine wpAnyH_done (by kernel_rfl) ?_ _
      go_wp2_with fail
      refine ret_box2 rfl rfl rfl rfl ((HC3.out.put (.int .i64 (q - one).sign) (.slice o2 (Bg.ds (q - one).natAbs).length c2)).others (w.heap.size + 1 + 1 + 1) (by omega) _ _) ((HD3.out.others (w.heap.size + 1 + 1) (by omega) _ _).put (.int .i64 (r + b).sign) (.slice o3 (Bg.ds (r + b).natAbs).length c3)) ?_
      rw [HDq.out, HDr.out]
      refine ⟨o2, c2, o3, c3, rfl, ?_, ?_, ?_, ?_, ?_⟩
      · exact (HN2.out.put _ (fun b e => by have := HX2.out b e; omega) _ _).put _ (fun b e => by have := HX2.out b e; omega) _ _
      · exact (HN3.out.put _ (fun b e => by have := HX3.out b e; omega) _ _).put _ (fun b e => by have := HX3.out b e; omega) _ _
      · exact below_put (below_put HV3.out (by omega) _ _) (by omega) _ _
      · exact fun b e => by have := HX2.out b e; omega
      · exact fun b e => by have := HX3.out b e; omega
    · have dn : decide (r.sign * sb < 0) = false := decide_eq_false hneg
      have hfl := HFl.out
      rw [if_neg hneg] at hfl
      obtain ⟨rfl, rfl⟩ := hfl
      clear hneg
      go_wp2_with fail
      go_region
      go_wp2_with fail
      refine ret_box2 rfl rfl rfl rfl ((HCc.out.put (.int .i64 dq.sign) (.slice oq (Bg.ds dq.natAbs).length cq)).others (w.heap.size + 1 + 1 + 1) (by omega) _ _).drew ((HDd.out.others (w.heap.size + 1 + 1) (by omega) _ _).put (.int .i64 dr.sign) (.slice or (Bg.ds dr.natAbs).length cr)).drew ⟨oq, cq, or, cr, rfl, ⟨HFq.out, ?_⟩, ⟨HFr.out, ?_⟩, ?_, ?_, ?_⟩
      · exact ((HIq.out.mono HV.out).put _ (fun b e => by have := HAq.out b e; omega) _ _).put _ (fun b e => by have := HAq.out b e; omega) _ _
      · exact ((HIr.out.mono HV.out).put _ (fun b e => by have := HAr.out b e; omega) _ _).put _ (fun b e => by have := HAr.out b e; omega) _ _
      · exact (below_put (below_put HVb.out (by omega) _ _) (by omega) _ _).drew
      · exact fun b e => by have := HAq.out b e; omega
      · exact fun b e => by have := HAr.out b e; omega
end Go.Proofs.YthbfbpbppjkoeaaGreatDoor
