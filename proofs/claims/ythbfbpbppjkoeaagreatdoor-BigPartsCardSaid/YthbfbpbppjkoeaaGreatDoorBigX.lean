/- Contracts of Check, Text, numberOf, Digits of package big. Conditions: those in the statements. -/
import Derived.Test.YthbfbpbppjkoeaaGreatDoorBigV
namespace Go.Proofs.YthbfbpbppjkoeaaGreatDoor
open Go.RowKit Go.Shelf
set_option exponentiation.threshold 500
set_option maxRecDepth 100000

/-- A value is this number. -/
def IsNum (K N : Int) (T : List UInt8) (z : Int) : Prop := Few z ∧ valV K N T = canonV z
theorem IsNum.cells {K N z : Int} {T : List UInt8} (h : IsNum K N T z) : (In64Z z ∧ K = 1 ∧ N = z ∧ T = []) ∨ (¬ In64Z z ∧ K = 2 ∧ N = 0 ∧ T = Lib.itoa z) := by
  have h2 := h.2
  unfold canonV valV at h2
  split at h2
  · rename_i hz
    have : K = 1 ∧ N = z ∧ T = [] := by simpa using h2
    exact .inl ⟨hz, this⟩
  · rename_i hz
    have : K = 2 ∧ N = 0 ∧ T = Lib.itoa z := by simpa using h2
    exact .inr ⟨hz, this⟩
theorem IsNum.in64 {K N z : Int} {T : List UInt8} (h : IsNum K N T z) : In64Z N := by
  rcases h.cells with ⟨h1, _, h2, _⟩ | ⟨_, _, h2, _⟩
  · rw [h2]; exact h1
  · rw [h2]; exact ⟨by decide, by decide⟩
theorem IsNum.text {K N z : Int} {T : List UInt8} (h : IsNum K N T z) : textV K N T = Lib.itoa z := by
  unfold textV
  rcases h.cells with ⟨_, h1, h2, _⟩ | ⟨_, h1, _, h2⟩
  · rw [if_pos h1, h2]
  · rw [if_neg (by omega), h2]

set_option maxHeartbeats 1000000 in
theorem check_ok (K N z : Int) (T : List UInt8) (h : IsNum K N T z) (w : World) (hw : Wd w) :
    Calls Tryz.prog 23 #[valV K N T] w fun e w' => e = .returned (.int .i64 0) ∧ Below w.heap.size w w' := by
  have HT := Lib.hid (fun (W : World) (hB : Below w.heap.size w W) => textOf_c K N T h.in64 W (hw.below hB))
  have HO := Lib.hid (fun (W : World) (hB : Below w.heap.size w W) => of_ok z h.1 W (hw.below hB))
  rw [← h.2] at HO
  rw [h.text] at HT
  clear h hw
  unfold valV at *
  generalize Lib.itoa z = t at *
  go_enter Tryz.func23, Tryz.ntmps23
  go_wp2_with fail
  refine (HT.out _ ((Below.refl _ w).alloc (Nat.le_refl _) _)).mono ?_
  rintro e w1 ⟨rfl, hb1⟩
  have hV1 := (VB.new w (.int .i64 K) (.int .i64 N) (.string ⟨T.toArray⟩)).below hb1 (by simp)
  have HV1 := Lib.hid hV1
  have HB1 := Lib.hid (((Below.refl _ w).alloc (Nat.le_refl _) (.cells #[.int .i64 K, .int .i64 N, .string ⟨T.toArray⟩] 23)).trans (hb1.mono (by simp)))
  clear hb1 hV1
  go_wp2_with fail
  refine (HO.out _ HB1.out).mono ?_
  rintro e w2 ⟨rfl, hb2⟩
  have hV2 := HV1.out.below hb2 HV1.out.lt
  have HB2 := Lib.hid (HB1.out.trans (hb2.mono HB1.out.size))
  have hV3 := hV2.alloc (.cells #[.int .i64 K, .int .i64 N, .string ⟨T.toArray⟩] 23)
  have c0 := hV3.c0
  have c1 := hV3.c1
  have c2 := hV3.c2
  have HV3 := Lib.hid hV3
  clear hb2 hV2 hV3
  go_wp2_with fail
  go_ret
  exact ⟨rfl, HB2.out.alloc HB2.out.size _⟩

set_option maxHeartbeats 1000000 in
theorem check_no (K N : Int) (T : List UInt8) (h : ∀ z, ¬ IsNum K N T z) (hN : In64Z N) (w : World) (hw : Wd w) :
    Calls Tryz.prog 23 #[valV K N T] w fun e w' => e = .returned (.int .i64 31) ∧ Below w.heap.size w w' := by
  have HT := Lib.hid (fun (W : World) (hB : Below w.heap.size w W) => textOf_c K N T hN W (hw.below hB))
  by_cases hok : Bg.okT (textV K N T) = true
  · obtain ⟨z, hz, hf⟩ := Bg.itoa_okT _ hok
    have HO := Lib.hid (fun (W : World) (hB : Below w.heap.size w W) => of_ok z hf W (hw.below hB))
    obtain ⟨K', N', T', hc⟩ := canon_agg z
    have hne : ¬ (K' = K ∧ N' = N ∧ T' = T) := fun ⟨e1, e2, e3⟩ => h z ⟨hf, by rw [hc, e1, e2, e3]; rfl⟩
    rw [hc] at HO
    rw [hz] at HT
    clear h hw hok hz hf hc
    unfold valV at *
    generalize Lib.itoa z = t at *
    go_enter Tryz.func23, Tryz.ntmps23
    go_wp2_with fail
    refine (HT.out _ ((Below.refl _ w).alloc (Nat.le_refl _) _)).mono ?_
    rintro e w1 ⟨rfl, hb1⟩
    have hV1 := (VB.new w (.int .i64 K) (.int .i64 N) (.string ⟨T.toArray⟩)).below hb1 (by simp)
    have HV1 := Lib.hid hV1
    have HB1 := Lib.hid (((Below.refl _ w).alloc (Nat.le_refl _) (.cells #[.int .i64 K, .int .i64 N, .string ⟨T.toArray⟩] 23)).trans (hb1.mono (by simp)))
    clear hb1 hV1
    go_wp2_with fail
    refine (HO.out _ HB1.out).mono ?_
    rintro e w2 ⟨rfl, hb2⟩
    have hV2 := HV1.out.below hb2 HV1.out.lt
    have HB2 := Lib.hid (HB1.out.trans (hb2.mono HB1.out.size))
    have hV3 := hV2.alloc (.cells #[.int .i64 K', .int .i64 N', .string ⟨T'.toArray⟩] 23)
    have c0 := hV3.c0
    have c1 := hV3.c1
    have c2 := hV3.c2
    have HV3 := Lib.hid hV3
    clear hb2 hV2 hV3
    go_wp2_with fail
    all_goals first
      | (go_ret; exact ⟨rfl, HB2.out.alloc HB2.out.size _⟩)
      | (exfalso; simp_all)
  · have HO := Lib.hid (fun (W : World) => of_no (textV K N T) (Bool.eq_false_iff.2 hok) W)
    clear h hw hok hN
    unfold valV at *
    generalize textV K N T = t at *
    go_enter Tryz.func23, Tryz.ntmps23
    go_wp2_with fail
    refine (HT.out _ ((Below.refl _ w).alloc (Nat.le_refl _) _)).mono ?_
    rintro e w1 ⟨rfl, hb1⟩
    have HB1 := Lib.hid (((Below.refl _ w).alloc (Nat.le_refl _) (.cells #[.int .i64 K, .int .i64 N, .string ⟨T.toArray⟩] 23)).trans (hb1.mono (by simp)))
    clear hb1
    go_wp2_with fail
    refine (HO.out _).mono ?_
    rintro e w2 ⟨rfl, hb2⟩
    have HB2 := Lib.hid (HB1.out.trans (hb2.mono HB1.out.size))
    clear hb2
    go_wp2_with fail
    go_ret
    exact ⟨rfl, HB2.out.alloc HB2.out.size _⟩

set_option maxHeartbeats 1000000 in
theorem text_ok (K N z : Int) (T : List UInt8) (h : IsNum K N T z) (w : World) (hw : Wd w) :
    Calls Tryz.prog 19 #[valV K N T] w fun e w' => e = .returned (.tuple #[.string ⟨(Lib.itoa z).toArray⟩, .int .i64 0]) ∧ Below w.heap.size w w' := by
  have HC := Lib.hid (fun (W : World) (hB : Below w.heap.size w W) => check_ok K N z T h W (hw.below hB))
  have HT := Lib.hid (fun (W : World) (hB : Below w.heap.size w W) => textOf_c K N T h.in64 W (hw.below hB))
  rw [h.text] at HT
  clear h hw
  unfold valV at *
  generalize Lib.itoa z = t at *
  go_enter Tryz.func19, Tryz.ntmps19
  go_wp2_with fail
  refine (HC.out _ ((Below.refl _ w).alloc (Nat.le_refl _) _)).mono ?_
  rintro e w1 ⟨rfl, hb1⟩
  have hV1 := (VB.new w (.int .i64 K) (.int .i64 N) (.string ⟨T.toArray⟩)).below hb1 (by simp)
  have c0 := hV1.c0
  have c1 := hV1.c1
  have c2 := hV1.c2
  have HB1 := Lib.hid (((Below.refl _ w).alloc (Nat.le_refl _) (.cells #[.int .i64 K, .int .i64 N, .string ⟨T.toArray⟩] 23)).trans (hb1.mono (by simp)))
  clear hb1 hV1
  go_wp2_with fail
  refine (HT.out _ HB1.out).mono ?_
  rintro e w2 ⟨rfl, hb2⟩
  have HB2 := Lib.hid (HB1.out.trans (hb2.mono HB1.out.size))
  clear hb2
  go_wp2_with fail
  go_ret2
  exact ⟨rfl, HB2.out⟩

set_option maxHeartbeats 1000000 in
theorem text_no (K N : Int) (T : List UInt8) (h : ∀ z, ¬ IsNum K N T z) (hN : In64Z N) (w : World) (hw : Wd w) :
    Calls Tryz.prog 19 #[valV K N T] w fun e w' => e = .returned (.tuple #[.string ⟨#[]⟩, .int .i64 31]) ∧ Below w.heap.size w w' := by
  have HC := Lib.hid (fun (W : World) (hB : Below w.heap.size w W) => check_no K N T h hN W (hw.below hB))
  clear h hw
  unfold valV at *
  go_enter Tryz.func19, Tryz.ntmps19
  go_wp2_with fail
  refine (HC.out _ ((Below.refl _ w).alloc (Nat.le_refl _) _)).mono ?_
  rintro e w1 ⟨rfl, hb1⟩
  have HB1 := Lib.hid (((Below.refl _ w).alloc (Nat.le_refl _) (.cells #[.int .i64 K, .int .i64 N, .string ⟨T.toArray⟩] 23)).trans (hb1.mono (by simp)))
  clear hb1
  go_wp2_with fail
  go_ret2
  exact ⟨rfl, HB1.out⟩

theorem ret_num_err {f : Func} {R : Ending → World → Prop} {a : Act} {W : World} {B : Nat} {t t' : Tmp} {u v y : Value} (hres : f.results = #[.cell t 61, .tmp t']) (hB : a.tmps.getD t undef = .pointer (some ⟨B, 0, none⟩)) (hy : a.tmps.getD t' undef = y) (hd : a.defers = [])
    (hN : NB W B u v) (hR : R (.returned (.tuple #[.agg #[u, v], y])) W) : bodyPost Tryz.prog f R .ret a W := by
  have c0 := hN.c0
  have c1 := hN.c1
  rw [Array.getD_eq_getD_getElem?] at hB hy
  refine bodyPost_ret (v := .tuple #[.agg #[u, v], y]) ?_ hd hR
  simp [results, hres, hB, hy, go_sem, c0, c1]
/-- The number that stands for none. -/
def noNum : Value := .agg #[.int .i64 0, .slice none 0 0]

set_option maxHeartbeats 1000000 in
theorem numberOf_ok (K N z : Int) (T : List UInt8) (h : IsNum K N T z) (w : World) (hw : Wd w) :
    Calls Tryz.prog 53 #[valV K N T] w fun e w' => ∃ o c, e = .returned (.tuple #[numV z o c, .int .i64 0]) ∧ NumAt w' o z ∧ Below w.heap.size w w' ∧ New w o := by
  have HT := Lib.hid (fun (W : World) (hB : Below w.heap.size w W) => text_ok K N z T h W (hw.below hB))
  have HR := Lib.hid (fun (W : World) (hB : Below w.heap.size w W) => read_c z h.1 W (hw.below hB))
  clear h hw
  unfold valV at *
  generalize Lib.itoa z = t at *
  have hx2 := heap2 w (.cells #[.int .i64 K, .int .i64 N, .string ⟨T.toArray⟩] 23) (.cells #[.int .i64 0, .slice none 0 0] 61)
  have hN0 : NB ((w.alloc (.cells #[.int .i64 K, .int .i64 N, .string ⟨T.toArray⟩] 23)).alloc (.cells #[.int .i64 0, .slice none 0 0] 61)) (w.heap.size + 1) (.int .i64 0) (.slice none 0 0) := hx2
  have HN0 := Lib.hid hN0
  have HB0 := Lib.hid (((Below.refl _ w).alloc (Nat.le_refl _) (.cells #[.int .i64 K, .int .i64 N, .string ⟨T.toArray⟩] 23)).alloc (by simp) (.cells #[.int .i64 0, .slice none 0 0] 61))
  clear hx2 hN0
  go_enter Tryz.func53, Tryz.ntmps53
  go_wp2_with fail
  refine (HT.out _ HB0.out).mono ?_
  rintro e w1 ⟨rfl, hb1⟩
  have HN1 := Lib.hid (HN0.out.below hb1 HN0.out.lt)
  have HB1 := Lib.hid (HB0.out.trans (hb1.mono HB0.out.size))
  clear hb1
  go_wp2_with fail
  refine (HR.out _ HB1.out).mono ?_
  rintro e w2 ⟨o, c, rfl, hn, hb2, hw2⟩
  have hN2 := HN1.out.below hb2 HN1.out.lt
  have HB2 := Lib.hid (HB1.out.trans (hb2.mono HB1.out.size))
  have HX := Lib.hid (show ∀ b, o = some ⟨b, 0, none⟩ → w.heap.size + 1 < b from fun b e => by have := hw2 b e; have := HN1.out.lt; omega)
  have HNm := Lib.hid hn
  have c0 := hN2.c0
  have c1 := hN2.c1
  have f0 := hN2.f0
  have f1 := hN2.f1
  have HN2 := Lib.hid hN2
  clear hb2 hw2 hn hN2
  unfold numV
  go_wp2_with fail
  exact ret_num_err rfl rfl rfl rfl (HN2.out.put (.int .i64 z.sign) (.slice o (Bg.ds z.natAbs).length c)) ⟨o, c, rfl, HNm.out.put _ (fun b e => by have := HX.out b e; omega) _ _, below_put HB2.out (by omega) _ _, fun b e => by have := HX.out b e; omega⟩

set_option maxHeartbeats 1000000 in
theorem numberOf_no (K N : Int) (T : List UInt8) (h : ∀ z, ¬ IsNum K N T z) (hN : In64Z N) (w : World) (hw : Wd w) :
    Calls Tryz.prog 53 #[valV K N T] w fun e w' => e = .returned (.tuple #[noNum, .int .i64 31]) ∧ Below w.heap.size w w' := by
  have HT := Lib.hid (fun (W : World) (hB : Below w.heap.size w W) => text_no K N T h hN W (hw.below hB))
  clear h hw hN
  unfold valV noNum at *
  have hN0 : NB ((w.alloc (.cells #[.int .i64 K, .int .i64 N, .string ⟨T.toArray⟩] 23)).alloc (.cells #[.int .i64 0, .slice none 0 0] 61)) (w.heap.size + 1) (.int .i64 0) (.slice none 0 0) := heap2 _ _ _
  have HN0 := Lib.hid hN0
  have HB0 := Lib.hid (((Below.refl _ w).alloc (Nat.le_refl _) (.cells #[.int .i64 K, .int .i64 N, .string ⟨T.toArray⟩] 23)).alloc (by simp) (.cells #[.int .i64 0, .slice none 0 0] 61))
  clear hN0
  go_enter Tryz.func53, Tryz.ntmps53
  go_wp2_with fail
  refine (HT.out _ HB0.out).mono ?_
  rintro e w1 ⟨rfl, hb1⟩
  have hN1 := HN0.out.below hb1 HN0.out.lt
  have HB1 := Lib.hid (HB0.out.trans (hb1.mono HB0.out.size))
  have c0 := hN1.c0
  have c1 := hN1.c1
  have f0 := hN1.f0
  have f1 := hN1.f1
  have HN1 := Lib.hid hN1
  clear hb1 hN1
  go_wp2_with fail
  exact ret_num_err rfl rfl rfl rfl (HN1.out.put (.int .i64 0) (.slice none 0 0)) ⟨rfl, below_put HB1.out (by omega) _ _⟩
end Go.Proofs.YthbfbpbppjkoeaaGreatDoor
