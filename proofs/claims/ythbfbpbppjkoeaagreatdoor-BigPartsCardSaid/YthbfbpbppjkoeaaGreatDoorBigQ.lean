/- Contracts of read, negated, nearer, greaterFirst, less of package big. Conditions: those in the statements. -/
import Derived.Test.YthbfbpbppjkoeaaGreatDoorBigO
import Derived.BigQuiet
import Derived.Deep.QuietTactic
import Derived.Deep.RegionHeld3
import Derived.Stop.RegionWithIn
namespace Go.Proofs.YthbfbpbppjkoeaaGreatDoor
open Go.RowKit Go.Shelf
set_option exponentiation.threshold 500
set_option maxRecDepth 100000

set_option maxHeartbeats 1000000 in
theorem read_c (z : Int) (hf : Few z) (w : World) (hw : Wd w) :
    Calls Tryz.prog 79 #[.string ⟨(Lib.itoa z).toArray⟩] w (RetNum z w) := by
  have hlen : (Lib.decDigits z.natAbs).length ≤ 1000 := by rw [Lib.decDigits_length]; unfold Few at hf; omega
  have hdo := digitsOf_c (Lib.decDigits z.natAbs) (Bg.decDigits_isDig _) hlen
  rw [Bg.dv_decDigits] at hdo
  have hsg := fun (o : Option Addr) (c : Nat) (W : World) (hw : Wd W) (h : IntAt W o (Bg.ds z.natAbs)) => signed_c (if z < 0 then -1 else 1) z (fun h0 => by split <;> rename_i h; exact (Int.sign_eq_neg_one_of_neg h).symm; exact (Int.sign_eq_one_of_pos (by omega)).symm) o c W hw h (by have := hf.len; omega)
  have HDo := Lib.hid hdo
  have HSg := Lib.hid hsg
  have HF := Lib.hid hf
  clear hdo hsg hf hlen
  have hhd := Bg.head_dig z.natAbs
  have hI : Lib.itoa z = if z < 0 then 45 :: Lib.decDigits z.natAbs else Lib.decDigits z.natAbs := by
    unfold Lib.itoa; split
    · rfl
    · rw [show z.toNat = z.natAbs by omega]
  rw [hI]
  clear hI
  generalize Lib.decDigits z.natAbs = dd at *
  by_cases hn : z < 0
  · rw [if_pos hn]
    rw [if_pos hn] at HSg
    have hcp := fun W => Tryz.strings_CutPrefix ⟨(45 :: dd).toArray⟩ ⟨#[45]⟩ W
    have e1 : Lib.trimPrefix (45 :: dd) [45] = dd := Bg.trim_minus dd
    have e2 : Lib.hasPrefix (45 :: dd) [45] = true := by simp [Lib.hasPrefix]
    simp only [e1, e2] at hcp
    have HCp := Lib.hid hcp
    clear hcp e1 e2 hhd hn
    go_enter Tryz.func79, Tryz.ntmps79
    go_wp2_with fail
    refine (HCp.out _).mono ?_
    rintro e w1 ⟨rfl, rfl⟩
    go_wp2_with fail
    refine (HDo.out _).mono ?_
    rintro e w2 ⟨o2, c2, rfl, hi2, hb2, hf2⟩
    have hN2 := Lib.hid ((NB.new w (.int .i64 0) (.slice none 0 0)).below hb2 (by simp))
    have HB2 := Lib.hid (((Below.refl _ w).alloc (Nat.le_refl _) (.cells #[.int .i64 0, .slice none 0 0] 61)).trans (hb2.mono (by simp)))
    have HI2 := Lib.hid hi2
    have HF2 := Lib.hid hf2
    clear hi2 hb2 hf2
    go_wp2_with fail
    refine (HSg.out o2 c2 w2 (hw.below HB2.out) HI2.out).mono ?_
    rintro e w3 hz
    obtain ⟨rfl, hb3⟩ := hz.1 HF.out
    have hsz2 := HB2.out.size
    have hlt2 := hN2.out.lt
    have hN3 := hN2.out.below hb3 hlt2
    have HB3 := Lib.hid (HB2.out.trans (hb3.mono hsz2))
    have HI3 := Lib.hid (HI2.out.mono hb3)
    have c0 := hN3.c0
    have c1 := hN3.c1
    have f0 := hN3.f0
    have f1 := hN3.f1
    have HN := Lib.hid hN3
    clear hz hb3 hN3
    unfold numV
    go_wp2_with fail
    have hb4 := below_put (B := w.heap.size) HB3.out (Nat.le_refl _) (.int .i64 z.sign) (.slice o2 (Bg.ds z.natAbs).length c2)
    exact ret_box rfl rfl rfl (HN.out.put (.int .i64 z.sign) (.slice o2 (Bg.ds z.natAbs).length c2)) ⟨o2, c2, rfl, ⟨HF.out, HI3.out.put _ (fun b e => by have := HF2.out b e; simp at this; omega) _ _⟩, hb4, fun b e => by have := HF2.out b e; simp at this; omega⟩
  · rw [if_neg hn]
    rw [if_neg hn] at HSg
    have hcp := fun W => Tryz.strings_CutPrefix ⟨dd.toArray⟩ ⟨#[45]⟩ W
    have e1 : Lib.trimPrefix dd [45] = dd := Bg.trim_other dd hhd
    have e2 : Lib.hasPrefix dd [45] = false := by
      cases dd with
      | nil => rfl
      | cons b r =>
        by_cases hb : b = 45
        · exact absurd (by rw [hb]; rfl) hhd
        · unfold Lib.hasPrefix
          rw [List.isPrefixOf_cons_cons, beq_eq_false_iff_ne.2 (fun h => hb h.symm), Bool.false_and]
    simp only [e1, e2] at hcp
    have HCp := Lib.hid hcp
    clear hcp e1 e2 hhd hn
    go_enter Tryz.func79, Tryz.ntmps79
    go_wp2_with fail
    refine (HCp.out _).mono ?_
    rintro e w1 ⟨rfl, rfl⟩
    go_wp2_with fail
    refine (HDo.out _).mono ?_
    rintro e w2 ⟨o2, c2, rfl, hi2, hb2, hf2⟩
    have hN2 := Lib.hid ((NB.new w (.int .i64 0) (.slice none 0 0)).below hb2 (by simp))
    have HB2 := Lib.hid (((Below.refl _ w).alloc (Nat.le_refl _) (.cells #[.int .i64 0, .slice none 0 0] 61)).trans (hb2.mono (by simp)))
    have HI2 := Lib.hid hi2
    have HF2 := Lib.hid hf2
    clear hi2 hb2 hf2
    go_wp2_with fail
    refine (HSg.out o2 c2 w2 (hw.below HB2.out) HI2.out).mono ?_
    rintro e w3 hz
    obtain ⟨rfl, hb3⟩ := hz.1 HF.out
    have hsz2 := HB2.out.size
    have hlt2 := hN2.out.lt
    have hN3 := hN2.out.below hb3 hlt2
    have HB3 := Lib.hid (HB2.out.trans (hb3.mono hsz2))
    have HI3 := Lib.hid (HI2.out.mono hb3)
    have c0 := hN3.c0
    have c1 := hN3.c1
    have f0 := hN3.f0
    have f1 := hN3.f1
    have HN := Lib.hid hN3
    clear hz hb3 hN3
    unfold numV
    go_wp2_with fail
    have hb4 := below_put (B := w.heap.size) HB3.out (Nat.le_refl _) (.int .i64 z.sign) (.slice o2 (Bg.ds z.natAbs).length c2)
    exact ret_box rfl rfl rfl (HN.out.put (.int .i64 z.sign) (.slice o2 (Bg.ds z.natAbs).length c2)) ⟨o2, c2, rfl, ⟨HF.out, HI3.out.put _ (fun b e => by have := HF2.out b e; simp at this; omega) _ _⟩, hb4, fun b e => by have := HF2.out b e; simp at this; omega⟩

set_option maxHeartbeats 1000000 in
theorem negated_c (z : Int) (o : Option Addr) (c : Nat) (w : World) :
    Calls Tryz.prog 124 #[numV z o c] w fun e w' => e = .returned (numV (-z) o c) ∧ Below w.heap.size w w' := by
  unfold numV
  have hsg : wrap64 (-z.sign) = (-z).sign := by
    rw [Int.sign_neg]
    have h3 := Int.sign_trichotomy z
    unfold wrap64
    omega
  rw [Int.natAbs_neg]
  generalize z.sign = s at *
  generalize (-z).sign = s2 at *
  go_enter Tryz.func124, Tryz.ntmps124
  go_wp2_with fail
  have hN : NB ((w.alloc (.cells #[.int .i64 s, .slice o (Bg.ds z.natAbs).length c] 61)).alloc (.cells #[.int .i64 s2, .slice o (Bg.ds z.natAbs).length c] 61)) (w.heap.size + 1) (.int .i64 s2) (.slice o (Bg.ds z.natAbs).length c) := heap2 _ _ _
  exact ret_box rfl rfl rfl hN ⟨rfl, ((Below.refl _ w).alloc (Nat.le_refl _) _).alloc (by simp) _⟩
theorem cmp_neg (a b : Int) : decide (Bg.cmpN a.natAbs b.natAbs < 0) = decide (a.natAbs < b.natAbs) := by
  unfold Bg.cmpN
  by_cases h : a.natAbs < b.natAbs
  · rw [if_pos h]; simp [h]
  · rw [if_neg h]; split <;> simp [h]
set_option maxHeartbeats 1000000 in
theorem nearer_c (a b : Int) (oa ob : Option Addr) (ca cb : Nat) (w : World) (ha : NumAt w oa a) (hb : NumAt w ob b) :
    Calls Tryz.prog 109 #[numV a oa ca, numV b ob cb] w fun e w' => e = .returned (.bool (decide (a.natAbs < b.natAbs))) ∧ Below w.heap.size w w' := by
  have hc := fun (W : World) (hB : Below w.heap.size w W) => compare_c oa ob ca cb a.natAbs b.natAbs W (by have := ha.few.len; omega) (ha.at_.mono hB) (hb.at_.mono hB)
  have HC := Lib.hid hc
  have hcn := cmp_neg a b
  have HCN := Lib.hid hcn
  clear hc hcn ha hb
  generalize Bg.cmpN a.natAbs b.natAbs = cm at *
  unfold numV
  go_enter Tryz.func109, Tryz.ntmps109
  go_wp2_with fail
  refine (HC.out _ (((Below.refl _ w).alloc (Nat.le_refl _) _).alloc (by simp) _)).mono ?_
  rintro e w1 ⟨rfl, hb1⟩
  have HB1 := Lib.hid ((((Below.refl _ w).alloc (Nat.le_refl _) (.cells #[.int .i64 a.sign, .slice oa (Bg.ds a.natAbs).length ca] 61)).alloc (by simp) (.cells #[.int .i64 b.sign, .slice ob (Bg.ds b.natAbs).length cb] 61)).trans (hb1.mono (by simp; omega)))
  clear hb1
  go_wp2_with fail
  go_ret
  exact ⟨ret_bool HCN.out, HB1.out⟩

theorem eg_nearer : ∀ args w, (callFunc 109 args).run Tryz.prog w = .ok (.enter 109 args) w := enters_of Tryz.func109 (by kernel_rfl) rfl
/-- Two boxes answer. -/
theorem ret_box2 {f : Func} {R : Ending → World → Prop} {a : Act} {W : World} {B C : Nat} {t t' : Tmp} {u v x y : Value} (hres : f.results = #[.cell t 61, .cell t' 61]) (hB : a.tmps.getD t undef = .pointer (some ⟨B, 0, none⟩)) (hC : a.tmps.getD t' undef = .pointer (some ⟨C, 0, none⟩)) (hd : a.defers = [])
    (hN : NB W B u v) (hM : NB W C x y) (hR : R (.returned (.tuple #[.agg #[u, v], .agg #[x, y]])) W) : bodyPost Tryz.prog f R .ret a W := by
  have c0 := hN.c0
  have c1 := hN.c1
  have c2 := hM.c0
  have c3 := hM.c1
  rw [Array.getD_eq_getD_getElem?] at hB hC
  refine bodyPost_ret (v := .tuple #[.agg #[u, v], .agg #[x, y]]) ?_ hd hR
  simp [results, hres, hB, hC, go_sem, c0, c1, c2, c3]
def RetPair (v1 v2 : Value) (w : World) (e : Ending) (w' : World) : Prop := e = .returned (.tuple #[v1, v2]) ∧ Below w.heap.size w w'

set_option maxHeartbeats 1000000 in
theorem greaterFirst_c (a b : Int) (oa ob : Option Addr) (ca cb : Nat) (w : World) (ha : NumAt w oa a) (hb : NumAt w ob b) :
    Calls Tryz.prog 108 #[numV a oa ca, numV b ob cb, .func (.func 109) #[] #[]] w
      (if a.natAbs < b.natAbs then RetPair (numV b ob cb) (numV a oa ca) w else RetPair (numV a oa ca) (numV b ob cb) w) := by
  have hc := fun (W : World) (hB : Below w.heap.size w W) => nearer_c a b oa ob ca cb W (ha.mono hB) (hb.mono hB)
  unfold numV at *
  have HC := Lib.hid hc
  clear hc ha hb
  have en := eg_nearer
  generalize hsa : a.sign = sa at *
  generalize hsb : b.sign = sb at *
  generalize (Bg.ds a.natAbs).length = la at *
  generalize (Bg.ds b.natAbs).length = lb at *
  by_cases hn : a.natAbs < b.natAbs
  · rw [if_pos hn]
    rw [decide_eq_true hn] at HC
    clear hn
    go_enter Tryz.func108, Tryz.ntmps108
    go_wp2_with fail
    refine (HC.out _ ((((Below.refl _ w).alloc (Nat.le_refl _) _).alloc (by simp) _).alloc (by simp; omega) _ |>.alloc (by simp; omega) _)).mono ?_
    rintro e w1 ⟨rfl, hb1⟩
    have hA : NB w1 w.heap.size (.int .i64 sa) (.slice oa la ca) := ((((NB.new w (.int .i64 sa) (.slice oa la ca)).alloc _).alloc _).alloc _).below hb1 (by simp; omega)
    have hB : NB w1 (w.heap.size + 1) (.int .i64 sb) (.slice ob lb cb) := (NB.alloc (NB.alloc (show NB ((w.alloc (.cells #[.int .i64 sa, (.slice oa la ca)] 61)).alloc (.cells #[.int .i64 sb, (.slice ob lb cb)] 61)) (w.heap.size + 1) (.int .i64 sb) (.slice ob lb cb) from heap2 _ _ _) _) _).below hb1 (by simp)
    have hX : NB w1 (w.heap.size + 1 + 1) (.int .i64 0) (.slice none 0 0) := by
      refine NB.below (n := _) (NB.alloc ?_ _) hb1 (by simp)
      have := NB.new ((w.alloc (.cells #[.int .i64 sa, (.slice oa la ca)] 61)).alloc (.cells #[.int .i64 sb, (.slice ob lb cb)] 61)) (.int .i64 0) (.slice none 0 0)
      rwa [World.size_alloc, World.size_alloc] at this
    have hY : NB w1 (w.heap.size + 1 + 1 + 1) (.int .i64 0) (.slice none 0 0) := by
      refine NB.below (n := _) ?_ hb1 (by simp)
      have := NB.new (((w.alloc (.cells #[.int .i64 sa, (.slice oa la ca)] 61)).alloc (.cells #[.int .i64 sb, (.slice ob lb cb)] 61)).alloc (.cells #[.int .i64 0, .slice none 0 0] 61)) (.int .i64 0) (.slice none 0 0)
      rwa [World.size_alloc, World.size_alloc, World.size_alloc] at this
    have HB1 : Hid (Below w.heap.size w w1) := Lib.hid (((((Below.refl _ w).alloc (Nat.le_refl _) _).alloc (by simp) _).alloc (by simp; omega) _ |>.alloc (by simp; omega) _).trans (hb1.mono (by simp; omega)))
    have a0 := hA.c0
    have a1 := hA.c1
    have b0 := hB.c0
    have b1 := hB.c1
    have x0 := hX.c0
    have x1 := hX.c1
    have y0 := hY.c0
    have y1 := hY.c1
    have fx0 := hX.f0
    have fx1 := hX.f1
    have fy0 := hY.f0
    have fy1 := hY.f1
    have HX := Lib.hid hX
    have HY := Lib.hid hY
    clear hb1 hA hB hX hY
    go_wp2_with fail
    go_region
    go_wp2_with fail
    exact ret_box2 rfl rfl rfl rfl ((HX.out.put (.int .i64 sb) (.slice ob lb cb)).others (w.heap.size + 1 + 1 + 1) (by omega) (.int .i64 sa) (.slice oa la ca)).drew ((HY.out.others (w.heap.size + 1 + 1) (by omega) (.int .i64 sb) (.slice ob lb cb)).put (.int .i64 sa) (.slice oa la ca)).drew ⟨rfl, (below_put (below_put HB1.out (by omega) _ _) (by omega) _ _).drew⟩
  · rw [if_neg hn]
    rw [decide_eq_false hn] at HC
    clear hn
    go_enter Tryz.func108, Tryz.ntmps108
    go_wp2_with fail
    refine (HC.out _ ((((Below.refl _ w).alloc (Nat.le_refl _) _).alloc (by simp) _).alloc (by simp; omega) _ |>.alloc (by simp; omega) _)).mono ?_
    rintro e w1 ⟨rfl, hb1⟩
    have hA : NB w1 w.heap.size (.int .i64 sa) (.slice oa la ca) := ((((NB.new w (.int .i64 sa) (.slice oa la ca)).alloc _).alloc _).alloc _).below hb1 (by simp; omega)
    have hB : NB w1 (w.heap.size + 1) (.int .i64 sb) (.slice ob lb cb) := (NB.alloc (NB.alloc (show NB ((w.alloc (.cells #[.int .i64 sa, (.slice oa la ca)] 61)).alloc (.cells #[.int .i64 sb, (.slice ob lb cb)] 61)) (w.heap.size + 1) (.int .i64 sb) (.slice ob lb cb) from heap2 _ _ _) _) _).below hb1 (by simp)
    have hX : NB w1 (w.heap.size + 1 + 1) (.int .i64 0) (.slice none 0 0) := by
      refine NB.below (n := _) (NB.alloc ?_ _) hb1 (by simp)
      have := NB.new ((w.alloc (.cells #[.int .i64 sa, (.slice oa la ca)] 61)).alloc (.cells #[.int .i64 sb, (.slice ob lb cb)] 61)) (.int .i64 0) (.slice none 0 0)
      rwa [World.size_alloc, World.size_alloc] at this
    have hY : NB w1 (w.heap.size + 1 + 1 + 1) (.int .i64 0) (.slice none 0 0) := by
      refine NB.below (n := _) ?_ hb1 (by simp)
      have := NB.new (((w.alloc (.cells #[.int .i64 sa, (.slice oa la ca)] 61)).alloc (.cells #[.int .i64 sb, (.slice ob lb cb)] 61)).alloc (.cells #[.int .i64 0, .slice none 0 0] 61)) (.int .i64 0) (.slice none 0 0)
      rwa [World.size_alloc, World.size_alloc, World.size_alloc] at this
    have HB1 : Hid (Below w.heap.size w w1) := Lib.hid (((((Below.refl _ w).alloc (Nat.le_refl _) _).alloc (by simp) _).alloc (by simp; omega) _ |>.alloc (by simp; omega) _).trans (hb1.mono (by simp; omega)))
    have a0 := hA.c0
    have a1 := hA.c1
    have b0 := hB.c0
    have b1 := hB.c1
    have x0 := hX.c0
    have x1 := hX.c1
    have y0 := hY.c0
    have y1 := hY.c1
    have fx0 := hX.f0
    have fx1 := hX.f1
    have fy0 := hY.f0
    have fy1 := hY.f1
    have HX := Lib.hid hX
    have HY := Lib.hid hY
    clear hb1 hA hB hX hY
    go_wp2_with fail
    go_region
    go_wp2_with fail
    exact ret_box2 rfl rfl rfl rfl ((HX.out.put (.int .i64 sa) (.slice oa la ca)).others (w.heap.size + 1 + 1 + 1) (by omega) (.int .i64 sb) (.slice ob lb cb)).drew ((HY.out.others (w.heap.size + 1 + 1) (by omega) (.int .i64 sa) (.slice oa la ca)).put (.int .i64 sb) (.slice ob lb cb)).drew ⟨rfl, (below_put (below_put HB1.out (by omega) _ _) (by omega) _ _).drew⟩

theorem less_sign {a b : Int} (h : a.sign ≠ b.sign) : decide (a.sign < b.sign) = decide (a < b) := by
  rcases Int.lt_trichotomy a 0 with ha | ha | ha <;> rcases Int.lt_trichotomy b 0 with hb | hb | hb <;>
    first
    | (rw [Int.sign_eq_neg_one_of_neg ha, Int.sign_eq_neg_one_of_neg hb] at h; exact absurd rfl h)
    | (rw [Int.sign_eq_one_of_pos ha, Int.sign_eq_one_of_pos hb] at h; exact absurd rfl h)
    | (subst ha; subst hb; exact absurd rfl h)
    | (have : (a.sign < b.sign) ↔ (a < b) := by
        first
        | rw [Int.sign_eq_neg_one_of_neg ha, Int.sign_eq_one_of_pos hb]
        | rw [Int.sign_eq_one_of_pos ha, Int.sign_eq_neg_one_of_neg hb]
        | (subst ha; rw [Int.sign_eq_one_of_pos hb, Int.sign_zero])
        | (subst ha; rw [Int.sign_eq_neg_one_of_neg hb, Int.sign_zero])
        | (subst hb; rw [Int.sign_eq_one_of_pos ha, Int.sign_zero])
        | (subst hb; rw [Int.sign_eq_neg_one_of_neg ha, Int.sign_zero])
        omega
       exact decide_eq_decide.2 this)
theorem less_same {a b : Int} (h : a.sign = b.sign) : decide (a.sign * Bg.cmpN a.natAbs b.natAbs < 0) = decide (a < b) := by
  refine decide_eq_decide.2 ?_
  unfold Bg.cmpN
  rcases Int.lt_trichotomy a 0 with ha | ha | ha
  · have hb : b < 0 := by rw [Int.sign_eq_neg_one_of_neg ha] at h; exact Int.sign_eq_neg_one_iff_neg.1 h.symm
    rw [Int.sign_eq_neg_one_of_neg ha]
    split
    · omega
    · split <;> omega
  · subst ha
    have hb : b = 0 := Int.sign_eq_zero_iff_zero.1 h.symm
    subst hb
    simp
  · have hb : 0 < b := by rw [Int.sign_eq_one_of_pos ha] at h; exact Int.sign_eq_one_iff_pos.1 h.symm
    rw [Int.sign_eq_one_of_pos ha]
    split
    · omega
    · split <;> omega

/-- What lies in the first two boxes, told for a region that draws its order. -/
theorem two_kept {n : Nat} {w W W' : World} {u v x y : Value} (h : W.cell? ⟨n, 0, none⟩ = some u ∧ W.cell? ⟨n, 1, none⟩ = some v ∧ W.cell? ⟨n + 1, 0, none⟩ = some x ∧ W.cell? ⟨n + 1, 1, none⟩ = some y ∧ Below n w W ∧ n + 2 ≤ W.heap.size)
    (hb : Below W.heap.size W W') : W'.cell? ⟨n, 0, none⟩ = some u ∧ W'.cell? ⟨n, 1, none⟩ = some v ∧ W'.cell? ⟨n + 1, 0, none⟩ = some x ∧ W'.cell? ⟨n + 1, 1, none⟩ = some y ∧ Below n w W' ∧ n + 2 ≤ W'.heap.size := by
  obtain ⟨h1, h2, h3, h4, h5, h6⟩ := h
  exact ⟨(hb.cell (p := ⟨n, 0, none⟩) (by simp; omega)).trans h1, (hb.cell (p := ⟨n, 1, none⟩) (by simp; omega)).trans h2, (hb.cell (p := ⟨n + 1, 0, none⟩) (by simp; omega)).trans h3, (hb.cell (p := ⟨n + 1, 1, none⟩) (by simp; omega)).trans h4, h5.trans (hb.mono (by omega)), Nat.le_trans h6 hb.size⟩

theorem two_below {n : Nat} {w W : World} {u v x y : Value} (h : W.cell? ⟨n, 0, none⟩ = some u ∧ W.cell? ⟨n, 1, none⟩ = some v ∧ W.cell? ⟨n + 1, 0, none⟩ = some x ∧ W.cell? ⟨n + 1, 1, none⟩ = some y ∧ Below n w W ∧ n + 2 ≤ W.heap.size) : Below n w W := h.2.2.2.2.1

set_option maxHeartbeats 2000000 in
theorem less_c (a b : Int) (oa ob : Option Addr) (ca cb : Nat) (w : World) (ha : NumAt w oa a) (hb : NumAt w ob b) :
    Calls Tryz.prog 62 #[numV a oa ca, numV b ob cb] w fun e w' => e = .returned (.bool (decide (a < b))) ∧ Below w.heap.size w w' := by
  unfold numV
  by_cases hs : a.sign = b.sign
  · have hc := fun (W : World) (hB : Below w.heap.size w W) => compare_c oa ob ca cb a.natAbs b.natAbs W (by have := ha.few.len; omega) (ha.at_.mono hB) (hb.at_.mono hB)
    have hl := less_same hs
    have ht : Bg.cmpN a.natAbs b.natAbs = -1 ∨ Bg.cmpN a.natAbs b.natAbs = 0 ∨ Bg.cmpN a.natAbs b.natAbs = 1 := by unfold Bg.cmpN; split <;> first | omega | (split <;> omega)
    have h3 := Int.sign_trichotomy a
    rw [← hs]
    generalize Bg.cmpN a.natAbs b.natAbs = cm at *
    generalize decide (a < b) = dd at *
    have HC := Lib.hid hc
    have HL := Lib.hid hl
    generalize a.sign = sa at *
    generalize (Bg.ds a.natAbs).length = la at *
    generalize (Bg.ds b.natAbs).length = lb at *
    have hm : -1 ≤ sa * cm ∧ sa * cm ≤ 1 := by rcases ht with rfl | rfl | rfl <;> omega
    have hwr : IntKind.i64.wrap (sa * cm) = sa * cm := IntWalk.i64_in _ (by omega)
    clear hc hl ht h3 hm ha hb hs
    go_enter Tryz.func62, Tryz.ntmps62
    go_wp2_with fail
    go_region_held3 (fun W => W.cell? ⟨w.heap.size, 0, none⟩ = some (.int .i64 sa) ∧ W.cell? ⟨w.heap.size, 1, none⟩ = some (.slice oa la ca) ∧ W.cell? ⟨w.heap.size + 1, 0, none⟩ = some (.int .i64 sa) ∧ W.cell? ⟨w.heap.size + 1, 1, none⟩ = some (.slice ob lb cb) ∧ Below w.heap.size w W ∧ w.heap.size + 2 ≤ W.heap.size)
      (first
        | exact two_kept (by assumption) hb2
        | exact two_kept (w := w) ⟨by simp, by simp, by simp, by simp, ((Below.refl _ w).alloc (Nat.le_refl _) _).alloc (by simp) _, by simp⟩ (Below.refl _ _).drew)
      (first
        | (go_at_call 83; refine (HC.out _ (by apply two_below; assumption)).mono ?_; rintro e w2 ⟨rfl, hb2⟩))
    go_wp2_with fail
    go_ret
    exact ⟨ret_bool HL.out, by apply two_below; assumption⟩
  · have hl := less_sign hs
    have HL := Lib.hid hl
    generalize decide (a < b) = dd at *
    generalize a.sign = sa at *
    generalize b.sign = sb at *
    generalize (Bg.ds a.natAbs).length = la at *
    generalize (Bg.ds b.natAbs).length = lb at *
    have d1 : (sa == sb) = false := beq_eq_false_iff_ne.2 hs
    have d2 : (sa != sb) = true := bne_iff_ne.2 hs
    clear hl ha hb
    go_enter Tryz.func62, Tryz.ntmps62
    go_wp2_with fail
    go_ret
    exact ⟨ret_bool HL.out, ((Below.refl _ w).alloc (Nat.le_refl _) _).alloc (by simp) _⟩
end Go.Proofs.YthbfbpbppjkoeaaGreatDoor
