/- Contracts of plus, minus, times of package big. Conditions: those in the statements. -/
import Derived.Test.YthbfbpbppjkoeaaGreatDoorBigRh
namespace Go.Proofs.YthbfbpbppjkoeaaGreatDoor
open Go.RowKit Go.Shelf
set_option linter.unusedSimpArgs false
set_option exponentiation.threshold 500
set_option maxRecDepth 100000

theorem times_nat (a b : Int) : (a * b).natAbs = a.natAbs * b.natAbs := Int.natAbs_mul a b
theorem times_sign (a b : Int) : a.sign * b.sign = (a * b).sign := (Int.sign_mul a b).symm

set_option maxHeartbeats 8000000 in
theorem times_c (a b : Int) (oa ob : Option Addr) (ca cb : Nat) (w : World) (hw : Wd w) (ha : NumAt w oa a) (hb : NumAt w ob b) :
    Calls Tryz.prog 87 #[numV a oa ca, numV b ob cb] w (RetZ (a * b) w) := by
  have hla := ha.few.len
  have hlb := hb.few.len
  have hp := fun (W : World) (hB : Below w.heap.size w W) => product_c oa ob ca cb (Bg.ds a.natAbs) (Bg.ds b.natAbs) (a * b).natAbs W (ha.at_.mono hB) (hb.at_.mono hB) (fun x hx => by have := Bg.ds_mem hx; omega) (fun x hx => by have := Bg.ds_mem hx; omega) (by omega) (by omega) (by rw [Bg.valI_ds, Bg.valI_ds, times_nat]; simp)
  have hlen : (Bg.ds (a * b).natAbs).length ≤ 1000000 := by
    have := Bg.ds_len_le (n := (a * b).natAbs) (k := 134) (by
      rw [times_nat, show (134 : Nat) = 67 + 67 by rfl, Nat.pow_add]
      exact Nat.mul_lt_mul'' (Nat.lt_of_lt_of_le (Bg.lt_pow_len _) (Nat.pow_le_pow_right (by decide) hla)) (Nat.lt_of_lt_of_le (Bg.lt_pow_len _) (Nat.pow_le_pow_right (by decide) hlb)))
    omega
  have hsg := fun (o : Option Addr) (c : Nat) (W : World) (hw : Wd W) (h : IntAt W o (Bg.ds (a * b).natAbs)) => signed_c (a.sign * b.sign) (a * b) (fun _ => times_sign a b) o c W hw h hlen
  have hwr : IntKind.i64.wrap (a.sign * b.sign) = a.sign * b.sign := IntWalk.i64_in _ (by rw [times_sign]; have := Int.sign_trichotomy (a * b); omega)
  unfold numV
  have HP := Lib.hid hp
  have HSg := Lib.hid hsg
  have HWd := Lib.hid hw
  clear hp hsg hw hla hlb hlen ha hb
  generalize hz : a * b = z at *
  generalize a.sign = sa at *
  generalize b.sign = sb at *
  generalize (Bg.ds a.natAbs).length = la at *
  generalize (Bg.ds b.natAbs).length = lb at *
  have HZ := Lib.hid hz
  clear hz
  obtain ⟨hA0, hB0, hN0, hb0⟩ := boxes3 w (.int .i64 sa) (.slice oa la ca) (.int .i64 sb) (.slice ob lb cb) (.int .i64 0) (.slice none 0 0)
  have hS0 := S2.mk (W := World.drew _) hA0.drew hB0.drew hb0.drew
  have HS0 := Lib.hid hS0
  have HN0 := Lib.hid hN0.drew
  have HB0 := Lib.hid hb0.drew
  clear hA0 hB0 hN0 hb0 hS0
  refine callsZ (fun hf => ?_) (fun hf => ?_)
  · have HF := Lib.hid hf
    clear hf
    go_enter Tryz.func87, Tryz.ntmps87
    go_wp2_with fail
    refine wp_region_held_drew (S := fun W => W.cell? ⟨w.heap.size, 0, none⟩ = some (.int .i64 sa) ∧ W.cell? ⟨w.heap.size, 1, none⟩ = some (.slice oa la ca) ∧ W.cell? ⟨w.heap.size + 1, 0, none⟩ = some (.int .i64 sb) ∧ W.cell? ⟨w.heap.size + 1, 1, none⟩ = some (.slice ob lb cb) ∧ Below w.heap.size w W ∧ w.heap.size + 2 ≤ W.heap.size) (by kernel_rfl) HS0.out (fun hS => ?_)
    refine wpAnyH_take (i := 0) (v := ?hlv1) rfl (by kernel_rfl) (by kernel_rfl) (by kernel_rfl) (fun _ _ _ h => h) (Or.inl ⟨by rfl, ?hly1⟩) (by assumption) ?hlr1
    case hly1 => (intro w hSw; (try dsimp only at hSw); go_simp; (try with_reducible rfl))
    (try simp only [Act.put, List.setIfInBounds_toArray, List.set_cons_zero, List.set_cons_succ])
    refine wpAnyH_take (i := 1) (v := ?hlv2) rfl (by kernel_rfl) (by kernel_rfl) (by kernel_rfl) (fun _ _ _ h => h) (Or.inl ⟨by rfl, ?hly2⟩) (by assumption) ?hlr2
    case hly2 => (intro w hSw; (try dsimp only at hSw); go_simp; (try with_reducible rfl))
    (try simp only [Act.put, List.setIfInBounds_toArray, List.set_cons_zero, List.set_cons_succ])
    refine wpAnyH_take (i := 2) (v := ?hlv3) rfl (by kernel_rfl) (by kernel_rfl) (by kernel_rfl) (fun _ _ _ h => h) (Or.inl ⟨by rfl, ?hly3⟩) (by assumption) ?hlr3
    case hly3 => (intro w hSw; (try dsimp only at hSw); go_simp; (try with_reducible rfl))
    (try simp only [Act.put, List.setIfInBounds_toArray, List.set_cons_zero, List.set_cons_succ])
    refine wpAnyH_take (i := 3) (v := ?hlv4) rfl (by kernel_rfl) (by kernel_rfl) (by kernel_rfl) (fun _ _ _ h => h) (Or.inl ⟨by rfl, ?hly4⟩) (by assumption) ?hlr4
    case hly4 => (intro w hSw; (try dsimp only at hSw); go_simp; (try with_reducible rfl))
    (try simp only [Act.put, List.setIfInBounds_toArray, List.set_cons_zero, List.set_cons_succ])
    refine wpAnyH_take (i := 4) (v := ?hlv5) rfl (by kernel_rfl) (by kernel_rfl) (by kernel_rfl) (fun _ _ _ h => h) (Or.inl ⟨by rfl, ?hly5⟩) (by assumption) ?hlr5
    case hly5 => (intro w hSw; (try dsimp only at hSw); go_simp; (try with_reducible rfl))
    (try simp only [Act.put, List.setIfInBounds_toArray, List.set_cons_zero, List.set_cons_succ])
    refine wpAnyH_take (i := 5) (v := ?hlv6) rfl (by kernel_rfl) (by kernel_rfl) (by kernel_rfl) (fun _ _ _ h => h) (Or.inl ⟨by rfl, ?hly6⟩) (by assumption) ?hlr6
    case hly6 => (intro w hSw; (try dsimp only at hSw); go_simp; (try with_reducible rfl))
    (try simp only [Act.put, List.setIfInBounds_toArray, List.set_cons_zero, List.set_cons_succ])
    refine wpAnyH_take (i := 6) (v := ?hlv7) rfl (by kernel_rfl) (by kernel_rfl) (by kernel_rfl) (fun _ _ _ h => h) (Or.inl ⟨by rfl, ?hly7⟩) (by assumption) ?hlr7
    case hly7 => (intro w hSw; (try dsimp only at hSw); go_simp; (try with_reducible rfl))
    (try simp only [Act.put, List.setIfInBounds_toArray, List.set_cons_zero, List.set_cons_succ])
    refine wpAnyH_take (i := 7) (v := ?hlv8) rfl (by kernel_rfl) (by kernel_rfl) (by kernel_rfl) (fun _ _ _ h => h) (Or.inl ⟨by rfl, ?hly8⟩) (by assumption) ?hlr8
    case hly8 => (intro w hSw; (try dsimp only at hSw); go_simp; (try with_reducible rfl))
    (try simp only [Act.put, List.setIfInBounds_toArray, List.set_cons_zero, List.set_cons_succ])
    refine wpAnyH_take (i := 8) (v := ?hlv9) rfl (by kernel_rfl) (by kernel_rfl) (by kernel_rfl) (fun _ _ _ h => h) (Or.inl ⟨by rfl, ?hly9⟩) (by assumption) ?hlr9
    case hly9 => (intro w hSw; (try dsimp only at hSw); go_simp; (try with_reducible rfl))
    (try simp only [Act.put, List.setIfInBounds_toArray, List.set_cons_zero, List.set_cons_succ])
    refine wpAnyH_ready (rs := [9]) (by kernel_rfl) (by simp) ?_
    refine AllReadyH.one rfl ?_ AllReadyH.nil
    intro K hK
    go_simp
    refine (HP.out _ HB0.out).mono ?_
    rintro e w2 ⟨o2, c2, rfl, hi2, hb2, hf2⟩
    refine hK.out _ _ (two_kept hS hb2) (fun hS2 => ?_)
    clear hK K
    have hN2 := HN0.out.below hb2 HN0.out.lt
    have hB2 := HB0.out.trans (hb2.mono HB0.out.size)
    have HN2 := Lib.hid hN2
    have HB2 := Lib.hid hB2
    have HI2 := Lib.hid hi2
    have HF2 := Lib.hid (New.of_le (w := w) (w' := _) hf2 HB0.out.size)
    have HA2 := Lib.hid (show ∀ b, o2 = some ⟨b, 0, none⟩ → b ≠ w.heap.size + 1 + 1 from fun b e => by have := hf2 b e; have := HN0.out.lt; omega)
    clear hb2 hi2 hf2 hN2 hB2
    refine wpAnyH_ready (rs := [10]) (by kernel_rfl) (by simp) ?_
    refine AllReadyH.one rfl ?_ AllReadyH.nil
    intro K hK
    go_simp
    refine (HSg.out _ _ _ (HWd.out.below HB2.out) HI2.out).mono ?_
    rintro e w3 hz3
    obtain ⟨rfl, hb3⟩ := hz3.1 HF.out
    clear hz3
    unfold numV
    refine hK.out _ _ (two_kept hS2 hb3) (fun hS3 => ?_)
    clear hK K
    have hN3 := HN2.out.below hb3 HN2.out.lt
    have hB3 := HB2.out.trans (hb3.mono HB2.out.size)
    have HI3 := Lib.hid (HI2.out.mono hb3)
    have c0 := hN3.c0
    have c1 := hN3.c1
    have f0 := hN3.f0
    have f1 := hN3.f1
    have HN3 := Lib.hid hN3
    have HB3 := Lib.hid hB3
    clear hb3 hN3 hB3
    refine wpAnyH_ready (rs := [11]) (by kernel_rfl) (by simp) ?_
    refine AllReadyH.one rfl ?_ AllReadyH.nil
    intro K hK
    go_simp
    refine hK.out _ _ (S2.put hS3 (w.heap.size + 1 + 1) (by omega) _ _) (fun hS4 => ?_)
    clear hK K
    refine wpAnyH_done (by kernel_rfl) ?_ _
    go_wp2_with fail
    exact ret_box rfl rfl rfl (HN3.out.put (.int .i64 z.sign) (.slice o2 (Bg.ds z.natAbs).length c2)) ⟨o2, c2, rfl, ⟨HF.out, HI3.out.put _ HA2.out _ _⟩, below_put HB3.out (by omega) _ _, HF2.out⟩
  · have HF := Lib.hid hf
    clear hf
    go_enter Tryz.func87, Tryz.ntmps87
    go_wp2_with fail
    refine wp_region_held_drew (S := fun W => W.cell? ⟨w.heap.size, 0, none⟩ = some (.int .i64 sa) ∧ W.cell? ⟨w.heap.size, 1, none⟩ = some (.slice oa la ca) ∧ W.cell? ⟨w.heap.size + 1, 0, none⟩ = some (.int .i64 sb) ∧ W.cell? ⟨w.heap.size + 1, 1, none⟩ = some (.slice ob lb cb) ∧ Below w.heap.size w W ∧ w.heap.size + 2 ≤ W.heap.size) (by kernel_rfl) HS0.out (fun hS => ?_)
    refine wpAnyH_take (i := 0) (v := ?hlv10) rfl (by kernel_rfl) (by kernel_rfl) (by kernel_rfl) (fun _ _ _ h => h) (Or.inl ⟨by rfl, ?hly10⟩) (by assumption) ?hlr10
    case hly10 => (intro w hSw; (try dsimp only at hSw); go_simp; (try with_reducible rfl))
    (try simp only [Act.put, List.setIfInBounds_toArray, List.set_cons_zero, List.set_cons_succ])
    refine wpAnyH_take (i := 1) (v := ?hlv11) rfl (by kernel_rfl) (by kernel_rfl) (by kernel_rfl) (fun _ _ _ h => h) (Or.inl ⟨by rfl, ?hly11⟩) (by assumption) ?hlr11
    case hly11 => (intro w hSw; (try dsimp only at hSw); go_simp; (try with_reducible rfl))
    (try simp only [Act.put, List.setIfInBounds_toArray, List.set_cons_zero, List.set_cons_succ])
    refine wpAnyH_take (i := 2) (v := ?hlv12) rfl (by kernel_rfl) (by kernel_rfl) (by kernel_rfl) (fun _ _ _ h => h) (Or.inl ⟨by rfl, ?hly12⟩) (by assumption) ?hlr12
    case hly12 => (intro w hSw; (try dsimp only at hSw); go_simp; (try with_reducible rfl))
    (try simp only [Act.put, List.setIfInBounds_toArray, List.set_cons_zero, List.set_cons_succ])
    refine wpAnyH_take (i := 3) (v := ?hlv13) rfl (by kernel_rfl) (by kernel_rfl) (by kernel_rfl) (fun _ _ _ h => h) (Or.inl ⟨by rfl, ?hly13⟩) (by assumption) ?hlr13
    case hly13 => (intro w hSw; (try dsimp only at hSw); go_simp; (try with_reducible rfl))
    (try simp only [Act.put, List.setIfInBounds_toArray, List.set_cons_zero, List.set_cons_succ])
    refine wpAnyH_take (i := 4) (v := ?hlv14) rfl (by kernel_rfl) (by kernel_rfl) (by kernel_rfl) (fun _ _ _ h => h) (Or.inl ⟨by rfl, ?hly14⟩) (by assumption) ?hlr14
    case hly14 => (intro w hSw; (try dsimp only at hSw); go_simp; (try with_reducible rfl))
    (try simp only [Act.put, List.setIfInBounds_toArray, List.set_cons_zero, List.set_cons_succ])
    refine wpAnyH_take (i := 5) (v := ?hlv15) rfl (by kernel_rfl) (by kernel_rfl) (by kernel_rfl) (fun _ _ _ h => h) (Or.inl ⟨by rfl, ?hly15⟩) (by assumption) ?hlr15
    case hly15 => (intro w hSw; (try dsimp only at hSw); go_simp; (try with_reducible rfl))
    (try simp only [Act.put, List.setIfInBounds_toArray, List.set_cons_zero, List.set_cons_succ])
    refine wpAnyH_take (i := 6) (v := ?hlv16) rfl (by kernel_rfl) (by kernel_rfl) (by kernel_rfl) (fun _ _ _ h => h) (Or.inl ⟨by rfl, ?hly16⟩) (by assumption) ?hlr16
    case hly16 => (intro w hSw; (try dsimp only at hSw); go_simp; (try with_reducible rfl))
    (try simp only [Act.put, List.setIfInBounds_toArray, List.set_cons_zero, List.set_cons_succ])
    refine wpAnyH_take (i := 7) (v := ?hlv17) rfl (by kernel_rfl) (by kernel_rfl) (by kernel_rfl) (fun _ _ _ h => h) (Or.inl ⟨by rfl, ?hly17⟩) (by assumption) ?hlr17
    case hly17 => (intro w hSw; (try dsimp only at hSw); go_simp; (try with_reducible rfl))
    (try simp only [Act.put, List.setIfInBounds_toArray, List.set_cons_zero, List.set_cons_succ])
    refine wpAnyH_take (i := 8) (v := ?hlv18) rfl (by kernel_rfl) (by kernel_rfl) (by kernel_rfl) (fun _ _ _ h => h) (Or.inl ⟨by rfl, ?hly18⟩) (by assumption) ?hlr18
    case hly18 => (intro w hSw; (try dsimp only at hSw); go_simp; (try with_reducible rfl))
    (try simp only [Act.put, List.setIfInBounds_toArray, List.set_cons_zero, List.set_cons_succ])
    refine wpAnyH_ready (rs := [9]) (by kernel_rfl) (by simp) ?_
    refine AllReadyH.one rfl ?_ AllReadyH.nil
    intro K hK
    go_simp
    refine (HP.out _ HB0.out).mono ?_
    rintro e w2 ⟨o2, c2, rfl, hi2, hb2, hf2⟩
    refine hK.out _ _ (two_kept hS hb2) (fun hS2 => ?_)
    clear hK K
    have hN2 := HN0.out.below hb2 HN0.out.lt
    have hB2 := HB0.out.trans (hb2.mono HB0.out.size)
    have HN2 := Lib.hid hN2
    have HB2 := Lib.hid hB2
    have HI2 := Lib.hid hi2
    have HF2 := Lib.hid (New.of_le (w := w) (w' := _) hf2 HB0.out.size)
    have HA2 := Lib.hid (show ∀ b, o2 = some ⟨b, 0, none⟩ → b ≠ w.heap.size + 1 + 1 from fun b e => by have := hf2 b e; have := HN0.out.lt; omega)
    clear hb2 hi2 hf2 hN2 hB2
    refine wpAnyH_ready (rs := [10]) (by kernel_rfl) (by simp) ?_
    refine AllReadyH.one rfl ?_ AllReadyH.nil
    intro K hK
    go_simp
    refine (HSg.out _ _ _ (HWd.out.below HB2.out) HI2.out).mono ?_
    rintro e w3 hz3
    obtain ⟨rfl, hb3⟩ := hz3.2 HF.out
    exact ⟨rfl, rfl, HB2.out.trans (hb3.mono HB2.out.size)⟩

theorem plus_val {f g : Int} (h : g.natAbs ≤ f.natAbs) : (f.natAbs : Int) + f.sign * g.sign * g.natAbs = ((f + g).natAbs : Int) := by
  obtain ⟨h1, h2⟩ := Bg.plus_far f g h
  by_cases h0 : f = 0
  · have : g = 0 := by omega
    subst h0; subst this; simp
  · have hs : (f.sign).natAbs = 1 := by rw [Int.natAbs_sign]; simp [h0]
    rw [← h1, Int.natAbs_mul, hs, Nat.one_mul]
    omega
theorem plus_sign {f g : Int} (h : g.natAbs ≤ f.natAbs) (h0 : f + g ≠ 0) : f.sign = (f + g).sign := by
  rcases Int.lt_trichotomy f 0 with hf | hf | hf
  · rw [Int.sign_eq_neg_one_of_neg hf, Int.sign_eq_neg_one_of_neg (by omega)]
  · omega
  · rw [Int.sign_eq_one_of_pos hf, Int.sign_eq_one_of_pos (by omega)]
theorem few_len10 {z : Int} {n : Nat} (h : z.natAbs < 1000000 ^ n) (hn : n ≤ 1000000) : (Bg.ds z.natAbs).length ≤ 1000000 := by
  have := Bg.ds_len_le h; omega

set_option maxHeartbeats 8000000 in
theorem plus_c (a b : Int) (oa ob : Option Addr) (ca cb : Nat) (w : World) (hw : Wd w) (ha : NumAt w oa a) (hb : NumAt w ob b) :
    Calls Tryz.prog 88 #[numV a oa ca, numV b ob cb] w (RetZ (a + b) w) := by
  have hg : ∃ (f g : Int) (of og : Option Addr) (cf cg : Nat), f + g = a + b ∧ g.natAbs ≤ f.natAbs ∧ NumAt w of f ∧ NumAt w og g ∧ ∀ W, Below w.heap.size w W →
      Calls Tryz.prog 108 #[numV a oa ca, numV b ob cb, .func (.func 109) #[] #[]] W (RetPair (numV f of cf) (numV g og cg) W) := by
    by_cases h : a.natAbs < b.natAbs
    · refine ⟨b, a, ob, oa, cb, ca, Int.add_comm _ _, by omega, hb, ha, fun W hB => ?_⟩
      have := greaterFirst_c a b oa ob ca cb W (ha.mono hB) (hb.mono hB)
      rwa [if_pos h] at this
    · refine ⟨a, b, oa, ob, ca, cb, rfl, by omega, ha, hb, fun W hB => ?_⟩
      have := greaterFirst_c a b oa ob ca cb W (ha.mono hB) (hb.mono hB)
      rwa [if_neg h] at this
  obtain ⟨f, g, of, og, cf, cg, hz, hle, hf, hg, hgr⟩ := hg
  have hlf := hf.few.len
  have hlg := hg.few.len
  have hp := fun (W : World) (hB : Below w.heap.size w W) => plusTimes_c of og cf cg (Bg.ds f.natAbs) (Bg.ds g.natAbs) (f.sign * g.sign) (f + g).natAbs W (hf.at_.mono hB) (hg.at_.mono hB) (fun x hx => by have := Bg.ds_mem hx; omega) (fun x hx => by have := Bg.ds_mem hx; omega) (by have := Int.sign_trichotomy (f * g); rw [times_sign]; omega) (by have := Int.sign_trichotomy (f * g); rw [times_sign]; omega) (by omega) (by omega) (by rw [Bg.valI_ds, Bg.valI_ds]; exact plus_val hle)
  have hlen : (Bg.ds (f + g).natAbs).length ≤ 1000000 := by
    refine few_len10 (n := 68) ?_ (by decide)
    have h1 := Nat.lt_of_lt_of_le (Bg.lt_pow_len f.natAbs) (Nat.pow_le_pow_right (by decide) hlf)
    have h2 : (1000000 : Nat) ^ 68 = 1000000 ^ 67 * 1000000 := Nat.pow_succ ..
    rw [h2]
    generalize (1000000 : Nat) ^ 67 = X at *
    omega
  have hsg := fun (o : Option Addr) (c : Nat) (W : World) (hw : Wd W) (h : IntAt W o (Bg.ds (f + g).natAbs)) => signed_c f.sign (f + g) (fun h0 => plus_sign hle h0) o c W hw h hlen
  have hwr : IntKind.i64.wrap (f.sign * g.sign) = f.sign * g.sign := IntWalk.i64_in _ (by rw [times_sign]; have := Int.sign_trichotomy (f * g); omega)
  rw [hz] at hsg hp
  unfold numV at *
  have HP := Lib.hid hp
  have HSg := Lib.hid hsg
  have HWd := Lib.hid hw
  have HG := Lib.hid hgr
  clear hp hsg hw hlf hlg hlen ha hb hf hg hgr hle hz
  generalize a + b = z at *
  generalize a.sign = sa at *
  generalize b.sign = sb at *
  generalize f.sign = sf at *
  generalize g.sign = sg at *
  generalize (Bg.ds a.natAbs).length = la at *
  generalize (Bg.ds b.natAbs).length = lb at *
  generalize (Bg.ds f.natAbs).length = lf at *
  generalize (Bg.ds g.natAbs).length = lg at *
  obtain ⟨hA0, hB0, hN0, hb0⟩ := boxes3 w (.int .i64 sa) (.slice oa la ca) (.int .i64 sb) (.slice ob lb cb) (.int .i64 0) (.slice none 0 0)
  have HN0 := Lib.hid hN0
  have HB0 := Lib.hid hb0
  clear hA0 hB0 hN0 hb0
  refine callsZ (fun hf => ?_) (fun hf => ?_)
  · have HF := Lib.hid hf
    clear hf
    go_enter Tryz.func88, Tryz.ntmps88
    go_wp2_with fail
    refine (HG.out _ HB0.out).mono ?_
    rintro e w1 ⟨rfl, hb1⟩
    have HN1 := Lib.hid (HN0.out.below hb1 HN0.out.lt)
    have HB1 := Lib.hid (HB0.out.trans (hb1.mono HB0.out.size))
    clear hb1
    obtain ⟨hA5, hB5, hb5⟩ := boxes2 w1 (.int .i64 sf) (.slice of lf cf) (.int .i64 sg) (.slice og lg cg)
    have HS0 := Lib.hid (SM.mk (W := World.drew _) hA5.drew hB5.drew (HB1.out.trans (hb5.drew.mono HB1.out.size)))
    have hmn := HB1.out.size
    have hmB := HN1.out.lt
    have HMN := Lib.hid hmn
    have HMB := Lib.hid hmB
    clear hmn hmB
    have HN5 := Lib.hid (HN1.out.below hb5.drew HN1.out.lt)
    have HB5 := Lib.hid (HB1.out.trans (hb5.drew.mono HB1.out.size))
    have HZ5 := Lib.hid hb5.drew.size
    clear hA5 hB5 hb5
    go_wp2_with fail
    refine wp_region_held_drew (S := fun W => W.cell? ⟨w1.heap.size, 0, none⟩ = some (.int .i64 sf) ∧ W.cell? ⟨w1.heap.size, 1, none⟩ = some (.slice of lf cf) ∧ W.cell? ⟨w1.heap.size + 1, 0, none⟩ = some (.int .i64 sg) ∧ W.cell? ⟨w1.heap.size + 1, 1, none⟩ = some (.slice og lg cg) ∧ Below w.heap.size w W ∧ w1.heap.size + 2 ≤ W.heap.size) (by kernel_rfl) HS0.out (fun hS => ?_)
    refine wpAnyH_take (i := 0) (v := ?hlv19) rfl (by kernel_rfl) (by kernel_rfl) (by kernel_rfl) (fun _ _ _ h => h) (Or.inl ⟨by rfl, ?hly19⟩) (by assumption) ?hlr19
    case hly19 => (intro w hSw; (try dsimp only at hSw); go_simp; (try with_reducible rfl))
    (try simp only [Act.put, List.setIfInBounds_toArray, List.set_cons_zero, List.set_cons_succ])
    refine wpAnyH_take (i := 1) (v := ?hlv20) rfl (by kernel_rfl) (by kernel_rfl) (by kernel_rfl) (fun _ _ _ h => h) (Or.inl ⟨by rfl, ?hly20⟩) (by assumption) ?hlr20
    case hly20 => (intro w hSw; (try dsimp only at hSw); go_simp; (try with_reducible rfl))
    (try simp only [Act.put, List.setIfInBounds_toArray, List.set_cons_zero, List.set_cons_succ])
    refine wpAnyH_take (i := 2) (v := ?hlv21) rfl (by kernel_rfl) (by kernel_rfl) (by kernel_rfl) (fun _ _ _ h => h) (Or.inl ⟨by rfl, ?hly21⟩) (by assumption) ?hlr21
    case hly21 => (intro w hSw; (try dsimp only at hSw); go_simp; (try with_reducible rfl))
    (try simp only [Act.put, List.setIfInBounds_toArray, List.set_cons_zero, List.set_cons_succ])
    refine wpAnyH_take (i := 3) (v := ?hlv22) rfl (by kernel_rfl) (by kernel_rfl) (by kernel_rfl) (fun _ _ _ h => h) (Or.inl ⟨by rfl, ?hly22⟩) (by assumption) ?hlr22
    case hly22 => (intro w hSw; (try dsimp only at hSw); go_simp; (try with_reducible rfl))
    (try simp only [Act.put, List.setIfInBounds_toArray, List.set_cons_zero, List.set_cons_succ])
    refine wpAnyH_take (i := 4) (v := ?hlv23) rfl (by kernel_rfl) (by kernel_rfl) (by kernel_rfl) (fun _ _ _ h => h) (Or.inl ⟨by rfl, ?hly23⟩) (by assumption) ?hlr23
    case hly23 => (intro w hSw; (try dsimp only at hSw); go_simp; (try with_reducible rfl))
    (try simp only [Act.put, List.setIfInBounds_toArray, List.set_cons_zero, List.set_cons_succ])
    refine wpAnyH_take (i := 5) (v := ?hlv24) rfl (by kernel_rfl) (by kernel_rfl) (by kernel_rfl) (fun _ _ _ h => h) (Or.inl ⟨by rfl, ?hly24⟩) (by assumption) ?hlr24
    case hly24 => (intro w hSw; (try dsimp only at hSw); go_simp; (try with_reducible rfl))
    (try simp only [Act.put, List.setIfInBounds_toArray, List.set_cons_zero, List.set_cons_succ])
    refine wpAnyH_take (i := 6) (v := ?hlv25) rfl (by kernel_rfl) (by kernel_rfl) (by kernel_rfl) (fun _ _ _ h => h) (Or.inl ⟨by rfl, ?hly25⟩) (by assumption) ?hlr25
    case hly25 => (intro w hSw; (try dsimp only at hSw); go_simp; (try with_reducible rfl))
    (try simp only [Act.put, List.setIfInBounds_toArray, List.set_cons_zero, List.set_cons_succ])
    refine wpAnyH_take (i := 7) (v := ?hlv26) rfl (by kernel_rfl) (by kernel_rfl) (by kernel_rfl) (fun _ _ _ h => h) (Or.inl ⟨by rfl, ?hly26⟩) (by assumption) ?hlr26
    case hly26 => (intro w hSw; (try dsimp only at hSw); go_simp; (try with_reducible rfl))
    (try simp only [Act.put, List.setIfInBounds_toArray, List.set_cons_zero, List.set_cons_succ])
    refine wpAnyH_take (i := 8) (v := ?hlv27) rfl (by kernel_rfl) (by kernel_rfl) (by kernel_rfl) (fun _ _ _ h => h) (Or.inl ⟨by rfl, ?hly27⟩) (by assumption) ?hlr27
    case hly27 => (intro w hSw; (try dsimp only at hSw); go_simp; (try with_reducible rfl))
    (try simp only [Act.put, List.setIfInBounds_toArray, List.set_cons_zero, List.set_cons_succ])
    refine wpAnyH_take (i := 9) (v := ?hlv28) rfl (by kernel_rfl) (by kernel_rfl) (by kernel_rfl) (fun _ _ _ h => h) (Or.inl ⟨by rfl, ?hly28⟩) (by assumption) ?hlr28
    case hly28 => (intro w hSw; (try dsimp only at hSw); go_simp; (try with_reducible rfl))
    (try simp only [Act.put, List.setIfInBounds_toArray, List.set_cons_zero, List.set_cons_succ])
    refine wpAnyH_take (i := 10) (v := ?hlv29) rfl (by kernel_rfl) (by kernel_rfl) (by kernel_rfl) (fun _ _ _ h => h) (Or.inl ⟨by rfl, ?hly29⟩) (by assumption) ?hlr29
    case hly29 => (intro w hSw; (try dsimp only at hSw); go_simp; (try with_reducible rfl))
    (try simp only [Act.put, List.setIfInBounds_toArray, List.set_cons_zero, List.set_cons_succ])
    refine wpAnyH_ready (rs := [11]) (by kernel_rfl) (by simp) ?_
    refine AllReadyH.one rfl ?_ AllReadyH.nil
    intro K hK
    go_simp
    refine (HP.out _ HB5.out).mono ?_
    rintro e w2 ⟨o2, c2, rfl, hi2, hb2, hf2⟩
    refine hK.out _ _ (SM.kept HMN.out hS hb2) (fun hS2 => ?_)
    clear hK K
    have hN2 := HN5.out.below hb2 HN5.out.lt
    have hB2 := HB5.out.trans (hb2.mono HB5.out.size)
    have HN2 := Lib.hid hN2
    have HB2 := Lib.hid hB2
    have HI2 := Lib.hid hi2
    have HF2 := Lib.hid (New.of_le (w := w) (w' := _) hf2 HB5.out.size)
    have HA2 := Lib.hid (show ∀ b, o2 = some ⟨b, 0, none⟩ → b ≠ w.heap.size + 1 + 1 from fun b e => by have := hf2 b e; have := HN5.out.lt; omega)
    clear hb2 hi2 hf2 hN2 hB2
    refine wpAnyH_ready (rs := [12]) (by kernel_rfl) (by simp) ?_
    refine AllReadyH.one rfl ?_ AllReadyH.nil
    intro K hK
    go_simp
    refine (HSg.out _ _ _ (HWd.out.below HB2.out) HI2.out).mono ?_
    rintro e w3 hz3
    obtain ⟨rfl, hb3⟩ := hz3.1 HF.out
    clear hz3
    unfold numV
    refine hK.out _ _ (SM.kept HMN.out hS2 hb3) (fun hS3 => ?_)
    clear hK K
    have hN3 := HN2.out.below hb3 HN2.out.lt
    have hB3 := HB2.out.trans (hb3.mono HB2.out.size)
    have HI3 := Lib.hid (HI2.out.mono hb3)
    have c0 := hN3.c0
    have c1 := hN3.c1
    have f0 := hN3.f0
    have f1 := hN3.f1
    have HN3 := Lib.hid hN3
    have HB3 := Lib.hid hB3
    clear hb3 hN3 hB3
    refine wpAnyH_ready (rs := [13]) (by kernel_rfl) (by simp) ?_
    refine AllReadyH.one rfl ?_ AllReadyH.nil
    intro K hK
    go_simp
    refine hK.out _ _ (SM.put hS3 (w.heap.size + 1 + 1) (by have := HMB.out; omega) (by have := HMB.out; omega) (by omega) _ _) (fun hS4 => ?_)
    clear hK K
    refine wpAnyH_done (by kernel_rfl) ?_ _
    go_wp2_with fail
    exact ret_box rfl rfl rfl (HN3.out.put (.int .i64 z.sign) (.slice o2 (Bg.ds z.natAbs).length c2)) ⟨o2, c2, rfl, ⟨HF.out, HI3.out.put _ HA2.out _ _⟩, below_put HB3.out (by omega) _ _, HF2.out⟩
  · have HF := Lib.hid hf
    clear hf
    go_enter Tryz.func88, Tryz.ntmps88
    go_wp2_with fail
    refine (HG.out _ HB0.out).mono ?_
    rintro e w1 ⟨rfl, hb1⟩
    have HN1 := Lib.hid (HN0.out.below hb1 HN0.out.lt)
    have HB1 := Lib.hid (HB0.out.trans (hb1.mono HB0.out.size))
    clear hb1
    obtain ⟨hA5, hB5, hb5⟩ := boxes2 w1 (.int .i64 sf) (.slice of lf cf) (.int .i64 sg) (.slice og lg cg)
    have HS0 := Lib.hid (SM.mk (W := World.drew _) hA5.drew hB5.drew (HB1.out.trans (hb5.drew.mono HB1.out.size)))
    have hmn := HB1.out.size
    have hmB := HN1.out.lt
    have HMN := Lib.hid hmn
    have HMB := Lib.hid hmB
    clear hmn hmB
    have HN5 := Lib.hid (HN1.out.below hb5.drew HN1.out.lt)
    have HB5 := Lib.hid (HB1.out.trans (hb5.drew.mono HB1.out.size))
    have HZ5 := Lib.hid hb5.drew.size
    clear hA5 hB5 hb5
    go_wp2_with fail
    refine wp_region_held_drew (S := fun W => W.cell? ⟨w1.heap.size, 0, none⟩ = some (.int .i64 sf) ∧ W.cell? ⟨w1.heap.size, 1, none⟩ = some (.slice of lf cf) ∧ W.cell? ⟨w1.heap.size + 1, 0, none⟩ = some (.int .i64 sg) ∧ W.cell? ⟨w1.heap.size + 1, 1, none⟩ = some (.slice og lg cg) ∧ Below w.heap.size w W ∧ w1.heap.size + 2 ≤ W.heap.size) (by kernel_rfl) HS0.out (fun hS => ?_)
    refine wpAnyH_take (i := 0) (v := ?hlv30) rfl (by kernel_rfl) (by kernel_rfl) (by kernel_rfl) (fun _ _ _ h => h) (Or.inl ⟨by rfl, ?hly30⟩) (by assumption) ?hlr30
    case hly30 => (intro w hSw; (try dsimp only at hSw); go_simp; (try with_reducible rfl))
    (try simp only [Act.put, List.setIfInBounds_toArray, List.set_cons_zero, List.set_cons_succ])
    refine wpAnyH_take (i := 1) (v := ?hlv31) rfl (by kernel_rfl) (by kernel_rfl) (by kernel_rfl) (fun _ _ _ h => h) (Or.inl ⟨by rfl, ?hly31⟩) (by assumption) ?hlr31
    case hly31 => (intro w hSw; (try dsimp only at hSw); go_simp; (try with_reducible rfl))
    (try simp only [Act.put, List.setIfInBounds_toArray, List.set_cons_zero, List.set_cons_succ])
    refine wpAnyH_take (i := 2) (v := ?hlv32) rfl (by kernel_rfl) (by kernel_rfl) (by kernel_rfl) (fun _ _ _ h => h) (Or.inl ⟨by rfl, ?hly32⟩) (by assumption) ?hlr32
    case hly32 => (intro w hSw; (try dsimp only at hSw); go_simp; (try with_reducible rfl))
    (try simp only [Act.put, List.setIfInBounds_toArray, List.set_cons_zero, List.set_cons_succ])
    refine wpAnyH_take (i := 3) (v := ?hlv33) rfl (by kernel_rfl) (by kernel_rfl) (by kernel_rfl) (fun _ _ _ h => h) (Or.inl ⟨by rfl, ?hly33⟩) (by assumption) ?hlr33
    case hly33 => (intro w hSw; (try dsimp only at hSw); go_simp; (try with_reducible rfl))
    (try simp only [Act.put, List.setIfInBounds_toArray, List.set_cons_zero, List.set_cons_succ])
    refine wpAnyH_take (i := 4) (v := ?hlv34) rfl (by kernel_rfl) (by kernel_rfl) (by kernel_rfl) (fun _ _ _ h => h) (Or.inl ⟨by rfl, ?hly34⟩) (by assumption) ?hlr34
    case hly34 => (intro w hSw; (try dsimp only at hSw); go_simp; (try with_reducible rfl))
    (try simp only [Act.put, List.setIfInBounds_toArray, List.set_cons_zero, List.set_cons_succ])
    refine wpAnyH_take (i := 5) (v := ?hlv35) rfl (by kernel_rfl) (by kernel_rfl) (by kernel_rfl) (fun _ _ _ h => h) (Or.inl ⟨by rfl, ?hly35⟩) (by assumption) ?hlr35
    case hly35 => (intro w hSw; (try dsimp only at hSw); go_simp; (try with_reducible rfl))
    (try simp only [Act.put, List.setIfInBounds_toArray, List.set_cons_zero, List.set_cons_succ])
    refine wpAnyH_take (i := 6) (v := ?hlv36) rfl (by kernel_rfl) (by kernel_rfl) (by kernel_rfl) (fun _ _ _ h => h) (Or.inl ⟨by rfl, ?hly36⟩) (by assumption) ?hlr36
    case hly36 => (intro w hSw; (try dsimp only at hSw); go_simp; (try with_reducible rfl))
    (try simp only [Act.put, List.setIfInBounds_toArray, List.set_cons_zero, List.set_cons_succ])
    refine wpAnyH_take (i := 7) (v := ?hlv37) rfl (by kernel_rfl) (by kernel_rfl) (by kernel_rfl) (fun _ _ _ h => h) (Or.inl ⟨by rfl, ?hly37⟩) (by assumption) ?hlr37
    case hly37 => (intro w hSw; (try dsimp only at hSw); go_simp; (try with_reducible rfl))
    (try simp only [Act.put, List.setIfInBounds_toArray, List.set_cons_zero, List.set_cons_succ])
    refine wpAnyH_take (i := 8) (v := ?hlv38) rfl (by kernel_rfl) (by kernel_rfl) (by kernel_rfl) (fun _ _ _ h => h) (Or.inl ⟨by rfl, ?hly38⟩) (by assumption) ?hlr38
    case hly38 => (intro w hSw; (try dsimp only at hSw); go_simp; (try with_reducible rfl))
    (try simp only [Act.put, List.setIfInBounds_toArray, List.set_cons_zero, List.set_cons_succ])
    refine wpAnyH_take (i := 9) (v := ?hlv39) rfl (by kernel_rfl) (by kernel_rfl) (by kernel_rfl) (fun _ _ _ h => h) (Or.inl ⟨by rfl, ?hly39⟩) (by assumption) ?hlr39
    case hly39 => (intro w hSw; (try dsimp only at hSw); go_simp; (try with_reducible rfl))
    (try simp only [Act.put, List.setIfInBounds_toArray, List.set_cons_zero, List.set_cons_succ])
    refine wpAnyH_take (i := 10) (v := ?hlv40) rfl (by kernel_rfl) (by kernel_rfl) (by kernel_rfl) (fun _ _ _ h => h) (Or.inl ⟨by rfl, ?hly40⟩) (by assumption) ?hlr40
    case hly40 => (intro w hSw; (try dsimp only at hSw); go_simp; (try with_reducible rfl))
    (try simp only [Act.put, List.setIfInBounds_toArray, List.set_cons_zero, List.set_cons_succ])
    refine wpAnyH_ready (rs := [11]) (by kernel_rfl) (by simp) ?_
    refine AllReadyH.one rfl ?_ AllReadyH.nil
    intro K hK
    go_simp
    refine (HP.out _ HB5.out).mono ?_
    rintro e w2 ⟨o2, c2, rfl, hi2, hb2, hf2⟩
    refine hK.out _ _ (SM.kept HMN.out hS hb2) (fun hS2 => ?_)
    clear hK K
    have hN2 := HN5.out.below hb2 HN5.out.lt
    have hB2 := HB5.out.trans (hb2.mono HB5.out.size)
    have HN2 := Lib.hid hN2
    have HB2 := Lib.hid hB2
    have HI2 := Lib.hid hi2
    have HF2 := Lib.hid (New.of_le (w := w) (w' := _) hf2 HB5.out.size)
    have HA2 := Lib.hid (show ∀ b, o2 = some ⟨b, 0, none⟩ → b ≠ w.heap.size + 1 + 1 from fun b e => by have := hf2 b e; have := HN5.out.lt; omega)
    clear hb2 hi2 hf2 hN2 hB2
    refine wpAnyH_ready (rs := [12]) (by kernel_rfl) (by simp) ?_
    refine AllReadyH.one rfl ?_ AllReadyH.nil
    intro K hK
    go_simp
    refine (HSg.out _ _ _ (HWd.out.below HB2.out) HI2.out).mono ?_
    rintro e w3 hz3
    obtain ⟨rfl, hb3⟩ := hz3.2 HF.out
    exact ⟨rfl, rfl, HB2.out.trans (hb3.mono HB2.out.size)⟩
end Go.Proofs.YthbfbpbppjkoeaaGreatDoor
