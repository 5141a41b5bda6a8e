/- Contract of divisor of package big. Conditions: those in the statements. -/
import Derived.Test.YthbfbpbppjkoeaaGreatDoorBigU
namespace Go.Proofs.YthbfbpbppjkoeaaGreatDoor
open Go.RowKit Go.Shelf
set_option exponentiation.threshold 500
set_option maxRecDepth 100000

/-- A number is returned whose digits lie in none of these blocks. -/
def RetAp (bad : Nat → Prop) (z : Int) (w : World) (e : Ending) (w' : World) : Prop := ∃ o c, e = .returned (numV z o c) ∧ NumAt w' o z ∧ Below w.heap.size w w' ∧ (z ≠ 0 → ∀ b, o = some ⟨b, 0, none⟩ → ¬ bad b)
theorem RetNum.ap {z : Int} {w w' : World} {e : Ending} (h : RetNum z w e w') (bad : Nat → Prop) (hb : ∀ b, bad b → b < w.heap.size) : RetAp bad z w e w' := by
  obtain ⟨o, c, h1, h2, h3, h4⟩ := h
  exact ⟨o, c, h1, h2, h3, fun _ b e hbad => by have := h4 b e; have := hb b hbad; omega⟩
def RetApZ (bad : Nat → Prop) (z : Int) (w : World) (e : Ending) (w' : World) : Prop := (Few z → RetAp bad z w e w') ∧ (¬ Few z → e = tooE ∧ Below w.heap.size w w')
theorem RetZ.ap {z : Int} {w w' : World} {e : Ending} (h : RetZ z w e w') (bad : Nat → Prop) (hb : ∀ b, bad b → b < w.heap.size) : RetApZ bad z w e w' := ⟨fun hf => (h.1 hf).ap bad hb, h.2⟩
theorem NumAt.put' {W : World} {o : Option Addr} {z : Int} (h : NumAt W o z) (B : Nat) (hB : z ≠ 0 → ∀ b, o = some ⟨b, 0, none⟩ → b ≠ B) (x y : Value) : NumAt ((W.setCell ⟨B, 0, none⟩ x).setCell ⟨B, 1, none⟩ y) o z := by
  by_cases h0 : z = 0
  · subst h0
    exact ⟨h.few, by rw [show (0 : Int).natAbs = 0 by rfl, Bg.ds_zero]; exact IntAt.nil _ _⟩
  · exact h.put B (hB h0) x y
theorem NumAt.old {W : World} {o : Option Addr} {z : Int} (h : NumAt W o z) (h0 : z ≠ 0) (b : Nat) (e : o = some ⟨b, 0, none⟩) : b < W.heap.size := h.at_.lt (by have := mt (sign_zero_iff z).1 h0; omega) b e
theorem gcd_zero (x : Int) : x.sign * x.sign = ((x.natAbs : Int)).sign := by
  rcases Int.lt_trichotomy x 0 with h | h | h
  · rw [Int.sign_eq_neg_one_of_neg h, Int.sign_eq_one_of_pos (by omega)]; rfl
  · subst h; rfl
  · rw [Int.sign_eq_one_of_pos h, Int.sign_eq_one_of_pos (by omega)]; rfl
/-- Digits lie in none of three boxes, nor in these blocks. -/
def Far (n : Nat) (bad : Nat → Prop) (z : Int) (o : Option Addr) : Prop := z ≠ 0 → ∀ b, o = some ⟨b, 0, none⟩ → (b < n ∨ n + 2 < b) ∧ ¬ bad b

set_option maxHeartbeats 1000000 in
theorem divisor_c (a b : Int) (bad : Nat → Prop) (oa ob : Option Addr) (ca cb : Nat) (w : World) (hw : Wd w) (ha : NumAt w oa a) (hb : NumAt w ob b)
    (hbad : ∀ b, bad b → b < w.heap.size) (ba : a ≠ 0 → ∀ k, oa = some ⟨k, 0, none⟩ → ¬ bad k) (bb : b ≠ 0 → ∀ k, ob = some ⟨k, 0, none⟩ → ¬ bad k) :
    Calls Tryz.prog 103 #[numV a oa ca, numV b ob cb] w (RetAp bad (Int.gcd a b : Int) w) := by
  have hfa : Far w.heap.size bad a oa := fun h0 k e => ⟨.inl (ha.old h0 k e), ba h0 k e⟩
  have hfb : Far w.heap.size bad b ob := fun h0 k e => ⟨.inl (hb.old h0 k e), bb h0 k e⟩
  obtain ⟨hA0, hB0, hN0, hb0⟩ := boxes3 w (.int .i64 a.sign) (.slice oa (Bg.ds a.natAbs).length ca) (.int .i64 b.sign) (.slice ob (Bg.ds b.natAbs).length cb) (.int .i64 0) (.slice none 0 0)
  have HA0 := Lib.hid hA0
  have HB0 := Lib.hid hB0
  have HN0 := Lib.hid hN0
  have Hb0 := Lib.hid hb0
  have Ha := Lib.hid (ha.mono hb0)
  have Hb := Lib.hid (hb.mono hb0)
  have HFa := Lib.hid hfa
  have HFb := Lib.hid hfb
  have HBad := Lib.hid hbad
  clear hA0 hB0 hN0 hb0 ha hb hfa hfb hbad ba bb
  unfold numV
  go_enter Tryz.func103, Tryz.ntmps103
  go_wp2_with fail
  go_loopg [] b.natAbs (fun g wr => ∃ (x y : Int) (ox oy : Option Addr) (cx cy : Nat), y.natAbs = g ∧ Hid (Int.gcd x y = Int.gcd a b) ∧ Hid (NB wr w.heap.size (.int .i64 x.sign) (.slice ox (Bg.ds x.natAbs).length cx)) ∧ Hid (NB wr (w.heap.size + 1) (.int .i64 y.sign) (.slice oy (Bg.ds y.natAbs).length cy)) ∧ Hid (NB wr (w.heap.size + 1 + 1) (.int .i64 0) (.slice none 0 0)) ∧ Hid (NumAt wr ox x) ∧ Hid (NumAt wr oy y) ∧ Hid (Far w.heap.size bad x ox) ∧ Hid (Far w.heap.size bad y oy) ∧ Hid (Below w.heap.size w wr))
  case atStart => exact ⟨a, b, oa, ob, ca, cb, rfl, Lib.hid rfl, HA0, HB0, HN0, Ha, Hb, HFa, HFb, Hb0⟩
  case round =>
    clear HA0 HB0 HN0 Ha Hb HFa HFb Hb0
    obtain ⟨x, y, ox, oy, cx, cy, hg, HG, HA, HB, HN, Hx, Hy, HFx, HFy, HBw⟩ := hrel
    have HGk := Lib.hid hg
    clear hg
    have c0 := HA.out.c0
    have c1 := HA.out.c1
    have c2 := HB.out.c0
    have c3 := HB.out.c1
    by_cases hy : y = 0
    · have dy : (y.sign != 0) = false := by rw [hy]; rfl
      have hgx : (Int.gcd a b : Int) = (x.natAbs : Int) := by rw [← HG.out, hy, Int.gcd_zero_right]
      have hws : IntKind.i64.wrap (x.sign * x.sign) = x.sign * x.sign := IntWalk.i64_in _ (by rw [gcd_zero]; have := Int.sign_trichotomy (x.natAbs : Int); omega)
      have n0 := HN.out.c0
      have n1 := HN.out.c1
      have n2 := HN.out.f0
      have n3 := HN.out.f1
      have HGx := Lib.hid hgx
      clear hy hgx
      go_wp2_with fail
      refine ret_box rfl rfl rfl (HN.out.put (.int .i64 (x.sign * x.sign)) (.slice ox (Bg.ds x.natAbs).length cx)) ⟨ox, cx, ?_, ?_, below_put HBw.out (by omega) _ _, ?_⟩
      · rw [HGx.out]
        unfold numV
        rw [gcd_zero, Int.natAbs_natCast]
      · have hx' : NumAt wr ox (Int.gcd a b : Int) := by
          rw [HGx.out]
          exact ⟨by have := Hx.out.few; unfold Few at *; rwa [Int.natAbs_natCast], by have := Hx.out.at_; rwa [Int.natAbs_natCast]⟩
        exact hx'.put' _ (fun h0 b e => by have := HFx.out (fun ex => h0 (by rw [HGx.out, ex]; rfl)) b e; omega) _ _
      · exact fun h0 b e => (HFx.out (fun ex => h0 (by rw [HGx.out, ex]; rfl)) b e).2
    · have dy : (y.sign != 0) = true := by rw [bne_iff_ne]; exact fun e => hy (Int.sign_eq_zero_iff_zero.1 e)
      have HRe := Lib.hid (fun (W : World) (hB : Below wr.heap.size wr W) => rest_c x y hy ox oy cx cy W (hw.below (HBw.out.trans (hB.mono HBw.out.size))) (Hx.out.mono hB) (Hy.out.mono hB))
      unfold numV at HRe
      have HY := Lib.hid hy
      clear hy
      have f0 := HA.out.f0
      have f1 := HA.out.f1
      have f2 := HB.out.f0
      have f3 := HB.out.f1
      go_wp2_with fail
      go_region_with (go_at_call 102; refine (HRe.out _ ?_).mono ?_; exact (Below.refl _ wr).drew; rintro e w2 ⟨o2, c2', rfl, hn2, hb2, hw2⟩; have hA2 := HA.out.drew.below hb2 HA.out.lt; have hB2 := HB.out.drew.below hb2 HB.out.lt; have k0 := hA2.c0; have k1 := hA2.c1; have k2 := hB2.c0; have k3 := hB2.c1; have k4 := hA2.f0; have k5 := hA2.f1; have k6 := hB2.f0; have k7 := hB2.f1; have HA2 := Lib.hid hA2; have HB2 := Lib.hid hB2; have Hn2 := Lib.hid hn2; have Hb2 := Lib.hid hb2; have Hw2 := Lib.hid hw2; clear hA2 hB2 hn2 hb2 hw2; unfold numV)
      all_goals
        go_wp2_with fail
        have hlt := HN.out.lt
        have hD : Below wr.heap.size wr w2 := (Below.refl _ wr).drew.trans Hb2.out
        have hzz := Hw2.out
        have hfr : ∀ k, o2 = some ⟨k, 0, none⟩ → w.heap.size + 2 < k := fun k e => by have : wr.heap.size ≤ k := hzz k e; omega
        have hN2 := HN.out.below hD hlt
        have hY2 := Hy.out.mono hD
        have hB2 := HBw.out.trans (hD.mono HBw.out.size)
        have hng := Bg.fmod_range x HY.out
        have hgk := HGk.out
        go_roundg ((x.fmod y).natAbs)
        case rel =>
          refine ⟨y, x.fmod y, oy, o2, cy, c2', rfl, Lib.hid ((Bg.gcd_step x y).symm.trans HG.out), Lib.hid ((HA2.out.put _ _).others (w.heap.size + 1) (by omega) _ _), Lib.hid ((HB2.out.others w.heap.size (by omega) _ _).put _ _), Lib.hid ((hN2.others w.heap.size (by omega) _ _).others (w.heap.size + 1) (by omega) _ _),
            Lib.hid ((hY2.put' _ (fun h0 k e => by have := (HFy.out h0 k e).1; omega) _ _).put' _ (fun h0 k e => by have := (HFy.out h0 k e).1; omega) _ _), Lib.hid ((Hn2.out.put _ (fun k e => by have := hfr k e; omega) _ _).put _ (fun k e => by have := hfr k e; omega) _ _), HFy, Lib.hid (fun h0 k e => ⟨.inr (hfr k e), fun hb => by have := HBad.out k hb; have := hfr k e; omega⟩), Lib.hid (below_put (below_put hB2 (Nat.le_refl _) _ _) (by omega) _ _)⟩
        case measure => omega
end Go.Proofs.YthbfbpbppjkoeaaGreatDoor
