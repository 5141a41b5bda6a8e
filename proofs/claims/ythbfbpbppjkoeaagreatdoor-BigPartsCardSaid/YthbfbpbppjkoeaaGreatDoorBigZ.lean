/- Contract of power of package big. Conditions: those in the statements. -/
import Derived.Test.YthbfbpbppjkoeaaGreatDoorBigU
namespace Go.Proofs.YthbfbpbppjkoeaaGreatDoor
open Go.RowKit Go.Shelf
set_option exponentiation.threshold 500
set_option maxRecDepth 100000

theorem few_mono {x y : Int} (h : x.natAbs ≤ y.natAbs) (hy : Few y) : Few x := few_of_le h hy
theorem pow_half (a : Int) (n : Nat) : (a ^ (n / 2)) * (a ^ (n / 2)) * a ^ (n % 2) = a ^ n := by
  rw [← Int.pow_add, ← Int.pow_add]
  congr 1; omega
theorem abs_le_mul {x y : Int} (h : y ≠ 0) : x.natAbs ≤ (x * y).natAbs := by
  rw [Int.natAbs_mul]; exact Nat.le_mul_of_pos_right _ (by omega)

set_option maxHeartbeats 1000000 in
theorem power_c (a : Int) (oa : Option Addr) (ca : Nat) : ∀ (n : Nat), n ≤ 1000000 → ∀ (w : World), Wd w → NumAt w oa a →
    Calls Tryz.prog 67 #[numV a oa ca, .int .i64 n] w (RetZ (a ^ n) w) := by
  intro n
  induction n using Nat.strongRecOn with
  | ind n ih =>
    intro hn w hw ha
    by_cases h0 : n = 0
    · subst h0
      have hsm : ∃ one : Int, one = a ^ 0 ∧ ∀ W, Calls Tryz.prog 86 #[.int .i64 1] W (RetNum one W) := ⟨1, by rw [Int.pow_zero], fun W => small_c 1 (by decide) (by decide) W⟩
      obtain ⟨one, h1, hsm⟩ := hsm
      have HSm := Lib.hid hsm
      have hf : Few one := by rw [h1, Int.pow_zero]; exact few_lt (by decide)
      rw [← h1]
      have HF := Lib.hid hf
      clear h1 hsm hf ih hn hw ha
      unfold numV
      generalize a.sign = sa at *
      generalize (Bg.ds a.natAbs).length = la at *
      obtain ⟨hA0, hB0, hb0⟩ := boxes2 w (.int .i64 sa) (.slice oa la ca) (.int .i64 0) (.slice none 0 0)
      have HB0 := Lib.hid hB0
      have Hb0 := Lib.hid hb0
      clear hA0 hB0 hb0
      go_enter Tryz.func67, Tryz.ntmps67
      go_wp2_with fail
      refine (HSm.out _).mono ?_
      rintro e w1 ⟨o1, c1, rfl, hn1, hb1, hw1⟩
      have hN1 := HB0.out.below hb1 HB0.out.lt
      have HB1 := Lib.hid (Hb0.out.trans (hb1.mono Hb0.out.size))
      have HX := Lib.hid (show ∀ b, o1 = some ⟨b, 0, none⟩ → w.heap.size + 1 < b from fun b e => by have := hw1 b e; have := HB0.out.lt; omega)
      have HN1 := Lib.hid hn1
      have c0 := hN1.c0
      have c1' := hN1.c1
      have f0 := hN1.f0
      have f1 := hN1.f1
      have HNb := Lib.hid hN1
      clear hb1 hw1 hn1 hN1
      unfold numV
      go_wp2_with fail
      exact ret_box rfl rfl rfl (HNb.out.put (.int .i64 one.sign) (.slice o1 (Bg.ds one.natAbs).length c1)) ⟨fun _ => ⟨o1, c1, rfl, HN1.out.put _ (fun b e => by have := HX.out b e; omega) _ _, below_put HB1.out (by omega) _ _, fun b e => by have := HX.out b e; omega⟩, fun h => absurd HF.out h⟩
    · have hih := ih (n / 2) (by omega) (by omega)
      have dn : ((n : Int) == 0) = false := beq_eq_false_iff_ne.2 (by omega)
      have HI := Lib.hid (fun (W : World) (hB : Below w.heap.size w W) => hih W (hw.below hB) (ha.mono hB))
      have hn0 : (0 : Int) ≤ n := by omega
      have hn1 : (n : Int) ≤ 1000000 := by omega
      obtain ⟨h, hh⟩ : ∃ h, a ^ (n / 2) = h := ⟨_, rfl⟩
      rw [hh, Int.natCast_ediv] at HI
      have hfew : ¬ Few h → ¬ Few (a ^ n) := fun hnf hf => by
        have ha0 : a ≠ 0 := fun e => hnf (by
          rw [← hh, e]
          by_cases hz : n / 2 = 0
          · rw [hz, Int.pow_zero]; exact few_lt (by decide)
          · rw [Int.zero_pow hz]; exact few_lt (by decide))
        have hp := pow_half a n
        rw [hh, Int.mul_assoc] at hp
        refine hnf (few_mono ?_ hf)
        rw [← hp]
        have h1 : h ≠ 0 := by rw [← hh]; exact Int.pow_ne_zero ha0
        exact abs_le_mul (Int.mul_ne_zero h1 (Int.pow_ne_zero ha0))
      have hfew2 : ¬ Few (h * h) → ¬ Few (a ^ n) := fun hnf hf => by
        have ha0 : a ≠ 0 := fun e => hnf (by
          rw [← hh, e]
          by_cases hz : n / 2 = 0
          · rw [hz, Int.pow_zero]; exact few_lt (by decide)
          · rw [Int.zero_pow hz]; exact few_lt (by decide))
        have hp := pow_half a n
        rw [hh] at hp
        refine hnf (few_mono ?_ hf)
        rw [← hp]
        exact abs_le_mul (Int.pow_ne_zero ha0)
      have HFew := Lib.hid hfew
      have HFew2 := Lib.hid hfew2
      have hph := pow_half a n
      rw [hh] at hph
      have HPh := Lib.hid hph
      clear hfew hfew2 hph hh
      have HW := Lib.hid hw
      have HA := Lib.hid ha
      clear hih ih hw ha h0
      have HTm := Lib.hid (fun (x : Int) (ox : Option Addr) (cx : Nat) (W : World) (hB : Below w.heap.size w W) (hx : NumAt W ox x) => times_c x a ox oa cx ca W (HW.out.below hB) hx (HA.out.mono hB))
      unfold numV at *
      generalize hgs : a.sign = sa at *
      generalize hgl : (Bg.ds a.natAbs).length = la at *
      clear hgs hgl
      obtain ⟨hA0, hB0, hb0⟩ := boxes2 w (.int .i64 sa) (.slice oa la ca) (.int .i64 0) (.slice none 0 0)
      have HA0 := Lib.hid hA0
      have HB0 := Lib.hid hB0
      have Hb0 := Lib.hid hb0
      clear hA0 hB0 hb0
      go_enter Tryz.func67, Tryz.ntmps67
      go_wp2_with fail
      refine (HI.out _ Hb0.out).mono ?_
      rintro e w1 hz
      by_cases hfh : Few h
      case neg =>
        obtain ⟨rfl, hb1⟩ := hz.2 hfh
        exact ⟨rfl, fun hf => absurd hf (HFew.out hfh), fun _ => ⟨rfl, Hb0.out.trans (hb1.mono Hb0.out.size)⟩⟩
      case pos =>
        obtain ⟨o1, c1, rfl, hn1', hb1, hw1⟩ := hz.1 hfh
        clear hz
        have hA1 := HA0.out.below hb1 HA0.out.lt
        have hB1 := HB0.out.below hb1 HB0.out.lt
        have Hb1 := Lib.hid (Hb0.out.trans (hb1.mono Hb0.out.size))
        have HN1 := Lib.hid hn1'
        have HA1 := Lib.hid hA1
        have HB1 := Lib.hid hB1
        clear hb1 hw1 hn1' hA1 hB1 hfh
        have hAl : Below w1.heap.size w1 (w1.alloc (.cells #[.int .i64 h.sign, .slice o1 (Bg.ds h.natAbs).length c1] 61)) := (Below.refl _ w1).alloc (Nat.le_refl _) _
        have hsq := times_c h h o1 o1 c1 c1 _ (HW.out.below (Hb1.out.trans (hAl.mono Hb1.out.size))) (HN1.out.mono hAl) (HN1.out.mono hAl)
        unfold numV at hsq
        have HSq := Lib.hid hsq
        have HAl := Lib.hid hAl
        clear hsq hAl
        unfold numV
        go_wp2_with fail
        refine HSq.out.mono ?_
        rintro e w2 hz
        by_cases hfs : Few (h * h)
        case neg =>
          obtain ⟨rfl, hb2⟩ := hz.2 hfs
          exact ⟨rfl, fun hf => absurd hf (HFew2.out hfs), fun _ => ⟨rfl, (Hb1.out.trans (HAl.out.mono Hb1.out.size)).trans (hb2.mono (by have := Hb1.out.size; have := HAl.out.size; omega))⟩⟩
        case pos =>
          obtain ⟨o2, c2, rfl, hn2, hb2, hw2⟩ := hz.1 hfs
          clear hz
          have hlA := HA1.out.lt
          have hlB := HB1.out.lt
          have hb12 : Below w1.heap.size w1 w2 := HAl.out.trans (hb2.mono HAl.out.size)
          have hA2 := HA1.out.below hb12 hlA
          have hB2 := HB1.out.below hb12 hlB
          have Hb2 := Lib.hid (Hb1.out.trans (hb12.mono Hb1.out.size))
          have HX2 := Lib.hid (show ∀ b, o2 = some ⟨b, 0, none⟩ → w.heap.size + 1 < b from fun b e => by have := hw2 b e; have := HAl.out.size; omega)
          generalize h * h = s at *
          have hAl2 : Below w2.heap.size w2 (w2.alloc (.cells #[.int .i64 s.sign, .slice o2 (Bg.ds s.natAbs).length c2] 61)) := (Below.refl _ w2).alloc (Nat.le_refl _) _
          have hA3 := hA2.below hAl2 hA2.lt
          have hB3 := hB2.below hAl2 hB2.lt
          have d0 := hA3.c0
          have d1 := hA3.c1
          have e0 := hB3.c0
          have e1 := hB3.c1
          have e2 := hB3.f0
          have e3 := hB3.f1
          have Hb3 := Lib.hid (Hb2.out.trans (hAl2.mono Hb2.out.size))
          have HN3 := Lib.hid (hn2.mono hAl2)
          have HB3 := Lib.hid hB3
          have HFs := Lib.hid hfs
          clear hb2 hw2 hn2 hb12 hA2 hB2 hA3 hB3 hAl2 hfs
          by_cases hm : n % 2 = 0
          case pos =>
            have dm : ((n : Int) % 2 == 0) = true := beq_iff_eq.2 (by omega)
            have hpe := HPh.out
            rw [hm, Int.pow_zero, Int.mul_one] at hpe
            have HPe := Lib.hid hpe
            clear hpe hm
            unfold numV
            go_wp2_with fail
            refine ret_box rfl rfl rfl (HB3.out.put (.int .i64 s.sign) (.slice o2 (Bg.ds s.natAbs).length c2)) ?_
            rw [← HPe.out]
            exact ⟨fun _ => ⟨o2, c2, rfl, HN3.out.put _ (fun b e => by have := HX2.out b e; omega) _ _, below_put Hb3.out (by omega) _ _, fun b e => by have := HX2.out b e; omega⟩, fun h => absurd HFs.out h⟩
          case neg =>
            have dm : ((n : Int) % 2 == 0) = false := beq_eq_false_iff_ne.2 (by omega)
            have hpe := HPh.out
            rw [show n % 2 = 1 by omega, Int.pow_one] at hpe
            have HPe := Lib.hid hpe
            clear hpe hm
            have HT := Lib.hid (HTm.out s o2 c2 _ Hb3.out HN3.out)
            unfold numV
            go_wp2_with fail
            refine HT.out.mono ?_
            rintro e w4 hz
            by_cases hfa : Few (s * a)
            case neg =>
              obtain ⟨rfl, hb4⟩ := hz.2 hfa
              refine ⟨rfl, ?_⟩
              rw [← HPe.out]
              exact ⟨fun hf => absurd hf hfa, fun _ => ⟨rfl, Hb3.out.trans (hb4.mono Hb3.out.size)⟩⟩
            case pos =>
              obtain ⟨o4, c4, rfl, hn4, hb4, hw4⟩ := hz.1 hfa
              clear hz d0 d1 e0 e1 e2 e3
              have hB4 := HB3.out.below hb4 HB3.out.lt
              have e0 := hB4.c0
              have e1 := hB4.c1
              have e2 := hB4.f0
              have e3 := hB4.f1
              have HB4 := Lib.hid hB4
              have Hb4 := Lib.hid (Hb3.out.trans (hb4.mono Hb3.out.size))
              have HX4 := Lib.hid (show ∀ b, o4 = some ⟨b, 0, none⟩ → w.heap.size + 1 < b from fun b e => by have := hw4 b e; have := HB3.out.lt; omega)
              have HN4 := Lib.hid hn4
              have HFa := Lib.hid hfa
              generalize s * a = p at *
              clear hb4 hw4 hn4 hB4 hfa
              unfold numV
              go_wp2_with fail
              refine ret_box rfl rfl rfl (HB4.out.put (.int .i64 p.sign) (.slice o4 (Bg.ds p.natAbs).length c4)) ?_
              rw [← HPe.out]
              exact ⟨fun _ => ⟨o4, c4, rfl, HN4.out.put _ (fun b e => by have := HX4.out b e; omega) _ _, below_put Hb4.out (by omega) _ _, fun b e => by have := HX4.out b e; omega⟩, fun h => absurd HFa.out h⟩
end Go.Proofs.YthbfbpbppjkoeaaGreatDoor
