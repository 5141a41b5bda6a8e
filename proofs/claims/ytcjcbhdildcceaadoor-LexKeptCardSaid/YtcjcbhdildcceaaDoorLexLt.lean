/- The law LexKept, from the contracts. Conditions: the cell of internal/bytealg.MaxLen is an int. -/
import Derived.Test.YtcjcbhdildcceaaDoorLexAk
import Derived.Test.YtcjcbhdildcceaaDoorLexRp
import Derived.Test.YtcjcbhdildcceaaDoorLexAt
namespace Go.Proofs.YtcjcbhdildcceaaDoor
open Go.RowKit

theorem editOf_bad (s wi : List UInt8) (from_ to_ : Int) (h : (Lx.editOf s from_ to_ wi).2.2.2.1 ≠ 0) : (Lx.editOf s from_ to_ wi).1 = [] ∧ (Lx.editOf s from_ to_ wi).2.1 = 0 ∧ (Lx.editOf s from_ to_ wi).2.2.1 = 0 := by
  unfold Lx.editOf at h ⊢
  split
  · exact ⟨rfl, rfl, rfl⟩
  · rename_i h1
    split
    · exact ⟨rfl, rfl, rfl⟩
    · rename_i h2
      split
      · exact ⟨rfl, rfl, rfl⟩
      · rename_i h3
        rw [if_neg h1, if_neg h2, if_neg h3] at h
        exact absurd rfl h
theorem editOf_good (s wi : List UInt8) (from_ to_ : Int) (h : (Lx.editOf s from_ to_ wi).2.2.2.1 = 0) : ∃ a b : Nat, from_ = a ∧ to_ = b ∧ a ≤ b ∧ b ≤ s.length ∧ (Lx.divide s).2.1 = 0 ∧ (Lx.divide (Lx.edited s wi a b)).2.1 = 0 ∧
    Lx.editOf s from_ to_ wi = (Lx.edited s wi a b, ((Lx.divide s).1.takeWhile fun t => decide ((t.to : Int) < (a : Int))).length,
      Lx.sameEnd ((Lx.divide s).1.drop ((Lx.divide s).1.takeWhile fun t => decide ((t.frm : Int) < (b : Int))).length) (Lx.divide (Lx.edited s wi a b)).1 (((Lx.edited s wi a b).length : Int) - (s.length : Int)), 0, 0) := by
  unfold Lx.editOf at h ⊢
  split at h
  · cases h
  · rename_i h1
    rw [if_neg h1]
    split at h
    · rename_i h2; exact absurd h h2
    · rename_i h2
      rw [if_neg h2]
      split at h
      · rename_i h3; exact absurd h h3
      · rename_i h3
        rw [if_neg h3]
        refine ⟨from_.toNat, to_.toNat, by omega, by omega, by omega, by omega, by omega, by omega, ?_⟩
        have e1 : ((from_.toNat : Nat) : Int) = from_ := by omega
        have e2 : ((to_.toNat : Nat) : Int) = to_ := by omega
        rw [e1, e2]
theorem edit_back (s wi : List UInt8) (a b : Nat) (hab : a ≤ b) (hb : b ≤ s.length) (h1 : (Lx.divide s).2.1 = 0) (h2 : (Lx.divide (Lx.edited s wi a b)).2.1 = 0) :
    (Lx.editOf (Lx.edited s wi a b) (a : Int) ((a : Int) + (wi.length : Int)) ((s.take b).drop a)).1 = s ∧ (Lx.editOf (Lx.edited s wi a b) (a : Int) ((a : Int) + (wi.length : Int)) ((s.take b).drop a)).2.2.2.1 = 0 := by
  have hl := edited_len s wi a b hab hb
  have hbk := edited_back s wi a b hab hb
  unfold Lx.editOf
  rw [if_neg (by omega), if_neg (by omega)]
  have e : ((a : Int) + (wi.length : Int)).toNat = a + wi.length := by omega
  rw [Int.toNat_natCast, e, hbk, if_neg (by omega)]
  exact ⟨rfl, rfl⟩
theorem toks_take (l : List Lx.Sp) (n : Nat) : (Lx.toks l).take n = Lx.toks (l.take n) := by unfold Lx.toks; rw [List.map_take]
theorem tokAt_take {w : World} {o : Option Addr} {l : List Lx.Tk} (h : TokAt w o l) (n : Nat) : TokAt w o (l.take n) := by
  intro k t ht
  have hk : k < n := by
    have := (List.getElem?_eq_some_iff.1 ht).1
    rw [List.length_take] at this; omega
  rw [List.getElem?_take_of_lt hk] at ht
  exact h k t ht
theorem tokLk {w : World} {o : Option Addr} {l : List Lx.Sp} (h : TokAt w o (Lx.toks l)) (k : Nat) (t : Lx.Sp) (ht : l[k]? = some t) :
    ∃ b a, o = some ⟨b, a, none⟩ ∧ b < w.heap.size ∧ w.cell? ⟨b, a + k * 4, none⟩ = some (.int .i64 t.kind) ∧ w.cell? ⟨b, a + k * 4 + 1, none⟩ = some (.string ⟨t.text.toArray⟩) ∧
      w.cell? ⟨b, a + k * 4 + 2, none⟩ = some (.int .i64 t.line) ∧ w.cell? ⟨b, a + k * 4 + 3, none⟩ = some (.int .i64 t.col) :=
  h k t.tok (by rw [toks_at, ht]; rfl)

theorem places_le (s : List UInt8) (hs : s.length ≤ 20000) (t : Lx.Sp) (h : t ∈ (Lx.divide s).1) : t.line ≤ 20001 ∧ t.col ≤ 20001 := by
  by_cases h0 : (Lx.divide s).2.1 = 0
  · obtain ⟨_, _, h1, h2, h3, h4⟩ := divide_right s h0 t h
    have h5 := placeAt_ln s t.frm
    rw [placeAt_ix s _ (by omega)] at h5
    omega
  · rw [divide_nil s h0] at h; cases h

set_option maxHeartbeats 8000000 in
set_option maxRecDepth 100000 in
theorem lexKept_c (s wi : List UInt8) (from_ to_ : Int) (m : Int) (w : World) (hm : w.cell? ⟨0, 0, none⟩ = some (.int .i64 m)) :
    Calls Tryd.prog 7 #[.string ⟨s.toArray⟩, .int .i64 from_, .int .i64 to_, .string ⟨wi.toArray⟩] w fun e w' => e = .returned (.bool true) ∧ Below w.heap.size w w' := by
  have hg : 0 < w.heap.size := World.block_lt_of_cell? _ _ hm
  have hss : (⟨s.toArray⟩ : ByteArray).size = s.length := by simp [ByteArray.size]
  have hsw : (⟨wi.toArray⟩ : ByteArray).size = wi.length := by simp [ByteArray.size]
  have HM := Lib.hid hm
  have HA := Lib.hid (awake_c m w hm)
  clear hm
  go_enter Tryd.func7, Tryd.ntmps7
  go_wp2_with fail
  refine HA.out.mono ?_
  rintro e w1 ⟨rfl, hb1⟩
  have HB1 := Lib.hid hb1
  clear hb1 HA
  by_cases h1 : 3000 < s.length
  · have d1 : decide ((3000 : Int) < (s.length : Int)) = true := decide_eq_true (by omega)
    clear h1
    go_wp2_with fail
    refine bodyPost_ret (v := .bool true) ?_ rfl ⟨rfl, HB1.out⟩
    simp [results, Tryd.results7, go_sem]
  · have d1 : decide ((3000 : Int) < (s.length : Int)) = false := decide_eq_false (by omega)
    by_cases h2 : 3000 < wi.length
    · have d2 : decide ((3000 : Int) < (wi.length : Int)) = true := decide_eq_true (by omega)
      clear h2
      go_wp2_with fail
      refine bodyPost_ret (v := .bool true) ?_ rfl ⟨rfl, HB1.out⟩
      simp [results, Tryd.results7, go_sem]
    · have d2 : decide ((3000 : Int) < (wi.length : Int)) = false := decide_eq_false (by omega)
      have hs3 : s.length ≤ 3000 := by omega
      have hw3 : wi.length ≤ 3000 := by omega
      have HE := Lib.hid (edit_c s wi from_ to_ m w1 ((HB1.out.cell hg).trans HM.out) (few s (by omega)) (by omega) (by omega) (fun a b _ _ => few_edited s wi (by omega) a b))
      have HBad := Lib.hid (editOf_bad s wi from_ to_)
      have HGood := Lib.hid (editOf_good s wi from_ to_)
      have HL := Lib.hid (fun W hW => lex_c s m W hW (few s (by omega)))
      unfold lexLeft at HL
      clear h1 h2
      go_wp2_with fail
      refine HE.out.mono ?_
      rintro e w2 ⟨rfl, hb2⟩
      have HB2 := Lib.hid (HB1.out.trans (hb2.mono HB1.out.size))
      clear hb2 HE
      by_cases hc : (Lx.editOf s from_ to_ wi).2.2.2.1 = 0
      · obtain ⟨a, b, rfl, rfl, hab, hbs, hd1, hd2, he⟩ := HGood.out hc
        have hel := edited_len s wi a b hab hbs
        have HHead := Lib.hid (heads_kept s wi a b hab hbs hd1 hd2)
        have HEnds := Lib.hid (ends_kept s wi a b hab hbs hd1 hd2)
        have HFits := Lib.hid (kept_fits s wi a b hab hbs hd1 hd2)
        have HBack := Lib.hid (edit_back s wi a b hab hbs hd1 hd2)
        have HL2 := Lib.hid (fun W hW => lex_c (Lx.edited s wi a b) m W hW (few _ (by omega)))
        have HAt1 := fun W => at_c s (b : Int) W (by omega)
        have HAt2 := fun W => at_c (Lx.edited s wi a b) ((a : Int) + (wi.length : Int)) W (by omega)
        have hp1 : Lx.at_ s (b : Int) = ((Lx.placeAt s b).ln + 1, b - (Lx.placeAt s b).bg + 1, 0) := by unfold Lx.at_; rw [if_neg (by omega)]; rfl
        have hp2 : Lx.at_ (Lx.edited s wi a b) ((a : Int) + (wi.length : Int)) = ((Lx.placeAt (Lx.edited s wi a b) (a + wi.length)).ln + 1, a + wi.length - (Lx.placeAt (Lx.edited s wi a b) (a + wi.length)).bg + 1, 0) := by
          unfold Lx.at_; rw [if_neg (by omega), show ((a : Int) + (wi.length : Int)).toNat = a + wi.length by omega]
        rw [hp1] at HAt1
        rw [hp2] at HAt2
        have hq1 := placeAt_ln s b
        have hq2 := placeAt_ln (Lx.edited s wi a b) (a + wi.length)
        rw [placeAt_ix s b hbs] at hq1
        rw [placeAt_ix _ _ (by omega)] at hq2
        have hbk := HBack.out
        have HEb := edit_c (Lx.edited s wi a b) ((s.take b).drop a) (a : Int) ((a : Int) + (wi.length : Int)) m
        have hbz : ((s.take b).drop a).length ≤ 3000 := by rw [List.length_drop, List.length_take]; omega
        have hebk := edited_back s wi a b hab hbs
        have HEb := Lib.hid (fun W hW => HEb W hW (few _ (by omega)) (by omega) (by omega) (fun a' b' e1 e2 _ _ => by
          obtain rfl : a' = a := by omega
          obtain rfl : b' = a' + wi.length := by omega
          rw [hebk]; exact few s (by omega)))
        have HRow1 : ∃ r1 c1, r1 = (Lx.placeAt s b).ln + 1 ∧ c1 = b - (Lx.placeAt s b).bg + 1 := ⟨_, _, rfl, rfl⟩
        obtain ⟨r1, c1, hr1, hc1⟩ := HRow1
        have HRow2 : ∃ r2 c2, r2 = (Lx.placeAt (Lx.edited s wi a b) (a + wi.length)).ln + 1 ∧ c2 = a + wi.length - (Lx.placeAt (Lx.edited s wi a b) (a + wi.length)).bg + 1 := ⟨_, _, rfl, rfl⟩
        obtain ⟨r2, c2, hr2, hc2⟩ := HRow2
        have hbnd : r1 ≤ 10000 ∧ c1 ≤ 10000 ∧ r2 ≤ 10000 ∧ c2 ≤ 10000 := by omega
        rw [← hr1, ← hc1] at HAt1 HEnds
        rw [← hr2, ← hc2] at HAt2 HEnds
        have HAt1 := Lib.hid HAt1
        have HAt2 := Lib.hid HAt2
        unfold lexLeft at HL2
        have HXs := Lib.hid (ba_slice s a b)
        have hsz2 : (⟨(Lx.edited s wi a b).toArray⟩ : ByteArray).size = (Lx.edited s wi a b).length := by simp [ByteArray.size]
        rw [he]
        have HD1 := Lib.hid hd1
        have HD2 := Lib.hid hd2
        have hF := HFits.out _ _ rfl rfl
        have hEn := (HEnds.out _ rfl).2.2
        obtain ⟨r, hr⟩ := HHead.out
        have hT : (Lx.divide (Lx.edited s wi a b)).1.take ((Lx.divide s).1.takeWhile fun t => decide ((t.to : Int) < (a : Int))).length = (Lx.divide s).1.take ((Lx.divide s).1.takeWhile fun t => decide ((t.to : Int) < (a : Int))).length := by
          rw [hr, List.take_left]
          obtain ⟨q, hq⟩ := List.takeWhile_prefix (fun t : Lx.Sp => decide ((t.to : Int) < (a : Int))) (l := (Lx.divide s).1)
          conv => rhs; arg 2; rw [← hq]
          rw [List.take_left]
        have HEn := Lib.hid hEn
        have HT := Lib.hid hT
        have HBk := Lib.hid hbk
        have HBd1 := Lib.hid (fun (t : Lx.Sp) (h : t ∈ (Lx.divide s).1) => places_le s (by omega) t h)
        have HBd2 := Lib.hid (fun (t : Lx.Sp) (h : t ∈ (Lx.divide (Lx.edited s wi a b)).1) => places_le _ (by omega) t h)
        have hml := divide_len s (few s (by omega))
        have hmm := divide_len (Lx.edited s wi a b) (few _ (by omega))
        clear hc hp1 hp2 hq1 hq2 hbk hebk hr1 hc1 hr2 hc2 he HGood HBad hd1 hd2 HFits HEnds HHead HBack hEn hT hr
        generalize ((Lx.divide s).1.takeWhile fun t => decide ((t.to : Int) < (a : Int))).length = hd at *
        generalize Lx.sameEnd ((Lx.divide s).1.drop ((Lx.divide s).1.takeWhile fun t => decide ((t.frm : Int) < (b : Int))).length) (Lx.divide (Lx.edited s wi a b)).1 (((Lx.edited s wi a b).length : Int) - (s.length : Int)) = tl at *
        generalize Lx.divide (Lx.edited s wi a b) = R2 at *
        generalize Lx.edited s wi a b = ed at *
        generalize Lx.divide s = R1 at *
        obtain ⟨l, q1, ix1⟩ := R1
        obtain ⟨mm, q2, ix2⟩ := R2
        dsimp only at hF HEn HT HD1 HD2 HL HL2 hml hmm HBd1 HBd2
        obtain rfl := HD1.out
        obtain rfl := HD2.out
        clear HD1 HD2
        dsimp only
        obtain ⟨hF1, hF2⟩ := hF
        have hwa : IntKind.i64.wrap ((a : Int) + (wi.length : Int)) = (a : Int) + (wi.length : Int) := IntWalk.i64_in _ (by omega)
        have HWA := Lib.hid hwa
        clear hwa
        go_wp2_with fail
        refine (HL.out w2 ((HB2.out.cell hg).trans HM.out)).mono ?_
        rintro e w3 ⟨v3, rfl, hb3, ho3⟩
        obtain ⟨o1, cp1, rfl, ht3, hcp1, hcm1, -⟩ := slice_of_lex ho3
        rw [toks_len]
        have HB3 := Lib.hid (HB2.out.trans (hb3.mono HB2.out.size))
        have HT3 := Lib.hid ht3
        clear hb3 HL ho3 ht3
        dsimp only
        go_wp2_with fail
        refine (HL2.out w3 ((HB3.out.cell hg).trans HM.out)).mono ?_
        rintro e w4 ⟨v4, rfl, hb4, ho4⟩
        obtain ⟨o2, cp2, rfl, ht4, hcp2, hcm2, -⟩ := slice_of_lex ho4
        rw [toks_len]
        have HB4 := Lib.hid (HB3.out.trans (hb4.mono HB3.out.size))
        have HT4 := Lib.hid (tokAt_mono HT3.out hb4)
        have HM4 := Lib.hid ht4
        clear hb4 HL2 ho4 ht4 HT3
        dsimp only
        go_wp2_with fail
        refine (HAt1.out w4).mono ?_
        rintro e w5 ⟨rfl, hb5⟩
        have HB5 := Lib.hid (HB4.out.trans (hb5.mono HB4.out.size))
        have HT5 := Lib.hid (tokAt_mono HT4.out hb5)
        have HM5 := Lib.hid (tokAt_mono HM4.out hb5)
        have hwa := HWA.out
        clear hb5 HAt1 HT4 HM4
        dsimp only
        go_wp2_with fail
        refine (HAt2.out w5).mono ?_
        rintro e w6 ⟨rfl, hb6⟩
        have HB6 := Lib.hid (HB5.out.trans (hb6.mono HB5.out.size))
        have HT6 := Lib.hid (tokAt_mono HT5.out hb6)
        have HM6 := Lib.hid (tokAt_mono HM5.out hb6)
        clear hb6 HAt2 HT5 HM5 hwa
        dsimp only
        have hln1 : (Lx.toks (l.take hd)).length = hd := by rw [toks_len, List.length_take]; omega
        have HPl := fun q => placed_c (Lx.toks (l.take hd)) o1 o2 cp1 cp2 (w6.drewN q) (by rw [← toks_take]; exact tokAt_take (tokAt_mono HT6.out (below_dn (Below.refl _ _) q)) hd) (by rw [← HT.out, ← toks_take]; exact tokAt_take (tokAt_mono HM6.out (below_dn (Below.refl _ _) q)) hd) (by omega)
        rw [hln1] at HPl
        have HPl := Lib.hid HPl
        have df1 : decide ((l.length : Int) < (hd : Int) + (tl : Int)) = false := decide_eq_false (by omega)
        have df1n : decide (l.length < hd + tl) = false := decide_eq_false (by omega)
        have df2 : decide ((mm.length : Int) < (hd : Int) + (tl : Int)) = false := decide_eq_false (by omega)
        have df2n : decide (mm.length < hd + tl) = false := decide_eq_false (by omega)
        have hwf : IntKind.i64.wrap ((hd : Int) + (tl : Int)) = (hd : Int) + (tl : Int) := IntWalk.i64_in _ (by omega)
        have hhc1 : hd ≤ cp1 := by omega
        have hhc2 : hd ≤ cp2 := by omega
        clear hln1 HT
        go_wp2_with fail
        go_quiet ((go_at_call 25; exact Calls.quiet_of (HPl.out _)))
        have hb7 : Below w6.heap.size w6 (w6.drewN nq) := below_dn (Below.refl _ _) nq
        generalize (w6.drewN nq) = w7 at *
        have HB7 := Lib.hid (HB6.out.trans (hb7.mono HB6.out.size))
        have HT7 := Lib.hid (tokAt_mono HT6.out hb7)
        have HM7 := Lib.hid (tokAt_mono HM6.out hb7)
        clear hb7 HPl HT6 HM6 df1 df1n df2 df2n hwf hhc1 hhc2
        go_wp2_with fail
        go_loopg [27] tl (fun g i wr => ∃ k : Nat, 1 ≤ k ∧ k ≤ tl + 1 ∧ i = .int .i64 k ∧ Hid (Below w7.heap.size w7 wr) ∧ g = tl + 1 - k)
        case atStart => exact ⟨1, Nat.le_refl _, by omega, rfl, Lib.hid (Below.refl _ _), by omega⟩
        case round =>
          obtain ⟨k, hk1, hk, rfl, HW, hgk⟩ := hrel
          have HB8 := Lib.hid (HB7.out.trans (HW.out.mono HB7.out.size))
          by_cases hE : k ≤ tl
          · have dE : decide ((k : Int) ≤ (tl : Int)) = true := decide_eq_true (by omega)
            have dEn : decide (k ≤ tl) = true := decide_eq_true hE
            have HKT := Lib.hid hE
            have HGK := Lib.hid hgk
            obtain ⟨x, hx⟩ : ∃ x, l[l.length - k]? = some x := ⟨_, List.getElem?_eq_getElem (by omega)⟩
            obtain ⟨y, hy⟩ : ∃ y, mm[mm.length - k]? = some y := ⟨_, List.getElem?_eq_getElem (by omega)⟩
            obtain ⟨_, _, hkd, htx, hln, hcl⟩ := HEn.out (k - 1) x y (by omega) (by rw [show l.length - 1 - (k - 1) = l.length - k by omega]; exact hx) (by rw [show mm.length - 1 - (k - 1) = mm.length - k by omega]; exact hy)
            obtain ⟨bx1, bx2⟩ := HBd1.out x (List.mem_of_getElem? hx)
            obtain ⟨by1, by2⟩ := HBd2.out y (List.mem_of_getElem? hy)
            obtain ⟨p, q, rfl, hp, x0, x1, x2, x3⟩ := tokLk HT7.out (l.length - k) x hx
            obtain ⟨p', q', rfl, hp', y0, y1, y2, y3⟩ := tokLk HM7.out (mm.length - k) y hy
            rw [hkd] at y0
            rw [htx] at y1
            rw [hln] at y2
            replace x0 := (HW.out.cell (p := ⟨p, _, none⟩) hp).trans x0
            replace x1 := (HW.out.cell (p := ⟨p, _, none⟩) hp).trans x1
            replace x2 := (HW.out.cell (p := ⟨p, _, none⟩) hp).trans x2
            replace x3 := (HW.out.cell (p := ⟨p, _, none⟩) hp).trans x3
            replace y0 := (HW.out.cell (p := ⟨p', _, none⟩) hp').trans y0
            replace y1 := (HW.out.cell (p := ⟨p', _, none⟩) hp').trans y1
            replace y2 := (HW.out.cell (p := ⟨p', _, none⟩) hp').trans y2
            replace y3 := (HW.out.cell (p := ⟨p', _, none⟩) hp').trans y3
            have hpw := Nat.lt_of_lt_of_le hp' HW.out.size
            have hk2 : k ≤ l.length := by omega
            have hk3 : k ≤ mm.length := by omega
            have hw1 : IntKind.i64.wrap ((l.length : Int) - (k : Int)) = (l.length : Int) - (k : Int) := IntWalk.i64_in _ (by omega)
            have hw2 : IntKind.i64.wrap ((mm.length : Int) - (k : Int)) = (mm.length : Int) - (k : Int) := IntWalk.i64_in _ (by omega)
            have HWM := Lib.hid hw2
            clear hw2
            have hw3 : IntKind.i64.wrap ((c2 : Int) - (c1 : Int)) = (c2 : Int) - (c1 : Int) := IntWalk.i64_in _ (by omega)
            have hw4 : IntKind.i64.wrap ((r2 : Int) - (r1 : Int)) = (r2 : Int) - (r1 : Int) := IntWalk.i64_in _ (by omega)
            have hw5 : IntKind.i64.wrap ((x.line : Int) + ((r2 : Int) - (r1 : Int))) = (x.line : Int) + ((r2 : Int) - (r1 : Int)) := IntWalk.i64_in _ (by omega)
            by_cases hle : (x.line : Int) = (r1 : Int)
            · have de : ((x.line : Int) == (r1 : Int)) = true := beq_iff_eq.2 hle
              have den : (x.line == r1) = true := beq_iff_eq.2 (by omega)
              rw [if_pos hle] at hcl
              rw [hcl] at y3
              have hw6 : IntKind.i64.wrap ((x.col : Int) + ((c2 : Int) - (c1 : Int))) = (x.col : Int) + ((c2 : Int) - (c1 : Int)) := IntWalk.i64_in _ (by omega)
              clear hkd htx hln hcl hle hx hy hgk hk
              go_wp2_with fail
              have hz := World.alloc_heap_new wr (.cells #[.int .i64 x.kind, .string ⟨x.text.toArray⟩, .int .i64 ((x.line : Int) + ((r2 : Int) - (r1 : Int))), .int .i64 ((x.col : Int) + ((c2 : Int) - (c1 : Int)))] 36)
              have hb9 : Below wr.heap.size wr (wr.alloc (.cells #[.int .i64 x.kind, .string ⟨x.text.toArray⟩, .int .i64 ((x.line : Int) + ((r2 : Int) - (r1 : Int))), .int .i64 ((x.col : Int) + ((c2 : Int) - (c1 : Int)))] 36)) := (Below.refl _ wr).alloc (Nat.le_refl _) _
              generalize (wr.alloc (.cells #[.int .i64 x.kind, .string ⟨x.text.toArray⟩, .int .i64 ((x.line : Int) + ((r2 : Int) - (r1 : Int))), .int .i64 ((x.col : Int) + ((c2 : Int) - (c1 : Int)))] 36)) = w9 at *
              have z0 : w9.cell? ⟨wr.heap.size, 0, none⟩ = some (.int .i64 x.kind) := (Lib.cell_of_heap hz 0).trans rfl
              have z1 : w9.cell? ⟨wr.heap.size, 1, none⟩ = some (.string ⟨x.text.toArray⟩) := (Lib.cell_of_heap hz 1).trans rfl
              have z2 : w9.cell? ⟨wr.heap.size, 2, none⟩ = some (.int .i64 ((x.line : Int) + ((r2 : Int) - (r1 : Int)))) := (Lib.cell_of_heap hz 2).trans rfl
              have z3 : w9.cell? ⟨wr.heap.size, 3, none⟩ = some (.int .i64 ((x.col : Int) + ((c2 : Int) - (c1 : Int)))) := (Lib.cell_of_heap hz 3).trans rfl
              replace y0 := (hb9.cell (p := ⟨p', _, none⟩) hpw).trans y0
              replace y1 := (hb9.cell (p := ⟨p', _, none⟩) hpw).trans y1
              replace y2 := (hb9.cell (p := ⟨p', _, none⟩) hpw).trans y2
              replace y3 := (hb9.cell (p := ⟨p', _, none⟩) hpw).trans y3
              have HW9 := Lib.hid (HW.out.trans (hb9.mono HW.out.size))
              have hw2 := HWM.out
              clear hz hb9 x0 x1 x2 x3
              go_quiet (fail)
              have HW10 := Lib.hid (below_dn HW9.out nq)
              clear z0 z1 z2 z3 y0 y1 y2 y3 HW9
              go_wp2_with fail
              go_roundg (tl + 1 - (k + 1))
              case rel => exact ⟨k + 1, by omega, Nat.succ_le_succ HKT.out, rfl, HW10, rfl⟩
              case measure => have := HKT.out; have := HGK.out; omega
            · have de : ((x.line : Int) == (r1 : Int)) = false := beq_eq_false_iff_ne.2 hle
              have den : (x.line == r1) = false := beq_eq_false_iff_ne.2 (by omega)
              rw [if_neg hle] at hcl
              rw [hcl] at y3
              clear hkd htx hln hcl hle hx hy hgk hk
              go_wp2_with fail
              have hz := World.alloc_heap_new wr (.cells #[.int .i64 x.kind, .string ⟨x.text.toArray⟩, .int .i64 ((x.line : Int) + ((r2 : Int) - (r1 : Int))), .int .i64 x.col] 36)
              have hb9 : Below wr.heap.size wr (wr.alloc (.cells #[.int .i64 x.kind, .string ⟨x.text.toArray⟩, .int .i64 ((x.line : Int) + ((r2 : Int) - (r1 : Int))), .int .i64 x.col] 36)) := (Below.refl _ wr).alloc (Nat.le_refl _) _
              generalize (wr.alloc (.cells #[.int .i64 x.kind, .string ⟨x.text.toArray⟩, .int .i64 ((x.line : Int) + ((r2 : Int) - (r1 : Int))), .int .i64 x.col] 36)) = w9 at *
              have z0 : w9.cell? ⟨wr.heap.size, 0, none⟩ = some (.int .i64 x.kind) := (Lib.cell_of_heap hz 0).trans rfl
              have z1 : w9.cell? ⟨wr.heap.size, 1, none⟩ = some (.string ⟨x.text.toArray⟩) := (Lib.cell_of_heap hz 1).trans rfl
              have z2 : w9.cell? ⟨wr.heap.size, 2, none⟩ = some (.int .i64 ((x.line : Int) + ((r2 : Int) - (r1 : Int)))) := (Lib.cell_of_heap hz 2).trans rfl
              have z3 : w9.cell? ⟨wr.heap.size, 3, none⟩ = some (.int .i64 x.col) := (Lib.cell_of_heap hz 3).trans rfl
              replace y0 := (hb9.cell (p := ⟨p', _, none⟩) hpw).trans y0
              replace y1 := (hb9.cell (p := ⟨p', _, none⟩) hpw).trans y1
              replace y2 := (hb9.cell (p := ⟨p', _, none⟩) hpw).trans y2
              replace y3 := (hb9.cell (p := ⟨p', _, none⟩) hpw).trans y3
              have HW9 := Lib.hid (HW.out.trans (hb9.mono HW.out.size))
              have hw2 := HWM.out
              clear hz hb9 x0 x1 x2 x3
              go_quiet (fail)
              have HW10 := Lib.hid (below_dn HW9.out nq)
              clear z0 z1 z2 z3 y0 y1 y2 y3 HW9
              go_wp2_with fail
              go_roundg (tl + 1 - (k + 1))
              case rel => exact ⟨k + 1, by omega, Nat.succ_le_succ HKT.out, rfl, HW10, rfl⟩
              case measure => have := HKT.out; have := HGK.out; omega
          · have dE : decide ((k : Int) ≤ (tl : Int)) = false := decide_eq_false (by omega)
            have dEn : decide (k ≤ tl) = false := decide_eq_false hE
            have hwa := HWA.out
            have HXx := HXs.out
            clear hE hgk HT7 HM7 HEn HBd1 HBd2
            go_wp2_with fail
            refine (HEb.out wr ((HB8.out.cell hg).trans HM.out)).mono ?_
            rintro e w8 ⟨rfl, hb8⟩
            have HB9 := Lib.hid (HB8.out.trans (hb8.mono HB8.out.size))
            have hbk := HBk.out
            rw [hbk.1, hbk.2]
            generalize (Lx.editOf ed (a : Int) ((a : Int) + (wi.length : Int)) ((s.take b).drop a)).2.1 = n1 at *
            generalize (Lx.editOf ed (a : Int) ((a : Int) + (wi.length : Int)) ((s.take b).drop a)).2.2.1 = n2 at *
            generalize (Lx.editOf ed (a : Int) ((a : Int) + (wi.length : Int)) ((s.take b).drop a)).2.2.2.2 = n3 at *
            clear hb8 HEb hbk HBk hwa HXx
            go_wp2_with fail
            refine bodyPost_ret (v := .bool true) ?_ rfl ⟨rfl, HB9.out⟩
            simp [results, Tryd.results7, go_sem]
      · have hbad := HBad.out hc
        rw [hbad.1, hbad.2.1, hbad.2.2]
        generalize (Lx.editOf s from_ to_ wi).2.2.2.1 = q at *
        generalize (Lx.editOf s from_ to_ wi).2.2.2.2 = q2 at *
        have dc : ((q : Int) != 0) = true := bne_iff_ne.2 (by omega)
        have dcn : (q != 0) = true := bne_iff_ne.2 hc
        clear hc hbad HBad HGood
        go_wp2_with fail
        refine bodyPost_ret (v := .bool true) ?_ rfl ⟨rfl, HB2.out⟩
        simp [results, Tryd.results7, go_sem]
end Go.Proofs.YtcjcbhdildcceaaDoor
