/- The law LexPlaces, from the contracts. Conditions: the cell of internal/bytealg.MaxLen is an int. -/
import Derived.Test.YtcjcbhdildcceaaDoorLexLk
import Derived.Test.YtcjcbhdildcceaaDoorLexTk
import Derived.Test.YtcjcbhdildcceaaDoorLexAt
namespace Go.Proofs.YtcjcbhdildcceaaDoor
open Go.RowKit

theorem tokL {w : World} {o : Option Addr} {l : List Lx.Sp} (h : TokAt w o (Lx.toks l)) (k : Nat) (t : Lx.Sp) (ht : l[k]? = some t) :
    ∃ b a, o = some ⟨b, a, none⟩ ∧ b < w.heap.size ∧ w.cell? ⟨b, a + k * 4, none⟩ = some (.int .i64 t.kind) ∧ w.cell? ⟨b, a + k * 4 + 1, none⟩ = some (.string ⟨t.text.toArray⟩) ∧
      w.cell? ⟨b, a + k * 4 + 2, none⟩ = some (.int .i64 t.line) ∧ w.cell? ⟨b, a + k * 4 + 3, none⟩ = some (.int .i64 t.col) :=
  h k t.tok (by rw [toks_at, ht]; rfl)
theorem intL {w : World} {o : Option Addr} {l : List Lx.Sp} (h : IntAt w o (Lx.endsOf l)) (k : Nat) (t : Lx.Sp) (ht : l[k]? = some t) :
    ∃ b a, o = some ⟨b, a, none⟩ ∧ b < w.heap.size ∧ w.cell? ⟨b, a + k, none⟩ = some (.int .i64 t.to) :=
  h k t.to (by rw [endsOf_at, ht]; rfl)

set_option maxHeartbeats 8000000 in
set_option maxRecDepth 100000 in
theorem lexPlaces_c (s : List UInt8) (index : Int) (m : Int) (w : World) (hm : w.cell? ⟨0, 0, none⟩ = some (.int .i64 m)) :
    Calls Tryd.prog 9 #[.string ⟨s.toArray⟩, .int .i64 index] w fun e w' => e = .returned (.bool true) ∧ Below w.heap.size w w' := by
  have hg : 0 < w.heap.size := World.block_lt_of_cell? _ _ hm
  have hss : (⟨s.toArray⟩ : ByteArray).size = s.length := by simp [ByteArray.size]
  have HM := Lib.hid hm
  have HA := Lib.hid (awake_c m w hm)
  clear hm
  go_enter Tryd.func9, Tryd.ntmps9
  go_wp2_with fail
  refine HA.out.mono ?_
  rintro e w1 ⟨rfl, hb1⟩
  have HB1 := Lib.hid hb1
  clear hb1 HA
  by_cases h1 : 3000 < s.length
  · have d1 : decide ((3000 : Int) < (s.length : Int)) = true := decide_eq_true (by omega)
    clear h1
    go_wp2_with fail
    refine bodyPost_ret (v := .bool true) ?_ rfl ⟨rfl, HB1.out⟩
    simp [results, Tryd.results9, go_sem]
  · have d1 : decide ((3000 : Int) < (s.length : Int)) = false := decide_eq_false (by omega)
    have hs3 : s.length ≤ 3000 := by omega
    have HL := Lib.hid (lex_c s m w1 ((HB1.out.cell hg).trans HM.out) (few s (by omega)))
    have HEn := Lib.hid (fun W hW => ends_c s m W hW (few s (by omega)))
    have HTo := Lib.hid (fun W hW => token_c s index m W hW (few s (by omega)))
    have HPair := Lib.hid (fun (h : (Lx.divide s).2.1 = 0) => places_pair s h)
    have HRt := Lib.hid (fun (h : (Lx.divide s).2.1 = 0) => divide_right s h)
    have HTB := Lib.hid (fun (h : (Lx.divide s).2.1 = 0) => token_bad s index h)
    have HTG := Lib.hid (fun (h : (Lx.divide s).2.1 = 0) => token_good s index h)
    have HTx := Lib.hid (fun (t : Lx.Sp) (h : t ∈ (Lx.divide s).1) => Nat.le_trans (divide_text s t (by omega) h) (by decide : 20000 ≤ 100000000))
    have HDl := Lib.hid (divide_len s (few s (by omega)))
    unfold lexLeft at HL
    unfold endsLeft at HEn
    clear h1
    go_wp2_with fail
    refine HL.out.mono ?_
    rintro e w2 ⟨v2, rfl, hb2, ho2⟩
    obtain ⟨o, cp, rfl, ht2, -, -, -⟩ := slice_of_lex ho2
    rw [toks_len]
    have HB2 := Lib.hid (HB1.out.trans (hb2.mono HB1.out.size))
    have HT2 := Lib.hid ht2
    clear hb2 HL ho2 ht2
    go_wp2_with fail
    refine (HEn.out w2 ((HB2.out.cell hg).trans HM.out)).mono ?_
    rintro e w3 ⟨v3, rfl, hb3, ho3⟩
    obtain ⟨o', cp', rfl, hi3⟩ := slice_of_ends ho3
    rw [endsOf_len]
    have HB3 := Lib.hid (HB2.out.trans (hb3.mono HB2.out.size))
    have HT3 := Lib.hid (tokAt_mono HT2.out hb3)
    have HI3 := Lib.hid hi3
    clear hb3 HEn ho3 hi3 HT2
    generalize Lx.divide s = R at *
    obtain ⟨l, c, ix⟩ := R
    dsimp only at HPair HRt HTB HTG HTx HDl HT3 HI3 ⊢
    by_cases hc : c = 0
    · subst hc
      have HPair2 := Lib.hid (HPair.out rfl)
      have HRt2 := Lib.hid (HRt.out rfl)
      have HTB2 := Lib.hid (HTB.out rfl)
      have HTG2 := Lib.hid (HTG.out rfl)
      clear HPair HRt HTB HTG
      have hl6 := HDl.out
      clear HDl
      go_wp2_with fail
      go_loopg [12] l.length (fun g i wr => ∃ k : Nat, 1 ≤ k ∧ k ≤ l.length + 1 ∧ i = .int .i64 k ∧ Hid (Below w3.heap.size w3 wr) ∧ g = l.length + 1 - k)
      case atStart => exact ⟨1, Nat.le_refl _, by omega, rfl, Lib.hid (Below.refl _ _), by omega⟩
      case round =>
        obtain ⟨k, hk1, hk, rfl, HW, hgk⟩ := hrel
        by_cases hE : k < l.length
        · have dE : decide ((k : Int) < (l.length : Int)) = true := decide_eq_true (by omega)
          obtain ⟨t, ht⟩ : ∃ t, l[k - 1]? = some t := ⟨_, List.getElem?_eq_getElem (by omega)⟩
          obtain ⟨t', ht'⟩ : ∃ t', l[k]? = some t' := ⟨_, List.getElem?_eq_getElem hE⟩
          obtain ⟨hto, hpl⟩ := HPair2.out (k - 1) t t' ht (by rw [Nat.sub_add_cancel hk1]; exact ht')
          obtain ⟨b, a, rfl, hb, -, -, x2, x3⟩ := tokL HT3.out (k - 1) t ht
          obtain ⟨b', a', e1, hb', -, -, y2, y3⟩ := tokL HT3.out k t' ht'
          injection e1 with e1
          injection e1 with e1 e2
          subst e1 e2
          obtain ⟨q, r, rfl, hq, z0⟩ := intL HI3.out (k - 1) t ht
          obtain ⟨q', r', e3, hq', z1⟩ := intL HI3.out k t' ht'
          injection e3 with e3
          injection e3 with e3 e4
          subst e3 e4
          replace x2 := (HW.out.cell (p := ⟨b, _, none⟩) hb).trans x2
          replace x3 := (HW.out.cell (p := ⟨b, _, none⟩) hb).trans x3
          replace y2 := (HW.out.cell (p := ⟨b, _, none⟩) hb).trans y2
          replace y3 := (HW.out.cell (p := ⟨b, _, none⟩) hb).trans y3
          replace z0 := (HW.out.cell (p := ⟨q, _, none⟩) hq).trans z0
          replace z1 := (HW.out.cell (p := ⟨q, _, none⟩) hq).trans z1
          have dt : decide ((t'.to : Int) ≤ (t.to : Int)) = false := decide_eq_false (by omega)
          have dtn : decide (t'.to ≤ t.to) = false := decide_eq_false (by omega)
          have dl : decide ((t'.line : Int) < (t.line : Int)) = false := decide_eq_false (by omega)
          have dln : decide (t'.line < t.line) = false := decide_eq_false (by omega)
          have hkw : IntKind.i64.wrap ((k : Int) - 1) = (k : Int) - 1 := IntWalk.i64_in _ (by omega)
          clear hto ht ht' hb' hq'
          by_cases hle : t'.line = t.line
          · have de : ((t'.line : Int) == (t.line : Int)) = true := by rw [hle]; simp
            have den : (t'.line == t.line) = true := by rw [hle]; simp
            have dc : decide ((t'.col : Int) ≤ (t.col : Int)) = false := decide_eq_false (by omega)
            have dcn : decide (t'.col ≤ t.col) = false := decide_eq_false (by omega)
            clear hpl hle
            go_wp2_with fail
            go_quiet (fail)
            have HW2 := Lib.hid (below_dn HW.out nq)
            go_wp2_with fail
            go_roundg (l.length + 1 - (k + 1))
            case rel => exact ⟨k + 1, by omega, by omega, rfl, HW2, rfl⟩
            case measure => omega
          · have de : ((t'.line : Int) == (t.line : Int)) = false := beq_eq_false_iff_ne.2 (by omega)
            have den : (t'.line == t.line) = false := beq_eq_false_iff_ne.2 hle
            clear hpl hle
            go_wp2_with fail
            go_quiet (fail)
            have HW2 := Lib.hid (below_dn HW.out nq)
            go_wp2_with fail
            go_roundg (l.length + 1 - (k + 1))
            case rel => exact ⟨k + 1, by omega, by omega, rfl, HW2, rfl⟩
            case measure => omega
        · have dE : decide ((k : Int) < (l.length : Int)) = false := decide_eq_false (by omega)
          have dEn : decide (k < l.length) = false := decide_eq_false hE
          have HB4 := Lib.hid (HB3.out.trans (HW.out.mono HB3.out.size))
          have HT4 := Lib.hid (tokAt_mono HT3.out HW.out)
          have HI4 := Lib.hid (intAt_mono HI3.out HW.out)
          have HTo2 := Lib.hid (HTo.out wr ((HB4.out.cell hg).trans HM.out))
          clear hE hgk HTo HT3 HI3 HW
          go_wp2_with fail
          refine HTo2.out.mono ?_
          rintro e w5 ⟨rfl, hb5⟩
          have HB5 := Lib.hid (HB4.out.trans (hb5.mono HB4.out.size))
          have HT5 := Lib.hid (tokAt_mono HT4.out hb5)
          have HI5 := Lib.hid (intAt_mono HI4.out hb5)
          clear hb5 HTo2 HT4 HI4
          generalize Lx.tokenOf (l, 0, ix) s.length index = R5 at *
          obtain ⟨kk, gg, jj⟩ := R5
          dsimp only at HTB2 HTG2 ⊢
          by_cases hgg : gg = 0
          · subst hgg
            obtain ⟨t, ht, hlt, h0, hprev⟩ := HTG2.out rfl
            have hkl : kk < l.length := (List.getElem?_eq_some_iff.1 ht).1
            obtain ⟨hr, hsp, hf1, hf2, hln, hcl⟩ := HRt2.out t (List.mem_of_getElem? ht)
            have d2 : decide ((l.length : Int) ≤ (kk : Int)) = false := decide_eq_false (by omega)
            have d2n : decide (l.length ≤ kk) = false := decide_eq_false (by omega)
            have d3 : decide ((t.to : Int) ≤ index) = false := decide_eq_false (by omega)
            have hkw : 1 ≤ kk → IntKind.i64.wrap ((kk : Int) - 1) = (kk : Int) - 1 := fun _ => IntWalk.i64_in _ (by omega)
            obtain ⟨q, r, rfl, hq, z0⟩ := intL HI5.out kk t ht
            obtain ⟨b, a, rfl, hb, x0, x1, x2, x3⟩ := tokL HT5.out kk t ht
            have HSp := spell_c (t.kind : Int) t.text (t.line : Int) (t.col : Int) m w5 (HTx.out t (List.mem_of_getElem? ht)) ((HB5.out.cell hg).trans HM.out)
            have hspd : Lx.spelled (t.kind : Int) t.text (t.line : Int) (t.col : Int) = (Lx.spell t.kind t.text, 0) := if_pos hr
            rw [hspd] at HSp
            unfold tokW at HSp
            have hsl : (Lx.spell (t.kind : Int) t.text).length = t.to - t.frm := by rw [hsp, List.length_take, List.length_drop]; omega
            generalize Lx.spell (t.kind : Int) t.text = sp at *
            have hspz : (⟨sp.toArray⟩ : ByteArray).size = sp.length := by simp [ByteArray.size]
            have hsub : IntKind.i64.wrap ((t.to : Int) - (sp.length : Int)) = (t.frm : Int) := by rw [show (t.to : Int) - (sp.length : Int) = (t.frm : Int) by omega]; exact IntWalk.i64_in _ (by omega)
            have HSp := Lib.hid HSp
            have HAt := Lib.hid (fun W => at_c s (t.frm : Int) W (by omega))
            rw [at_frm s t.frm (by omega)] at HAt
            have hln2 : (((Lx.placeAt s t.frm).ln + 1 : Nat) : Int) = (t.line : Int) := by rw [hln]
            have hcl2 : ((t.frm - (Lx.placeAt s t.frm).bg + 1 : Nat) : Int) = (t.col : Int) := by rw [hcl]
            dsimp only at HAt
            rw [hln2, hcl2] at HAt
            have HSUB := Lib.hid hsub
            have HSL := Lib.hid hsl
            clear hr hsp hln hcl hln2 hcl2 hspd HRt2 HTB2 HTG2 HPair2 hsub hsl
            by_cases hk0 : kk = 0
            · have dk : decide ((0 : Int) < (kk : Int)) = false := decide_eq_false (by omega)
              have dkn : decide (0 < kk) = false := decide_eq_false (by omega)
              clear hk0 hprev hkw
              clear hlt h0 ht
              go_wp2_with fail
              refine HSp.out.mono ?_
              rintro e w6 ⟨rfl, hb6⟩
              have HB6 := Lib.hid (HB5.out.trans (hb6.mono HB5.out.size))
              have z06 := (hb6.cell (p := ⟨q, _, none⟩) hq).trans z0
              have x26 := (hb6.cell (p := ⟨b, _, none⟩) hb).trans x2
              have x36 := (hb6.cell (p := ⟨b, _, none⟩) hb).trans x3
              have hb6' := Nat.lt_of_lt_of_le hb hb6.size
              have hsub := HSUB.out
              clear hb6 HSp
              go_wp2_with fail
              refine (HAt.out w6).mono ?_
              rintro e w7 ⟨rfl, hb7⟩
              have HB7 := Lib.hid (HB6.out.trans (hb7.mono HB6.out.size))
              have x27 := (hb7.cell (p := ⟨b, _, none⟩) hb6').trans x26
              have x37 := (hb7.cell (p := ⟨b, _, none⟩) hb6').trans x36
              clear hb7 HAt
              go_wp2_with fail
              refine bodyPost_ret (v := .bool true) ?_ rfl ⟨rfl, HB7.out⟩
              simp [results, Tryd.results9, go_sem]
            · have dk : decide ((0 : Int) < (kk : Int)) = true := decide_eq_true (by omega)
              have dkn : decide (0 < kk) = true := decide_eq_true (by omega)
              have hkp : 0 < kk := by omega
              obtain ⟨t', ht'⟩ : ∃ t', l[kk - 1]? = some t' := ⟨_, List.getElem?_eq_getElem (by omega)⟩
              have dp : decide (index < (t'.to : Int)) = false := decide_eq_false (by have := hprev t' hkp ht'; omega)
              obtain ⟨q', r', e3, hq', z1⟩ := intL HI5.out (kk - 1) t' ht'
              injection e3 with e3
              injection e3 with e3 e4
              subst e3 e4
              have hkw := hkw hkp
              clear hk0 hprev ht' hq'
              clear hlt h0 ht
              go_wp2_with fail
              refine HSp.out.mono ?_
              rintro e w6 ⟨rfl, hb6⟩
              have HB6 := Lib.hid (HB5.out.trans (hb6.mono HB5.out.size))
              have z06 := (hb6.cell (p := ⟨q, _, none⟩) hq).trans z0
              have x26 := (hb6.cell (p := ⟨b, _, none⟩) hb).trans x2
              have x36 := (hb6.cell (p := ⟨b, _, none⟩) hb).trans x3
              have hb6' := Nat.lt_of_lt_of_le hb hb6.size
              have hsub := HSUB.out
              clear hb6 HSp
              go_wp2_with fail
              refine (HAt.out w6).mono ?_
              rintro e w7 ⟨rfl, hb7⟩
              have HB7 := Lib.hid (HB6.out.trans (hb7.mono HB6.out.size))
              have x27 := (hb7.cell (p := ⟨b, _, none⟩) hb6').trans x26
              have x37 := (hb7.cell (p := ⟨b, _, none⟩) hb6').trans x36
              clear hb7 HAt
              go_wp2_with fail
              refine bodyPost_ret (v := .bool true) ?_ rfl ⟨rfl, HB7.out⟩
              simp [results, Tryd.results9, go_sem]
          · have dg : ((gg : Int) != 0) = true := bne_iff_ne.2 (by omega)
            have dgn : (gg != 0) = true := bne_iff_ne.2 hgg
            have hcase := HTB2.out hgg
            clear HTB2 HTG2
            by_cases hi0 : index < 0
            · have di : decide (index < 0) = true := decide_eq_true hi0
              clear hcase hi0
              go_wp2_with fail
              refine bodyPost_ret (v := .bool true) ?_ rfl ⟨rfl, HB5.out⟩
              simp [results, Tryd.results9, go_sem]
            · have di : decide (index < 0) = false := decide_eq_false hi0
              by_cases his : (s.length : Int) ≤ index
              · have dis : decide ((s.length : Int) ≤ index) = true := decide_eq_true his
                clear hcase hi0 his
                go_wp2_with fail
                refine bodyPost_ret (v := .bool true) ?_ rfl ⟨rfl, HB5.out⟩
                simp [results, Tryd.results9, go_sem]
              · have dis : decide ((s.length : Int) ≤ index) = false := decide_eq_false his
                have h3 : gg = 3 ∧ ∀ t ∈ l, (t.to : Int) ≤ index := by
                  rcases hcase with h | h | h
                  · exact absurd h hi0
                  · exact absurd h his
                  · exact h
                obtain ⟨rfl, hall⟩ := h3
                by_cases hl0 : l.length = 0
                · have d0 : ((l.length : Int) == 0) = true := by rw [hl0]; rfl
                  have d0n : (l.length == 0) = true := by rw [hl0]; rfl
                  clear hcase hi0 his hall hgg hl0
                  go_wp2_with fail
                  refine bodyPost_ret (v := .bool true) ?_ rfl ⟨rfl, HB5.out⟩
                  simp [results, Tryd.results9, go_sem]
                · have d0 : ((l.length : Int) == 0) = false := beq_eq_false_iff_ne.2 (by omega)
                  have d0n : (l.length == 0) = false := beq_eq_false_iff_ne.2 hl0
                  obtain ⟨t, ht⟩ : ∃ t, l[l.length - 1]? = some t := ⟨_, List.getElem?_eq_getElem (by omega)⟩
                  obtain ⟨q, r, rfl, hq, z0⟩ := intL HI5.out (l.length - 1) t ht
                  have dt : decide ((t.to : Int) ≤ index) = true := decide_eq_true (hall t (List.mem_of_getElem? ht))
                  have hlw : IntKind.i64.wrap ((l.length : Int) - 1) = (l.length : Int) - 1 := IntWalk.i64_in _ (by omega)
                  have hl1 : 1 ≤ l.length := by omega
                  clear hcase hi0 his hall hgg hl0 ht
                  go_wp2_with fail
                  refine bodyPost_ret (v := .bool true) ?_ rfl ⟨rfl, HB5.out⟩
                  simp [results, Tryd.results9, go_sem]
    · have dc : ((c : Int) != 0) = true := bne_iff_ne.2 (by omega)
      have dcn : (c != 0) = true := bne_iff_ne.2 hc
      clear hc
      go_wp2_with fail
      refine bodyPost_ret (v := .bool true) ?_ rfl ⟨rfl, HB3.out⟩
      simp [results, Tryd.results9, go_sem]
end Go.Proofs.YtcjcbhdildcceaaDoor
