/- The law LexSpelled, from the contracts. Conditions: the cell of internal/bytealg.MaxLen is an int. -/
import Derived.Test.YtcjcbhdildcceaaDoorLexAk
import Derived.Test.YtcjcbhdildcceaaDoorLexBg
import Derived.Test.YtcjcbhdildcceaaDoorLexPg
namespace Go.Proofs.YtcjcbhdildcceaaDoor
open Go.RowKit

theorem tokLs {w : World} {o : Option Addr} {l : List Lx.Sp} (h : TokAt w o (Lx.toks l)) (k : Nat) (t : Lx.Sp) (ht : l[k]? = some t) :
    ∃ b a, o = some ⟨b, a, none⟩ ∧ b < w.heap.size ∧ w.cell? ⟨b, a + k * 4, none⟩ = some (.int .i64 t.kind) ∧ w.cell? ⟨b, a + k * 4 + 1, none⟩ = some (.string ⟨t.text.toArray⟩) ∧
      w.cell? ⟨b, a + k * 4 + 2, none⟩ = some (.int .i64 t.line) ∧ w.cell? ⟨b, a + k * 4 + 3, none⟩ = some (.int .i64 t.col) :=
  h k t.tok (by rw [toks_at, ht]; rfl)
theorem intLs {w : World} {o : Option Addr} {l : List Lx.Sp} (h : IntAt w o (Lx.endsOf l)) (k : Nat) (t : Lx.Sp) (ht : l[k]? = some t) :
    ∃ b a, o = some ⟨b, a, none⟩ ∧ b < w.heap.size ∧ w.cell? ⟨b, a + k, none⟩ = some (.int .i64 t.to) :=
  h k t.to (by rw [endsOf_at, ht]; rfl)
theorem rowLs {w : World} {o : Option Addr} {s : List UInt8} (h : IntAt w o (Lx.beginsZ s)) (i : Nat) (hi : i ≤ s.length) :
    ∃ b a, o = some ⟨b, a, none⟩ ∧ b < w.heap.size ∧ w.cell? ⟨b, a + (Lx.placeAt s i).ln, none⟩ = some (.int .i64 (Lx.placeAt s i).bg) :=
  h _ _ (by unfold Lx.beginsZ; rw [List.getElem?_map, begins_line s i hi]; rfl)

set_option maxHeartbeats 8000000 in
set_option maxRecDepth 100000 in
theorem lexSpelled_c (s : List UInt8) (m : Int) (w : World) (hm : w.cell? ⟨0, 0, none⟩ = some (.int .i64 m)) :
    Calls Tryd.prog 4 #[.string ⟨s.toArray⟩] w fun e w' => e = .returned (.bool true) ∧ Below w.heap.size w w' := by
  have hg : 0 < w.heap.size := World.block_lt_of_cell? _ _ hm
  have hss : (⟨s.toArray⟩ : ByteArray).size = s.length := by simp [ByteArray.size]
  have HM := Lib.hid hm
  have HA := Lib.hid (awake_c m w hm)
  clear hm
  go_enter Tryd.func4, Tryd.ntmps4
  go_wp2_with fail
  refine HA.out.mono ?_
  rintro e w1 ⟨rfl, hb1⟩
  have HB1 := Lib.hid hb1
  clear hb1 HA
  by_cases h1 : 2000 < s.length
  · have d1 : decide ((2000 : Int) < (s.length : Int)) = true := decide_eq_true (by omega)
    clear h1
    go_wp2_with fail
    refine bodyPost_ret (v := .bool true) ?_ rfl ⟨rfl, HB1.out⟩
    simp [results, Tryd.results4, go_sem]
  · have d1 : decide ((2000 : Int) < (s.length : Int)) = false := decide_eq_false (by omega)
    have hs3 : s.length ≤ 2000 := by omega
    have HL := Lib.hid (lex_c s m w1 ((HB1.out.cell hg).trans HM.out) (few s (by omega)))
    have HEn := Lib.hid (fun W hW => ends_c s m W hW (few s (by omega)))
    have HBg := Lib.hid (fun W => begins_c s W (by omega))
    have HRt := Lib.hid (fun (h : (Lx.divide s).2.1 = 0) => divide_right s h)
    have HGap := Lib.hid (fun (h : (Lx.divide s).2.1 = 0) => gap_none s h)
    have HMr := Lib.hid (fun (h : (Lx.divide s).2.1 = 0) => sole_more s h)
    have HTx := Lib.hid (fun (t : Lx.Sp) (h : t ∈ (Lx.divide s).1) => Nat.le_trans (text_len s t (by omega) h) (by decide : 20000 ≤ 100000000))
    have HDl := Lib.hid (divide_len s (few s (by omega)))
    have HNil := Lib.hid (divide_nil s)
    have HLx := Lib.hid (fun a b W hW => lex_c ((s.take b).drop a) m W hW (few _ (by rw [List.length_drop, List.length_take]; omega)))
    have HSl := Lib.hid (fun a b => ba_slice s a b)
    have HRows : Hid ((Lx.beginsZ s).length = (Lx.begins s s.length).length) := Lib.hid (by unfold Lx.beginsZ; rw [List.length_map])
    unfold lexLeft at HL HLx
    unfold endsLeft at HEn
    unfold beginsLeft at HBg
    clear h1
    go_wp2_with fail
    refine HL.out.mono ?_
    rintro e w2 ⟨v2, rfl, hb2, ho2⟩
    obtain ⟨o, cp, rfl, ht2, -, -, -⟩ := slice_of_lex ho2
    rw [toks_len]
    have HB2 := Lib.hid (HB1.out.trans (hb2.mono HB1.out.size))
    have HT2 := Lib.hid ht2
    clear hb2 HL ho2 ht2
    go_wp2_with fail
    refine (HEn.out w2 ((HB2.out.cell hg).trans HM.out)).mono ?_
    rintro e w3 ⟨v3, rfl, hb3, ho3⟩
    obtain ⟨o', cp', rfl, hi3⟩ := slice_of_ends ho3
    rw [endsOf_len]
    have HB3 := Lib.hid (HB2.out.trans (hb3.mono HB2.out.size))
    have HT3 := Lib.hid (tokAt_mono HT2.out hb3)
    have HI3 := Lib.hid hi3
    clear hb3 HEn ho3 hi3 HT2
    generalize Lx.divide s = R at *
    obtain ⟨l, c, ix⟩ := R
    dsimp only at HRt HGap HMr HTx HDl HNil HT3 HI3 ⊢
    by_cases hc : c = 0
    · subst hc
      have HRt2 := Lib.hid (HRt.out rfl)
      have HGap2 := Lib.hid (HGap.out rfl)
      have HMr2 := Lib.hid (HMr.out rfl)
      have hl6 := HDl.out
      clear HDl HRt HGap HMr HNil
      go_wp2_with fail
      refine (HBg.out w3).mono ?_
      rintro e w4 ⟨o4, c4, rfl, hb4, hi4⟩
      have HB4 := Lib.hid (HB3.out.trans (hb4.mono HB3.out.size))
      have HT4 := Lib.hid (tokAt_mono HT3.out hb4)
      have HI4 := Lib.hid (intAt_mono HI3.out hb4)
      have HR4 := Lib.hid hi4
      clear hb4 hi4 HBg HT3 HI3
      rw [HRows.out]
      go_wp2_with fail
      go_loopg [11, 12] (l.length + 1) (fun g at_ i wr => ∃ k at0 : Nat, k ≤ l.length + 1 ∧ i = .int .i64 k ∧ at_ = .int .i64 at0 ∧ Hid (k ≤ l.length → at0 = Lx.atOf l k) ∧ Hid (Below w4.heap.size w4 wr) ∧ g = l.length + 1 - k)
      case atStart => exact ⟨0, 0, Nat.zero_le _, rfl, rfl, Lib.hid (fun _ => rfl), Lib.hid (Below.refl _ _), rfl⟩
      case round =>
        obtain ⟨k, at0, hk, rfl, rfl, HAt, HW, hgk⟩ := hrel
        by_cases hE : k ≤ l.length
        · have dE : decide ((k : Int) ≤ (l.length : Int)) = true := decide_eq_true (by omega)
          have dEn : decide (k ≤ l.length) = true := decide_eq_true hE
          obtain ⟨hg1, hg2, hg3⟩ := HGap2.out k hE
          rw [← HAt.out hE] at hg1 hg3
          have HB5 := Lib.hid (HB4.out.trans (HW.out.mono HB4.out.size))
          by_cases hlast : k = l.length
          · have dl : decide ((k : Int) < (l.length : Int)) = false := decide_eq_false (by omega)
            have dln : decide (k < l.length) = false := decide_eq_false (by omega)
            have hfo : Lx.fromOf s l k = s.length := by unfold Lx.fromOf; rw [List.getElem?_eq_none (by omega)]; rfl
            rw [hfo] at hg1 hg2 hg3
            have hex := HSl.out at0 s.length
            have HLs := HLx.out at0 s.length
            rw [hg3] at HLs
            have HLs := Lib.hid HLs
            have HEX := Lib.hid hex
            have HLAST := Lib.hid hlast
            have da : decide ((s.length : Int) < (at0 : Int)) = false := decide_eq_false (by omega)
            have dan : decide (s.length < at0) = false := decide_eq_false (by omega)
            clear hfo hg3 hex hlast HAt
            go_wp2_with fail
            rw [HEX.out]
            refine (HLs.out wr ((HB5.out.cell hg).trans HM.out)).mono ?_
            rintro e w5 ⟨v5, rfl, hb5, ho5⟩
            obtain ⟨o5, cp5, rfl, -, -, -, -⟩ := slice_of_lex ho5
            have HW2 := Lib.hid (HW.out.trans (hb5.mono HW.out.size))
            rw [show (Lx.toks []).length = 0 from rfl]
            clear hb5 ho5 HLs HEX
            go_wp2_with fail
            have HN : Hid (k + 1 ≤ l.length → s.length = Lx.atOf l (k + 1)) := Lib.hid (fun h => by have := HLAST.out; omega)
            go_roundg (l.length + 1 - (k + 1))
            case rel => exact ⟨k + 1, s.length, by omega, rfl, rfl, HN, HW2, rfl⟩
            case measure => omega
          · have hlt : k < l.length := by omega
            have dl : decide ((k : Int) < (l.length : Int)) = true := decide_eq_true (by omega)
            have dln : decide (k < l.length) = true := decide_eq_true hlt
            obtain ⟨t, ht⟩ : ∃ t, l[k]? = some t := ⟨_, List.getElem?_eq_getElem hlt⟩
            have hmem := List.mem_of_getElem? ht
            have hfo : Lx.fromOf s l k = t.frm := by unfold Lx.fromOf; rw [ht]; rfl
            rw [hfo] at hg1 hg2 hg3
            obtain ⟨hr, hsp, hf1, hf2, hln, hcl⟩ := HRt2.out t hmem
            have HMk := Lib.hid (HMr2.out t hmem)
            have hbg := placeAt_bg s t.frm
            rw [placeAt_ix s t.frm hg2] at hbg
            have hrow := line_row s t.frm hg2
            obtain ⟨b, a, rfl, hb, x0, x1, x2, x3⟩ := tokLs HT4.out k t ht
            obtain ⟨q, r, rfl, hq, z0⟩ := intLs HI4.out k t ht
            obtain ⟨u, v, rfl, hu, r0⟩ := rowLs HR4.out t.frm hg2
            rw [hln] at x2
            replace x0 := (HW.out.cell (p := ⟨b, _, none⟩) hb).trans x0
            replace x1 := (HW.out.cell (p := ⟨b, _, none⟩) hb).trans x1
            replace x2 := (HW.out.cell (p := ⟨b, _, none⟩) hb).trans x2
            replace x3 := (HW.out.cell (p := ⟨b, _, none⟩) hb).trans x3
            replace z0 := (HW.out.cell (p := ⟨q, _, none⟩) hq).trans z0
            replace r0 := (HW.out.cell (p := ⟨u, _, none⟩) hu).trans r0
            have hlnl := placeAt_ln s t.frm
            rw [placeAt_ix s t.frm hg2] at hlnl
            have hbwr := Nat.lt_of_lt_of_le hb HW.out.size
            have hqwr := Nat.lt_of_lt_of_le hq HW.out.size
            have HSpc := fun W hW => spell_c (t.kind : Int) t.text (((Lx.placeAt s t.frm).ln + 1 : Nat) : Int) (t.col : Int) m W (HTx.out t hmem) hW
            have hspd : Lx.spelled (t.kind : Int) t.text (((Lx.placeAt s t.frm).ln + 1 : Nat) : Int) (t.col : Int) = (Lx.spell t.kind t.text, 0) := by rw [← hln]; exact if_pos hr
            rw [hspd] at HSpc
            unfold tokW at HSpc
            have hexg := HSl.out at0 t.frm
            have hext := HSl.out t.frm t.to
            have hexm := HSl.out t.frm (t.to + 1)
            rw [spelled_slice, ← hsp] at hext
            have HLs := HLx.out at0 t.frm
            rw [hg3] at HLs
            have HKd := fun W => kind_c ((s.take (t.to + 1)).drop t.frm) W
            have HLs := Lib.hid HLs
            have HEXG := Lib.hid hexg
            have HEXM := Lib.hid hexm
            have HSpc := Lib.hid HSpc
            have HKd := Lib.hid HKd
            have HATO : Hid (k + 1 ≤ l.length → t.to = Lx.atOf l (k + 1)) := Lib.hid (fun _ => by show t.to = (l[k]?.map Lx.Sp.to).getD 0; rw [ht]; rfl)
            generalize (Lx.placeAt s t.frm).ln = ln at *
            generalize (Lx.placeAt s t.frm).bg = bg at *
            generalize Lx.spell (t.kind : Int) t.text = sp at *
            have HEXT := Lib.hid hext
            have dla : decide ((Lx.begins s s.length).length < ln + 1) = false := decide_eq_false (by omega)
            have dlb : decide (((Lx.begins s s.length).length : Int) < (ln : Int) + 1) = false := decide_eq_false (by omega)
            have hw0 : IntKind.i64.wrap ((ln : Int) + 1 - 1) = (ln : Int) := by rw [show (ln : Int) + 1 - 1 = (ln : Int) by omega]; exact IntWalk.i64_in _ (by omega)
            have hw1 : IntKind.i64.wrap ((bg : Int) + (t.col : Int)) = (bg : Int) + (t.col : Int) := IntWalk.i64_in _ (by omega)
            have hw2 : IntKind.i64.wrap ((bg : Int) + (t.col : Int) - 1) = (t.frm : Int) := by rw [show (bg : Int) + (t.col : Int) - 1 = (t.frm : Int) by omega]; exact IntWalk.i64_in _ (by omega)
            have hw3 : IntKind.i64.wrap ((t.to : Int) + 1) = (t.to : Int) + 1 := IntWalk.i64_in _ (by omega)
            have hf12 : t.frm ≤ t.to := by omega
            have da : decide ((t.frm : Int) < (at0 : Int)) = false := decide_eq_false (by omega)
            have dan : decide (t.frm < at0) = false := decide_eq_false (by omega)
            have db : decide ((t.to : Int) < (t.frm : Int)) = false := decide_eq_false (by omega)
            have dbn : decide (t.to < t.frm) = false := decide_eq_false (by omega)
            have dd : decide ((s.length : Int) < (t.to : Int)) = false := decide_eq_false (by omega)
            have ddn : decide (s.length < t.to) = false := decide_eq_false (by omega)
            have HW1 := Lib.hid hw1
            have HW2 := Lib.hid hw2
            clear hfo hg3 hr hsp hln hcl hspd ht hmem hexg hext hexm hlast HAt HMr2 HRt2 HGap2 hw1 hw2
            go_wp2_with fail
            have hw1 := HW1.out
            have hw2 := HW2.out
            go_quiet (fail)
            have hbq : Below wr.heap.size wr (wr.drewN nq) := below_dn (Below.refl _ wr) nq
            generalize (wr.drewN nq) = wq at *
            have HWq := Lib.hid (HW.out.trans (hbq.mono HW.out.size))
            replace x0 := (hbq.cell (p := ⟨b, _, none⟩) hbwr).trans x0
            replace x1 := (hbq.cell (p := ⟨b, _, none⟩) hbwr).trans x1
            replace x2 := (hbq.cell (p := ⟨b, _, none⟩) hbwr).trans x2
            replace x3 := (hbq.cell (p := ⟨b, _, none⟩) hbwr).trans x3
            replace z0 := (hbq.cell (p := ⟨q, _, none⟩) hqwr).trans z0
            have hbwq := Nat.lt_of_lt_of_le hbwr hbq.size
            clear hbq hw1 hw2 HW1 HW2 r0 hqwr HW hw0 dla dlb
            go_wp2_with fail
            rw [HEXG.out]
            have HBq := Lib.hid (HB4.out.trans (HWq.out.mono HB4.out.size))
            refine (HLs.out wq ((HBq.out.cell hg).trans HM.out)).mono ?_
            rintro e w5 ⟨v5, rfl, hb5, ho5⟩
            obtain ⟨o5, cp5, rfl, -, -, -, -⟩ := slice_of_lex ho5
            rw [show (Lx.toks []).length = 0 from rfl]
            have HW5 := Lib.hid (HWq.out.trans (hb5.mono HWq.out.size))
            have HB6 := Lib.hid (HBq.out.trans (hb5.mono HBq.out.size))
            replace x0 := (hb5.cell (p := ⟨b, _, none⟩) hbwq).trans x0
            replace x1 := (hb5.cell (p := ⟨b, _, none⟩) hbwq).trans x1
            replace x2 := (hb5.cell (p := ⟨b, _, none⟩) hbwq).trans x2
            replace x3 := (hb5.cell (p := ⟨b, _, none⟩) hbwq).trans x3
            clear hb5 ho5 HLs HEXG HWq z0 da dan db dbn dd ddn
            go_wp2_with fail
            refine (HSpc.out w5 ((HB6.out.cell hg).trans HM.out)).mono ?_
            rintro e w6 ⟨rfl, hb6⟩
            have HW6 := Lib.hid (HW5.out.trans (hb6.mono HW5.out.size))
            have hext := HEXT.out
            clear hb6 HSpc x0 x1 x2 x3 HW5
            by_cases hml : t.to < s.length
            · have dm : decide ((t.to : Int) < (s.length : Int)) = true := decide_eq_true (by omega)
              have dmn : decide (t.to < s.length) = true := decide_eq_true hml
              have hm1 : t.to + 1 ≤ s.length := by omega
              have hm2 : t.frm ≤ t.to + 1 := by omega
              clear hml
              go_wp2_with fail
              rw [HEXM.out]
              refine (HKd.out w6).mono ?_
              rintro e w7 ⟨rfl, hb7⟩
              have HW7 := Lib.hid (HW6.out.trans (hb7.mono HW6.out.size))
              rw [HMk.out (by omega)]
              clear hb7 HKd hw3 hext
              go_wp2_with fail
              go_roundg (l.length + 1 - (k + 1))
              case rel => exact ⟨k + 1, t.to, by omega, rfl, rfl, HATO, HW7, rfl⟩
              case measure => omega
            · have dm : decide ((t.to : Int) < (s.length : Int)) = false := decide_eq_false (by omega)
              have dmn : decide (t.to < s.length) = false := decide_eq_false hml
              clear hml
              go_wp2_with fail
              go_roundg (l.length + 1 - (k + 1))
              case rel => exact ⟨k + 1, t.to, by omega, rfl, rfl, HATO, HW6, rfl⟩
              case measure => omega
        · have dE : decide ((k : Int) ≤ (l.length : Int)) = false := decide_eq_false (by omega)
          have dEn : decide (k ≤ l.length) = false := decide_eq_false hE
          clear hE
          go_wp2_with fail
          refine bodyPost_ret (v := .bool true) ?_ rfl ⟨rfl, HB4.out.trans (HW.out.mono HB4.out.size)⟩
          simp [results, Tryd.results4, go_sem]
    · have dc : ((c : Int) != 0) = true := bne_iff_ne.2 (by omega)
      have dcn : (c != 0) = true := bne_iff_ne.2 hc
      have hnil := HNil.out hc
      subst hnil
      clear hc
      go_wp2_with fail
      refine bodyPost_ret (v := .bool true) ?_ rfl ⟨rfl, HB3.out⟩
      simp [results, Tryd.results4, go_sem]
end Go.Proofs.YtcjcbhdildcceaaDoor
