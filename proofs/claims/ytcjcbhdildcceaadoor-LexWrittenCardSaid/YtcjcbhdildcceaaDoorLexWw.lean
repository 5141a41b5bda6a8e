/- The law LexWritten, from the contracts. Conditions: the list lies where the slice says, its texts are shorter than memory; the cell of internal/bytealg.MaxLen is an int. -/
import Derived.Test.YtcjcbhdildcceaaDoorLexWt
import Derived.Test.YtcjcbhdildcceaaDoorLexAk
namespace Go.Proofs.YtcjcbhdildcceaaDoor
open Go.RowKit

theorem same_of_map (l : List Lx.Tk) (mm : List Lx.Sp) (h : mm.map (fun t : Lx.Sp => ((t.kind : Int), t.text)) = l.map Lx.Tk.key) : Lx.same l (Lx.toks mm) = true := by
  unfold Lx.same Lx.toks
  rw [List.map_map]
  exact decide_eq_true h.symm
/-- What is told of a list that was printed. -/
theorem printed_told (l : List Lx.Tk) (h : (Lx.printed l).2 = 0) : (Lx.divide (Lx.printed l).1).2.1 = 0 ∧ Lx.same l (Lx.toks (Lx.divide (Lx.printed l).1).1) = true ∧ ((Lx.printed l).1.length ≤ 20000 → (Lx.spans (Lx.printed l).1).1.length ≤ 6000) := by
  obtain ⟨mm, h1, h2, h3, h4⟩ := printed_read l h
  have h5 := (divide_ok (Lx.printed l).1 (by rw [h1])).2
  rw [h5, h1]
  refine ⟨rfl, same_of_map l mm h2, fun _ => ?_⟩
  have := congrArg List.length h2
  rw [List.length_map, List.length_map] at this
  show mm.length ≤ 6000
  omega
theorem toks_may (s : List UInt8) (h : (Lx.divide s).2.1 = 0) (k : Nat) (t : Lx.Tk) (ht : (Lx.toks (Lx.divide s).1)[k]? = some t) (h9 : t.kind = 9) : Lx.dotMay (Lx.toks (Lx.divide s).1) k = true := by
  rw [toks_at] at ht
  obtain ⟨u, hu, rfl⟩ := Option.map_eq_some_iff.1 ht
  have h9 : (u.kind : Int) = 9 := h9
  obtain ⟨a, b, hk, ha, hb, ha1, hbj⟩ := dots_read s h k u hu (by omega)
  unfold Lx.dotMay
  have hlb := (List.getElem?_eq_some_iff.1 hb).1
  rw [if_neg (by rw [toks_len]; omega), toks_at, toks_at, ha, hb]
  show ((a.kind : Int) == 1 && Lx.joined ((Lx.spell b.kind b.text).headD 0)) = true
  rw [hbj, ha1]; rfl
theorem check_of (l : List Lx.Tk) (h6 : l.length ≤ 6000) (hr : ∀ t ∈ l, Lx.Tk.right t = true) : Lx.check l = 0 := by
  unfold Lx.check
  rw [if_neg (by omega), if_neg]
  rw [twk_all _ _ (List.all_eq_true.2 hr)]
  omega
/-- What is told of a list that was read. -/
theorem toks_told (s : List UInt8) (h : (Lx.divide s).2.1 = 0) (h6 : (Lx.divide s).1.length ≤ 6000) : Lx.check (Lx.toks (Lx.divide s).1) = 0 ∧ ((Lx.printed (Lx.toks (Lx.divide s).1)).2 = 0 ∨ Lx.printed (Lx.toks (Lx.divide s).1) = ([], 2)) ∧ ∀ t ∈ Lx.toks (Lx.divide s).1, t.text.length ≤ 20000 := by
  have hc : Lx.check (Lx.toks (Lx.divide s).1) = 0 := by
    refine check_of _ (by rw [toks_len]; exact h6) fun t ht => ?_
    obtain ⟨u, hu, rfl⟩ := List.mem_map.1 ht
    exact (divide_right s h u hu).1
  refine ⟨hc, ?_, fun t ht => ?_⟩
  · unfold Lx.printed
    rw [if_neg (fun e => e hc)]
    have := printN_may _ (toks_may s h) (Lx.toks (Lx.divide s).1).length
    cases hp : Lx.printN (Lx.toks (Lx.divide s).1) (Lx.toks (Lx.divide s).1).length with
    | none => exact absurd hp this
    | some x =>
      unfold Lx.printEnd
      simp only
      split
      · exact .inr rfl
      · exact .inl rfl
  · obtain ⟨u, hu, rfl⟩ := List.mem_map.1 ht
    exact text_len s u (divide_ok s h).1 hu

set_option maxHeartbeats 8000000 in
set_option maxRecDepth 100000 in
theorem lexWritten_c (l : List Lx.Tk) (o : Option Addr) (c : Nat) (s : List UInt8) (m : Int) (w : World) (h : TokAt w o l) (hl : ∀ t ∈ l, t.text.length ≤ 140737488355328) (hm : w.cell? ⟨0, 0, none⟩ = some (.int .i64 m)) :
    Calls Tryd.prog 5 #[.slice o l.length c, .string ⟨s.toArray⟩] w fun e w' => e = .returned (.bool true) ∧ Below w.heap.size w w' := by
  have hg : 0 < w.heap.size := World.block_lt_of_cell? _ _ hm
  have hss : (⟨s.toArray⟩ : ByteArray).size = s.length := by simp [ByteArray.size]
  have HM := Lib.hid hm
  have HA := Lib.hid (awake_c m w hm)
  have HT0 := Lib.hid h
  have HLt := Lib.hid hl
  clear hm h hl
  go_enter Tryd.func5, Tryd.ntmps5
  go_wp2_with fail
  refine HA.out.mono ?_
  rintro e w1 ⟨rfl, hb1⟩
  have HB1 := Lib.hid hb1
  have HT1 := Lib.hid (tokAt_mono HT0.out hb1)
  clear hb1 HA HT0
  by_cases hL : 500 < l.length
  · have dL : decide ((500 : Int) < (l.length : Int)) = true := decide_eq_true (by omega)
    have dLn : decide (500 < l.length) = true := decide_eq_true hL
    clear hL
    go_wp2_with fail
    refine bodyPost_ret (v := .bool true) ?_ rfl ⟨rfl, HB1.out⟩
    simp [results, Tryd.results5, go_sem]
  · have dL : decide ((500 : Int) < (l.length : Int)) = false := decide_eq_false (by omega)
    have dLn : decide (500 < l.length) = false := decide_eq_false hL
    have hL5 : l.length ≤ 500 := by omega
    have HWt := Lib.hid (weight_c l o c w1 HT1.out (by omega) HLt.out)
    have HWl := Lib.hid (wgt_le l 0)
    have HBr := Lib.hid (brief_c s)
    have hbs : Lx.brief s.length = true → s.length ≤ 3000 ∨ 20000 < s.length := by unfold Lx.brief; simp; omega
    have HBs := Lib.hid hbs
    clear hbs hL
    generalize Lx.wgt l 0 = W at *
    generalize Lx.brief s.length = br at *
    go_wp2_with fail
    refine HWt.out.mono ?_
    rintro e w2 ⟨rfl, hq2⟩
    have HB2 := Lib.hid (HB1.out.trans ((dn_below hq2).mono HB1.out.size))
    have HT2 := Lib.hid (tokAt_mono HT1.out (dn_below hq2))
    clear hq2 HWt HT1
    by_cases hW : 30000 < W
    · have dW : decide ((30000 : Int) < (W : Int)) = true := decide_eq_true (by omega)
      have dWn : decide (30000 < W) = true := decide_eq_true hW
      clear hW
      go_wp2_with fail
      refine bodyPost_ret (v := .bool true) ?_ rfl ⟨rfl, HB2.out⟩
      simp [results, Tryd.results5, go_sem]
    · have dW : decide ((30000 : Int) < (W : Int)) = false := decide_eq_false (by omega)
      have dWn : decide (30000 < W) = false := decide_eq_false hW
      have HTl := Lib.hid (HWl.out (by omega))
      clear hW HWl HLt
      go_wp2_with fail
      refine (HBr.out w2).mono ?_
      rintro e w3 ⟨rfl, hq3⟩
      have HB3 := Lib.hid (HB2.out.trans ((dn_below hq3).mono HB2.out.size))
      have HT3 := Lib.hid (tokAt_mono HT2.out (dn_below hq3))
      clear hq3 HBr HT2
      cases br
      · go_wp2_with fail
        refine bodyPost_ret (v := .bool true) ?_ rfl ⟨rfl, HB3.out⟩
        simp [results, Tryd.results5, go_sem]
      · have HSm := Lib.hid (HBs.out rfl)
        have HPr := Lib.hid (print_c l o c m w3 HT3.out ((HB3.out.cell hg).trans HM.out) (by omega) (fun t ht => by have := HTl.out t ht; omega))
        have HTo := Lib.hid (printed_told l)
        have HL2 := Lib.hid (lex_c s m)
        have hfs : s.length ≤ 20000 → (Lx.spans s).1.length ≤ 6000 := fun h => by
          have := spans_len s
          have := HSm.out
          omega
        have HFs := Lib.hid hfs
        have HTt := Lib.hid (fun (h : (Lx.divide s).2.1 = 0) => toks_told s h (divide_len s hfs))
        have HLs := Lib.hid (fun W hW => lex_c s m W hW hfs)
        have HDl := Lib.hid (divide_len s hfs)
        clear HBs HL2 hfs HFs HSm
        unfold lexLeft at HLs
        go_wp2_with fail
        refine HPr.out.mono ?_
        rintro e w4 ⟨rfl, hb4⟩
        have HB4 := Lib.hid (HB3.out.trans (hb4.mono HB3.out.size))
        have HT4 := Lib.hid (tokAt_mono HT3.out hb4)
        clear hb4 HPr HT3
        generalize hpr : Lx.printed l = P at *
        obtain ⟨x, e⟩ := P
        dsimp only at HTo ⊢
        clear hpr
        by_cases he : e = 0
        · subst he
          obtain ⟨hd5, hs5, hf5⟩ := HTo.out rfl
          have HL5 := lex_c x m w4 ((HB4.out.cell hg).trans HM.out) hf5
          unfold lexLeft at HL5
          rw [hd5] at HL5
          have HL5 := Lib.hid HL5
          have HS5 := Lib.hid hs5
          clear hd5 hs5 hf5 HTo
          go_wp2_with fail
          refine HL5.out.mono ?_
          rintro e w5 ⟨v5, rfl, hb5, ho5⟩
          obtain ⟨o5, c5, rfl, ht5, -, -, -⟩ := slice_of_lex ho5
          have HB5 := Lib.hid (HB4.out.trans (hb5.mono HB4.out.size))
          have HT5 := Lib.hid (tokAt_mono HT4.out hb5)
          have HN5 := Lib.hid ht5
          clear hb5 HL5 HT4 ho5 ht5
          have HSa := Lib.hid (same_c l (Lx.toks (Lx.divide x).1) o o5 c c5 w5 HT5.out HN5.out (by omega))
          rw [HS5.out] at HSa
          generalize Lx.toks (Lx.divide x).1 = l5 at *
          go_wp2_with fail
          refine HSa.out.mono ?_
          rintro e w6 ⟨rfl, hb6⟩
          have HB6 := Lib.hid (HB5.out.trans (hb6.mono HB5.out.size))
          clear hb6 HSa HT5 HN5
          go_wp2_with fail
          refine (HLs.out w6 ((HB6.out.cell hg).trans HM.out)).mono ?_
          rintro e w7 ⟨v7, rfl, hb7, ho7⟩
          obtain ⟨o7, c7, rfl, ht7, -, -, -⟩ := slice_of_lex ho7
          have HB7 := Lib.hid (HB6.out.trans (hb7.mono HB6.out.size))
          have HT7 := Lib.hid ht7
          clear hb7 ho7 ht7 HLs
          have HTl7 : Hid ((Lx.toks (Lx.divide s).1).length ≤ 6000) := Lib.hid (by rw [toks_len]; exact HDl.out)
          generalize Lx.toks (Lx.divide s).1 = l7 at *
          clear HDl
          generalize (Lx.divide s).2.1 = q7 at *
          generalize (Lx.divide s).2.2 = ix7 at *
          by_cases hq7 : q7 = 0
          · obtain ⟨hck, hpr, htl⟩ := HTt.out hq7
            subst hq7
            have hl7 := HTl7.out
            have HCK := Lib.hid (fun W (hW : TokAt W o7 l7) => check_c l7 o7 c7 W hW (by omega) (fun t ht => by have := htl t ht; omega))
            rw [hck] at HCK
            have HP7 := Lib.hid (fun W (hW : TokAt W o7 l7) hm => print_c l7 o7 c7 m W hW hm (by omega) (fun t ht => by have := htl t ht; omega))
            have HTo7 := Lib.hid (printed_told l7)
            have HPR := Lib.hid hpr
            clear hck hpr htl HTt HTl7
            go_wp2_with fail
            refine (HP7.out w7 HT7.out ((HB7.out.cell hg).trans HM.out)).mono ?_
            rintro e w8 ⟨rfl, hb8⟩
            have HB8 := Lib.hid (HB7.out.trans (hb8.mono HB7.out.size))
            have HT8 := Lib.hid (tokAt_mono HT7.out hb8)
            clear hb8 HP7 HT7
            generalize Lx.printed l7 = P7 at *
            obtain ⟨x7, e7⟩ := P7
            dsimp only at HTo7 HPR ⊢
            by_cases he7 : e7 = 0
            · subst he7
              obtain ⟨hd9, hs9, hf9⟩ := HTo7.out rfl
              have HL9 := lex_c x7 m w8 ((HB8.out.cell hg).trans HM.out) hf9
              unfold lexLeft at HL9
              rw [hd9] at HL9
              have HL9 := Lib.hid HL9
              have HS9 := Lib.hid hs9
              clear hd9 hs9 hf9 HTo7 HPR
              go_wp2_with fail
              refine HL9.out.mono ?_
              rintro e w9 ⟨v9, rfl, hb9, ho9⟩
              obtain ⟨o9, c9, rfl, ht9, -, -, -⟩ := slice_of_lex ho9
              have HB9 := Lib.hid (HB8.out.trans (hb9.mono HB8.out.size))
              have HT9 := Lib.hid (tokAt_mono HT8.out hb9)
              have HN9 := Lib.hid ht9
              clear hb9 HL9 HT8 ho9 ht9
              have HSa := Lib.hid (fun W h1 h2 => same_c l7 (Lx.toks (Lx.divide x7).1) o7 o9 c7 c9 W h1 h2 (by omega))
              rw [HS9.out] at HSa
              generalize Lx.toks (Lx.divide x7).1 = l9 at *
              go_wp2_with fail
              refine (HCK.out w9 HT9.out).mono ?_
              rintro e w10 ⟨rfl, hb10⟩
              have HB10 := Lib.hid (HB9.out.trans (hb10.mono HB9.out.size))
              have HT10 := Lib.hid (tokAt_mono HT9.out hb10)
              have HN10 := Lib.hid (tokAt_mono HN9.out hb10)
              clear hb10 HT9 HN9 HCK
              go_wp2_with fail
              refine (HSa.out w10 HT10.out HN10.out).mono ?_
              rintro e w11 ⟨rfl, hb11⟩
              have HB11 := Lib.hid (HB10.out.trans (hb11.mono HB10.out.size))
              clear hb11
              go_wp2_with fail
              refine bodyPost_ret (v := .bool true) ?_ rfl ⟨rfl, HB11.out⟩
              simp [results, Tryd.results5, go_sem]
            · have hx := HPR.out
              simp only [Prod.mk.injEq, he7, false_or] at hx
              obtain ⟨rfl, rfl⟩ := hx
              have HL9 := Lib.hid (lex_c [] m w8 ((HB8.out.cell hg).trans HM.out) (by decide))
              unfold lexLeft at HL9
              clear HTo7 HPR he7
              go_wp2_with fail
              refine HL9.out.mono ?_
              rintro e w9 ⟨v9, rfl, hb9, ho9⟩
              obtain ⟨o9, c9, rfl, -, -, -, -⟩ := slice_of_lex ho9
              have HB9 := Lib.hid (HB8.out.trans (hb9.mono HB8.out.size))
              have HT9 := Lib.hid (tokAt_mono HT8.out hb9)
              clear hb9 HL9 HT8 ho9
              go_wp2_with fail
              refine (HCK.out w9 HT9.out).mono ?_
              rintro e w10 ⟨rfl, hb10⟩
              have HB10 := Lib.hid (HB9.out.trans (hb10.mono HB9.out.size))
              clear hb10 HT9 HCK
              go_wp2_with fail
              refine bodyPost_ret (v := .bool true) ?_ rfl ⟨rfl, HB10.out⟩
              simp [results, Tryd.results5, go_sem]
          · have dc : ((q7 : Int) != 0) = true := bne_iff_ne.2 (by omega)
            have dcn : (q7 != 0) = true := bne_iff_ne.2 hq7
            clear hq7
            go_wp2_with fail
            refine bodyPost_ret (v := .bool true) ?_ rfl ⟨rfl, HB7.out⟩
            simp [results, Tryd.results5, go_sem]
        · have dE : ((e : Int) == 0) = false := beq_eq_false_iff_ne.2 (by omega)
          have dEn : (e == 0) = false := beq_eq_false_iff_ne.2 he
          clear he HTo
          go_wp2_with fail
          refine (HLs.out w4 ((HB4.out.cell hg).trans HM.out)).mono ?_
          rintro e w7 ⟨v7, rfl, hb7, ho7⟩
          obtain ⟨o7, c7, rfl, ht7, -, -, -⟩ := slice_of_lex ho7
          have HB7 := Lib.hid (HB4.out.trans (hb7.mono HB4.out.size))
          have HT7 := Lib.hid ht7
          clear hb7 ho7 ht7 HLs
          have HTl7 : Hid ((Lx.toks (Lx.divide s).1).length ≤ 6000) := Lib.hid (by rw [toks_len]; exact HDl.out)
          generalize Lx.toks (Lx.divide s).1 = l7 at *
          clear HDl
          generalize (Lx.divide s).2.1 = q7 at *
          generalize (Lx.divide s).2.2 = ix7 at *
          by_cases hq7 : q7 = 0
          · obtain ⟨hck, hpr, htl⟩ := HTt.out hq7
            subst hq7
            have hl7 := HTl7.out
            have HCK := Lib.hid (fun W (hW : TokAt W o7 l7) => check_c l7 o7 c7 W hW (by omega) (fun t ht => by have := htl t ht; omega))
            rw [hck] at HCK
            have HP7 := Lib.hid (fun W (hW : TokAt W o7 l7) hm => print_c l7 o7 c7 m W hW hm (by omega) (fun t ht => by have := htl t ht; omega))
            have HTo7 := Lib.hid (printed_told l7)
            have HPR := Lib.hid hpr
            clear hck hpr htl HTt HTl7
            go_wp2_with fail
            refine (HP7.out w7 HT7.out ((HB7.out.cell hg).trans HM.out)).mono ?_
            rintro e w8 ⟨rfl, hb8⟩
            have HB8 := Lib.hid (HB7.out.trans (hb8.mono HB7.out.size))
            have HT8 := Lib.hid (tokAt_mono HT7.out hb8)
            clear hb8 HP7 HT7
            generalize Lx.printed l7 = P7 at *
            obtain ⟨x7, e7⟩ := P7
            dsimp only at HTo7 HPR ⊢
            by_cases he7 : e7 = 0
            · subst he7
              obtain ⟨hd9, hs9, hf9⟩ := HTo7.out rfl
              have HL9 := lex_c x7 m w8 ((HB8.out.cell hg).trans HM.out) hf9
              unfold lexLeft at HL9
              rw [hd9] at HL9
              have HL9 := Lib.hid HL9
              have HS9 := Lib.hid hs9
              clear hd9 hs9 hf9 HTo7 HPR
              go_wp2_with fail
              refine HL9.out.mono ?_
              rintro e w9 ⟨v9, rfl, hb9, ho9⟩
              obtain ⟨o9, c9, rfl, ht9, -, -, -⟩ := slice_of_lex ho9
              have HB9 := Lib.hid (HB8.out.trans (hb9.mono HB8.out.size))
              have HT9 := Lib.hid (tokAt_mono HT8.out hb9)
              have HN9 := Lib.hid ht9
              clear hb9 HL9 HT8 ho9 ht9
              have HSa := Lib.hid (fun W h1 h2 => same_c l7 (Lx.toks (Lx.divide x7).1) o7 o9 c7 c9 W h1 h2 (by omega))
              rw [HS9.out] at HSa
              generalize Lx.toks (Lx.divide x7).1 = l9 at *
              go_wp2_with fail
              refine (HCK.out w9 HT9.out).mono ?_
              rintro e w10 ⟨rfl, hb10⟩
              have HB10 := Lib.hid (HB9.out.trans (hb10.mono HB9.out.size))
              have HT10 := Lib.hid (tokAt_mono HT9.out hb10)
              have HN10 := Lib.hid (tokAt_mono HN9.out hb10)
              clear hb10 HT9 HN9 HCK
              go_wp2_with fail
              refine (HSa.out w10 HT10.out HN10.out).mono ?_
              rintro e w11 ⟨rfl, hb11⟩
              have HB11 := Lib.hid (HB10.out.trans (hb11.mono HB10.out.size))
              clear hb11
              go_wp2_with fail
              refine bodyPost_ret (v := .bool true) ?_ rfl ⟨rfl, HB11.out⟩
              simp [results, Tryd.results5, go_sem]
            · have hx := HPR.out
              simp only [Prod.mk.injEq, he7, false_or] at hx
              obtain ⟨rfl, rfl⟩ := hx
              have HL9 := Lib.hid (lex_c [] m w8 ((HB8.out.cell hg).trans HM.out) (by decide))
              unfold lexLeft at HL9
              clear HTo7 HPR he7
              go_wp2_with fail
              refine HL9.out.mono ?_
              rintro e w9 ⟨v9, rfl, hb9, ho9⟩
              obtain ⟨o9, c9, rfl, -, -, -, -⟩ := slice_of_lex ho9
              have HB9 := Lib.hid (HB8.out.trans (hb9.mono HB8.out.size))
              have HT9 := Lib.hid (tokAt_mono HT8.out hb9)
              clear hb9 HL9 HT8 ho9
              go_wp2_with fail
              refine (HCK.out w9 HT9.out).mono ?_
              rintro e w10 ⟨rfl, hb10⟩
              have HB10 := Lib.hid (HB9.out.trans (hb10.mono HB9.out.size))
              clear hb10 HT9 HCK
              go_wp2_with fail
              refine bodyPost_ret (v := .bool true) ?_ rfl ⟨rfl, HB10.out⟩
              simp [results, Tryd.results5, go_sem]
          · have dc : ((q7 : Int) != 0) = true := bne_iff_ne.2 (by omega)
            have dcn : (q7 != 0) = true := bne_iff_ne.2 hq7
            clear hq7
            go_wp2_with fail
            refine bodyPost_ret (v := .bool true) ?_ rfl ⟨rfl, HB7.out⟩
            simp [results, Tryd.results5, go_sem]
end Go.Proofs.YtcjcbhdildcceaaDoor
