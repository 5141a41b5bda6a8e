/- The law LexKinds, from the contracts. Conditions: the cell of internal/bytealg.MaxLen is an int. -/
import Derived.Test.YtcjcbhdildcceaaDoorLexAk
namespace Go.Proofs.YtcjcbhdildcceaaDoor
open Go.RowKit

theorem divide_zero (s : List UInt8) (h : (Lx.divide s).2.1 = 0) : Lx.divide s = ((Lx.divide s).1, 0, 0) := by
  obtain ⟨h1, h2⟩ := divide_ok s h
  conv => lhs; rw [divide_of_spans s _ h1 h2]
theorem divide_text (s : List UInt8) (t : Lx.Sp) (hs : s.length ≤ 20000) (h : t ∈ (Lx.divide s).1) : t.text.length ≤ 20000 := by
  by_cases h0 : (Lx.divide s).2.1 = 0
  · have hr := divide_right s h0 t h
    have hd : ∀ l : List UInt8, l.length ≤ (Lx.dbl l).length := by
      intro l
      induction l with
      | nil => simp
      | cons b r ih => unfold Lx.dbl; split <;> simp only [List.length_cons] <;> omega
    have hl : t.text.length ≤ (Lx.spell t.kind t.text).length := by
      unfold Lx.spell
      split
      · simp only [List.length_cons, List.length_append]; have := hd t.text; omega
      · omega
    rw [hr.2.1, List.length_take, List.length_drop] at hl
    omega
  · rw [divide_nil s h0] at h; cases h

set_option maxHeartbeats 4000000 in
set_option maxRecDepth 100000 in
theorem lexKinds_c (k : Int) (txt s : List UInt8) (ln cl : Int) (m : Int) (w : World) (hm : w.cell? ⟨0, 0, none⟩ = some (.int .i64 m)) :
    Calls Tryd.prog 6 #[.agg #[.int .i64 k, .string ⟨txt.toArray⟩, .int .i64 ln, .int .i64 cl], .string ⟨s.toArray⟩] w fun e w' => e = .returned (.bool true) ∧ Below w.heap.size w w' := by
  have hg : 0 < w.heap.size := World.block_lt_of_cell? _ _ hm
  have hst : (⟨txt.toArray⟩ : ByteArray).size = txt.length := by simp [ByteArray.size]
  have hss : (⟨s.toArray⟩ : ByteArray).size = s.length := by simp [ByteArray.size]
  have HM := Lib.hid hm
  have hx0 := World.alloc_heap_new w (.cells #[.int .i64 k, .string ⟨txt.toArray⟩, .int .i64 ln, .int .i64 cl] 36)
  have hb0 : Below w.heap.size w (w.alloc (.cells #[.int .i64 k, .string ⟨txt.toArray⟩, .int .i64 ln, .int .i64 cl] 36)) := (Below.refl _ w).alloc (Nat.le_refl _) _
  have hz0 : (w.alloc (.cells #[.int .i64 k, .string ⟨txt.toArray⟩, .int .i64 ln, .int .i64 cl] 36)).heap.size = w.heap.size + 1 := by simp
  have HX0 := Lib.hid hx0
  have HB0 := Lib.hid hb0
  have HZ0 := Lib.hid hz0
  have HA := Lib.hid (awake_c m _ ((hb0.cell hg).trans hm))
  clear hx0 hb0 hz0 hm
  go_enter Tryd.func6, Tryd.ntmps6
  go_wp2_with fail
  refine HA.out.mono ?_
  rintro e w1 ⟨rfl, hb1⟩
  have hx1 := (hb1.block w.heap.size (by rw [HZ0.out]; omega)).trans HX0.out
  have HX1 := Lib.hid hx1
  have HB1 := Lib.hid (HB0.out.trans (hb1.mono (by rw [HZ0.out]; omega)))
  have hz1 : w.heap.size < w1.heap.size := by have := hb1.size; rw [HZ0.out] at this; omega
  clear hb1 hx1 HA
  have y0 : w1.cell? ⟨w.heap.size, 0, none⟩ = some (.int .i64 k) := (Lib.cell_of_heap HX1.out 0).trans rfl
  have y1 : w1.cell? ⟨w.heap.size, 1, none⟩ = some (.string ⟨txt.toArray⟩) := (Lib.cell_of_heap HX1.out 1).trans rfl
  have y2 : w1.cell? ⟨w.heap.size, 2, none⟩ = some (.int .i64 ln) := (Lib.cell_of_heap HX1.out 2).trans rfl
  have y3 : w1.cell? ⟨w.heap.size, 3, none⟩ = some (.int .i64 cl) := (Lib.cell_of_heap HX1.out 3).trans rfl
  by_cases h1 : 3000 < txt.length
  · have d1 : decide ((3000 : Int) < (txt.length : Int)) = true := decide_eq_true (by omega)
    clear h1
    go_wp2_with fail
    refine bodyPost_ret (v := .bool true) ?_ rfl ⟨rfl, HB1.out⟩
    simp [results, Tryd.results6, go_sem]
  · have d1 : decide ((3000 : Int) < (txt.length : Int)) = false := decide_eq_false (by omega)
    by_cases h2 : 3000 < s.length
    · have d2 : decide ((3000 : Int) < (s.length : Int)) = true := decide_eq_true (by omega)
      clear h2
      go_wp2_with fail
      refine bodyPost_ret (v := .bool true) ?_ rfl ⟨rfl, HB1.out⟩
      simp [results, Tryd.results6, go_sem]
    · have d2 : decide ((3000 : Int) < (s.length : Int)) = false := decide_eq_false (by omega)
      have HFew := Lib.hid (few s (by omega))
      have HK0 := Lib.hid (fun (h : Lx.kindTold s = 0) (t : Lx.Sp) (hd : (Lx.divide s).2.1 = 0) (hl : (Lx.divide s).1 = [t]) => kinds_none s h (by omega) t (by rw [divide_zero s hd, hl]))
      have HK1 := Lib.hid (fun (h : Lx.kindTold s ≠ 0) => kinds_some s h)
      have HTl := Lib.hid (fun (t : Lx.Sp) (h : t ∈ (Lx.divide s).1) => Nat.le_trans (divide_text s t (by omega) h) (by decide : 20000 ≤ 100000000))
      have hsl := spell_len k txt
      have HS1 := spell_c k txt ln cl m w1 (by omega) ((HB1.out.cell hg).trans HM.out)
      unfold tokW Lx.spelled at HS1
      have HR := Lib.hid (kinds_right k txt ln cl (by omega))
      have HS1 := Lib.hid HS1
      clear h1 h2
      go_wp2_with fail
      refine HS1.out.mono ?_
      rintro e w2 ⟨rfl, hb2⟩
      have HX2 := Lib.hid ((hb2.block w.heap.size hz1).trans HX1.out)
      have HB2 := Lib.hid (HB1.out.trans (hb2.mono HB1.out.size))
      have hz2 : w.heap.size < w2.heap.size := Nat.lt_of_lt_of_le hz1 hb2.size
      clear hb2 y0 y1 y2 y3 HS1
      have y0 : w2.cell? ⟨w.heap.size, 0, none⟩ = some (.int .i64 k) := (Lib.cell_of_heap HX2.out 0).trans rfl
      cases hr : Lx.right k txt ln cl with
      | false =>
        simp only [Bool.false_eq_true, if_false]
        clear hr HR
        go_wp2_with fail
        go_quiet (fail)
        have HBT := Lib.hid (below_dn HB2.out nq)
        generalize (w2.drewN nq) = wT at *
        clear HB2 HX2 y0
        have HK := Lib.hid (kind_c s wT)
        have hgT : 0 < wT.heap.size := Nat.lt_of_lt_of_le hg HBT.out.size
        clear hsl
        go_wp2_with fail
        refine HK.out.mono ?_
        rintro e wA ⟨rfl, hbA⟩
        have HBA := Lib.hid (HBT.out.trans (hbA.mono HBT.out.size))
        have HL := Lib.hid (lex_c s m wA ((HBA.out.cell hg).trans HM.out) HFew.out)
        unfold lexLeft at HL
        clear hbA HK
        go_wp2_with fail
        refine HL.out.mono ?_
        rintro e wB ⟨v, rfl, hbB, hoB⟩
        obtain ⟨o, cp, rfl, htB, -, -, hsB⟩ := slice_of_lex hoB
        have HBB := Lib.hid (HBA.out.trans (hbB.mono HBA.out.size))
        have HTB := Lib.hid htB
        rw [toks_len]
        clear hbB hoB htB HL
        generalize Lx.divide s = R at *
        obtain ⟨l, c, ix⟩ := R
        dsimp only at hsB HTB HK0 HK1 ⊢
        by_cases hK : Lx.kindTold s = 0
        · have HK2 := Lib.hid (HK0.out hK)
          have dK : ((Lx.kindTold s : Int) == 0) = true := by rw [hK]; rfl
          generalize Lx.kindTold s = K at *
          clear HK1 HK0 hK
          by_cases hc : c = 0
          · subst hc
            by_cases hl : l.length = 1
            · obtain ⟨t, rfl⟩ : ∃ t, l = [t] := List.length_eq_one_iff.1 hl
              obtain ⟨hr, hsp⟩ := HK2.out t rfl rfl
              obtain ⟨g, rfl⟩ : ∃ g, o = some ⟨g, 0, none⟩ := by
                rcases hsB with ⟨rfl, rfl⟩ | ⟨g, h, _⟩
                · obtain ⟨b, a, e, _⟩ := HTB.out 0 _ rfl
                  cases e
                · exact ⟨g, h⟩
              obtain ⟨y0, y1, y2, y3⟩ := tok_at HTB.out 0 _ rfl
              have hsl := spell_len t.kind t.text
              have HS := spell_c (t.kind : Int) t.text (t.line : Int) (t.col : Int) m wB (HTl.out t (List.mem_singleton.2 rfl)) ((HBB.out.cell hg).trans HM.out)
              have hspd : Lx.spelled (t.kind : Int) t.text (t.line : Int) (t.col : Int) = (Lx.spell t.kind t.text, 0) := if_pos hr
              rw [hspd] at HS
              unfold tokW at HS
              have HS := Lib.hid HS
              generalize Lx.spell (t.kind : Int) t.text = sy at *
              have dne : (sy != s) = true := bne_iff_ne.2 hsp
              have dne2 : (sy == s) = false := beq_eq_false_iff_ne.2 hsp
              clear hr hsp hspd hl HK2 hsl
              simp only [Lx.Sp.tok] at y0 y1 y2 y3
              go_wp2_with fail
              refine HS.out.mono ?_
              rintro e wC ⟨rfl, hbC⟩
              have HBC := Lib.hid (HBB.out.trans (hbC.mono HBB.out.size))
              clear hbC HS
              go_wp2_with fail
              refine bodyPost_ret (v := .bool true) ?_ rfl ⟨rfl, HBC.out⟩
              simp [results, Tryd.results6, go_sem]
            · have dl : ((l.length : Int) != 1) = true := bne_iff_ne.2 (by omega)
              have dl2 : (l.length != 1) = true := bne_iff_ne.2 hl
              clear hl HK2
              go_wp2_with fail
              refine bodyPost_ret (v := .bool true) ?_ rfl ⟨rfl, HBB.out⟩
              simp [results, Tryd.results6, go_sem]
          · have dc : ((c : Int) != 0) = true := bne_iff_ne.2 (by omega)
            have dc2 : (c != 0) = true := bne_iff_ne.2 hc
            clear hc HK2
            go_wp2_with fail
            refine bodyPost_ret (v := .bool true) ?_ rfl ⟨rfl, HBB.out⟩
            simp [results, Tryd.results6, go_sem]
        · obtain ⟨t, hd, hk, hr, hsp⟩ := HK1.out hK
          injection hd with hl hd
          injection hd with hc hix
          have dK : ((Lx.kindTold s : Int) == 0) = false := beq_eq_false_iff_ne.2 (by omega)
          have dK2 : (Lx.kindTold s == 0) = false := beq_eq_false_iff_ne.2 hK
          subst hl hc hix
          rw [← hk] at dK dK2 ⊢
          obtain ⟨g, rfl⟩ : ∃ g, o = some ⟨g, 0, none⟩ := by
            rcases hsB with ⟨rfl, rfl⟩ | ⟨g, h, _⟩
            · obtain ⟨b, a, e, _⟩ := HTB.out 0 _ rfl
              cases e
            · exact ⟨g, h⟩
          obtain ⟨y0, y1, y2, y3⟩ := tok_at HTB.out 0 _ rfl
          have HS := spell_c (t.kind : Int) t.text (t.line : Int) (t.col : Int) m wB (HTl.out t (List.mem_singleton.2 rfl)) ((HBB.out.cell hg).trans HM.out)
          have hspd : Lx.spelled (t.kind : Int) t.text (t.line : Int) (t.col : Int) = (s, 0) := by unfold Lx.spelled; rw [if_pos hr, hsp]
          rw [hspd] at HS
          unfold tokW at HS
          have HS := Lib.hid HS
          clear hr hsp hspd hk hK HK0 HK1
          simp only [Lx.Sp.tok] at y0 y1 y2 y3
          go_wp2_with fail
          refine HS.out.mono ?_
          rintro e wC ⟨rfl, hbC⟩
          have HBC := Lib.hid (HBB.out.trans (hbC.mono HBB.out.size))
          clear hbC HS
          go_wp2_with fail
          refine bodyPost_ret (v := .bool true) ?_ rfl ⟨rfl, HBC.out⟩
          simp [results, Tryd.results6, go_sem]
      | true =>
        simp only [if_true]
        have HR := Lib.hid (HR.out hr)
        by_cases h9 : k = 9
        · have d9 : (k != 9) = false := by rw [h9]; rfl
          clear hr HR h9
          go_wp2_with fail
          go_quiet (fail)
          have HBT := Lib.hid (below_dn HB2.out nq)
          generalize (w2.drewN nq) = wT at *
          clear HB2 HX2 y0
          have HK := Lib.hid (kind_c s wT)
          have hgT : 0 < wT.heap.size := Nat.lt_of_lt_of_le hg HBT.out.size
          clear hsl
          go_wp2_with fail
          refine HK.out.mono ?_
          rintro e wA ⟨rfl, hbA⟩
          have HBA := Lib.hid (HBT.out.trans (hbA.mono HBT.out.size))
          have HL := Lib.hid (lex_c s m wA ((HBA.out.cell hg).trans HM.out) HFew.out)
          unfold lexLeft at HL
          clear hbA HK
          go_wp2_with fail
          refine HL.out.mono ?_
          rintro e wB ⟨v, rfl, hbB, hoB⟩
          obtain ⟨o, cp, rfl, htB, -, -, hsB⟩ := slice_of_lex hoB
          have HBB := Lib.hid (HBA.out.trans (hbB.mono HBA.out.size))
          have HTB := Lib.hid htB
          rw [toks_len]
          clear hbB hoB htB HL
          generalize Lx.divide s = R at *
          obtain ⟨l, c, ix⟩ := R
          dsimp only at hsB HTB HK0 HK1 ⊢
          by_cases hK : Lx.kindTold s = 0
          · have HK2 := Lib.hid (HK0.out hK)
            have dK : ((Lx.kindTold s : Int) == 0) = true := by rw [hK]; rfl
            generalize Lx.kindTold s = K at *
            clear HK1 HK0 hK
            by_cases hc : c = 0
            · subst hc
              by_cases hl : l.length = 1
              · obtain ⟨t, rfl⟩ : ∃ t, l = [t] := List.length_eq_one_iff.1 hl
                obtain ⟨hr, hsp⟩ := HK2.out t rfl rfl
                obtain ⟨g, rfl⟩ : ∃ g, o = some ⟨g, 0, none⟩ := by
                  rcases hsB with ⟨rfl, rfl⟩ | ⟨g, h, _⟩
                  · obtain ⟨b, a, e, _⟩ := HTB.out 0 _ rfl
                    cases e
                  · exact ⟨g, h⟩
                obtain ⟨y0, y1, y2, y3⟩ := tok_at HTB.out 0 _ rfl
                have hsl := spell_len t.kind t.text
                have HS := spell_c (t.kind : Int) t.text (t.line : Int) (t.col : Int) m wB (HTl.out t (List.mem_singleton.2 rfl)) ((HBB.out.cell hg).trans HM.out)
                have hspd : Lx.spelled (t.kind : Int) t.text (t.line : Int) (t.col : Int) = (Lx.spell t.kind t.text, 0) := if_pos hr
                rw [hspd] at HS
                unfold tokW at HS
                have HS := Lib.hid HS
                generalize Lx.spell (t.kind : Int) t.text = sy at *
                have dne : (sy != s) = true := bne_iff_ne.2 hsp
                have dne2 : (sy == s) = false := beq_eq_false_iff_ne.2 hsp
                clear hr hsp hspd hl HK2 hsl
                simp only [Lx.Sp.tok] at y0 y1 y2 y3
                go_wp2_with fail
                refine HS.out.mono ?_
                rintro e wC ⟨rfl, hbC⟩
                have HBC := Lib.hid (HBB.out.trans (hbC.mono HBB.out.size))
                clear hbC HS
                go_wp2_with fail
                refine bodyPost_ret (v := .bool true) ?_ rfl ⟨rfl, HBC.out⟩
                simp [results, Tryd.results6, go_sem]
              · have dl : ((l.length : Int) != 1) = true := bne_iff_ne.2 (by omega)
                have dl2 : (l.length != 1) = true := bne_iff_ne.2 hl
                clear hl HK2
                go_wp2_with fail
                refine bodyPost_ret (v := .bool true) ?_ rfl ⟨rfl, HBB.out⟩
                simp [results, Tryd.results6, go_sem]
            · have dc : ((c : Int) != 0) = true := bne_iff_ne.2 (by omega)
              have dc2 : (c != 0) = true := bne_iff_ne.2 hc
              clear hc HK2
              go_wp2_with fail
              refine bodyPost_ret (v := .bool true) ?_ rfl ⟨rfl, HBB.out⟩
              simp [results, Tryd.results6, go_sem]
          · obtain ⟨t, hd, hk, hr, hsp⟩ := HK1.out hK
            injection hd with hl hd
            injection hd with hc hix
            have dK : ((Lx.kindTold s : Int) == 0) = false := beq_eq_false_iff_ne.2 (by omega)
            have dK2 : (Lx.kindTold s == 0) = false := beq_eq_false_iff_ne.2 hK
            subst hl hc hix
            rw [← hk] at dK dK2 ⊢
            obtain ⟨g, rfl⟩ : ∃ g, o = some ⟨g, 0, none⟩ := by
              rcases hsB with ⟨rfl, rfl⟩ | ⟨g, h, _⟩
              · obtain ⟨b, a, e, _⟩ := HTB.out 0 _ rfl
                cases e
              · exact ⟨g, h⟩
            obtain ⟨y0, y1, y2, y3⟩ := tok_at HTB.out 0 _ rfl
            have HS := spell_c (t.kind : Int) t.text (t.line : Int) (t.col : Int) m wB (HTl.out t (List.mem_singleton.2 rfl)) ((HBB.out.cell hg).trans HM.out)
            have hspd : Lx.spelled (t.kind : Int) t.text (t.line : Int) (t.col : Int) = (s, 0) := by unfold Lx.spelled; rw [if_pos hr, hsp]
            rw [hspd] at HS
            unfold tokW at HS
            have HS := Lib.hid HS
            clear hr hsp hspd hk hK HK0 HK1
            simp only [Lx.Sp.tok] at y0 y1 y2 y3
            go_wp2_with fail
            refine HS.out.mono ?_
            rintro e wC ⟨rfl, hbC⟩
            have HBC := Lib.hid (HBB.out.trans (hbC.mono HBB.out.size))
            clear hbC HS
            go_wp2_with fail
            refine bodyPost_ret (v := .bool true) ?_ rfl ⟨rfl, HBC.out⟩
            simp [results, Tryd.results6, go_sem]
        · have d9 : (k != 9) = true := bne_iff_ne.2 h9
          have hkt := HR.out h9
          have HKs := Lib.hid (fun W => kind_c (Lx.spell k txt) W)
          generalize Lx.kindTold (Lx.spell k txt) = q at *
          generalize Lx.spell k txt = sp at *
          subst hkt
          clear hr HR h9
          go_wp2_with fail
          go_region_with (go_at_call 19; refine (HKs.out _).mono ?_; rintro e wT ⟨rfl, hb⟩; have e0 := (hb.cell (p := ⟨w.heap.size, 0, none⟩) (by simpa using hz2)).trans (show _ = some (Value.int .i64 (q : Int)) by simpa using y0); have HBb := Lib.hid hb; clear hb)
          all_goals
            have hbz : Below w2.heap.size w2 wT := by first | exact (below_dn (Below.refl _ _) 1).trans HBb.out | exact HBb.out
            have HBT := Lib.hid (HB2.out.trans (hbz.mono HB2.out.size))
            clear hbz HBb HB2 HX2 y0 e0
            have HK := Lib.hid (kind_c s wT)
            have hgT : 0 < wT.heap.size := Nat.lt_of_lt_of_le hg HBT.out.size
            clear hsl
            go_wp2_with fail
            refine HK.out.mono ?_
            rintro e wA ⟨rfl, hbA⟩
            have HBA := Lib.hid (HBT.out.trans (hbA.mono HBT.out.size))
            have HL := Lib.hid (lex_c s m wA ((HBA.out.cell hg).trans HM.out) HFew.out)
            unfold lexLeft at HL
            clear hbA HK
            go_wp2_with fail
            refine HL.out.mono ?_
            rintro e wB ⟨v, rfl, hbB, hoB⟩
            obtain ⟨o, cp, rfl, htB, -, -, hsB⟩ := slice_of_lex hoB
            have HBB := Lib.hid (HBA.out.trans (hbB.mono HBA.out.size))
            have HTB := Lib.hid htB
            rw [toks_len]
            clear hbB hoB htB HL
            generalize Lx.divide s = R at *
            obtain ⟨l, c, ix⟩ := R
            dsimp only at hsB HTB HK0 HK1 ⊢
            by_cases hK : Lx.kindTold s = 0
            · have HK2 := Lib.hid (HK0.out hK)
              have dK : ((Lx.kindTold s : Int) == 0) = true := by rw [hK]; rfl
              generalize Lx.kindTold s = K at *
              clear HK1 HK0 hK
              by_cases hc : c = 0
              · subst hc
                by_cases hl : l.length = 1
                · obtain ⟨t, rfl⟩ : ∃ t, l = [t] := List.length_eq_one_iff.1 hl
                  obtain ⟨hr, hsp⟩ := HK2.out t rfl rfl
                  obtain ⟨g, rfl⟩ : ∃ g, o = some ⟨g, 0, none⟩ := by
                    rcases hsB with ⟨rfl, rfl⟩ | ⟨g, h, _⟩
                    · obtain ⟨b, a, e, _⟩ := HTB.out 0 _ rfl
                      cases e
                    · exact ⟨g, h⟩
                  obtain ⟨y0, y1, y2, y3⟩ := tok_at HTB.out 0 _ rfl
                  have hsl := spell_len t.kind t.text
                  have HS := spell_c (t.kind : Int) t.text (t.line : Int) (t.col : Int) m wB (HTl.out t (List.mem_singleton.2 rfl)) ((HBB.out.cell hg).trans HM.out)
                  have hspd : Lx.spelled (t.kind : Int) t.text (t.line : Int) (t.col : Int) = (Lx.spell t.kind t.text, 0) := if_pos hr
                  rw [hspd] at HS
                  unfold tokW at HS
                  have HS := Lib.hid HS
                  generalize Lx.spell (t.kind : Int) t.text = sy at *
                  have dne : (sy != s) = true := bne_iff_ne.2 hsp
                  have dne2 : (sy == s) = false := beq_eq_false_iff_ne.2 hsp
                  clear hr hsp hspd hl HK2 hsl
                  simp only [Lx.Sp.tok] at y0 y1 y2 y3
                  go_wp2_with fail
                  refine HS.out.mono ?_
                  rintro e wC ⟨rfl, hbC⟩
                  have HBC := Lib.hid (HBB.out.trans (hbC.mono HBB.out.size))
                  clear hbC HS
                  go_wp2_with fail
                  refine bodyPost_ret (v := .bool true) ?_ rfl ⟨rfl, HBC.out⟩
                  simp [results, Tryd.results6, go_sem]
                · have dl : ((l.length : Int) != 1) = true := bne_iff_ne.2 (by omega)
                  have dl2 : (l.length != 1) = true := bne_iff_ne.2 hl
                  clear hl HK2
                  go_wp2_with fail
                  refine bodyPost_ret (v := .bool true) ?_ rfl ⟨rfl, HBB.out⟩
                  simp [results, Tryd.results6, go_sem]
              · have dc : ((c : Int) != 0) = true := bne_iff_ne.2 (by omega)
                have dc2 : (c != 0) = true := bne_iff_ne.2 hc
                clear hc HK2
                go_wp2_with fail
                refine bodyPost_ret (v := .bool true) ?_ rfl ⟨rfl, HBB.out⟩
                simp [results, Tryd.results6, go_sem]
            · obtain ⟨t, hd, hk, hr, hsp⟩ := HK1.out hK
              injection hd with hl hd
              injection hd with hc hix
              have dK : ((Lx.kindTold s : Int) == 0) = false := beq_eq_false_iff_ne.2 (by omega)
              have dK2 : (Lx.kindTold s == 0) = false := beq_eq_false_iff_ne.2 hK
              subst hl hc hix
              rw [← hk] at dK dK2 ⊢
              obtain ⟨g, rfl⟩ : ∃ g, o = some ⟨g, 0, none⟩ := by
                rcases hsB with ⟨rfl, rfl⟩ | ⟨g, h, _⟩
                · obtain ⟨b, a, e, _⟩ := HTB.out 0 _ rfl
                  cases e
                · exact ⟨g, h⟩
              obtain ⟨y0, y1, y2, y3⟩ := tok_at HTB.out 0 _ rfl
              have HS := spell_c (t.kind : Int) t.text (t.line : Int) (t.col : Int) m wB (HTl.out t (List.mem_singleton.2 rfl)) ((HBB.out.cell hg).trans HM.out)
              have hspd : Lx.spelled (t.kind : Int) t.text (t.line : Int) (t.col : Int) = (s, 0) := by unfold Lx.spelled; rw [if_pos hr, hsp]
              rw [hspd] at HS
              unfold tokW at HS
              have HS := Lib.hid HS
              clear hr hsp hspd hk hK HK0 HK1
              simp only [Lx.Sp.tok] at y0 y1 y2 y3
              go_wp2_with fail
              refine HS.out.mono ?_
              rintro e wC ⟨rfl, hbC⟩
              have HBC := Lib.hid (HBB.out.trans (hbC.mono HBB.out.size))
              clear hbC HS
              go_wp2_with fail
              refine bodyPost_ret (v := .bool true) ?_ rfl ⟨rfl, HBC.out⟩
              simp [results, Tryd.results6, go_sem]
end Go.Proofs.YtcjcbhdildcceaaDoor
