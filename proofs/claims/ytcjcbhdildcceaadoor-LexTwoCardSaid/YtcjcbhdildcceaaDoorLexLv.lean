/- The law LexTwo, from the contracts. Conditions: the cell of internal/bytealg.MaxLen is an int. -/
import Derived.Test.YtcjcbhdildcceaaDoorLexLw
namespace Go.Proofs.YtcjcbhdildcceaaDoor
open Go.RowKit

theorem places_le2 (s : List UInt8) (hs : s.length ≤ 20000) (t : Lx.Sp) (h : t ∈ (Lx.divide s).1) : t.line ≤ 20001 ∧ t.col ≤ 20001 := by
  by_cases h0 : (Lx.divide s).2.1 = 0
  · obtain ⟨_, _, h1, h2, h3, h4⟩ := divide_right s h0 t h
    have h5 := placeAt_ln s t.frm
    rw [placeAt_ix s _ (by omega)] at h5
    omega
  · rw [divide_nil s h0] at h; cases h
theorem few_two (a b : List UInt8) (ha : (Lx.divide a).2.1 = 0) (hb : (Lx.divide b).2.1 = 0) (hl : a.length ≤ 3000) (hl' : b.length ≤ 3000) : (a ++ 10 :: b).length ≤ 20000 → (Lx.spans (a ++ 10 :: b)).1.length ≤ 6000 := by
  intro h
  have h2 := divide_two a b ha hb h
  have h3 := (divide_ok (a ++ 10 :: b) (by rw [h2])).2
  have e1 := spans_len a
  have e2 := spans_len b
  rw [(divide_ok a ha).2] at e1
  rw [(divide_ok b hb).2] at e2
  rw [h3, h2]
  simp only [List.length_append, List.length_map]
  dsimp only at e1 e2
  omega

set_option maxHeartbeats 8000000 in
set_option maxRecDepth 100000 in
theorem lexTwo_c (a b : List UInt8) (m : Int) (w : World) (hm : w.cell? ⟨0, 0, none⟩ = some (.int .i64 m)) :
    Calls Tryd.prog 8 #[.string ⟨a.toArray⟩, .string ⟨b.toArray⟩] w fun e w' => e = .returned (.bool true) ∧ Below w.heap.size w w' := by
  have hg : 0 < w.heap.size := World.block_lt_of_cell? _ _ hm
  have hsa : (⟨a.toArray⟩ : ByteArray).size = a.length := by simp [ByteArray.size]
  have hsb : (⟨b.toArray⟩ : ByteArray).size = b.length := by simp [ByteArray.size]
  have HM := Lib.hid hm
  have HA := Lib.hid (awake_c m w hm)
  clear hm
  go_enter Tryd.func8, Tryd.ntmps8
  go_wp2_with fail
  refine HA.out.mono ?_
  rintro e w1 ⟨rfl, hb1⟩
  have HB1 := Lib.hid hb1
  clear hb1 HA
  by_cases h1 : 3000 < a.length
  · have d1 : decide ((3000 : Int) < (a.length : Int)) = true := decide_eq_true (by omega)
    clear h1
    go_wp2_with fail
    refine bodyPost_ret (v := .bool true) ?_ rfl ⟨rfl, HB1.out⟩
    simp [results, Tryd.results8, go_sem]
  · have d1 : decide ((3000 : Int) < (a.length : Int)) = false := decide_eq_false (by omega)
    by_cases h2 : 3000 < b.length
    · have d2 : decide ((3000 : Int) < (b.length : Int)) = true := decide_eq_true (by omega)
      clear h2
      go_wp2_with fail
      refine bodyPost_ret (v := .bool true) ?_ rfl ⟨rfl, HB1.out⟩
      simp [results, Tryd.results8, go_sem]
    · have d2 : decide ((3000 : Int) < (b.length : Int)) = false := decide_eq_false (by omega)
      have ha3 : a.length ≤ 3000 := by omega
      have hb3 : b.length ≤ 3000 := by omega
      have HL1 := Lib.hid (lex_c a m w1 ((HB1.out.cell hg).trans HM.out) (few a (by omega)))
      have HL2 := Lib.hid (fun W hW => lex_c b m W hW (few b (by omega)))
      have HL3 := Lib.hid (fun h1 h2 W hW => lex_c (a ++ 10 :: b) m W hW (few_two a b h1 h2 ha3 hb3))
      have HD := Lib.hid (fun h1 h2 => divide_two a b h1 h2 (by rw [List.length_append, List.length_cons]; omega))
      have HBg := Lib.hid (fun W => begins_c a W (by omega))
      have hz : (Lx.beginsZ a).length = (Lx.placeAt a a.length).ln + 1 := by unfold Lx.beginsZ; rw [List.length_map]; exact (begins_at a a.length (Nat.le_refl _)).1
      have hln := placeAt_ln a a.length
      rw [placeAt_ix a _ (Nat.le_refl _)] at hln
      have HZ := Lib.hid hz
      have hex : (⟨a.toArray⟩ : ByteArray) ++ ⟨#[10]⟩ ++ ⟨b.toArray⟩ = ⟨(a ++ 10 :: b).toArray⟩ := by
        rw [show (⟨#[10]⟩ : ByteArray) = ⟨([10] : List UInt8).toArray⟩ from rfl, ba_append, ba_append, List.append_assoc]; rfl
      have HEX := Lib.hid hex
      have HP1 := Lib.hid (fun (t : Lx.Sp) (h : t ∈ (Lx.divide b).1) => places_le2 b (by omega) t h)
      have hl1 := divide_len a (few a (by omega))
      have hl2 := divide_len b (few b (by omega))
      unfold lexLeft at HL1 HL2 HL3
      unfold beginsLeft at HBg
      clear h1 h2 hz hex
      go_wp2_with fail
      refine HL1.out.mono ?_
      rintro e w2 ⟨v2, rfl, hbb, ho2⟩
      obtain ⟨o1, cp1, rfl, ht2, -, -, hs1⟩ := slice_of_lex ho2
      rw [toks_len]
      have HB2 := Lib.hid (HB1.out.trans (hbb.mono HB1.out.size))
      have HT2 := Lib.hid ht2
      have hg1 : ∀ p q, o1 = some ⟨p, q, none⟩ → p < w2.heap.size := by
        intro p q e
        rcases hs1 with ⟨rfl, _⟩ | ⟨g, rfl, _, h⟩
        · cases e
        · injection e with e; injection e with e1 e2; subst e1; exact h
      have HG1 := Lib.hid hg1
      have HS1 : Hid ((o1 = none ∧ cp1 = 0) ∨ ∃ g, o1 = some ⟨g, 0, none⟩) := Lib.hid (hs1.imp id fun ⟨g, h, _⟩ => ⟨g, h⟩)
      clear hbb HL1 ho2 ht2 hs1 hg1
      go_wp2_with fail
      refine (HL2.out w2 ((HB2.out.cell hg).trans HM.out)).mono ?_
      rintro e w3 ⟨v3, rfl, hbb, ho3⟩
      have hfz : ∀ g, v3.ownBlock = some g → ∀ off, w3.frozen? ⟨g, off, none⟩ = false := by
        intro g hv off
        rcases ho3.2 with ⟨rfl, _⟩ | ⟨g', c', cur, rfl, _, hgg, _⟩
        · cases hv
        · have : g' = g := by simpa [Value.ownBlock] using hv
          subst this
          exact Lib.frozen_of_heap hgg off
      obtain ⟨o2, cp2, rfl, ht3, hcp2, hcm2, hs2⟩ := slice_of_lex ho3
      rw [toks_len]
      have HB3 := Lib.hid (HB2.out.trans (hbb.mono HB2.out.size))
      have HT3 := Lib.hid (tokAt_mono HT2.out hbb)
      have HN3 := Lib.hid ht3
      have HS2 := Lib.hid hs2
      have HFZ := Lib.hid hfz
      have hw23 := hbb.size
      have hw12 := HB2.out.size
      clear hbb HL2 ho3 ht3 hs2 hfz HT2
      generalize Lx.divide a = R1 at *
      generalize Lx.divide b = R2 at *
      obtain ⟨l, q1, ix1⟩ := R1
      obtain ⟨mm, q2, ix2⟩ := R2
      dsimp only at HL3 HD HP1 hl1 hl2 HT3 HN3 HFZ ⊢
      by_cases hq1 : q1 = 0
      · by_cases hq2 : q2 = 0
        · subst hq1 hq2
          have hd := HD.out rfl rfl
          have HL := HL3.out rfl rfl w3 ((HB3.out.cell hg).trans HM.out)
          rw [hd] at HL
          dsimp only at HL
          have HL := Lib.hid HL
          clear hd HD HL3
          go_wp2_with fail
          rw [HEX.out]
          refine HL.out.mono ?_
          rintro e w4 ⟨v4, rfl, hbb, ho4⟩
          obtain ⟨o4, cp4, rfl, ht4, -, -, hs4⟩ := slice_of_lex ho4
          have hln4 : (Lx.toks (l ++ mm.map (Lx.Sp.down (a.length + 1) ((Lx.placeAt a a.length).ln + 1)))).length = l.length + mm.length := by rw [toks_len, List.length_append, List.length_map]
          rw [hln4]
          rw [toks_append, toks_down] at ht4
          have hg4 : ∀ p q, o4 = some ⟨p, q, none⟩ → w3.heap.size ≤ p := by
            intro p q e
            rcases hs4 with ⟨rfl, _⟩ | ⟨g, rfl, h, _⟩
            · cases e
            · injection e with e; injection e with e1 e2; subst e1; exact h
          have HG4 := Lib.hid hg4
          have HB4 := Lib.hid (HB3.out.trans (hbb.mono HB3.out.size))
          have HT4 := Lib.hid (tokAt_mono HT3.out hbb)
          have HN4 := Lib.hid (tokAt_mono HN3.out hbb)
          have HR4 := Lib.hid ht4
          have hw34 := hbb.size
          have HFZ4 : Hid (∀ g, (Value.slice o2 (Lx.toks mm).length cp2).ownBlock = some g → ∀ off, w4.frozen? ⟨g, off, none⟩ = false) := Lib.hid (by
            intro g hv off
            have hlt : g < w3.heap.size := by
              rcases HS2.out with ⟨rfl, _⟩ | ⟨g', rfl, _, h⟩
              · cases hv
              · have : g' = g := by simpa [Value.ownBlock] using hv
                subst this; exact h
            rw [hbb.frozen (p := ⟨g, off, none⟩) hlt]
            exact HFZ.out g hv off)
          clear hbb HL ho4 ht4 hs4 hg4 HT3 HN3 HFZ hln4
          generalize (Lx.placeAt a a.length).ln = ln at *
          go_wp2_with fail
          go_loopg [15] mm.length (fun g i wr => ∃ k : Nat, k ≤ mm.length ∧ i = .int .i64 k ∧ Hid (TokAt wr o1 (Lx.toks l)) ∧ Hid (TokAt wr o2 (Lx.bumped (Lx.toks mm) ((ln + 1 : Nat) : Int) k)) ∧ Hid (TokAt wr o4 (Lx.toks l ++ (Lx.toks mm).map (Lx.Tk.bump ((ln + 1 : Nat) : Int)))) ∧
            Hid (∀ g, (Value.slice o2 (Lx.toks mm).length cp2).ownBlock = some g → ∀ off, wr.frozen? ⟨g, off, none⟩ = false) ∧ Hid (Below w.heap.size w wr) ∧ Hid (w4.heap.size ≤ wr.heap.size) ∧ g = mm.length - k)
          case atStart => exact ⟨0, Nat.zero_le _, rfl, HT4, Lib.hid (by rw [bumped_zero]; exact HN4.out), HR4, HFZ4, HB4, Lib.hid (Nat.le_refl _), rfl⟩
          case round =>
            obtain ⟨k, hk, rfl, HTr, HNr, HRr, HFr, HW, HSz, hgk⟩ := hrel
            by_cases hE : k < mm.length
            · have dE : decide ((k : Int) < (mm.length : Int)) = true := decide_eq_true (by omega)
              have dEn : decide (k < mm.length) = true := decide_eq_true hE
              obtain ⟨t, ht⟩ : ∃ t, mm[k]? = some t := ⟨_, List.getElem?_eq_getElem hE⟩
              have htk : (Lx.toks mm)[k]? = some t.tok := by rw [toks_at, ht]; rfl
              have hpl := HP1.out t (List.mem_of_getElem? ht)
              obtain ⟨gm, rfl, hgm1, hgm2⟩ : ∃ g, o2 = some ⟨g, 0, none⟩ ∧ w2.heap.size ≤ g ∧ g < w3.heap.size := by
                rcases HS2.out with ⟨rfl, _⟩ | ⟨g, h1, h2, h3⟩
                · obtain ⟨_, _, e, _⟩ := HNr.out k t.tok (by rw [bumped_at _ _ _ _ (by rw [toks_len]; omega), if_neg (by omega)]; exact htk)
                  cases e
                · exact ⟨g, h1, h2, h3⟩
              obtain ⟨_, _, e1, hgb, -, -, x2, -⟩ := HNr.out k t.tok (by rw [bumped_at _ _ _ _ (by rw [toks_len]; omega), if_neg (by omega)]; exact htk)
              injection e1 with e1
              injection e1 with e1 e2
              subst e1 e2
              rw [Nat.zero_add] at x2
              have hfr := HFr.out gm rfl (k * 4 + 2)
              have HSTEP := fun W (hW : TokAt W (some ⟨gm, 0, none⟩) (Lx.bumped (Lx.toks mm) ((ln + 1 : Nat) : Int) k)) => bumped_step hW htk
              have HSTEP := Lib.hid HSTEP
              simp only [Lx.Sp.tok] at x2
              have hwl : IntKind.i64.wrap ((t.line : Int) + ((ln + 1 : Nat) : Int)) = (t.line : Int) + ((ln + 1 : Nat) : Int) := IntWalk.i64_in _ (by omega)
              have HKL := Lib.hid hE
              have HGK := Lib.hid hgk
              have hwl2 : IntKind.i64.wrap ((t.line : Int) + ((ln : Int) + 1)) = (t.line : Int) + ((ln : Int) + 1) := IntWalk.i64_in _ (by omega)
              clear ht htk hgk
              go_wp2_with fail
              go_region_with (go_at_call 17; refine (HBg.out _).mono ?_; rintro e w5 ⟨o5, c5, rfl, hb5, -⟩; have e0 := (hb5.cell (p := ⟨gm, k * 4 + 2, none⟩) (by simpa using hgb)).trans (show _ = some (Value.int .i64 (t.line : Int)) by simpa using x2); have f0 := (hb5.frozen (p := ⟨gm, k * 4 + 2, none⟩) (by simpa using hgb)).trans (show _ = false by simpa using hfr); rw [HZ.out]; have HB5 := Lib.hid hb5; clear hb5)
              all_goals
                have hbz : Below wr.heap.size wr w5 := (below_dn (Below.refl _ wr) 1).trans HB5.out
                have HT6 := Lib.hid (tokAt_set (g := gm) (off := k * 4 + 2) (v := .int .i64 ((t.line : Int) + ((ln : Int) + 1))) (tokAt_mono HTr.out hbz) (fun p q e => by have := HG1.out p q e; omega))
                have HN6 : Hid (TokAt (w5.setCell ⟨gm, k * 4 + 2, none⟩ (.int .i64 ((t.line : Int) + ((ln : Int) + 1)))) (some ⟨gm, 0, none⟩) (Lx.bumped (Lx.toks mm) ((ln + 1 : Nat) : Int) (k + 1))) := Lib.hid (HSTEP.out w5 (tokAt_mono HNr.out hbz))
                have HR6 := Lib.hid (tokAt_set (g := gm) (off := k * 4 + 2) (v := .int .i64 ((t.line : Int) + ((ln : Int) + 1))) (tokAt_mono HRr.out hbz) (fun p q e => by have := HG4.out p q e; omega))
                have HF6 : Hid (∀ g, (Value.slice (some ⟨gm, 0, none⟩) (Lx.toks mm).length cp2).ownBlock = some g → ∀ off, (w5.setCell ⟨gm, k * 4 + 2, none⟩ (.int .i64 ((t.line : Int) + ((ln : Int) + 1)))).frozen? ⟨g, off, none⟩ = false) := Lib.hid (by
                  intro g hv off
                  have e : gm = g := by simpa [Value.ownBlock] using hv
                  subst e
                  rw [World.frozen?_setCell, hbz.frozen (p := ⟨gm, off, none⟩) hgb]
                  exact HFr.out gm hv off)
                have HW6 := Lib.hid ((HW.out.trans (hbz.mono HW.out.size)).setCell (p := ⟨gm, k * 4 + 2, none⟩) (by show w.heap.size ≤ gm; omega) (.int .i64 ((t.line : Int) + ((ln : Int) + 1))))
                have HS6 : Hid (w4.heap.size ≤ (w5.setCell ⟨gm, k * 4 + 2, none⟩ (.int .i64 ((t.line : Int) + ((ln : Int) + 1)))).heap.size) := Lib.hid (by
                  have h1 := HSz.out
                  have h2 := hbz.size
                  simp only [World.size_setCell]
                  omega)
                clear hbz
                go_wp2_with fail
                go_roundg (mm.length - (k + 1))
                case rel => exact ⟨k + 1, HKL.out, rfl, HT6, HN6, HR6, HF6, HW6, HS6, rfl⟩
                case measure => have := HKL.out; have := HGK.out; omega
            · have dE : decide ((k : Int) < (mm.length : Int)) = false := decide_eq_false (by omega)
              have dEn : decide (k < mm.length) = false := decide_eq_false hE
              have hkm : k = mm.length := by omega
              have HNr2 : Hid (TokAt wr o2 ((Lx.toks mm).map (Lx.Tk.bump ((ln + 1 : Nat) : Int)))) := Lib.hid (by have := HNr.out; rw [hkm, ← toks_len mm, bumped_all] at this; exact this)
              have ho0 : (wr.alloc (.cells #[] 36)).ownsRow wr.heap.size 36 4 (.slice (some ⟨wr.heap.size, 0, none⟩) 0 0) 0 [] :=
                ⟨rfl, .inr ⟨wr.heap.size, 0, #[], rfl, Nat.le_refl _, World.alloc_heap_new _ _, Nat.le_refl _, by simp, rfl, rfl⟩⟩
              have hb0 : Below wr.heap.size wr (wr.alloc (.cells #[] 36)) := (Below.refl _ wr).alloc (Nat.le_refl _) _
              have hz0 : wr.heap.size ≤ (wr.alloc (.cells #[] 36)).heap.size := hb0.size
              have HO0 := Lib.hid ho0
              have HB0 := Lib.hid hb0
              have HZ0 := Lib.hid hz0
              have HTl : Hid ((Lx.toks l).length = l.length) := Lib.hid (toks_len l)
              have HTm : Hid (((Lx.toks mm).map (Lx.Tk.bump ((ln + 1 : Nat) : Int))).length = mm.length) := Lib.hid (by rw [List.length_map, toks_len])
              clear hE hgk hkm HNr ho0 hb0 hz0
              have HLen : Hid ((Lx.toks l ++ (Lx.toks mm).map (Lx.Tk.bump ((ln + 1 : Nat) : Int))).length = l.length + mm.length) := Lib.hid (by rw [List.length_append, HTl.out, HTm.out])
              have HS2n : Hid ((o2 = none ∧ cp2 = 0) ∨ ∃ g, o2 = some ⟨g, 0, none⟩) := Lib.hid (HS2.out.imp id fun ⟨g, h, _⟩ => ⟨g, h⟩)
              have hPl := fun o6 c6 W h1 h2 => placed_c (Lx.toks l ++ (Lx.toks mm).map (Lx.Tk.bump ((ln + 1 : Nat) : Int))) o4 o6 cp4 c6 W h1 h2 (by rw [HLen.out]; omega)
              rw [HLen.out] at hPl
              have HPl := Lib.hid hPl
              clear hPl
              go_wp2_with (first
                | (at_builtin; refine wpList_append_tok rfl (.tmp 89) (.tmp 90) rfl wr.heap.size (.slice (some ⟨wr.heap.size, 0, none⟩) 0 0) 0 [] rfl HO0.out (Lx.toks l) o1 cp1 (by rw [HTl.out]; rfl) (tokAt_mono HTr.out HB0.out) HS1.out HZ0.out (by rw [HTl.out]; omega) ?_; rw [HTl.out]; intro v5 w5 ho5 hg5; have HO5 := Lib.hid ho5; have HB5 := Lib.hid (HB0.out.grown hg5 HZ0.out (fun k e => by cases e; exact Nat.le_refl _)); clear ho5 hg5)
                | (at_builtin; refine wpList_append_tok rfl (.tmp 91) (.tmp 92) rfl wr.heap.size v5 (0 + l.length) ([] ++ tkRow (Lx.toks l)) rfl HO5.out ((Lx.toks mm).map (Lx.Tk.bump ((ln + 1 : Nat) : Int))) o2 cp2 (by rw [HTm.out]; rfl) (tokAt_mono HNr2.out HB5.out) HS2n.out HB5.out.size (by rw [HTm.out]; omega) ?_; rw [HTm.out]; intro v6 w6 ho6 hg6; have HB6 := Lib.hid (HB5.out.grown hg6 HB5.out.size (fun k e => (HO5.out.lt k e).1)); rw [Nat.zero_add, List.nil_append, ← tkRow_append, ← HLen.out] at ho6; obtain ⟨o6, c6, rfl, ht6⟩ := tokAt_of_row ho6; have HT6 := Lib.hid ht6; rw [HLen.out]; clear ho6 hg6 ht6))
              refine (HPl.out o6 c6 w6 (tokAt_mono HRr.out HB6.out) HT6.out).mono ?_
              rintro e w7 ⟨rfl, hb7⟩
              have HB7 := Lib.hid (HW.out.trans ((HB6.out.trans ((dn_below hb7).mono HB6.out.size)).mono HW.out.size))
              clear hb7 HPl
              go_wp2_with fail
              refine bodyPost_ret (v := .bool true) ?_ rfl ⟨rfl, HB7.out⟩
              simp [results, Tryd.results8, go_sem]
        · have dc : ((q2 : Int) != 0) = true := bne_iff_ne.2 (by omega)
          have dcn : (q2 != 0) = true := bne_iff_ne.2 hq2
          subst hq1
          clear hq2
          go_wp2_with fail
          refine bodyPost_ret (v := .bool true) ?_ rfl ⟨rfl, HB3.out⟩
          simp [results, Tryd.results8, go_sem]
      · have dc : ((q1 : Int) != 0) = true := bne_iff_ne.2 (by omega)
        have dcn : (q1 != 0) = true := bne_iff_ne.2 hq1
        clear hq1
        go_wp2_with fail
        refine bodyPost_ret (v := .bool true) ?_ rfl ⟨rfl, HB3.out⟩
        simp [results, Tryd.results8, go_sem]
end Go.Proofs.YtcjcbhdildcceaaDoor
