/- The law LexErrors, from the contracts. Conditions: the cell of internal/bytealg.MaxLen is an int. -/
import Derived.Test.YtcjcbhdildcceaaDoorLexAk
namespace Go.Proofs.YtcjcbhdildcceaaDoor
open Go.RowKit

set_option maxHeartbeats 4000000 in
set_option maxRecDepth 100000 in
theorem lexErrors_c (s more : List UInt8) (m : Int) (w : World) (hm : w.cell? ⟨0, 0, none⟩ = some (.int .i64 m)) :
    Calls Tryd.prog 10 #[.string ⟨s.toArray⟩, .string ⟨more.toArray⟩] w fun e w' => e = .returned (.bool true) ∧ Below w.heap.size w w' := by
  have hg : 0 < w.heap.size := World.block_lt_of_cell? _ _ hm
  have hss : (⟨s.toArray⟩ : ByteArray).size = s.length := by simp [ByteArray.size]
  have hsm : (⟨more.toArray⟩ : ByteArray).size = more.length := by simp [ByteArray.size]
  have HM := Lib.hid hm
  have HA := Lib.hid (awake_c m w hm)
  clear hm
  go_enter Tryd.func10, Tryd.ntmps10
  go_wp2_with fail
  refine HA.out.mono ?_
  rintro e w1 ⟨rfl, hb1⟩
  have HB1 := Lib.hid hb1
  clear hb1 HA
  by_cases h1 : 3000 < s.length
  · have d1 : decide ((3000 : Int) < (s.length : Int)) = true := decide_eq_true (by omega)
    clear h1
    go_wp2_with fail
    refine bodyPost_ret (v := .bool true) ?_ rfl ⟨rfl, HB1.out⟩
    simp [results, Tryd.results10, go_sem]
  · have d1 : decide ((3000 : Int) < (s.length : Int)) = false := decide_eq_false (by omega)
    by_cases h2 : 3000 < more.length
    · have d2 : decide ((3000 : Int) < (more.length : Int)) = true := decide_eq_true (by omega)
      clear h2
      go_wp2_with fail
      refine bodyPost_ret (v := .bool true) ?_ rfl ⟨rfl, HB1.out⟩
      simp [results, Tryd.results10, go_sem]
    · have d2 : decide ((3000 : Int) < (more.length : Int)) = false := decide_eq_false (by omega)
      have HL := Lib.hid (lex_c s m w1 ((HB1.out.cell hg).trans HM.out) (few s (by omega)))
      have HCut := Lib.hid (fun (h : (Lx.divide s).2.1 ≠ 0) (h2 : (Lx.divide s).2.1 ≠ 2) => divide_cut s h h2)
      have HMore := Lib.hid (fun (h : (Lx.divide s).2.1 = 10) => divide_more s more h (by rw [List.length_append]; omega))
      have HL2 := Lib.hid (fun i W hW => lex_c (s.take i) m W hW (few _ (by rw [List.length_take]; omega)))
      have HL3 := Lib.hid (fun W hW => lex_c (s ++ more) m W hW (few _ (by rw [List.length_append]; omega)))
      have HApp := Lib.hid (ba_append s more)
      have HTk := Lib.hid (fun i => ba_take s i)
      unfold lexLeft at HL HL2 HL3
      have hs3 : s.length ≤ 3000 := by omega
      have hm3 : more.length ≤ 3000 := by omega
      clear h1 h2
      go_wp2_with fail
      refine HL.out.mono ?_
      rintro e w2 ⟨v2, rfl, hb2, -⟩
      have HB2 := Lib.hid (HB1.out.trans (hb2.mono HB1.out.size))
      clear hb2 HL
      generalize Lx.divide s = R at *
      obtain ⟨l, c, i⟩ := R
      dsimp only at HCut HMore ⊢
      by_cases h0 : c = 0
      · subst h0
        go_wp2_with fail
        refine bodyPost_ret (v := .bool true) ?_ rfl ⟨rfl, HB2.out⟩
        simp [results, Tryd.results10, go_sem]
      · have d0 : ((c : Int) == 0) = false := beq_eq_false_iff_ne.2 (by omega)
        have d0n : (c == 0) = false := beq_eq_false_iff_ne.2 h0
        by_cases h2 : c = 2
        · subst h2
          go_wp2_with fail
          refine bodyPost_ret (v := .bool true) ?_ rfl ⟨rfl, HB2.out⟩
          simp [results, Tryd.results10, go_sem]
        · have d2' : ((c : Int) == 2) = false := beq_eq_false_iff_ne.2 (by omega)
          have d2n : (c == 2) = false := beq_eq_false_iff_ne.2 h2
          obtain ⟨hil, hcut⟩ := HCut.out h0 h2
          have dl : decide ((s.length : Int) ≤ (i : Int)) = false := decide_eq_false (by omega)
          have dln : decide (s.length ≤ i) = false := decide_eq_false (by omega)
          have HL2i := Lib.hid (HL2.out i)
          have HCU := Lib.hid hcut
          have HTi := Lib.hid (HTk.out i)
          have hle : i ≤ s.length := by omega
          clear HL2 HTk HCut hcut
          go_wp2_with fail
          rw [HTi.out]
          refine (HL2i.out w2 ((HB2.out.cell hg).trans HM.out)).mono ?_
          rintro e w3 ⟨v3, rfl, hb3, -⟩
          have HB3 := Lib.hid (HB2.out.trans (hb3.mono HB2.out.size))
          rw [HCU.out]
          clear hb3 HL2i
          go_wp2_with fail
          rw [HApp.out]
          refine (HL3.out w3 ((HB3.out.cell hg).trans HM.out)).mono ?_
          rintro e w4 ⟨v4, rfl, hb4, -⟩
          have HB4 := Lib.hid (HB3.out.trans (hb4.mono HB3.out.size))
          clear hb4 HL3
          by_cases h10 : c = 10
          · obtain ⟨e1, e2⟩ := HMore.out h10
            rw [e1, e2]
            subst h10
            clear e1 e2 HMore
            go_wp2_with fail
            refine bodyPost_ret (v := .bool true) ?_ rfl ⟨rfl, HB4.out⟩
            simp [results, Tryd.results10, go_sem]
          · have d10 : ((c : Int) != 10) = true := bne_iff_ne.2 (by omega)
            have d10n : (c != 10) = true := bne_iff_ne.2 h10
            generalize (Lx.divide (s ++ more)).2.1 = q1 at *
            generalize (Lx.divide (s ++ more)).2.2 = q2 at *
            clear h10 HMore
            go_wp2_with fail
            refine bodyPost_ret (v := .bool true) ?_ rfl ⟨rfl, HB4.out⟩
            simp [results, Tryd.results10, go_sem]
end Go.Proofs.YtcjcbhdildcceaaDoor
