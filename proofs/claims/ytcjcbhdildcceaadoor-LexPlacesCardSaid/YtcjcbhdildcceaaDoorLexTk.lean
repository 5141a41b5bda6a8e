/- Contract of Token of package lex. Conditions: those in the statement. -/
import Derived.Test.YtcjcbhdildcceaaDoorLexCk
namespace Go.Proofs.YtcjcbhdildcceaaDoor
open Go.RowKit

set_option maxHeartbeats 4000000 in
set_option maxRecDepth 100000 in
theorem token_c (s : List UInt8) (index : Int) (m : Int) (w : World) (hm : w.cell? ⟨0, 0, none⟩ = some (.int .i64 m)) (h6 : s.length ≤ 20000 → (Lx.spans s).1.length ≤ 6000) :
    Calls Tryd.prog 26 #[.string ⟨s.toArray⟩, .int .i64 index] w fun e w' =>
      e = .returned (.tuple #[.int .i64 (Lx.tokenOf (Lx.divide s) s.length index).1, .int .i64 (Lx.tokenOf (Lx.divide s) s.length index).2.1, .int .i64 (Lx.tokenOf (Lx.divide s) s.length index).2.2]) ∧ Below w.heap.size w w' := by
  have hsz : (⟨s.toArray⟩ : ByteArray).size = s.length := by simp [ByteArray.size]
  have mf := makeFunc_run
  have hg : 0 < w.heap.size := World.block_lt_of_cell? _ _ hm
  have hb1 : Below w.heap.size w (w.alloc (.cells #[.int .i64 index] 3)) := (Below.refl _ w).alloc (Nat.le_refl _) _
  have hx1 := World.alloc_heap_new w (.cells #[.int .i64 index] 3)
  have hz1 : (w.alloc (.cells #[.int .i64 index] 3)).heap.size = w.heap.size + 1 := by simp
  have hD := divide_c s m (w.alloc (.cells #[.int .i64 index] 3)) ((hb1.cell hg).trans hm) h6
  have hdl := divide_len s h6
  unfold divLeft at hD
  generalize Lx.divide s = R at *
  obtain ⟨l, c, ix⟩ := R
  dsimp only at hD hdl
  have HD := Lib.hid hD
  have HB1 := Lib.hid hb1
  have HX1 := Lib.hid hx1
  have HZ1 := Lib.hid hz1
  clear hD hm h6 hb1 hx1 hz1
  by_cases hc : c = 0
  · subst hc
    by_cases h0 : index < 0
    · have d0 : decide (index < 0) = true := decide_eq_true h0
      have HX := Lib.hid (show Lx.tokenOf (l, 0, ix) s.length index = (0, 1, 0) by unfold Lx.tokenOf; rw [if_neg (by simp), if_pos (.inl h0)])
      clear h0
      go_enter Tryd.func26, Tryd.ntmps26
      go_wp2_with fail
      refine HD.out.mono ?_
      rintro e w1 ⟨v, rfl, hb, -⟩
      have ci := (Lib.cell_of_heap ((hb.block w.heap.size (by rw [HZ1.out]; omega)).trans HX1.out) 0).trans rfl
      have HB2 := Lib.hid (HB1.out.trans (hb.mono (by rw [HZ1.out]; omega)))
      clear hb HD
      go_wp2_with fail
      refine bodyPost_ret (v := .tuple #[.int .i64 0, .int .i64 1, .int .i64 0]) ?_ rfl ⟨by rw [HX.out]; rfl, HB2.out⟩
      simp [results, Tryd.results26, go_sem]
    · have d0 : decide (index < 0) = false := decide_eq_false h0
      obtain ⟨i, rfl⟩ : ∃ i : Nat, index = i := ⟨index.toNat, by omega⟩
      by_cases h1 : s.length ≤ i
      · have d1 : decide ((s.length : Int) ≤ (i : Int)) = true := decide_eq_true (by omega)
        have HX := Lib.hid (show Lx.tokenOf (l, 0, ix) s.length (i : Int) = (0, 1, 0) by unfold Lx.tokenOf; rw [if_neg (by simp), if_pos (.inr (by omega))])
        go_enter Tryd.func26, Tryd.ntmps26
        go_wp2_with fail
        refine HD.out.mono ?_
        rintro e w1 ⟨v, rfl, hb, -⟩
        have ci := (Lib.cell_of_heap ((hb.block w.heap.size (by rw [HZ1.out]; omega)).trans HX1.out) 0).trans rfl
        have HB2 := Lib.hid (HB1.out.trans (hb.mono (by rw [HZ1.out]; omega)))
        clear hb HD
        go_wp2_with fail
        refine bodyPost_ret (v := .tuple #[.int .i64 0, .int .i64 1, .int .i64 0]) ?_ rfl ⟨by rw [HX.out]; rfl, HB2.out⟩
        simp [results, Tryd.results26, go_sem]
      · have d1 : decide ((s.length : Int) ≤ (i : Int)) = false := decide_eq_false (by omega)
        have HL := Lib.hid (show Lx.tokenOf (l, 0, ix) s.length (i : Int) = if (l.takeWhile fun t => decide ((t.to : Int) ≤ (i : Int))).length = l.length then (0, 3, 0) else ((l.takeWhile fun t => decide ((t.to : Int) ≤ (i : Int))).length, 0, 0) by
          unfold Lx.tokenOf; rw [if_neg (by simp), if_neg (by omega)])
        go_enter Tryd.func26, Tryd.ntmps26
        go_wp2_with fail
        refine HD.out.mono ?_
        rintro e w1 ⟨v, rfl, hb, ho⟩
        obtain ⟨o, cp, rfl⟩ : ∃ o cp, v = .slice o l.length cp := by
          rcases ho.2 with ⟨rfl, h0⟩ | ⟨g, cp, cur, rfl, _⟩
          · exact ⟨none, 0, by rw [h0]⟩
          · exact ⟨_, _, rfl⟩
        have ci := (Lib.cell_of_heap ((hb.block w.heap.size (by rw [HZ1.out]; omega)).trans HX1.out) 0).trans rfl
        have hFs : w.heap.size < w1.heap.size := by have := hb.size; have := HZ1.out; omega
        have HRn := Lib.hid (runSpan_c 49 #[] #[.pointer (some ⟨w.heap.size, 0, none⟩)] (fun t => decide ((t.to : Int) ≤ (i : Int))) l o cp w1 (by omega) (spAt_of_owns ho)
          (enters_of Tryd.func49 (by kernel_rfl) rfl) (fun t W hW => token1_c t w.heap.size i W ((hW.cell (p := ⟨w.heap.size, 0, none⟩) hFs).trans ci)))
        have HB2 := Lib.hid (HB1.out.trans (hb.mono (by rw [HZ1.out]; omega)))
        clear hb HD ho
        generalize (l.takeWhile fun t => decide ((t.to : Int) ≤ (i : Int))).length = q at *
        by_cases hq : q = l.length
        · have dq : ((q : Int) == (l.length : Int)) = true := beq_iff_eq.2 (by omega)
          have HX := Lib.hid (HL.out.trans (if_pos hq))
          clear hq
          go_wp2_with (go_at_call 29; refine HRn.out.mono ?_; rintro e w2 ⟨rfl, hb5⟩)
          refine bodyPost_ret (v := .tuple #[.int .i64 0, .int .i64 3, .int .i64 0]) ?_ rfl ⟨by rw [HX.out]; rfl, HB2.out.trans (hb5.mono HB2.out.size)⟩
          simp [results, Tryd.results26, go_sem]
        · have dq : ((q : Int) == (l.length : Int)) = false := beq_eq_false_iff_ne.2 (by omega)
          have HX := Lib.hid (HL.out.trans (if_neg hq))
          clear hq
          go_wp2_with (go_at_call 29; refine HRn.out.mono ?_; rintro e w2 ⟨rfl, hb5⟩)
          refine bodyPost_ret (v := .tuple #[.int .i64 q, .int .i64 0, .int .i64 0]) ?_ rfl ⟨by rw [HX.out]; rfl, HB2.out.trans (hb5.mono HB2.out.size)⟩
          simp [results, Tryd.results26, go_sem]
  · have dc : ((c : Int) != 0) = true := bne_iff_ne.2 (by omega)
    have HX := Lib.hid (show Lx.tokenOf (l, c, ix) s.length index = (0, c, ix) from if_pos hc)
    clear hc
    go_enter Tryd.func26, Tryd.ntmps26
    go_wp2_with fail
    refine HD.out.mono ?_
    rintro e w1 ⟨v, rfl, hb, -⟩
    have HB2 := Lib.hid (HB1.out.trans (hb.mono (by rw [HZ1.out]; omega)))
    clear hb HD
    go_wp2_with fail
    refine bodyPost_ret (v := .tuple #[.int .i64 0, .int .i64 c, .int .i64 ix]) ?_ rfl ⟨by rw [HX.out]; rfl, HB2.out⟩
    simp [results, Tryd.results26, go_sem]
end Go.Proofs.YtcjcbhdildcceaaDoor
