/- Contract of divide of package lex. Conditions: those in the statement. -/
import Derived.Test.YtcjcbhdildcceaaGreatDoorLexX
namespace Go.Proofs.YtcjcbhdildcceaaGreatDoor
open Go.RowKit

/-- What divide leaves: its results' codes, the slice of tokens, all in new blocks. -/
def divLeft (s : List UInt8) (w : World) (e : Ending) (w' : World) : Prop :=
  ∃ v, e = .returned (.tuple #[v, .int .i64 (Lx.divide s).2.1, .int .i64 (Lx.divide s).2.2]) ∧ Below w.heap.size w w' ∧ w'.ownsRow w.heap.size 53 6 v (Lx.divide s).1.length (spCells (Lx.divide s).1)

theorem ownsRow_mono {w : World} {b b' : Nat} {t : TypeId} {z : Nat} {v : Value} {n : Nat} {xs : List Value} (h : w.ownsRow b t z v n xs) (hb : b' ≤ b) : w.ownsRow b' t z v n xs := by
  refine ⟨h.1, ?_⟩
  rcases h.2 with h2 | ⟨g, c, cur, h1, h3, h4⟩
  · exact .inl h2
  · exact .inr ⟨g, c, cur, h1, Nat.le_trans hb h3, h4⟩
theorem ownsRow_k2 {w w' : World} {B L b : Nat} {t : TypeId} {z : Nat} {v : Value} {n : Nat} {xs : List Value} (h : w.ownsRow b t z v n xs) (hk : K2 B L w w') (h1 : B < b) (h2 : L < b) : w'.ownsRow b t z v n xs := by
  refine ⟨h.1, ?_⟩
  rcases h.2 with h3 | ⟨g, c, cur, e1, e2, e3, e4⟩
  · exact .inl h3
  · exact .inr ⟨g, c, cur, e1, e2, (hk.block g (Array.getElem?_eq_some_iff.1 e3).1 (by omega) (by omega)).trans e3, e4⟩

set_option maxHeartbeats 4000000 in
set_option maxRecDepth 100000 in
theorem divide_c (s : List UInt8) (m : Int) (w : World) (hm : w.cell? ⟨0, 0, none⟩ = some (.int .i64 m)) (h6 : s.length ≤ 20000 → (Lx.spans s).1.length ≤ 6000) :
    Calls Tryz.prog 29 #[.string ⟨s.toArray⟩] w (divLeft s w) := by
  have mf := makeFunc_run
  have HM := Lib.hid hm
  have H6 := Lib.hid h6
  clear hm h6
  by_cases hs : 20000 < s.length
  · have HX := Lib.hid (show Lx.divide s = ([], 2, 0) by unfold Lx.divide; rw [if_pos hs])
    have HS := Lib.hid hs
    clear hs
    go_enter Tryz.func29, Tryz.ntmps29
    go_wp2_with (go_at_call 48; refine (long_c s _ _ HS.out).mono ?_; rintro e w' ⟨rfl, hb⟩)
    refine bodyPost_ret (v := .tuple #[.slice none 0 0, .int .i64 2, .int .i64 0]) ?_ rfl ?_
    · simp [results, Tryz.results29, go_sem]
    · refine ⟨.slice none 0 0, by rw [HX.out]; rfl, ((Below.refl _ w).alloc (Nat.le_refl _) _).trans (hb.mono (by simp)), ?_⟩
      rw [HX.out]
      exact World.ownsRow_nil _ _ _ _
  · have HS := Lib.hid (Nat.le_of_not_lt hs)
    have hgw : 0 < w.heap.size := World.block_lt_of_cell? _ _ HM.out
    have hb1 : Below w.heap.size w (w.alloc (.cells #[.slice none 0 0] 49)) := (Below.refl _ w).alloc (Nat.le_refl _) _
    have hz1 : (w.alloc (.cells #[.slice none 0 0] 49)).heap.size = w.heap.size + 1 := by simp
    have hx1 : (w.alloc (.cells #[.slice none 0 0] 49)).heap[w.heap.size]? = some (.cells #[.slice none 0 0] 49) := World.alloc_heap_new _ _
    have hrc := reading_c s 56 #[.pointer (some ⟨w.heap.size, 0, none⟩)] w.heap.size
      (fun r W' => r = (Lx.spans s).2 ∧ ∃ v base, w.heap.size + 3 ≤ base ∧ W'.cell? ⟨w.heap.size, 0, none⟩ = some v ∧ W'.ownsRow base 53 6 v (Lx.spans s).1.length (spCells (Lx.spans s).1))
      (w.alloc (.cells #[.slice none 0 0] 49)) HS.out (enters_of Tryz.func56 (by kernel_rfl) rfl) (by rw [hz1]; omega)
      (by
        rintro r W W' ⟨rfl, v, base, hb, hv, ho⟩ hk
        rw [hz1] at hk
        exact ⟨rfl, v, base, hb, hk.cell hv (by omega) (by omega), ownsRow_k2 ho hk (by omega) (by omega)⟩)
      (by
        intro B T cap W hB hT hTs hz hr hbl
        rw [hz1] at hB hT hz hbl
        have hxW := (hbl.block w.heap.size (by omega)).trans hx1
        refine ((callsIn_wide (n := 4)).1 (divide1_c B T w.heap.size cap s m W hr (hbl.cell (by show 0 < _; omega) |>.trans ((hb1.cell hgw).trans HM.out)) ((Lib.cell_of_heap hxW 0).trans rfl) (Lib.frozen_of_heap hxW 0) (by omega) (by omega) hTs (by omega) (by omega) (H6.out HS.out))).mono ?_
        rintro e W' ⟨he, hk, v, hv, ho⟩
        refine ⟨(Lx.spans s).2, ?_, hk, rfl, v, _, by omega, hv, ho⟩
        unfold readEnd
        split at he <;> rename_i h2 <;> rw [h2] <;> exact he)
    have HRC := Lib.hid hrc
    have HX : Lx.divide s = match Lx.spans s with | (l, none) => (l, 0, 0) | (_, some (c, i)) => ([], c, i) := by
      unfold Lx.divide; rw [if_neg (Nat.not_lt.2 HS.out)]; rfl
    have HC := Lib.hid (spansN_code s (s.length + 1) 0 Lx.noSp)
    change Hid (∀ c i, (Lx.spans s).2 = some (c, i) → 10 ≤ c) at HC
    generalize Lx.spans s = R at *
    obtain ⟨l, r⟩ := R
    have HX := Lib.hid HX
    clear hrc hb1 hx1 hz1
    cases r with
    | none =>
      go_enter Tryz.func29, Tryz.ntmps29
      go_wp2_with (go_at_call 48; refine HRC.out.mono ?_; rintro e w' ⟨r, rfl, hk, rfl, v, base, hb, hv, ho⟩; have HK := Lib.hid hk; have HO := Lib.hid ho; clear hk ho HRC; simp only [faultPair])
      have hb2 : Below w.heap.size w w' := ((Below.refl _ w).alloc (Nat.le_refl _) _).grown (row := some w.heap.size) ⟨HK.out.os, HK.out.tape, HK.out.output, HK.out.size, fun k hk h => HK.out.block k hk (fun e => h (by rw [e])) (fun e => h (by rw [e]))⟩ (by simp) (fun k e => by cases e; exact Nat.le_refl _)
      refine bodyPost_ret (v := .tuple #[v, .int .i64 0, .int .i64 0]) ?_ rfl ?_
      · simp [results, Tryz.results29, go_sem]
      · refine ⟨v, by rw [HX.out]; rfl, hb2, ?_⟩
        rw [HX.out]
        exact ownsRow_mono HO.out (by omega)
    | some x =>
      have hx0 : ((x.1 : Int) != 0) = true := by
        have := HC.out x.1 x.2 rfl
        exact bne_iff_ne.2 (by omega)
      go_enter Tryz.func29, Tryz.ntmps29
      go_wp2_with (go_at_call 48; refine HRC.out.mono ?_; rintro e w' ⟨r, rfl, hk, rfl, v, base, hb, hv, ho⟩; have HK := Lib.hid hk; have HO := Lib.hid ho; clear hk ho HRC; simp only [faultPair])
      have hb2 : Below w.heap.size w w' := ((Below.refl _ w).alloc (Nat.le_refl _) _).grown (row := some w.heap.size) ⟨HK.out.os, HK.out.tape, HK.out.output, HK.out.size, fun k hk h => HK.out.block k hk (fun e => h (by rw [e])) (fun e => h (by rw [e]))⟩ (by simp) (fun k e => by cases e; exact Nat.le_refl _)
      refine bodyPost_ret (v := .tuple #[.slice none 0 0, .int .i64 x.1, .int .i64 x.2]) ?_ rfl ?_
      · simp [results, Tryz.results29, go_sem]
      · refine ⟨.slice none 0 0, by rw [HX.out], hb2, ?_⟩
        rw [HX.out]
        exact World.ownsRow_nil _ _ _ _
end Go.Proofs.YtcjcbhdildcceaaGreatDoor
