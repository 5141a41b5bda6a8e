/- Contract of Kind of package lex. Conditions: those in the statement. -/
import Derived.Test.YtcjcbhdildcceaaGreatDoorLexX
namespace Go.Proofs.YtcjcbhdildcceaaGreatDoor
open Go.RowKit

def kindFault (s : List UInt8) : Option (Nat × Nat) := match Lx.measure s 0 0 0 with | .ok _ _ => none | .bad e => some (e, 0)

set_option maxHeartbeats 4000000 in
theorem kind1_c (B T Tx L cap : Nat) (s : List UInt8) (w : World) (h : Rdr B T cap s (Lx.placeAt s 0) Lx.noSp w) (hne : 0 < s.length)
    (hT : w.cell? ⟨Tx, 0, none⟩ = some (.string ⟨s.toArray⟩)) (hL : w.cell? ⟨L, 0, none⟩ = some (.int .i64 0)) (hLf : w.frozen? ⟨L, 0, none⟩ = false) :
    Calls Tryz.prog 49 #[.pointer (some ⟨B, 0, none⟩), .pointer (some ⟨Tx, 0, none⟩), .pointer (some ⟨L, 0, none⟩)] w fun e w' =>
      e = readEnd (kindFault s) ∧ K2 B L w w' ∧ w'.cell? ⟨L, 0, none⟩ = some (.int .i64 (Lx.soleKind s)) := by
  have hsz : (⟨s.toArray⟩ : ByteArray).size = s.length := by simp [ByteArray.size]
  have hm := measure_c B T cap s (Lx.placeAt s 0) Lx.noSp w h hne
  rw [placeAt_ix _ _ (Nat.zero_le _)] at hm
  change Calls _ _ _ _ (fun e w' => e = (Lx.measure s 0 0 0).ends 0 ∧ Below w.heap.size w w') at hm
  have hTl : Tx < w.heap.size := World.block_lt_of_cell? _ _ hT
  have hLl : L < w.heap.size := World.block_lt_of_cell? _ _ hL
  unfold kindFault Lx.soleKind
  clear h
  cases hM : Lx.measure s 0 0 0 with
  | bad e =>
    rw [hM] at hm
    have HM := Lib.hid hm
    clear hm hM
    go_enter Tryz.func49, Tryz.ntmps49
    go_wp2_with fail
    refine HM.out.mono ?_
    rintro e' w' ⟨rfl, hb⟩
    exact ⟨rfl, rfl, K2.of_below hb, (hb.cell (p := ⟨L, 0, none⟩) hLl).trans hL⟩
  | ok k n =>
    rw [hM] at hm
    have HM := Lib.hid hm
    clear hm hM
    by_cases hn : n = s.length
    · have dn : ((n : Int) == (s.length : Int)) = true := beq_iff_eq.2 (by omega)
      have HN := Lib.hid hn
      clear hn
      go_enter Tryz.func49, Tryz.ntmps49
      go_wp2_with fail
      refine HM.out.mono ?_
      rintro e' w' ⟨rfl, hb⟩
      have hT' := (hb.cell (p := ⟨Tx, 0, none⟩) hTl).trans hT
      have hL' := (hb.cell (p := ⟨L, 0, none⟩) hLl).trans hL
      have hF' := (hb.frozen (p := ⟨L, 0, none⟩) hLl).trans hLf
      have HB := Lib.hid hb
      clear hb HM hT hL hLf
      simp only [Lx.M.ends]
      go_wp2_with fail
      go_end0
      exact ⟨rfl, (K2.of_below HB.out).grown (grown_set _ _ _ _) (fun b e => .inr (.inl (Option.some.inj e).symm)), World.cell?_setCell_same' _ _ _ (by rw [hL']; rfl)⟩
    · have dn : ((n : Int) == (s.length : Int)) = false := beq_eq_false_iff_ne.2 (by omega)
      have HN := Lib.hid hn
      clear hn
      go_enter Tryz.func49, Tryz.ntmps49
      go_wp2_with fail
      refine HM.out.mono ?_
      rintro e' w' ⟨rfl, hb⟩
      have hT' := (hb.cell (p := ⟨Tx, 0, none⟩) hTl).trans hT
      have hL' := (hb.cell (p := ⟨L, 0, none⟩) hLl).trans hL
      have HB := Lib.hid hb
      clear hb HM hT hL hLf
      simp only [Lx.M.ends]
      go_wp2_with fail
      go_end0
      exact ⟨rfl, K2.of_below HB.out, hL'⟩

set_option maxHeartbeats 4000000 in
set_option maxRecDepth 100000 in
theorem kind_c (s : List UInt8) (w : World) :
    Calls Tryz.prog 22 #[.string ⟨s.toArray⟩] w fun e w' => e = .returned (.int .i64 (Lx.kindTold s)) ∧ Below w.heap.size w w' := by
  have mf := makeFunc_run
  by_cases h0 : s = []
  · subst h0
    go_enter Tryz.func22, Tryz.ntmps22
    go_wp2_with fail
    refine bodyPost_ret (v := .int .i64 0) ?_ rfl ⟨rfl, (Below.refl _ w).alloc (Nat.le_refl _) _⟩
    simp [results, Tryz.results22, go_sem]
  · have hem : s.isEmpty = false := by cases s with | nil => exact absurd rfl h0 | cons _ _ => rfl
    have hb2 : Below w.heap.size w ((w.alloc (.cells #[.string ⟨s.toArray⟩] 9)).alloc (.cells #[.int .i64 0] 3)) := ((Below.refl _ w).alloc (Nat.le_refl _) _).alloc (by simp) _
    have hx0 := heap_two_fst w (.cells #[.string ⟨s.toArray⟩] 9) (.cells #[.int .i64 0] 3)
    have hx1 := heap_two_snd w (.cells #[.string ⟨s.toArray⟩] 9) (.cells #[.int .i64 0] 3)
    have hz2 : ((w.alloc (.cells #[.string ⟨s.toArray⟩] 9)).alloc (.cells #[.int .i64 0] 3)).heap.size = w.heap.size + 2 := by simp
    by_cases h1 : 20000 < s.length
    · have HX := Lib.hid (show Lx.kindTold s = 0 by unfold Lx.kindTold; rw [if_pos (.inr h1)])
      have HL := Lib.hid h1
      have H2 := Lib.hid hb2
      have HX1 := Lib.hid hx1
      have HZ := Lib.hid hz2
      clear h0 h1 hb2 hx0 hx1 hz2
      go_enter Tryz.func22, Tryz.ntmps22
      go_wp2_with (go_at_call 48; refine (long_c s _ _ HL.out).mono ?_; rintro e w' ⟨rfl, hb⟩; have hcc := (Lib.cell_of_heap ((hb.block (w.heap.size + 1) (by rw [HZ.out]; omega)).trans HX1.out) 0).trans rfl)
      refine bodyPost_ret (v := .int .i64 0) ?_ rfl ⟨by rw [HX.out]; rfl, H2.out.trans (hb.mono (by rw [HZ.out]; omega))⟩
      simp [results, Tryz.results22, go_sem]
    · have HX := Lib.hid (show Lx.kindTold s = Lx.soleKind s by unfold Lx.kindTold; rw [if_neg (by rintro (h | h); exact h0 h; exact h1 h)])
      have HL := Lib.hid (Nat.le_of_not_lt h1)
      have hp : 0 < s.length := List.length_pos_iff.2 h0
      have hrc := reading_c s 49 #[.pointer (some ⟨w.heap.size, 0, none⟩), .pointer (some ⟨w.heap.size + 1, 0, none⟩)] (w.heap.size + 1)
        (fun r W' => r = kindFault s ∧ W'.cell? ⟨w.heap.size + 1, 0, none⟩ = some (.int .i64 (Lx.soleKind s))) ((w.alloc (.cells #[.string ⟨s.toArray⟩] 9)).alloc (.cells #[.int .i64 0] 3)) HL.out
        (enters_of Tryz.func49 (by kernel_rfl) rfl) (by rw [hz2]; omega)
        (by
          rintro r W W' ⟨rfl, hv⟩ hk
          rw [hz2] at hk
          exact ⟨rfl, hk.cell hv (by omega) (by omega)⟩)
        (by
          intro B T cap W hB hT hTs hz hr hbl
          rw [hz2] at hB hT hz hbl
          have hy0 := (hbl.block w.heap.size (by omega)).trans hx0
          have hy1 := (hbl.block (w.heap.size + 1) (by omega)).trans hx1
          refine (kind1_c B T w.heap.size (w.heap.size + 1) cap s W hr hp ((Lib.cell_of_heap hy0 0).trans rfl) ((Lib.cell_of_heap hy1 0).trans rfl) (Lib.frozen_of_heap hy1 0)).mono ?_
          rintro e W' ⟨rfl, hk, hv⟩
          exact ⟨kindFault s, rfl, hk, rfl, hv⟩)
      have HRC := Lib.hid hrc
      have H2 := Lib.hid hb2
      have HZ := Lib.hid hz2
      clear h0 h1 hb2 hx0 hx1 hz2 hrc hp
      go_enter Tryz.func22, Tryz.ntmps22
      go_wp2_with (go_at_call 48; refine HRC.out.mono ?_; rintro e w' ⟨r, rfl, hk, -, hv⟩; have HK := Lib.hid hk; clear hk HRC)
      have hb3 : Below w.heap.size w w' := H2.out.grown (row := some (w.heap.size + 1)) ⟨HK.out.os, HK.out.tape, HK.out.output, HK.out.size, fun k hk h => HK.out.block k hk (fun e => h (by rw [e])) (fun e => h (by rw [e]))⟩ (by rw [HZ.out]; omega) (fun k e => by cases e; omega)
      refine bodyPost_ret (v := .int .i64 (Lx.soleKind s)) ?_ rfl ⟨by rw [HX.out], hb3⟩
      simp [results, Tryz.results22, go_sem]
end Go.Proofs.YtcjcbhdildcceaaGreatDoor
