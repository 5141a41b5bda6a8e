/- Contracts of rightText, right, spelling, Spell of package lex. Conditions: those in the statements. -/
import Derived.Test.YtcjcbhdildcceaaGreatDoorLexK
import Derived.Test.YtcjcbhdildcceaaGreatDoorLexR
import Derived.Test.YtcjcbhdildcceaaGreatDoorLexRb
namespace Go.Proofs.YtcjcbhdildcceaaGreatDoor
open Go.RowKit

def tokV (k : Int) (txt : List UInt8) (ln cl : Int) : Value := .agg #[.int .i64 k, .string ⟨txt.toArray⟩, .int .i64 ln, .int .i64 cl]
set_option maxHeartbeats 4000000 in
set_option maxRecDepth 100000 in
theorem rightText_c (k : Int) (txt : List UInt8) (ln cl : Int) (w : World) (hl : txt.length ≤ 100000000) :
    Calls Tryz.prog 67 #[tokV k txt ln cl] w fun e w' => e = .returned (.bool (Lx.rightText k txt)) ∧ Below w.heap.size w w' := by
  have hsz : (⟨txt.toArray⟩ : ByteArray).size = txt.length := by simp [ByteArray.size]
  unfold tokV
  by_cases h6 : k = 6
  · subst h6
    go_enter Tryz.func67, Tryz.ntmps67
    go_wp2_with (go_at_call 60; refine (byteKinds_c _).mono ?_; rintro e w' ⟨rfl, o, rfl⟩; unfold kindsV)
    have hbA : Below w.heap.size w ((w.alloc (.cells #[.int .i64 6, .string ⟨txt.toArray⟩, .int .i64 ln, .int .i64 cl] 45)).alloc o) := ((Below.refl _ w).alloc (Nat.le_refl _) _).alloc (by simp) _
    have hxA := heap_two_fst w (.cells #[.int .i64 6, .string ⟨txt.toArray⟩, .int .i64 ln, .int .i64 cl] 45) o
    have hzA : ((w.alloc (.cells #[.int .i64 6, .string ⟨txt.toArray⟩, .int .i64 ln, .int .i64 cl] 45)).alloc o).heap.size = w.heap.size + 2 := by simp
    generalize ((w.alloc (.cells #[.int .i64 6, .string ⟨txt.toArray⟩, .int .i64 ln, .int .i64 cl] 45)).alloc o) = wA at *
    have hbB : Below w.heap.size w (wA.alloc (.cells #[.func (.func 81) #[] #[], .func (.func 82) #[] #[], .func (.func 83) #[] #[], .func (.func 84) #[] #[], .func (.func 86) #[] #[], .func (.func 87) #[] #[], .func (.func 88) #[] #[]] 100)) := hbA.alloc (by omega) _
    have hxT := (Below.heap_alloc wA (.cells #[.func (.func 81) #[] #[], .func (.func 82) #[] #[], .func (.func 83) #[] #[], .func (.func 84) #[] #[], .func (.func 86) #[] #[], .func (.func 87) #[] #[], .func (.func 88) #[] #[]] 100) w.heap.size (by omega)).trans hxA
    have hxK := World.alloc_heap_new wA (.cells #[.func (.func 81) #[] #[], .func (.func 82) #[] #[], .func (.func 83) #[] #[], .func (.func 84) #[] #[], .func (.func 86) #[] #[], .func (.func 87) #[] #[], .func (.func 88) #[] #[]] 100)
    have hzB : (wA.alloc (.cells #[.func (.func 81) #[] #[], .func (.func 82) #[] #[], .func (.func 83) #[] #[], .func (.func 84) #[] #[], .func (.func 86) #[] #[], .func (.func 87) #[] #[], .func (.func 88) #[] #[]] 100)).heap.size = w.heap.size + 1 + 1 + 1 := by simp; omega
    rw [hzA] at hxK
    generalize (wA.alloc (.cells #[.func (.func 81) #[] #[], .func (.func 82) #[] #[], .func (.func 83) #[] #[], .func (.func 84) #[] #[], .func (.func 86) #[] #[], .func (.func 87) #[] #[], .func (.func 88) #[] #[]] 100)) = w3 at *
    have c1 : w3.cell? ⟨w.heap.size, 1, none⟩ = some (.string ⟨txt.toArray⟩) := (Lib.cell_of_heap hxT 1).trans rfl
    have c6 : w3.cell? ⟨w.heap.size + 1 + 1, 6, none⟩ = some (.func (.func 88) #[] #[]) := (Lib.cell_of_heap hxK 6).trans rfl
    have hcv := Lib.run_convert_string_bytes (P := Tryz.prog) w3.drew 9 64 5 ⟨txt.toArray⟩ Tryz.underlying9 Tryz.underlying64 Tryz.underlying5
    have hg4 := bytesWorld_grown w3.drew 5 ⟨txt.toArray⟩
    have hT4 := Lib.bytesWorld_cell w3.drew 5 ⟨txt.toArray⟩
    rw [hsz] at hcv hT4
    generalize grownCap w3.drew txt.length 0 5 = cap at *
    generalize Lib.bytesWorld w3.drew 5 ⟨txt.toArray⟩ = w4 at *
    have hzd : w3.drew.heap.size = w.heap.size + 1 + 1 + 1 := hzB
    rw [hzd] at hcv hT4
    have c1' : w4.cell? ⟨w.heap.size, 1, none⟩ = some (.string ⟨txt.toArray⟩) := hg4.cell (by simpa using c1) (fun e => by cases e)
    have c6' : w4.cell? ⟨w.heap.size + 1 + 1, 6, none⟩ = some (.func (.func 88) #[] #[]) := hg4.cell (by simpa using c6) (fun e => by cases e)
    have HRB := Lib.hid (run_byte_big 88 #[] #[] Lx.shown (w.heap.size + 1 + 1 + 1) 0 txt.length cap txt w4 rfl hl (enters_of Tryz.func88 (by kernel_rfl) rfl)
      (fun j hj => by rw [Nat.zero_add]; exact (hT4 j hj).trans (by simp [List.getD])) (fun b => shown_c b _))
    have HB4 := Lib.hid (show Below w.heap.size w w4 from (hbB.grown (grown_drewN _ 1 none) (by omega) (fun k e => by cases e)).grown hg4 (by show w.heap.size ≤ w3.heap.size; omega) (fun k e => by cases e))
    clear hbA hxA hbB hxT hxK hg4 hT4
    have HX := Lib.hid (show Lx.rightText 6 txt = (((txt.takeWhile Lx.shown).length : Int) == (txt.length : Int)) by
      unfold Lx.rightText; rw [if_pos rfl]; unfold Lx.runN; rw [Bool.eq_iff_iff]; simp; omega)
    go_region_with (go_at_call 91; refine HRB.out.mono ?_; rintro e w' ⟨rfl, rfl⟩)
    all_goals
      go_wp2_with fail
      refine bodyPost_ret (v := .bool (((txt.takeWhile Lx.shown).length : Int) == (txt.length : Int))) ?_ rfl ⟨by rw [HX.out], HB4.out⟩
      simp [results, Tryz.results67, go_sem]
  · have d6 : (k == 6) = false := beq_eq_false_iff_ne.2 h6
    by_cases h9 : k = 9
    · subst h9
      go_enter Tryz.func67, Tryz.ntmps67
      go_wp2_with fail
      refine bodyPost_ret (v := .bool (txt == [46])) ?_ rfl ⟨rfl, (Below.refl _ w).alloc (Nat.le_refl _) _⟩
      simp [results, Tryz.results67, go_sem]
    · have d9 : (k == 9) = false := beq_eq_false_iff_ne.2 h9
      by_cases h0 : k = 0
      · subst h0
        go_enter Tryz.func67, Tryz.ntmps67
        go_wp2_with fail
        refine bodyPost_ret (v := .bool false) ?_ rfl ⟨rfl, (Below.refl _ w).alloc (Nat.le_refl _) _⟩
        simp [results, Tryz.results67, go_sem]
      · have d0 : (k == 0) = false := beq_eq_false_iff_ne.2 h0
        have HX := Lib.hid (show Lx.rightText k txt = ((Lx.kindTold txt : Int) == k) by unfold Lx.rightText; rw [if_neg h6, if_neg h9, if_neg h0])
        clear h6 h9 h0
        go_enter Tryz.func67, Tryz.ntmps67
        go_wp2_with fail
        have hx := World.alloc_heap_new w (.cells #[.int .i64 k, .string ⟨txt.toArray⟩, .int .i64 ln, .int .i64 cl] 45)
        have hb1 : Below w.heap.size w (w.alloc (.cells #[.int .i64 k, .string ⟨txt.toArray⟩, .int .i64 ln, .int .i64 cl] 45)) := (Below.refl _ w).alloc (Nat.le_refl _) _
        generalize (w.alloc (.cells #[.int .i64 k, .string ⟨txt.toArray⟩, .int .i64 ln, .int .i64 cl] 45)) = w1 at *
        have c0 : w1.cell? ⟨w.heap.size, 0, none⟩ = some (.int .i64 k) := (Lib.cell_of_heap hx 0).trans rfl
        have c1 : w1.cell? ⟨w.heap.size, 1, none⟩ = some (.string ⟨txt.toArray⟩) := (Lib.cell_of_heap hx 1).trans rfl
        have hz1 : w.heap.size < w1.heap.size := (Array.getElem?_eq_some_iff.1 hx).1
        have HB1 := Lib.hid hb1
        clear hb1 hx
        go_region_with (go_at_call 22; refine (kind_c txt _).mono ?_; rintro e w' ⟨rfl, hb⟩; have e0 := (hb.cell (p := ⟨w.heap.size, 0, none⟩) (by simpa using hz1)).trans (show _ = some (Value.int .i64 k) by simpa using c0); have HBb := Lib.hid hb; clear hb)
        all_goals
          have hbz : Below w1.heap.size w1 w' := by first | exact (below_dn (Below.refl _ _) 1).trans HBb.out | exact HBb.out
          go_wp2_with fail
          refine bodyPost_ret (v := .bool ((Lx.kindTold txt : Int) == k)) ?_ rfl ⟨by rw [HX.out], HB1.out.trans (hbz.mono (by omega))⟩
          simp [results, Tryz.results67, go_sem]
end Go.Proofs.YtcjcbhdildcceaaGreatDoor
