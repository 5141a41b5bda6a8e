/- Contracts of right and Spell of package lex. Conditions: those in the statements. -/
import Derived.Test.YtcjcbhdildcceaaGreatDoorLexRt
import Derived.Test.YtcjcbhdildcceaaGreatDoorLexSp
namespace Go.Proofs.YtcjcbhdildcceaaGreatDoor
open Go.RowKit

set_option linter.unusedSimpArgs false in
set_option maxHeartbeats 2000000 in
theorem right_c (k : Int) (txt : List UInt8) (ln cl : Int) (w : World) (hl : txt.length ≤ 100000000) :
    Calls Tryz.prog 46 #[tokW k txt ln cl] w fun e w' => e = .returned (.bool (Lx.right k txt ln cl)) ∧ Below w.heap.size w w' := by
  have hb1 : ∀ o : Obj, Below w.heap.size w (w.alloc o) := fun o => (Below.refl _ w).alloc (Nat.le_refl _) _
  have HR := Lib.hid (fun W => rightText_c k txt ln cl W hl)
  have HP := Lib.hid (fun (n : Int) (W : World) => mayBePlace_c n W)
  unfold Lx.right
  unfold tokV at HR
  unfold tokW
  change Hid (∀ (n : Int) (W : World), Calls _ _ _ W fun e w' => e = .returned (.bool (Lx.place? n)) ∧ w' = W) at HP
  clear hl
  generalize h1 : (ln == 0) = b1
  generalize h2 : (cl == 0) = b2
  cases b1 <;> cases b2
  all_goals
    generalize h3 : Lx.place? ln = b3
    generalize h4 : Lx.place? cl = b4
    generalize Lx.rightText k txt = b5 at *
    have H3 := Lib.hid h3
    have H4 := Lib.hid h4
    clear h3 h4
    cases b3 <;> cases b4
  all_goals
    simp only [Bool.false_and, Bool.and_false, Bool.true_and, Bool.and_true, Bool.false_or, Bool.true_or, Bool.or_false, Bool.or_true, Bool.and_self, Bool.or_self]
    go_enter Tryz.func46, Tryz.ntmps46
    go_wp2_with (first
      | (go_at_call 66; refine (HP.out _ _).mono ?_; rintro e w' ⟨rfl, rfl⟩; first | rw [H3.out] | rw [H4.out])
      | (go_at_call 67; refine (HR.out _).mono ?_; rintro e w' ⟨rfl, hb⟩))
    all_goals first
      | (refine bodyPost_ret (v := .bool false) ?_ rfl ⟨rfl, hb1 _⟩; simp [results, Tryz.results46, go_sem]; done)
      | (refine bodyPost_ret (v := .bool b5) ?_ rfl ⟨rfl, (hb1 _).trans (hb.mono (by simp))⟩; simp [results, Tryz.results46, go_sem]; done)

set_option maxHeartbeats 2000000 in
theorem spell_c (k : Int) (txt : List UInt8) (ln cl : Int) (m : Int) (w : World) (hl : txt.length ≤ 100000000) (hm : w.cell? ⟨0, 0, none⟩ = some (.int .i64 m)) :
    Calls Tryz.prog 26 #[tokW k txt ln cl] w fun e w' => e = .returned (.tuple #[.string ⟨(Lx.spelled k txt ln cl).1.toArray⟩, .int .i64 (Lx.spelled k txt ln cl).2]) ∧ Below w.heap.size w w' := by
  have hb1 : Below w.heap.size w (w.alloc (.cells #[.int .i64 k, .string ⟨txt.toArray⟩, .int .i64 ln, .int .i64 cl] 45)) := (Below.refl _ w).alloc (Nat.le_refl _) _
  have hx := World.alloc_heap_new w (.cells #[.int .i64 k, .string ⟨txt.toArray⟩, .int .i64 ln, .int .i64 cl] 45)
  have hR := right_c k txt ln cl (w.alloc (.cells #[.int .i64 k, .string ⟨txt.toArray⟩, .int .i64 ln, .int .i64 cl] 45)) hl
  have hS := fun W h => spelling_c k txt ln cl m W (by omega) h
  unfold tokW at hR hS ⊢
  have HR := Lib.hid hR
  have HSp := Lib.hid hS
  have HX := Lib.hid hx
  have HB1 := Lib.hid hb1
  have HM := Lib.hid hm
  have hg : 0 < w.heap.size := World.block_lt_of_cell? _ _ hm
  unfold Lx.spelled
  clear hR hS hx hb1 hm hl
  generalize Lx.right k txt ln cl = r at *
  cases r with
  | false =>
    go_enter Tryz.func26, Tryz.ntmps26
    go_wp2_with (go_at_call 46; refine HR.out.mono ?_; rintro e w' ⟨rfl, hb⟩)
    refine bodyPost_ret (v := .tuple #[.string ⟨#[]⟩, .int .i64 13]) ?_ rfl ⟨rfl, HB1.out.trans (hb.mono (by simp))⟩
    simp [results, Tryz.results26, go_sem]
  | true =>
    go_enter Tryz.func26, Tryz.ntmps26
    go_wp2_with fail
    refine HR.out.mono ?_
    rintro e w' ⟨rfl, hb⟩
    have hy := (hb.block w.heap.size (by simp)).trans HX.out
    have c0 : w'.cell? ⟨w.heap.size, 0, none⟩ = some (.int .i64 k) := (Lib.cell_of_heap hy 0).trans rfl
    have c1 : w'.cell? ⟨w.heap.size, 1, none⟩ = some (.string ⟨txt.toArray⟩) := (Lib.cell_of_heap hy 1).trans rfl
    have c2 : w'.cell? ⟨w.heap.size, 2, none⟩ = some (.int .i64 ln) := (Lib.cell_of_heap hy 2).trans rfl
    have c3 : w'.cell? ⟨w.heap.size, 3, none⟩ = some (.int .i64 cl) := (Lib.cell_of_heap hy 3).trans rfl
    have HB2 := Lib.hid (HB1.out.trans (hb.mono (by simp)))
    have HS2 := Lib.hid (HSp.out w' ((HB2.out.cell (p := ⟨0, 0, none⟩) hg).trans HM.out))
    clear hb hy HR HX HSp
    go_wp2_with fail
    refine HS2.out.mono ?_
    rintro e w2 ⟨rfl, hb2⟩
    have HB3 := Lib.hid (HB2.out.trans (hb2.mono HB2.out.size))
    clear hb2 HS2
    go_wp2_with fail
    refine bodyPost_ret (v := .tuple #[.string ⟨(Lx.spell k txt).toArray⟩, .int .i64 0]) ?_ rfl ⟨rfl, HB3.out⟩
    simp [results, Tryz.results26, go_sem]
end Go.Proofs.YtcjcbhdildcceaaGreatDoor
